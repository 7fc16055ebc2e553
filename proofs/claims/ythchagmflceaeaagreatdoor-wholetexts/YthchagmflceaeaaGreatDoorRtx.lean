/-
  The document's Text: the digits, the lowest first.
-/
import Derived.Test.YthchagmflceaeaaGreatDoorSmd
import Derived.Test.YthchagmflceaeaaGreatDoorRwb
import Derived.Test.YthchagmflceaeaaGreatDoorTxw
namespace Go.Proofs.YthchagmflceaeaaGreatDoor
open Go.RowKit Go.Lib Go.Sort

/-- Decimal digits, the lowest first. -/
def decR (l : List Nat) : Nat := dec l.reverse
theorem decR_nil : decR [] = 0 := rfl
theorem decR_snoc (l : List Nat) (b : Nat) : decR (l ++ [b]) = decR l + 10 ^ l.length * (b - 48) := by
  unfold decR
  rw [List.reverse_append, List.reverse_singleton, List.singleton_append, dec_cons, List.length_reverse, Nat.mul_comm, Nat.add_comm]
theorem D4.keptA {w w' : World} {v : Value} {L : List Nat} {row : Option Nat} (h : D4 w v L) (hg : w.grownBy w' row) (ha : L = [] ∨ ∀ b n c, v = .slice (some b) n c → some b.block ≠ row) : D4 w' v L := by
  rcases h with h | ⟨B, off, c, rfl, hc, h⟩
  · exact .inl h
  · refine .inr ⟨B, off, c, rfl, hc, fun j hj => ?_⟩
    rcases ha with rfl | ha
    · simp at hj
    · exact grownBy_cell hg (h j hj) (fun e => ha _ _ _ rfl e.symm)
theorem RowB.lt {w : World} {base g : Nat} {v : Value} {L : List Nat} (h : RowB w base v L) (hg : v.ownBlock = some g) : base ≤ g ∧ g < w.heap.size := by
  rcases h.2 with ⟨rfl, _⟩ | ⟨g', cap, cur, rfl, hb, hgg, _⟩
  · cases hg
  · cases hg
    exact ⟨hb, (Array.getElem?_eq_some_iff.1 hgg).1⟩
theorem RowB.slice {w : World} {base : Nat} {v : Value} {L : List Nat} (h : RowB w base v L) : ∃ ab c, v = .slice ab L.length c := by
  rcases h.cases with ⟨e, e'⟩ | ⟨g, c, e, _⟩
  · subst e'; exact ⟨_, _, e⟩
  · exact ⟨_, _, e⟩
theorem grown_rowB {w wr w' : World} {v : Value} {L : List Nat} (hg : w.grownBy wr none) (hR : RowB wr w.heap.size v L) (k : wr.grownBy w' v.ownBlock) : w.grownBy w' none := by
  cases hob : v.ownBlock with
  | none => rw [hob] at k; exact grownBy_trans hg k
  | some g => rw [hob] at k; exact grownBy_new hg (hR.lt hob).1 k
/-- The digits of l lie apart from out. -/
def Aside (w : World) (l : Value) (L : List Nat) (out : Value) : Prop := D4 w l L ∧ (L = [] ∨ ∀ b n c, l = .slice (some b) n c → b.block < w.heap.size ∧ some b.block ≠ out.ownBlock)
theorem Aside.grow {w w' : World} {l out out' : Value} {L : List Nat} (h : Aside w l L out) (hg : w.grownBy w' out.ownBlock) (ho : out'.ownBlock = out.ownBlock ∨ ∃ g, out'.ownBlock = some g ∧ w.heap.size ≤ g) : Aside w' l L out' := by
  obtain ⟨hd, ha⟩ := h
  refine ⟨hd.keptA hg ?_, ?_⟩
  · rcases ha with e | ha
    · exact .inl e
    · exact .inr fun b n c e => (ha b n c e).2
  · rcases ha with e | ha
    · exact .inl e
    · right
      intro b n c e
      obtain ⟨h1, h2⟩ := ha b n c e
      refine ⟨Nat.lt_of_lt_of_le h1 hg.size, ?_⟩
      rcases ho with e2 | ⟨g, e2, hlt⟩
      · rw [e2]; exact h2
      · rw [e2]
        intro e3
        have := Option.some.inj e3
        omega
/-- Within a group: the digits so far, what is left of the group, the quotient Q. -/
def GrI (w wr : World) (n : Nat) (l out : Value) (L : List Nat) (i r : Nat) : Prop :=
  ∃ O, RowB wr w.heap.size out O ∧ Aside wr l L out ∧ (∀ b ∈ O, isDig b) ∧ O.length ≤ 2000000 ∧ i ≤ 9 ∧ r * 10 ^ i < 10 ^ 9 ∧ i ≤ O.length ∧ decR O + 10 ^ O.length * r + 10 ^ (O.length - i) * (10 ^ 9 * nv B32 L) = n ∧ (nv B32 L = 0 → 0 < r ∨ ∃ P b, O = P ++ [b] ∧ b ≠ 48) ∧ O.length + 9 * bl (nv B32 L) + 9 ≤ 9 * 131072 + i ∧ w.grownBy wr none
/-- Between two groups. -/
def OtI (w wr : World) (n : Nat) (l out : Value) (L : List Nat) : Prop :=
  ∃ O, RowB wr w.heap.size out O ∧ Aside wr l L out ∧ (∀ x ∈ L, x < B32) ∧ Trim L ∧ L.length ≤ 4096 ∧ (∀ b ∈ O, isDig b) ∧ decR O + 10 ^ O.length * nv B32 L = n ∧ (nv B32 L = 0 → ∃ P b, O = P ++ [b] ∧ b ≠ 48) ∧ O.length + 9 * bl (nv B32 L) ≤ 9 * 131072 ∧ w.grownBy wr none
/-- A digit more. -/
theorem GrI.step {w wr w' : World} {n : Nat} {l out out' : Value} {L : List Nat} {i r : Nat} {O : List Nat}
    (hR : RowB wr w.heap.size out O) (hA : Aside wr l L out) (hd : ∀ b ∈ O, isDig b) (hi : i < 9) (hr : r * 10 ^ i < 10 ^ 9) (hio : i ≤ O.length) (hv : decR O + 10 ^ O.length * r + 10 ^ (O.length - i) * (10 ^ 9 * nv B32 L) = n) (hgo : 0 < L.length ∨ 0 < r) (htz : nv B32 L = 0 ↔ L.length = 0) (hl : O.length + 9 * bl (nv B32 L) + 9 ≤ 9 * 131072 + i) (hg : w.grownBy wr none)
    (hR' : RowB w' w.heap.size out' (O ++ [48 + r % 10])) (hg' : (wr.alloc (.cells #[.int .u8 ((48 + r % 10 : Nat) : Int)] 5)).grownBy w' out.ownBlock) (ho : out'.ownBlock = out.ownBlock ∨ out'.ownBlock = some (wr.heap.size + 1)) : GrI w w' n l out' L (i + 1) (r / 10) := by
  have hA1 : Aside (wr.alloc (.cells #[.int .u8 ((48 + r % 10 : Nat) : Int)] 5)) l L out := ⟨hA.1.kept (grow1 _ _), by
    rcases hA.2 with e | ha
    · exact .inl e
    · exact .inr fun b n c e => ⟨by have := (ha b n c e).1; simp; omega, (ha b n c e).2⟩⟩
  refine ⟨O ++ [48 + r % 10], hR', hA1.grow hg' ?_, ?_, by simp; omega, by omega, ?_, by simp; omega, ?_, ?_, ?_, ?_⟩
  · rcases ho with e | e
    · exact .inl e
    · exact .inr ⟨_, e, by simp⟩
  · intro b hb
    rcases List.mem_append.1 hb with h | h
    · exact hd b h
    · simp at h; subst h; unfold isDig; omega
  · rw [Nat.pow_succ, ← Nat.mul_assoc, Nat.mul_right_comm]
    have : r / 10 * 10 ≤ r := Nat.div_mul_le_self r 10
    exact Nat.lt_of_le_of_lt (Nat.mul_le_mul_right _ this) hr
  · rw [decR_snoc, List.length_append, List.length_singleton, Nat.pow_succ, show O.length + 1 - (i + 1) = O.length - i by omega, ← hv, Nat.add_sub_cancel_left]
    have : r = r % 10 + 10 * (r / 10) := by omega
    have e : 10 ^ O.length * r = 10 ^ O.length * (r % 10) + 10 ^ O.length * 10 * (r / 10) := by
      rw [Nat.mul_assoc, ← Nat.mul_add, ← this]
    omega
  · intro hz
    by_cases h1 : r / 10 = 0
    · right
      refine ⟨O, _, rfl, ?_⟩
      have := htz.1 hz
      omega
    · exact .inl (by omega)
  · simp; omega
  · exact grown_rowB (grownBy_trans hg (grow1 _ _)) (hR.kept (grow1 _ _) (by cases out.ownBlock <;> simp)) hg'
/-- The end of a group. -/
theorem GrI.done {w wr : World} {n : Nat} {l out : Value} {L : List Nat} {i r : Nat} (h : GrI w wr n l out L i r) (hend : i = 9 ∨ (L.length = 0 ∧ r = 0)) (rL : ∀ x ∈ L, x < B32) (tL : Trim L) (lL : L.length ≤ 4096) : OtI w wr n l out L := by
  obtain ⟨O, hR, hA, hd, _, hi, hr, hio, hv, htop, hlen, hg⟩ := h
  have htz := trim_zero tL
  have hr0 : r = 0 := by
    rcases hend with rfl | h
    · rcases Nat.eq_zero_or_pos r with e | e
      · exact e
      · have : 1 * 10 ^ 9 ≤ r * 10 ^ 9 := Nat.mul_le_mul_right _ e
        omega
    · exact h.2
  subst hr0
  refine ⟨O, hR, hA, rL, tL, lL, hd, ?_, fun hz => ?_, by omega, hg⟩
  · rw [← hv, Nat.mul_zero, Nat.add_zero]
    rcases hend with rfl | h
    · rw [← Nat.mul_assoc, ← Nat.pow_add, Nat.sub_add_cancel hio]
    · rw [htz.2 h.1]; simp
  · rcases htop hz with h | h
    · omega
    · exact h

/-- The bytes turned round, as far as i. -/
def Turned (O M : List Nat) (i : Nat) : Prop := M.length = O.length ∧ ∀ j, j < O.length → M[j]?.getD 0 = if j < i ∨ O.length ≤ j + i then O[O.length - 1 - j]?.getD 0 else O[j]?.getD 0
theorem Turned.done {O M : List Nat} {i : Nat} (h : Turned O M i) (hi : O.length ≤ i + i + 1) : M = O.reverse := by
  apply List.ext_getElem?
  intro j
  by_cases hj : j < O.length
  · have := h.2 j hj
    rw [List.getElem?_eq_getElem (by rw [h.1]; exact hj), List.getElem?_eq_getElem (by simpa using hj), List.getElem_reverse]
    rw [List.getElem?_eq_getElem (by rw [h.1]; exact hj), Option.getD_some] at this
    rw [this]
    split
    · rw [List.getElem?_eq_getElem (by omega)]; rfl
    · rename_i hc
      rw [List.getElem?_eq_getElem hj]
      have e : j = O.length - 1 - j := by omega
      simp only [Option.getD_some]
      congr 1
      congr 1
  · rw [List.getElem?_eq_none (by rw [h.1]; omega), List.getElem?_eq_none (by simp; omega)]
theorem Turned.step {O M : List Nat} {i : Nat} (h : Turned O M i) (hi : i + i + 1 < O.length) : Turned O ((M.set i (M[O.length - 1 - i]?.getD 0)).set (O.length - 1 - i) (M[i]?.getD 0)) (i + 1) := by
  refine ⟨by simp [h.1], fun j hj => ?_⟩
  have hi1 := h.2 i (by omega)
  have hi2 := h.2 (O.length - 1 - i) (by omega)
  rw [if_neg (by omega)] at hi1
  rw [if_neg (by omega)] at hi2
  by_cases h1 : j = O.length - 1 - i
  · subst h1
    rw [List.getElem?_set_self (by simp [h.1]; omega), if_pos (by omega), Option.getD_some, hi1, show O.length - 1 - (O.length - 1 - i) = i by omega]
  · rw [List.getElem?_set_ne (by omega)]
    by_cases h2 : j = i
    · subst h2
      rw [List.getElem?_set_self (by rw [h.1]; omega), if_pos (by omega), Option.getD_some, hi2]
    · rw [List.getElem?_set_ne (by omega), h.2 j hj]
      by_cases h3 : j < i ∨ O.length ≤ j + i
      · rw [if_pos h3, if_pos (by omega)]
      · rw [if_neg h3, if_neg (by omega)]
/-- The text that the turned bytes are. -/
theorem text_turned {neg : Bool} {mag s : ByteArray} {O : List Nat} (hd : ∀ b ∈ O, isDig b) (htop : ∃ P b, O = P ++ [b] ∧ b ≠ 48) (hv : decR O = val (bN mag)) (hs : bN s = (O ++ (if neg then [45] else [])).reverse) : TextOf (num neg mag) s := by
  refine text_digits (D := O.reverse) ?_ (fun b hb => hd b (by simpa using hb)) ?_ ?_ hv
  · rw [hs, List.reverse_append]
    cases neg <;> simp
  · obtain ⟨P, b, rfl, _⟩ := htop
    simp
  · obtain ⟨P, b, rfl, hb⟩ := htop
    simpa using hb
end Go.Proofs.YthchagmflceaeaaGreatDoor
