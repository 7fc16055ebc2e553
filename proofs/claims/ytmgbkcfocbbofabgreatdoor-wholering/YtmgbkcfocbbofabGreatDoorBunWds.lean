/-
  The document's digits: words, at, bits.
  The document's at, bits, Small, Bits, Bit.
  The document's Small, cut, made, Of.
  The document's made, Of: a number of its sign and digits, in its one form.
  The document's Of.
-/
import Derived.Test.YtmgbkcfocbbofabGreatDoorBunNat
namespace Go.Proofs.YtmgbkcfocbbofabGreatDoor
open Go.RowKit Go.Lib Go.Sort

abbrev B32 : Nat := 4294967296
theorem nv_set (B : Nat) : ∀ (L : List Nat) (q x : Nat), q < L.length → nv B (L.set q x) + (L[q]?.getD 0) * B ^ q = nv B L + x * B ^ q
  | [], q, x, h => by simp at h
  | d :: t, 0, x, _ => by simp [nv]; omega
  | d :: t, q + 1, x, h => by
    have ih := nv_set B t q x (by simpa using h)
    simp only [List.set_cons_succ, nv, List.getElem?_cons_succ, Nat.pow_succ]
    have h2 := congrArg (B * ·) ih
    simp only [Nat.mul_add] at h2
    rw [show t[q]?.getD 0 * (B ^ q * B) = B * (t[q]?.getD 0 * B ^ q) by rw [Nat.mul_comm (B ^ q) B, ← Nat.mul_assoc, ← Nat.mul_assoc, Nat.mul_comm _ B],
      show x * (B ^ q * B) = B * (x * B ^ q) by rw [Nat.mul_comm (B ^ q) B, ← Nat.mul_assoc, ← Nat.mul_assoc, Nat.mul_comm _ B]]
    omega
theorem nv_replicate (B n : Nat) : nv B (List.replicate n 0) = 0 := by
  induction n with
  | zero => rfl
  | succ n ih => rw [List.replicate_succ, nv, ih]; simp

/-- A slice of digits that can be read. -/
def D4 (w : World) (v : Value) (L : List Nat) : Prop :=
  (v = .slice none 0 0 ∧ L = []) ∨ ∃ B off c, v = .slice (some ⟨B, off, none⟩) L.length c ∧ L.length ≤ c ∧ ∀ j, j < L.length → w.cell? ⟨B, off + j, none⟩ = some (.int .u32 ((L[j]?.getD 0 : Nat) : Int))
theorem D4.kept {w w' : World} {v : Value} {L : List Nat} (h : D4 w v L) (hg : w.grownBy w' none) : D4 w' v L := by
  rcases h with h | ⟨B, off, c, rfl, hc, h⟩
  · exact .inl h
  · exact .inr ⟨B, off, c, rfl, hc, fun j hj => grownBy_cell hg (h j hj) (by simp)⟩
theorem ints_at (L : List Nat) (i : Nat) : (ints L)[i]?.getD 0 = ((L[i]?.getD 0 : Nat) : Int) := by
  simp only [ints, List.getElem?_map]
  cases L[i]? <;> rfl
theorem BlkL.d4 {w : World} {B : Nat} {L : List Nat} {t : TypeId} (h : BlkL w B t enc4 (ints L)) : D4 w (.slice (some ⟨B, 0, none⟩) L.length L.length) L :=
  .inr ⟨B, 0, L.length, rfl, Nat.le_refl _, fun j hj => by
    rw [Nat.zero_add, h.cell j (by rw [ints_length]; exact hj), ints_at]⟩

/-- What is added to a digit has room there. -/
theorem word_room {L : List Nat} {i b : Nat} (hr : ∀ x ∈ L, x < B32) (hv : nv B32 L < 256 ^ i) (hb : b < 256) :
    L[i / 4]?.getD 0 + b * 2 ^ (8 * (i % 4)) < B32 ∧ b * 2 ^ (8 * (i % 4)) < B32 := by
  have h1 := nv_digit B32 L (i / 4) hr
  have h2 : nv B32 L / B32 ^ (i / 4) < 2 ^ (8 * (i % 4)) := by
    rw [Nat.div_lt_iff_lt_mul (Nat.pow_pos (by decide))]
    rw [show B32 = 2 ^ 32 from rfl, ← Nat.pow_mul, ← Nat.pow_add]
    rw [show (256 : Nat) = 2 ^ 8 from rfl, ← Nat.pow_mul] at hv
    rw [show 8 * (i % 4) + 32 * (i / 4) = 8 * i by omega]
    exact hv
  have h3 : L[i / 4]?.getD 0 < 2 ^ (8 * (i % 4)) := by
    rw [← h1]
    exact Nat.lt_of_le_of_lt (Nat.mod_le _ _) h2
  have h4 : i % 4 = 0 ∨ i % 4 = 1 ∨ i % 4 = 2 ∨ i % 4 = 3 := by omega
  rcases h4 with h | h | h | h <;> rw [h] at h3 ⊢ <;> simp only [B32] <;> omega
/-- The value behind one more byte. -/
theorem word_step {L : List Nat} {V i b : Nat} (hq : i / 4 < L.length) (hv : nv B32 L = V % 256 ^ i) (hb : V / 256 ^ i % 256 = b) :
    nv B32 (L.set (i / 4) (L[i / 4]?.getD 0 + b * 2 ^ (8 * (i % 4)))) = V % 256 ^ (i + 1) := by
  have h := nv_set B32 L (i / 4) (L[i / 4]?.getD 0 + b * 2 ^ (8 * (i % 4))) hq
  rw [Nat.mod_pow_succ, hb, ← hv]
  have e : b * 2 ^ (8 * (i % 4)) * B32 ^ (i / 4) = 256 ^ i * b := by
    rw [show B32 = 2 ^ 32 from rfl, ← Nat.pow_mul, Nat.mul_assoc, ← Nat.pow_add, show 8 * (i % 4) + 32 * (i / 4) = 8 * i by omega, Nat.pow_mul, Nat.mul_comm]
  rw [Nat.add_mul, e] at h
  omega
theorem set_rng {L : List Nat} {q x : Nat} (hr : ∀ x ∈ L, x < B32) (hx : x < B32) : ∀ y ∈ L.set q x, y < B32 := by
  intro y hy
  rcases List.mem_or_eq_of_mem_set hy with h | h
  · exact hr y h
  · omega
theorem ints_set (L : List Nat) (q x : Nat) : (ints L).set q (x : Int) = ints (L.set q x) := by simp [ints, List.map_set]

theorem cell_sum (x b s : Nat) (h : x + b * 2 ^ s < 4294967296) (hb : b < 4294967296) : ((x : Int) + (b : Int) % 4294967296 * 2 ^ s) % 4294967296 = ((x + b * 2 ^ s : Nat) : Int) := by
  have e1 : (b : Int) % 4294967296 = b := by omega
  have e2 : (b : Int) * 2 ^ s = ((b * 2 ^ s : Nat) : Int) := by simp
  rw [e1, e2]
  generalize b * 2 ^ s = t at *
  omega
theorem Tryz.info4 : (Tryz.prog.info? 55).map (fun i => (i.zero, i.size, i.bytes)) = some (some (.int .u32 0), 1, 4) := by kernel_rfl
theorem Tryz.info1 : (Tryz.prog.info? 5).map (fun i => (i.zero, i.size, i.bytes)) = some (some (.int .u8 0), 1, 1) := by kernel_rfl
theorem made_one (z : Value) (n : Nat) (hz : z.cells = #[z]) : madeCells z.cells n = (List.replicate n z).toArray := by
  apply Array.ext
  · simp [size_madeCells]
  · intro j h1 h2
    simp [madeCells, hz, Nat.mod_one]
theorem make4 (w : World) (n : Nat) (hn : n ≤ 1000000000) :
    (Instr.makeSlice 52 (.int .i64 n) (.int .i64 n)).run Tryz.prog w = .ok (.slice (some ⟨w.heap.size, 0, none⟩) n n) (w.alloc (.cells ((ints (List.replicate n 0)).map enc4).toArray 55)) := by
  obtain ⟨i0, hi, hz0, hz1, hz2⟩ := info_parts Tryz.info4
  have h := run_make (P := Tryz.prog) w 52 55 i0 _ Tryz.underlying52 hi hz0 .i64 .i64 n n (by omega) (by omega) (by rw [hz2]; omega) (by omega)
  rw [h, hz1, made_one _ _ rfl]
  simp [ints]
theorem make1 (w : World) (n : Nat) (hn : n ≤ 1000000000) :
    (Instr.makeSlice 58 (.int .i64 n) (.int .i64 n)).run Tryz.prog w = .ok (.slice (some ⟨w.heap.size, 0, none⟩) n n) (w.alloc (.cells ((ints (List.replicate n 0)).map encB).toArray 5)) := by
  obtain ⟨i0, hi, hz0, hz1, hz2⟩ := info_parts Tryz.info1
  have h := run_make (P := Tryz.prog) w 58 5 i0 _ Tryz.underlying58 hi hz0 .i64 .i64 n n (by omega) (by omega) (by rw [hz2]; omega) (by omega)
  rw [h, hz1, made_one _ _ rfl]
  simp [ints]

end Go.Proofs.YtmgbkcfocbbofabGreatDoor

namespace Go.Proofs.YtmgbkcfocbbofabGreatDoor
open Go.RowKit Go.Lib Go.Sort

theorem d4_rng {L : List Nat} (hr : ∀ x ∈ L, x < B32) (i : Nat) : L[i]?.getD 0 < B32 := by
  cases h : L[i]? with
  | none => simp
  | some y => exact hr y (List.mem_of_getElem? h)

theorem bl_half {x : Nat} (h : 0 < x) : bl x = bl (x / 2) + 1 := by
  by_cases h1 : x = 1
  · subst h1; decide
  · have := bl_up (x / 2) 1 (x % 2) (by omega) (by omega)
    rw [show x / 2 * 2 ^ 1 + x % 2 = x by omega] at this
    omega
theorem nv_top (B : Nat) (L : List Nat) (k : Nat) (h : L.length = k + 1) : nv B L = nv B (L.take k) + B ^ k * (L[k]?.getD 0) := by
  have e : L = L.take k ++ [L[k]?.getD 0] := by
    have h1 : L[k]? = some (L[k]'(by omega)) := List.getElem?_eq_getElem (by omega)
    have h2 : L.take (k + 1) = L := List.take_of_length_le (by omega)
    refine h2.symm.trans ?_
    rw [take_succ_at h1, h1]
    rfl
  conv => lhs; rw [e]
  rw [nv_append, List.length_take, Nat.min_eq_left (by omega)]
  simp [nv]
theorem bl_zero : bl 0 = 0 := rfl

theorem may_head {neg : Bool} {mag : ByteArray} (h : may neg mag = true) (hp : 0 < mag.size) : mag[0].toNat ≠ 0 := by
  unfold may at h
  rw [if_neg (by omega), bN_head mag hp] at h
  simp at h
  exact h.2
theorem val_head (mag : ByteArray) (hp : 0 < mag.size) (h0 : mag[0].toNat ≠ 0) : 256 ^ (mag.size - 1) ≤ val (bN mag) := by
  have h1 := bl_val mag hp h0
  obtain ⟨k, hk⟩ := bl_pos (show 0 < mag[0].toNat by omega)
  rw [hk] at h1
  have h2 := (bl_iff.1 (show bl (val (bN mag)) = (8 * (mag.size - 1) + k) + 1 by omega)).1
  rw [show (256 : Nat) = 2 ^ 8 from rfl, ← Nat.pow_mul]
  exact Nat.le_trans (Nat.pow_le_pow_right (by decide) (by omega)) h2
/-- The bits of a number by its digits. -/
theorem bl_words {L : List Nat} {mag : ByteArray} (hp : 0 < mag.size) (h0 : mag[0].toNat ≠ 0) (hl : L.length = (mag.size + 3) / 4) (hr : ∀ x ∈ L, x < B32) (hv : nv B32 L = val (bN mag)) :
    32 * (L.length - 1) + bl (L[L.length - 1]?.getD 0) = bl (val (bN mag)) := by
  obtain ⟨k, hk⟩ : ∃ k, L.length = k + 1 := ⟨L.length - 1, by omega⟩
  have h1 := nv_top B32 L k hk
  have h2 := nv_lt B32 (L.take k) (fun x hx => hr x (List.mem_of_mem_take hx))
  rw [List.length_take, Nat.min_eq_left (by omega)] at h2
  have h3 := val_head mag hp h0
  rw [hk, Nat.add_sub_cancel]
  rw [← hv] at h3 ⊢
  rw [h1] at h3 ⊢
  generalize nv B32 (L.take k) = N at *
  rw [show B32 = 2 ^ 32 from rfl, ← Nat.pow_mul] at h2 h3 ⊢
  rw [show (256 : Nat) = 2 ^ 8 from rfl, ← Nat.pow_mul] at h3
  have h4 : 2 ^ (32 * k) ≤ 2 ^ (8 * (mag.size - 1)) := Nat.pow_le_pow_right (by decide) (by omega)
  generalize L[k]?.getD 0 = t at *
  have h5 : 0 < t := by
    rcases Nat.eq_zero_or_pos t with rfl | h
    · simp at h3; omega
    · exact h
  rw [Nat.add_comm N, Nat.mul_comm (2 ^ (32 * k)), bl_up t (32 * k) _ h5 h2]

end Go.Proofs.YtmgbkcfocbbofabGreatDoor

namespace Go.Proofs.YtmgbkcfocbbofabGreatDoor
open Go.RowKit Go.Lib Go.Sort

theorem nv_two {L : List Nat} (h : L.length ≤ 2) : nv B32 L = (L[1]?.getD 0) * 4294967296 + L[0]?.getD 0 := by
  match L, h with
  | [], _ => rfl
  | [a], _ => simp [nv]
  | [a, b], _ => simp [nv, B32]; omega
  | a :: b :: c :: t, h => simp at h

theorem nv_take_zero (B : Nat) (L : List Nat) (k : Nat) (hk : k < L.length) (h0 : L[k]?.getD 0 = 0) : nv B (L.take (k + 1)) = nv B (L.take k) := by
  have h1 : L[k]? = some (L[k]'hk) := List.getElem?_eq_getElem hk
  rw [take_succ_at h1, nv_append]
  rw [h1] at h0
  simp at h0
  simp [nv, h0]

end Go.Proofs.YtmgbkcfocbbofabGreatDoor

namespace Go.Proofs.YtmgbkcfocbbofabGreatDoor
open Go.RowKit Go.Lib Go.Sort

/-- The byte k of a number by its digits. -/
theorem byte_word (L : List Nat) (k : Nat) (hr : ∀ x ∈ L, x < B32) : (L[k / 4]?.getD 0) / 2 ^ (8 * (k % 4)) % 256 = nv B32 L / 256 ^ k % 256 := by
  have h1 := nv_digit B32 L (k / 4) hr
  rw [← h1]
  have e : nv B32 L / 256 ^ k = nv B32 L / B32 ^ (k / 4) / 2 ^ (8 * (k % 4)) := by
    rw [Nat.div_div_eq_div_mul, show B32 = 2 ^ 32 from rfl, show (256 : Nat) = 2 ^ 8 from rfl, ← Nat.pow_mul, ← Nat.pow_mul, ← Nat.pow_add, show 32 * (k / 4) + 8 * (k % 4) = 8 * k by omega]
  rw [e]
  generalize nv B32 L / B32 ^ (k / 4) = x
  have h4 : k % 4 = 0 ∨ k % 4 = 1 ∨ k % 4 = 2 ∨ k % 4 = 3 := by omega
  rcases h4 with h | h | h | h <;> rw [h] <;> simp only [B32] <;> omega
theorem lt_pow_step {V n : Nat} (h : V < 256 ^ (n + 1)) (h0 : V / 256 ^ n % 256 = 0) : V < 256 ^ n := by
  have e := Nat.mod_pow_succ (b := 256) (k := n) (x := V)
  rw [Nat.mod_eq_of_lt h, h0, Nat.mul_zero, Nat.add_zero] at e
  rw [e]
  exact Nat.mod_lt _ (Nat.pow_pos (by decide))
theorem magN_val : ∀ (r : List Nat), (∀ x ∈ r, x < 256) → (r = [] ∨ r.getLast?.getD 0 ≠ 0) → magN (val r.reverse) = r.reverse
  | [], _, _ => by simp [val, magN_zero]
  | b :: t, h, h0 => by
    have hb := h b (by simp)
    rw [List.reverse_cons, val_snoc]
    by_cases ht : t = []
    · subst ht
      have : b ≠ 0 := by
        rcases h0 with h0 | h0
        · simp at h0
        · simpa using h0
      rw [List.reverse_nil, val_nil, Nat.zero_mul, Nat.zero_add, magN_pos (by omega), Nat.div_eq_of_lt hb, magN_zero, Nat.mod_eq_of_lt hb]
    · have hl : t.getLast?.getD 0 ≠ 0 := by
        rcases h0 with h0 | h0
        · simp at h0
        · rw [List.getLast?_cons] at h0
          cases hg : t.getLast? with
          | none => simp at hg; exact absurd hg ht
          | some y => rw [hg] at h0; simpa using h0
      have ih := magN_val t (fun x hx => h x (by simp [hx])) (.inr hl)
      have hp : 0 < val t.reverse := by
        rcases Nat.eq_zero_or_pos (val t.reverse) with hz | hp
        · rw [hz, magN_zero] at ih
          have := congrArg List.length ih
          simp at this
          exact absurd (List.eq_nil_of_length_eq_zero this.symm) ht
        · exact hp
      rw [magN_pos (by omega), show (val t.reverse * 256 + b) / 256 = val t.reverse by omega, show (val t.reverse * 256 + b) % 256 = b by omega, ih]
theorem magN_of (l : List Nat) (h : ∀ x ∈ l, x < 256) (h0 : l = [] ∨ l.head?.getD 0 ≠ 0) : magN (val l) = l := by
  have := magN_val l.reverse (fun x hx => h x (by simpa using hx)) (by
    rcases h0 with rfl | h0
    · exact .inl rfl
    · right; rwa [List.getLast?_reverse])
  rwa [List.reverse_reverse] at this
theorem val_cons (b : Nat) (l : List Nat) : val (b :: l) = b * 256 ^ l.length + val l := by
  rw [val_nv, val_nv, List.reverse_cons, nv_append, List.length_reverse]
  simp [nv]
  rw [Nat.add_comm, Nat.mul_comm]

theorem blk_new (w : World) (q : Nat) : BlkL ((w.alloc (wObj false eS)).alloc (.cells ((ints (List.replicate (q + 1) 0)).map encB).toArray 5)) (w.heap.size + 1) 5 encB (List.replicate (q + 1 - 0) 0 ++ ints []) := by
  have h := heap_alloc_new (w.alloc (wObj false eS)) (.cells ((ints (List.replicate (q + 1) 0)).map encB).toArray 5)
  rw [World.size_alloc] at h
  unfold BlkL
  rw [h]
  simp [ints]

end Go.Proofs.YtmgbkcfocbbofabGreatDoor

namespace Go.Proofs.YtmgbkcfocbbofabGreatDoor
open Go.RowKit Go.Lib Go.Sort

theorem d4_two (w : World) (a b : Nat) : D4 (w.alloc (.cells #[.int .u32 a, .int .u32 b] 55)) (.slice (some ⟨w.heap.size, 0, none⟩) 2 2) [a, b] := by
  have h : BlkL (w.alloc (.cells #[.int .u32 a, .int .u32 b] 55)) w.heap.size 55 enc4 (ints [a, b]) := heap_alloc_new _ _
  exact h.d4

end Go.Proofs.YtmgbkcfocbbofabGreatDoor
