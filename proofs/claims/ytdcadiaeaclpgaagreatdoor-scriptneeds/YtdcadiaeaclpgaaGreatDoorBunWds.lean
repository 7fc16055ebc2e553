/-
  The document's digits: words, at, bits.
  The document's at, bits, Small, Bits, Bit.
  The document's Small, cut, made, Of.
  The document's made, Of: a number of its sign and digits, in its one form.
-/
import Derived.Test.YtdcadiaeaclpgaaGreatDoorBunChk
namespace Go.Proofs.YtdcadiaeaclpgaaGreatDoor
open Go.RowKit Go.Lib Go.Sort
abbrev B32 : Nat := 4294967296
theorem nv_set (B : Nat) : ∀ (L : List Nat) (q x : Nat), q < L.length → nv B (L.set q x) + (L[q]?.getD 0) * B ^ q = nv B L + x * B ^ q
  | [], q, x, h => by simp at h
  | d :: t, 0, x, _ => by simp [nv]; omega
  | d :: t, q + 1, x, h => by
    have ih := nv_set B t q x (by simpa using h)
    simp only [List.set_cons_succ, nv, List.getElem?_cons_succ, Nat.pow_succ]
    have h2 := congrArg (B * ·) ih
    simp only [Nat.mul_add] at h2
    rw [show t[q]?.getD 0 * (B ^ q * B) = B * (t[q]?.getD 0 * B ^ q) by rw [Nat.mul_comm (B ^ q) B, ← Nat.mul_assoc, ← Nat.mul_assoc, Nat.mul_comm _ B],
      show x * (B ^ q * B) = B * (x * B ^ q) by rw [Nat.mul_comm (B ^ q) B, ← Nat.mul_assoc, ← Nat.mul_assoc, Nat.mul_comm _ B]]
    omega
theorem nv_replicate (B n : Nat) : nv B (List.replicate n 0) = 0 := by
  induction n with
  | zero => rfl
  | succ n ih => rw [List.replicate_succ, nv, ih]; simp
def D4 (w : World) (v : Value) (L : List Nat) : Prop :=
  (v = .slice none 0 0 ∧ L = []) ∨ ∃ B off c, v = .slice (some ⟨B, off, none⟩) L.length c ∧ L.length ≤ c ∧ ∀ j, j < L.length → w.cell? ⟨B, off + j, none⟩ = some (.int .u32 ((L[j]?.getD 0 : Nat) : Int))
theorem D4.kept {w w' : World} {v : Value} {L : List Nat} (h : D4 w v L) (hg : w.grownBy w' none) : D4 w' v L := by
  rcases h with h | ⟨B, off, c, rfl, hc, h⟩
  · exact .inl h
  · exact .inr ⟨B, off, c, rfl, hc, fun j hj => grownBy_cell hg (h j hj) (by simp)⟩
theorem ints_at (L : List Nat) (i : Nat) : (ints L)[i]?.getD 0 = ((L[i]?.getD 0 : Nat) : Int) := by
  simp only [ints, List.getElem?_map]
  cases L[i]? <;> rfl
theorem BlkL.d4 {w : World} {B : Nat} {L : List Nat} {t : TypeId} (h : BlkL w B t enc4 (ints L)) : D4 w (.slice (some ⟨B, 0, none⟩) L.length L.length) L :=
  .inr ⟨B, 0, L.length, rfl, Nat.le_refl _, fun j hj => by
    rw [Nat.zero_add, h.cell j (by rw [ints_length]; exact hj), ints_at]⟩
theorem set_rng {L : List Nat} {q x : Nat} (hr : ∀ x ∈ L, x < B32) (hx : x < B32) : ∀ y ∈ L.set q x, y < B32 := by
  intro y hy
  rcases List.mem_or_eq_of_mem_set hy with h | h
  · exact hr y h
  · omega
theorem ints_set (L : List Nat) (q x : Nat) : (ints L).set q (x : Int) = ints (L.set q x) := by simp [ints, List.map_set]
theorem Tryz.info4 : (Tryz.prog.info? 145).map (fun i => (i.zero, i.size, i.bytes)) = some (some (.int .u32 0), 1, 4) := by kernel_rfl
theorem Tryz.info1 : (Tryz.prog.info? 5).map (fun i => (i.zero, i.size, i.bytes)) = some (some (.int .u8 0), 1, 1) := by kernel_rfl
theorem made_one (z : Value) (n : Nat) (hz : z.cells = #[z]) : madeCells z.cells n = (List.replicate n z).toArray := by
  apply Array.ext
  · simp [size_madeCells]
  · intro j h1 h2
    simp [madeCells, hz, Nat.mod_one]
theorem make4 (w : World) (n : Nat) (hn : n ≤ 1000000000) :
    (Instr.makeSlice 146 (.int .i64 n) (.int .i64 n)).run Tryz.prog w = .ok (.slice (some ⟨w.heap.size, 0, none⟩) n n) (w.alloc (.cells ((ints (List.replicate n 0)).map enc4).toArray 145)) := by
  obtain ⟨i0, hi, hz0, hz1, hz2⟩ := info_parts Tryz.info4
  have h := run_make (P := Tryz.prog) w 146 145 i0 _ Tryz.underlying146 hi hz0 .i64 .i64 n n (by omega) (by omega) (by rw [hz2]; omega) (by omega)
  rw [h, hz1, made_one _ _ rfl]
  simp [ints]
theorem d4_rng {L : List Nat} (hr : ∀ x ∈ L, x < B32) (i : Nat) : L[i]?.getD 0 < B32 := by
  cases h : L[i]? with
  | none => simp
  | some y => exact hr y (List.mem_of_getElem? h)
theorem bl_half {x : Nat} (h : 0 < x) : bl x = bl (x / 2) + 1 := by
  by_cases h1 : x = 1
  · subst h1; decide
  · have := bl_up (x / 2) 1 (x % 2) (by omega) (by omega)
    rw [show x / 2 * 2 ^ 1 + x % 2 = x by omega] at this
    omega
theorem nv_top (B : Nat) (L : List Nat) (k : Nat) (h : L.length = k + 1) : nv B L = nv B (L.take k) + B ^ k * (L[k]?.getD 0) := by
  have e : L = L.take k ++ [L[k]?.getD 0] := by
    have h1 : L[k]? = some (L[k]'(by omega)) := List.getElem?_eq_getElem (by omega)
    have h2 : L.take (k + 1) = L := List.take_of_length_le (by omega)
    refine h2.symm.trans ?_
    rw [take_succ_at h1, h1]
    rfl
  conv => lhs; rw [e]
  rw [nv_append, List.length_take, Nat.min_eq_left (by omega)]
  simp [nv]
theorem bl_zero : bl 0 = 0 := rfl
theorem may_head {neg : Bool} {mag : ByteArray} (h : may neg mag = true) (hp : 0 < mag.size) : mag[0].toNat ≠ 0 := by
  unfold may at h
  rw [if_neg (by omega), bN_head mag hp] at h
  simp at h
  exact h.2
theorem val_head (mag : ByteArray) (hp : 0 < mag.size) (h0 : mag[0].toNat ≠ 0) : 256 ^ (mag.size - 1) ≤ val (bN mag) := by
  have h1 := bl_val mag hp h0
  obtain ⟨k, hk⟩ := bl_pos (show 0 < mag[0].toNat by omega)
  rw [hk] at h1
  have h2 := (bl_iff.1 (show bl (val (bN mag)) = (8 * (mag.size - 1) + k) + 1 by omega)).1
  rw [show (256 : Nat) = 2 ^ 8 from rfl, ← Nat.pow_mul]
  exact Nat.le_trans (Nat.pow_le_pow_right (by decide) (by omega)) h2
theorem nv_take_zero (B : Nat) (L : List Nat) (k : Nat) (hk : k < L.length) (h0 : L[k]?.getD 0 = 0) : nv B (L.take (k + 1)) = nv B (L.take k) := by
  have h1 : L[k]? = some (L[k]'hk) := List.getElem?_eq_getElem hk
  rw [take_succ_at h1, nv_append]
  rw [h1] at h0
  simp at h0
  simp [nv, h0]
theorem magN_val : ∀ (r : List Nat), (∀ x ∈ r, x < 256) → (r = [] ∨ r.getLast?.getD 0 ≠ 0) → magN (val r.reverse) = r.reverse
  | [], _, _ => by simp [val, magN_zero]
  | b :: t, h, h0 => by
    have hb := h b (by simp)
    rw [List.reverse_cons, val_snoc]
    by_cases ht : t = []
    · subst ht
      have : b ≠ 0 := by
        rcases h0 with h0 | h0
        · simp at h0
        · simpa using h0
      rw [List.reverse_nil, val_nil, Nat.zero_mul, Nat.zero_add, magN_pos (by omega), Nat.div_eq_of_lt hb, magN_zero, Nat.mod_eq_of_lt hb]
    · have hl : t.getLast?.getD 0 ≠ 0 := by
        rcases h0 with h0 | h0
        · simp at h0
        · rw [List.getLast?_cons] at h0
          cases hg : t.getLast? with
          | none => simp at hg; exact absurd hg ht
          | some y => rw [hg] at h0; simpa using h0
      have ih := magN_val t (fun x hx => h x (by simp [hx])) (.inr hl)
      have hp : 0 < val t.reverse := by
        rcases Nat.eq_zero_or_pos (val t.reverse) with hz | hp
        · rw [hz, magN_zero] at ih
          have := congrArg List.length ih
          simp at this
          exact absurd (List.eq_nil_of_length_eq_zero this.symm) ht
        · exact hp
      rw [magN_pos (by omega), show (val t.reverse * 256 + b) / 256 = val t.reverse by omega, show (val t.reverse * 256 + b) % 256 = b by omega, ih]
theorem magN_of (l : List Nat) (h : ∀ x ∈ l, x < 256) (h0 : l = [] ∨ l.head?.getD 0 ≠ 0) : magN (val l) = l := by
  have := magN_val l.reverse (fun x hx => h x (by simpa using hx)) (by
    rcases h0 with rfl | h0
    · exact .inl rfl
    · right; rwa [List.getLast?_reverse])
  rwa [List.reverse_reverse] at this
end Go.Proofs.YtdcadiaeaclpgaaGreatDoor
