/-
  Cores and roots: of lists alone.
-/
import Derived.Test.YthldipnfaiobaabGreatDoorRoo
namespace Go.Proofs.YthldipnfaiobaabGreatDoor
open Go.RowKit Go.Lib Go.Sort
set_option linter.unusedVariables false
set_option linter.unusedSimpArgs false
theorem inv_inv (L : List Int) : inv (inv L) = L := by
  unfold inv
  rw [List.map_reverse, List.reverse_reverse, List.map_map]
  have e : ((fun k : Int => -k) ∘ fun k => -k) = id := by
    funext k
    simp [Function.comp]
  rw [e, List.map_id]
theorem inv_at (L : List Int) (i : Nat) (h : i < L.length) : (inv L)[i]?.getD 0 = -(L[L.length - 1 - i]?.getD 0) := by
  unfold inv
  rw [List.getElem?_reverse (by simpa using h), List.getElem?_map, List.length_map, List.getElem?_eq_getElem (by omega)]
  rfl
theorem cut_inv {S : List Int} {m : Nat} (h : Cut S m) : inv (S.take m) = byOf S m := by
  have hle := h.le
  apply same_prefix (by rw [inv_len, byOf_len S m hle, List.length_take]; omega)
  intro j hj
  have hj' : j < m := by rw [inv_len, List.length_take] at hj; omega
  have hl : (S.take m).length = m := by rw [List.length_take]; omega
  rw [inv_at _ _ (by rw [hl]; exact hj'), hl, List.getElem?_take, if_pos (by omega)]
  unfold byOf
  rw [List.getElem?_drop]
  have := (h.1 (m - 1 - j) (by omega)).2
  rw [show S.length - 1 - (m - 1 - j) = S.length - m + j by omega] at this
  omega
theorem cut_parts {S : List Int} {m : Nat} (h : Cut S m) : inv (byOf S m) ++ coreOf S m ++ byOf S m = S := by
  rw [← cut_inv h, inv_inv, cut_inv h]
  have hle := h.le
  unfold coreOf byOf
  rw [List.append_assoc]
  have e : (S.drop m).take (S.length - 2 * m) ++ S.drop (S.length - m) = S.drop m := by
    have := List.take_append_drop (S.length - 2 * m) (S.drop m)
    rw [List.drop_drop, show m + (S.length - 2 * m) = S.length - m by omega] at this
    exact this
  rw [e, List.take_append_drop]
def Red (S : List Int) : Prop := ∀ i, i + 1 < S.length → S[i]?.getD 0 + S[i + 1]?.getD 0 ≠ 0
theorem red_push {l : List Int} {k : Int} (h : Red l) : Red (push l k) := by
  unfold push
  split
  · intro i hi
    simp at hi
  · rename_i h0
    split
    · intro i hi
      rw [List.length_take] at hi
      rw [List.getElem?_take, if_pos (by omega), List.getElem?_take, if_pos (by omega)]
      exact h i (by omega)
    · rename_i h1
      intro i hi
      rw [List.length_append] at hi
      have hi2 : i + 1 < l.length + 1 := by simpa using hi
      rcases Nat.lt_or_ge (i + 1) l.length with e | e
      · rw [List.getElem?_append_left (by omega), List.getElem?_append_left e]
        exact h i e
      · obtain rfl : i = l.length - 1 := by omega
        rw [List.getElem?_append_left (by omega), show l.length - 1 + 1 = l.length by omega, List.getElem?_append_right (Nat.le_refl _)]
        simpa using h1
theorem red_sh (L : List Int) : Red (sh L) :=
  snoc_ind (P := fun L => Red (sh L)) (by intro i hi; simp [sh] at hi) (fun L k ih => by
    show Red (sh (L ++ [k]))
    rw [sh_snoc]
    exact red_push ih) L
theorem core_pos {S : List Int} {m : Nat} (h : Cut S m) (hr : Red S) (h0 : 0 < S.length) : 0 < (coreOf S m).length := by
  have hle := h.le
  rw [coreOf_len S m hle]
  rcases Nat.eq_zero_or_pos m with e | e
  · omega
  · have h1 := (h.1 (m - 1) (by omega)).2
    rcases Nat.lt_or_ge (2 * m) S.length with e2 | e2
    · omega
    · exfalso
      have := hr (m - 1) (by omega)
      rw [show S.length - 1 - (m - 1) = m - 1 + 1 by omega] at h1
      exact this h1
theorem per_rp {C : List Int} {n : Nat} (hn : n ∣ C.length) (h0 : 0 < n) : Per C (C.length / n) ↔ C = rp (C.take (C.length / n)) n := by
  obtain ⟨d, hd⟩ := hn
  have hq : C.length / n = d := by rw [hd, Nat.mul_div_cancel_left d h0]
  rw [hq]
  have hdl : d ≤ C.length := by rw [hd]; exact Nat.le_mul_of_pos_left d h0
  have hl : (C.take d).length = d := by rw [List.length_take]; omega
  constructor
  · intro hp
    apply same_prefix (by rw [rp_len, hl, hd, Nat.mul_comm])
    intro j hj
    rw [rp_at _ _ _ (by rw [hl, Nat.mul_comm, ← hd]; exact hj), hl]
    rcases Nat.eq_zero_or_pos d with e | e
    · rw [hd, e] at hj; omega
    · rw [List.getElem?_take, if_pos (Nat.mod_lt _ e)]
      have key : ∀ q r, r + q * d < C.length → C[r + q * d]?.getD 0 = C[r]?.getD 0 := by
        intro q
        induction q with
        | zero => intro r _; simp
        | succ q ih =>
          intro r hr
          rw [Nat.succ_mul, ← Nat.add_assoc] at hr ⊢
          rw [← hp _ hr, ih r (by omega)]
      have := key (j / d) (j % d) (by rw [Nat.mul_comm, Nat.mod_add_div]; exact hj)
      rw [Nat.mul_comm, Nat.mod_add_div] at this
      exact this
  · intro he j hj
    have h1 : ∀ i, i < C.length → C[i]?.getD 0 = (C.take d)[i % d]?.getD 0 := by
      intro i hi
      have := rp_at (C.take d) n i (by rw [hl, Nat.mul_comm, ← hd]; exact hi)
      rw [← he, hl] at this
      exact this
    rw [h1 j (by omega), h1 (j + d) hj, Nat.add_mod_right]
end Go.Proofs.YthldipnfaiobaabGreatDoor
