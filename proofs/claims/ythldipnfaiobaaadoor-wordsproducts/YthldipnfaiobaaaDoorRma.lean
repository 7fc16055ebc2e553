/-
  Cores and roots: of lists alone.
-/
import Derived.Test.YthldipnfaiobaaaDoorRtm
namespace Go.Proofs.YthldipnfaiobaaaDoor
open Go.RowKit Go.Lib Go.Sort
set_option linter.unusedVariables false
set_option linter.unusedSimpArgs false
theorem inv_at (L : List Int) (i : Nat) (h : i < L.length) : (inv L)[i]?.getD 0 = -(L[L.length - 1 - i]?.getD 0) := by
  unfold inv
  rw [List.getElem?_reverse (by simpa using h), List.getElem?_map, List.length_map, List.getElem?_eq_getElem (by omega)]
  rfl
theorem cut_inv {S : List Int} {m : Nat} (h : Cut S m) : inv (S.take m) = byOf S m := by
  have hle := h.le
  apply same_prefix (by rw [inv_len, byOf_len S m hle, List.length_take]; omega)
  intro j hj
  have hj' : j < m := by rw [inv_len, List.length_take] at hj; omega
  have hl : (S.take m).length = m := by rw [List.length_take]; omega
  rw [inv_at _ _ (by rw [hl]; exact hj'), hl, List.getElem?_take, if_pos (by omega)]
  unfold byOf
  rw [List.getElem?_drop]
  have := (h.1 (m - 1 - j) (by omega)).2
  rw [show S.length - 1 - (m - 1 - j) = S.length - m + j by omega] at this
  omega
def Red (S : List Int) : Prop := ∀ i, i + 1 < S.length → S[i]?.getD 0 + S[i + 1]?.getD 0 ≠ 0
theorem red_push {l : List Int} {k : Int} (h : Red l) : Red (push l k) := by
  unfold push
  split
  · intro i hi
    simp at hi
  · rename_i h0
    split
    · intro i hi
      rw [List.length_take] at hi
      rw [List.getElem?_take, if_pos (by omega), List.getElem?_take, if_pos (by omega)]
      exact h i (by omega)
    · rename_i h1
      intro i hi
      rw [List.length_append] at hi
      have hi2 : i + 1 < l.length + 1 := by simpa using hi
      rcases Nat.lt_or_ge (i + 1) l.length with e | e
      · rw [List.getElem?_append_left (by omega), List.getElem?_append_left e]
        exact h i e
      · obtain rfl : i = l.length - 1 := by omega
        rw [List.getElem?_append_left (by omega), show l.length - 1 + 1 = l.length by omega, List.getElem?_append_right (Nat.le_refl _)]
        simpa using h1
theorem red_sh (L : List Int) : Red (sh L) :=
  snoc_ind (P := fun L => Red (sh L)) (by intro i hi; simp [sh] at hi) (fun L k ih => by
    show Red (sh (L ++ [k]))
    rw [sh_snoc]
    exact red_push ih) L
theorem core_pos {S : List Int} {m : Nat} (h : Cut S m) (hr : Red S) (h0 : 0 < S.length) : 0 < (coreOf S m).length := by
  have hle := h.le
  rw [coreOf_len S m hle]
  rcases Nat.eq_zero_or_pos m with e | e
  · omega
  · have h1 := (h.1 (m - 1) (by omega)).2
    rcases Nat.lt_or_ge (2 * m) S.length with e2 | e2
    · omega
    · exfalso
      have := hr (m - 1) (by omega)
      rw [show S.length - 1 - (m - 1) = m - 1 + 1 by omega] at h1
      exact this h1
end Go.Proofs.YthldipnfaiobaaaDoor
