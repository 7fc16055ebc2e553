/-
  Cores and roots: of lists alone.
-/
import Derived.Test.YthldipnfaiobaaaDoorRfs
namespace Go.Proofs.YthldipnfaiobaaaDoor
open Go.RowKit Go.Lib Go.Sort
set_option linter.unusedVariables false
set_option linter.unusedSimpArgs false
theorem inv_at (L : List Int) (i : Nat) (h : i < L.length) : (inv L)[i]?.getD 0 = -(L[L.length - 1 - i]?.getD 0) := by
  unfold inv
  rw [List.getElem?_reverse (by simpa using h), List.getElem?_map, List.length_map, List.getElem?_eq_getElem (by omega)]
  rfl
def Red (S : List Int) : Prop := ∀ i, i + 1 < S.length → S[i]?.getD 0 + S[i + 1]?.getD 0 ≠ 0
theorem red_push {l : List Int} {k : Int} (h : Red l) : Red (push l k) := by
  unfold push
  split
  · intro i hi
    simp at hi
  · rename_i h0
    split
    · intro i hi
      rw [List.length_take] at hi
      rw [List.getElem?_take, if_pos (by omega), List.getElem?_take, if_pos (by omega)]
      exact h i (by omega)
    · rename_i h1
      intro i hi
      rw [List.length_append] at hi
      have hi2 : i + 1 < l.length + 1 := by simpa using hi
      rcases Nat.lt_or_ge (i + 1) l.length with e | e
      · rw [List.getElem?_append_left (by omega), List.getElem?_append_left e]
        exact h i e
      · obtain rfl : i = l.length - 1 := by omega
        rw [List.getElem?_append_left (by omega), show l.length - 1 + 1 = l.length by omega, List.getElem?_append_right (Nat.le_refl _)]
        simpa using h1
theorem red_sh (L : List Int) : Red (sh L) :=
  snoc_ind (P := fun L => Red (sh L)) (by intro i hi; simp [sh] at hi) (fun L k ih => by
    show Red (sh (L ++ [k]))
    rw [sh_snoc]
    exact red_push ih) L
end Go.Proofs.YthldipnfaiobaaaDoor
