/-
  Powers: of lists alone.
-/
import Derived.Test.YthldipnfaiobaaaDoorRma
import Derived.Test.YthldipnfaiobaaaDoorRoo
import Derived.Test.YthldipnfaiobaaaDoorPrd
namespace Go.Proofs.YthldipnfaiobaaaDoor
open Go.RowKit Go.Lib Go.Sort
set_option linter.unusedVariables false
set_option linter.unusedSimpArgs false
theorem cut_ex (L : List Int) : ∃ m, Cut L m := by
  have key : ∀ k : Nat, (∃ m, Cut L m) ∨ ∀ j, j < k → 2 * j + 1 < L.length ∧ L[j]?.getD 0 + L[L.length - 1 - j]?.getD 0 = 0 := by
    intro k
    induction k with
    | zero => exact .inr fun j hj => by omega
    | succ k ih =>
      rcases ih with h | h
      · exact .inl h
      · by_cases hk : 2 * k + 1 < L.length ∧ L[k]?.getD 0 + L[L.length - 1 - k]?.getD 0 = 0
        · refine .inr fun j hj => ?_
          rcases Nat.lt_or_ge j k with e | e
          · exact h j e
          · obtain rfl : j = k := by omega
            exact hk
        · exact .inl ⟨k, h, hk⟩
  rcases key (L.length + 1) with h | h
  · exact h
  · have := (h L.length (by omega)).1
    omega
end Go.Proofs.YthldipnfaiobaaaDoor
