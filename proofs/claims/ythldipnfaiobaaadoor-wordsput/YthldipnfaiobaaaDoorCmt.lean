/-
  The order of words: cmp.Compare, cmp.Or, size, byLetter, slices.CompareFunc.
-/
import Derived.Test.YthldipnfaiobaaaDoorTop
namespace Go.Proofs.YthldipnfaiobaaaDoor
open Go.RowKit Go.Lib Go.Sort
set_option linter.unusedVariables false
set_option linter.unusedSimpArgs false
theorem size_any (k : Int) (h1 : -64 ≤ k) (h2 : k ≤ 64) (w : World) : Calls Tryd.prog 73 #[.int .i64 k] w fun e w' => e = .returned (.int .i64 (max k (-k))) ∧ w' = w := by
  go_enter Tryd.func73, Tryd.ntmps73
  go_wp2
  go_ret
  exact ⟨rfl, rfl⟩
end Go.Proofs.YthldipnfaiobaaaDoor
