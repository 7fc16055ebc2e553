/-
  frac's Floor.
-/
import Derived.Test.YtdfliaogmlpefaaGreatDoorBunRed
import Derived.Test.YtdfliaogmlpefaaGreatDoorRfp
import Derived.Test.YtdfliaogmlpefaaGreatDoorBunOnh
import Derived.TacticsInMore
import Derived.LoopNIn
import Derived.LoopIn
import Derived.OwnWalkIn
import Derived.RangeFuncNested
import Derived.RangeFuncBound
import Derived.RangeFuncCalls
import Derived.RangeFuncLeaves
import Derived.RangeFuncFrom
import Derived.RangeFuncBox
namespace Go.Proofs.YtdfliaogmlpefaaGreatDoor
open Go.RowKit Go.Lib Go.Sort Go.Shelf
set_option linter.unusedVariables false
attribute [local go_sem] Oper.semAt_some
theorem load_errno (w : World) (g : Nat) (v : Int) (h : w.heap[g]? = some (.cells #[.int .i64 v] 29 (0, 0))) : (loadVar 29 ⟨g, 0, none⟩).run Tryz.prog w = .ok (.int .i64 v) w := by
  have hc : w.cell? ⟨g, 0, none⟩ = some (.int .i64 v) := by simp [World.cell?, h]
  simp [go_sem, loadVar, hc]
end Go.Proofs.YtdfliaogmlpefaaGreatDoor
