/-
  frac's Floor.
-/
import Derived.Test.YtdfliaogmlpefaaGreatDoorBunRed
import Derived.Test.YtdfliaogmlpefaaGreatDoorRfp
import Derived.Test.YtdfliaogmlpefaaGreatDoorOnh
import Derived.TacticsInMore
import Derived.LoopNIn
import Derived.LoopIn
import Derived.OwnWalkIn
import Derived.RangeFuncNested
import Derived.RangeFuncBound
import Derived.RangeFuncCalls
import Derived.RangeFuncLeaves
import Derived.RangeFuncFrom
import Derived.RangeFuncBox
namespace Go.Proofs.YtdfliaogmlpefaaGreatDoor
open Go.RowKit Go.Lib Go.Sort Go.Shelf
set_option linter.unusedVariables false
attribute [local go_sem] Oper.semAt_some
set_option maxHeartbeats 1600000
set_option maxRecDepth 1000000
theorem quot_any (n d : Bool) (s t : ByteArray) (w : World) : Calls Tryz.prog 33 #[frac n s d t] w fun e w' => e = .returned (.func (.func 79) #[] #[.pointer (some ⟨w.heap.size, 0, none⟩)]) ∧ w' = w.alloc (qObj n s d t) := by
  have hmf : ∀ (fn : Fn) (first cap : Array Value) (w : World), (Instr.makeFunc fn first cap).run Tryz.prog w = .ok (.func fn first cap) w := fun _ _ _ _ => rfl
  go_enter Tryz.func33, Tryz.ntmps33
  go_wp2_with fail
  go_ret
  exact ⟨rfl, rfl⟩
theorem load_errno (w : World) (g : Nat) (v : Int) (h : w.heap[g]? = some (.cells #[.int .i64 v] 29 (0, 0))) : (loadVar 29 ⟨g, 0, none⟩).run Tryz.prog w = .ok (.int .i64 v) w := by
  have hc : w.cell? ⟨g, 0, none⟩ = some (.int .i64 v) := by simp [World.cell?, h]
  simp [go_sem, loadVar, hc]
end Go.Proofs.YtdfliaogmlpefaaGreatDoor
