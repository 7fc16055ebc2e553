/-
  The order of words, as the document has it: place, Cmp.
-/
import Derived.Test.YtkimgmgafkihaaaDoorTop
import Derived.Test.YtkimgmgafkihaaaDoorRoo
import Derived.ArgAppend
import Derived.Test.YtkimgmgafkihaaaDoorCnc
namespace Go.Proofs.YtkimgmgafkihaaaDoor
open Go.RowKit Go.Lib Go.Sort
set_option linter.unusedVariables false
set_option linter.unusedSimpArgs false
def plc (k : Int) : Int := if 0 < k then 2 * k - 2 else -2 * k - 1
theorem place_any (k : Int) (h : -64 ≤ k ∧ k ≤ 64) (w : World) : Calls Tryd.prog 20 #[.int .i64 k] w fun e w' => e = .returned (.int .i64 (plc k)) ∧ w' = w := by
  obtain ⟨h1, h2⟩ := h
  unfold plc
  by_cases h0 : 0 < k
  · rw [if_pos h0]
    go_enter Tryd.func20, Tryd.ntmps20
    go_wp2
    go_ret
    exact ⟨rfl, rfl⟩
  · rw [if_neg h0]
    go_enter Tryd.func20, Tryd.ntmps20
    go_wp2
    go_ret
    exact ⟨rfl, rfl⟩
end Go.Proofs.YtkimgmgafkihaaaDoor
