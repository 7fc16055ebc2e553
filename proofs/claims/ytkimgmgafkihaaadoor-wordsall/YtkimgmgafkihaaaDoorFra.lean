/-
  Arguments as a call finds them: a list of int, a list of such lists, an int. Of no one statement.
-/
import Derived.Test.YtkimgmgafkihaaaDoorIng
import Derived.Test.YtkimgmgafkihaaaDoorLaw
import Derived.WalkKit
import Derived.Deep.Slices
import Derived.ChangeMaps5
import Derived.ProofKit
import Derived.OpenShut
namespace Go.Proofs.YtkimgmgafkihaaaDoor
open Go.ChangeAt Go.ChangeShapes Go.Deep Go.Lib Go.RowKit Go.WideShapes
set_option linter.unusedVariables false
theorem arg_int {H : Type} {enc : TypeId × Value → H} {W : World} {fuel : Nat} {cs : List Value} {x : DataW H × List MemPlace} (h : DataW.trod enc Tryd.prog W 0 (fun _ => true) true fuel 3 cs = some x) :
    ∃ n : Int, cs = [.int .i64 n] ∧ -9223372036854775808 ≤ n ∧ n ≤ 9223372036854775807 := by
  obtain ⟨n, e, _, hw⟩ := DataW.trod_int Tryd.underlying3 h
  simp only [Lit.wf, Bool.and_eq_true, decide_eq_true_eq] at hw
  exact ⟨n, e, hw.1, hw.2⟩
end Go.Proofs.YtkimgmgafkihaaaDoor
