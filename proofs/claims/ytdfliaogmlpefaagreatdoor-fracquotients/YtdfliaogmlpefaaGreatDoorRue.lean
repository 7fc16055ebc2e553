/-
  frac's functions of what has a value; the laws' same, cmp.
-/
import Derived.Test.YtdfliaogmlpefaaGreatDoorBunGar
import Derived.Test.YtdfliaogmlpefaaGreatDoorBunFrp
namespace Go.Proofs.YtdfliaogmlpefaaGreatDoor
open Go.RowKit Go.Lib Go.Sort
set_option linter.unusedVariables false
theorem sgn_cmp {n : Bool} {s : ByteArray} (h : may n s = true) : sgn n s = cmpZ (num n s) 0 := by
  unfold cmpZ
  rcases sgn_cases h with ⟨a, _, c, _⟩ | ⟨a, _, c, _⟩ | ⟨a, _, c, _⟩
  · rw [if_neg (by omega), if_pos (by omega), a]
  · rw [if_neg (by omega), if_neg (by omega), a]
  · rw [if_pos (by omega), a]
end Go.Proofs.YtdfliaogmlpefaaGreatDoor
