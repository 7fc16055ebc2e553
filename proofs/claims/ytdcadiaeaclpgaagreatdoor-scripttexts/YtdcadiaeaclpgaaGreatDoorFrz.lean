/-
  frac's Nearest of a half; the laws' known.
-/
import Derived.Deep.CutRange
import Derived.Test.YtdcadiaeaclpgaaGreatDoorFri
import Derived.Test.YtdcadiaeaclpgaaGreatDoorBunFrk
import Derived.Test.YtdcadiaeaclpgaaGreatDoorBunFrb
import Derived.Deep.RegionWith
namespace Go.Proofs.YtdcadiaeaclpgaaGreatDoor
open Go.RowKit Go.Lib Go.Sort
set_option linter.unusedVariables false
theorem zero_z:IsZ 0 false eS:=⟨rfl,by rw [show Int.natAbs 0=0 from rfl,magN_zero]; rfl⟩
end Go.Proofs.YtdcadiaeaclpgaaGreatDoor
