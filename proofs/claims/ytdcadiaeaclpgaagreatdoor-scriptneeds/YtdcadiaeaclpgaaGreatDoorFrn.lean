/-
  The laws' known, of what it asks.
-/
import Derived.Test.YtdcadiaeaclpgaaGreatDoorBunFrb
import Derived.Deep.RegionWith
import Derived.Test.YtdcadiaeaclpgaaGreatDoorFri
namespace Go.Proofs.YtdcadiaeaclpgaaGreatDoor
open Go.RowKit Go.Lib Go.Sort
set_option linter.unusedVariables false
abbrev b1 : ByteArray := ⟨#[1]⟩
abbrev b2 : ByteArray := ⟨#[2]⟩
abbrev b3 : ByteArray := ⟨#[3]⟩
abbrev b6 : ByteArray := ⟨#[6]⟩
end Go.Proofs.YtdcadiaeaclpgaaGreatDoor
