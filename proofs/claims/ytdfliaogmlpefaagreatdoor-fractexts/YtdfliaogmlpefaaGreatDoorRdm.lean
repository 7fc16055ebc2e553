/-
  The document's DivMod.
-/
import Derived.Test.YtdfliaogmlpefaaGreatDoorBunRdv
import Derived.Test.YtdfliaogmlpefaaGreatDoorBunDva
import Derived.Test.YtdfliaogmlpefaaGreatDoorBunPrg
namespace Go.Proofs.YtdfliaogmlpefaaGreatDoor
open Go.RowKit Go.Lib Go.Sort
end Go.Proofs.YtdfliaogmlpefaaGreatDoor
