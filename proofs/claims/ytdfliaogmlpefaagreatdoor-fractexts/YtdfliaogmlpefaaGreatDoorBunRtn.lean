/-
  Roots of numbers: Newton from above.
  The program's rootWord: the root of a word, bit by bit.
-/
import Derived.Test.YtdfliaogmlpefaaGreatDoorBunAll
import Derived.Laws.BitsAllLaws
namespace Go.Proofs.YtdfliaogmlpefaaGreatDoor
end Go.Proofs.YtdfliaogmlpefaaGreatDoor
namespace Go.Proofs.YtdfliaogmlpefaaGreatDoor
open Go.RowKit Go.Lib Go.Sort
end Go.Proofs.YtdfliaogmlpefaaGreatDoor
