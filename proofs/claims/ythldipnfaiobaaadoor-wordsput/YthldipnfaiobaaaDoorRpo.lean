/-
  The document's Pow.
-/
import Derived.Test.YthldipnfaiobaaaDoorRma
import Derived.Test.YthldipnfaiobaaaDoorRoo
import Derived.Test.YthldipnfaiobaaaDoorTld
import Derived.Test.YthldipnfaiobaaaDoorRmu
namespace Go.Proofs.YthldipnfaiobaaaDoor
open Go.RowKit Go.Lib Go.Sort
set_option linter.unusedVariables false
set_option linter.unusedSimpArgs false
theorem Told1.mono {w w0 : World} {e : Ending} {w' : World} {r : Int} {L : List Int} (h : Told1 w e w' r L) (hg : w0.grownBy w none) : Told1 w0 e w' r L := by
  obtain ⟨h1, v', h2, h3⟩ := h
  exact ⟨grownBy_trans hg h1, v', h2, h3.mono hg.size⟩
end Go.Proofs.YthldipnfaiobaaaDoor
