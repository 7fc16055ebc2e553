/-
  The law WordsShort: its walk.
-/
import Derived.Test.YthldipnfaiobaaaDoorWsa
namespace Go.Proofs.YthldipnfaiobaaaDoor
open Go.RowKit Go.Lib Go.Sort
set_option linter.unusedVariables false
set_option linter.unusedSimpArgs false
theorem grown_fr {w w1 w2 : World} {a : Value} {A : List Int} {base : Nat} (h : w.grownBy w1 none) (ha : Fr w1 base a A) (hb : w.heap.size ≤ base) (hg : w1.grownBy w2 a.ownBlock) : w.grownBy w2 none := by
  cases hv : a.ownBlock with
  | none => rw [hv] at hg; exact grownBy_trans h hg
  | some g => rw [hv] at hg; exact grownBy_new h (Nat.le_trans hb (ha.blk g hv).1) hg
end Go.Proofs.YthldipnfaiobaaaDoor
