/-
  The law WordsProducts: its walk.
-/
import Derived.Test.YthldipnfaiobaaaDoorWsb
import Derived.Test.YthldipnfaiobaaaDoorRoo
import Derived.Test.YthldipnfaiobaaaDoorLwa
import Derived.Test.YthldipnfaiobaaaDoorCnc
import Derived.Test.YthldipnfaiobaaaDoorTop
namespace Go.Proofs.YthldipnfaiobaaaDoor
open Go.RowKit Go.Lib Go.Sort
set_option linter.unusedVariables false
set_option linter.unusedSimpArgs false
theorem told_three (w1 w2 w3 w4 : World) (a b t : Value) (r : Int) (A : List Int) (ha : Fr w2 w1.heap.size a A) (hb : Fr w3 w2.heap.size b A) (ht : Fr w4 w3.heap.size t A) (g12 : w1.grownBy w2 none) (g23 : w2.grownBy w3 none) (g34 : w3.grownBy w4 none) (hl : A.length ≤ 100000) :
    Calls Tryd.prog 21 #[a, b, .int .i64 r, t, .int .i64 r] w4 fun e w' => e = .returned (.bool true) ∧ w1.grownBy w' none := by
  have ha4 : Fr w4 w1.heap.size a A := ha.kept0 (grownBy_trans g23 g34)
  refine (told_at w4 a b t r A w1.heap.size w2.heap.size w2.heap.size w3.heap.size w3.heap.size w4.heap.size ha4 (fun g hg => (ha.blk g hg).2) (hb.at.kept0 g34) ht.at hl (.inl (Nat.le_refl _)) (.inl g23.size)).mono ?_
  rintro e w' ⟨rfl, hg⟩
  exact ⟨rfl, grown_fr (grownBy_trans g12 (grownBy_trans g23 g34)) ha4 (Nat.le_refl _) hg⟩
end Go.Proofs.YthldipnfaiobaaaDoor
