/-
  Alike: the program's; the document's Commute and Alike.
-/
import Derived.Test.YthldipnfaiobaaaDoorCnc
import Derived.Test.YthldipnfaiobaaaDoorKmp
import Derived.Test.YthldipnfaiobaaaDoorCnj
import Derived.Test.YthldipnfaiobaaaDoorRma
import Derived.Test.YthldipnfaiobaaaDoorRoo
import Derived.Test.YthldipnfaiobaaaDoorTld
import Derived.Test.YthldipnfaiobaaaDoorRmu
namespace Go.Proofs.YthldipnfaiobaaaDoor
open Go.RowKit Go.Lib Go.Sort
set_option linter.unusedVariables false
set_option linter.unusedSimpArgs false
theorem rJoined_two (w : World) (v u : Value) (L B : List Int) (hv : Ints w v L) (hu : Ints w u B) (hl : (L ++ B).length ≤ 1000000000) :
    Calls Tryd.prog 59 #[.slice (some ⟨w.heap.size, 0, none⟩) 2 2] (w.alloc (.cells #[v, u] 22)) fun e w' => ∃ v', e = .returned v' ∧ Own w' w.heap.size v' (L ++ B) ∧ w.grownBy w' none := by
  have ef : [L, B].flatten = L ++ B := by simp
  refine (rJoined_any _ _ [L, B] (intsL2 hv hu) (by simp) (by rw [ef]; exact hl)).mono ?_
  rintro e w' ⟨v', rfl, hO, hG⟩
  rw [ef] at hO
  exact ⟨v', rfl, hO.mono (grow1 w _).size, grownBy_trans (grow1 _ _) hG⟩
end Go.Proofs.YthldipnfaiobaaaDoor
