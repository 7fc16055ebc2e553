/-
  The program's Conj.
-/
import Derived.Test.YthldipnfaiobaaaDoorPrd
namespace Go.Proofs.YthldipnfaiobaaaDoor
open Go.RowKit Go.Lib Go.Sort
set_option linter.unusedVariables false
set_option linter.unusedSimpArgs false
theorem checked_two (w : World) (v u : Value) (L B : List Int) (h : Ints w v L) (hu : Ints w u B) (hl : L.length ≤ 1000000000000) (hl2 : B.length ≤ 1000000000000) :
    Calls Tryd.prog 49 #[.slice (some ⟨w.heap.size, 0, none⟩) 2 2] (w.alloc (.cells #[v, u] 22)) fun e w' => e = .returned (.int .i64 (chk [L, B])) ∧ w.grownBy w' none := by
  refine (checked_any _ _ [L, B] (intsL2 h hu) (by simp) (by intro M hM; simp at hM; rcases hM with rfl | rfl <;> assumption)).mono ?_
  rintro e w' ⟨rfl, rfl⟩
  exact ⟨rfl, grow1 _ _⟩
end Go.Proofs.YthldipnfaiobaaaDoor
