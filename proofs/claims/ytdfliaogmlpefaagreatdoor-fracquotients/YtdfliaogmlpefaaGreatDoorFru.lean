/-
  frac's Sub, Mul, Div, Cmp of any two; the document's.
-/
import Derived.Test.YtdfliaogmlpefaaGreatDoorBunFre
import Derived.Deep.RegionWith
import Derived.Deep.CutRange
namespace Go.Proofs.YtdfliaogmlpefaaGreatDoor
open Go.RowKit Go.Lib Go.Sort
set_option linter.unusedVariables false
theorem nonempty_q {m : ByteArray} (h : m.size ≠ 0) : (m.toList == []) = false := by
  rw [beq_eq_false_iff_ne]
  intro e
  have := congrArg List.length e
  rw [ByteArray.toList_eq, Array.length_toList] at this
  exact h this
theorem sub_is {k : Nat} {x y : Int} {n1 n2 n' : Bool} {s1 s2 s' : ByteArray} (hk : k + 1 ≤ 16384) (h1 : Sz k x n1 s1) (h2 : Sz k y n2 s2) (hq : IsZ (x - y) n' s') (w : World) :
    Calls Tryz.prog 57 #[whole n1 s1, whole n2 s2] w fun e w' => e = .returned (.tuple #[whole n' s', .int .i64 0]) ∧ w.grownBy w' none := by
  refine (sub_sz hk h1 h2 w).mono ?_
  rintro e w' ⟨n, s, rfl, hz, hg⟩
  obtain ⟨rfl, rfl⟩ := whole_inj (hz.1.one hq)
  exact ⟨rfl, hg⟩
theorem mul_ne {y v : Int} (a : 0 < y) (b : 0 < v) : y * v ≠ 0 := Int.ne_of_gt (Int.mul_pos a b)
end Go.Proofs.YtdfliaogmlpefaaGreatDoor
