/-
  FracOne of any fraction and any two numbers.
-/
import Derived.Test.YtdfliaogmlpefaaGreatDoorBunFre
import Derived.Deep.RegionWith
import Derived.Deep.RegionHeld3
import Derived.Test.YtdfliaogmlpefaaGreatDoorBunOnc
import Derived.Test.YtdfliaogmlpefaaGreatDoorBunOnh
import Derived.Test.YtdfliaogmlpefaaGreatDoorBunRfq
import Derived.Test.YtdfliaogmlpefaaGreatDoorBunFrz
import Derived.Test.YtdfliaogmlpefaaGreatDoorFrv
namespace Go.Proofs.YtdfliaogmlpefaaGreatDoor
open Go.RowKit Go.Lib Go.Sort
set_option linter.unusedVariables false
theorem of_is {z : Int} {n : Bool} {s : ByteArray} (h0 : -9223372036854775808 ≤ z) (h1 : z ≤ 9223372036854775807) (hz : IsZ z n s) (w : World) :
    Calls Tryz.prog 52 #[.int .i64 z] w fun e w' => e = .returned (whole n s) ∧ w.grownBy w' none := by
  refine (of_any z h0 h1 w).mono ?_
  rintro e w' ⟨s0, rfl, hs, hg⟩
  have hz0 : IsZ z (decide (z < 0)) s0 := ⟨rfl, hs⟩
  exact ⟨by rw [hz0.one hz], hg⟩
theorem IsQ.abs {x y : Int} {n d : Bool} {s t : ByteArray} (h : IsQ x y n s d t) : IsQ (x.natAbs : Int) y false s d t := by
  refine ⟨⟨⟨by symm; exact decide_eq_false (by omega), by rw [Int.natAbs_natCast]; exact h.zn.1.2⟩, by rw [Int.natAbs_natCast]; exact h.zn.2⟩, h.zd, h.pos, ?_⟩
  have := h.low
  unfold Int.gcd at *
  rw [Int.natAbs_natCast]
  exact this
theorem may_q {n d b : Bool} {s t : ByteArray} (z1 : s.size ≤ maxLen) (z2 : t.size ≤ maxLen) (h : mayQ n s d t = b) :
    (Hid (∀ w, Calls Tryz.prog 40 #[frac n s d t] w fun e w' => e = .returned (.bool b) ∧ w.grownBy w' none)) ∧
    Hid (∀ w, Calls Tryz.prog 11 #[frac n s d t] w fun e w' => e = .returned (.bool b) ∧ w.grownBy w' none) := by
  subst h
  exact ⟨fun w => mayq_any n d s t z1 z2 w, fun w => rmayq_any n d s t z1 z2 w⟩
end Go.Proofs.YtdfliaogmlpefaaGreatDoor
