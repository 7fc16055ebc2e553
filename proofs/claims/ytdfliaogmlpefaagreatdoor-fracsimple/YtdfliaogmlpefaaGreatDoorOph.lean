/-
  FracOne of any fraction and any two numbers.
-/
import Derived.Test.YtdfliaogmlpefaaGreatDoorBunFre
import Derived.Deep.RegionWith
import Derived.Deep.RegionHeld3
import Derived.Test.YtdfliaogmlpefaaGreatDoorFru
import Derived.Deep.CutRange
import Derived.Test.YtdfliaogmlpefaaGreatDoorBunWor
import Derived.Test.YtdfliaogmlpefaaGreatDoorBunTtm
import Derived.Test.YtdfliaogmlpefaaGreatDoorBunRdn
import Derived.Test.YtdfliaogmlpefaaGreatDoorBunDva
import Derived.Test.YtdfliaogmlpefaaGreatDoorBunPrg
import Derived.Test.YtdfliaogmlpefaaGreatDoorBunRed
import Derived.Test.YtdfliaogmlpefaaGreatDoorBunPrd
import Derived.Test.YtdfliaogmlpefaaGreatDoorRdm
import Derived.Test.YtdfliaogmlpefaaGreatDoorBunFrp
import Derived.Test.YtdfliaogmlpefaaGreatDoorRue
import Derived.Test.YtdfliaogmlpefaaGreatDoorBunOnh
import Derived.Test.YtdfliaogmlpefaaGreatDoorRfr
import Derived.Test.YtdfliaogmlpefaaGreatDoorBunFrz
import Derived.Test.YtdfliaogmlpefaaGreatDoorFrv
namespace Go.Proofs.YtdfliaogmlpefaaGreatDoor
open Go.RowKit Go.Lib Go.Sort
set_option linter.unusedVariables false
theorem of_is {z : Int} {n : Bool} {s : ByteArray} (h0 : -9223372036854775808 ≤ z) (h1 : z ≤ 9223372036854775807) (hz : IsZ z n s) (w : World) :
    Calls Tryz.prog 52 #[.int .i64 z] w fun e w' => e = .returned (whole n s) ∧ w.grownBy w' none := by
  refine (of_any z h0 h1 w).mono ?_
  rintro e w' ⟨s0, rfl, hs, hg⟩
  have hz0 : IsZ z (decide (z < 0)) s0 := ⟨rfl, hs⟩
  exact ⟨by rw [hz0.one hz], hg⟩
theorem rof_is {z : Int} {n : Bool} {s : ByteArray} (h0 : -9223372036854775808 ≤ z) (h1 : z ≤ 9223372036854775807) (hz : IsZ z n s) (w : World) :
    Calls Tryz.prog 47 #[.int .i64 z] w fun e w' => e = .returned (whole n s) ∧ w.grownBy w' none := by
  refine (rOf_any z h0 h1 w).mono ?_
  rintro e w' ⟨s0, rfl, hs, hg⟩
  have hz0 : IsZ z (decide (z < 0)) s0 := ⟨rfl, hs⟩
  exact ⟨by rw [hz0.one hz], hg⟩
theorem ngs_call {x y : Int} {n d : Bool} {s t : ByteArray} (h : IsQ x y n s d t) (w : World) :
    Calls Tryz.prog 12 #[frac n s d t] w fun e w' => e = .returned (.tuple #[frac (ngs n s) s d t, .int .i64 0]) ∧ w.grownBy w' none :=
  fneg_by n d (ngs n s) s t s (fun w => h.call w) (fun w => opposite_by n d (ngs n s) s t s (fun w => neg_yes n s (by have := may_size (h.zn.may (by decide)); unfold maxLen; omega) (h.zn.may (by decide)) w) w) w
theorem told_q {x y : Int} {n d : Bool} {s t : ByteArray} (h : IsQ x y n s d t) (w : World) :
    Calls Tryz.prog 21 #[frac n s d t, .int .i64 0, frac n s d t, .bool true] w fun e w' => e = .returned (.bool true) ∧ w.grownBy w' none := by
  have := told_yes n d s t (by have := may_size (h.zn.may (by decide)); unfold maxLen; omega) (by have := may_size (h.zd.may (by decide)); unfold maxLen; omega) w
  rw [(told_fit h).1, (told_fit h).2] at this
  exact this
theorem may_q {n d b : Bool} {s t : ByteArray} (z1 : s.size ≤ maxLen) (z2 : t.size ≤ maxLen) (h : mayQ n s d t = b) :
    (Hid (∀ w, Calls Tryz.prog 40 #[frac n s d t] w fun e w' => e = .returned (.bool b) ∧ w.grownBy w' none)) ∧
    Hid (∀ w, Calls Tryz.prog 11 #[frac n s d t] w fun e w' => e = .returned (.bool b) ∧ w.grownBy w' none) := by
  subst h
  exact ⟨fun w => mayq_any n d s t z1 z2 w, fun w => rmayq_any n d s t z1 z2 w⟩
end Go.Proofs.YtdfliaogmlpefaaGreatDoor
