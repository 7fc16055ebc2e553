/-
  The document's Of, of any two numbers that may be.
-/
import Derived.Test.YtdcadiaeaclpgaaGreatDoorFrk
import Derived.Test.YtdcadiaeaclpgaaGreatDoorRgc
import Derived.Test.YtdcadiaeaclpgaaGreatDoorBunRdv
import Derived.Test.YtdcadiaeaclpgaaGreatDoorBunOps
import Derived.Test.YtdcadiaeaclpgaaGreatDoorBunRdn
import Derived.Test.YtdcadiaeaclpgaaGreatDoorBunTtm
import Derived.Test.YtdcadiaeaclpgaaGreatDoorBunAll
namespace Go.Proofs.YtdcadiaeaclpgaaGreatDoor
open Go.RowKit Go.Lib Go.Sort
set_option linter.unusedVariables false
theorem rgcd_is {k : Nat} {x y : Int} {n d : Bool} {s t sg : ByteArray} (hk : k ≤ 16384) (h1 : Sz k x n s) (h2 : Sz k y d t) (hg : IsZ ((Int.gcd x y : Nat) : Int) false sg) (w : World) :
    Calls Tryz.prog 145 #[whole n s, whole d t] w fun e w' => e = .returned (whole false sg) ∧ w.grownBy w' none := by
  refine (rGcd_any n d s t (h1.may hk) (h2.may hk) w).mono ?_
  rintro e w' ⟨s0, rfl, hs, hgw⟩
  have e1 := num_abs n s
  have e2 := num_abs d t
  rw [h1.num] at e1
  rw [h2.num] at e2
  rw [← e1, ← e2] at hs
  have hz0 : IsZ ((Int.gcd x y : Nat) : Int) false s0 := ⟨by symm; exact decide_eq_false (by omega), by rw [Int.natAbs_natCast]; exact hs⟩
  exact ⟨by rw [hz0.one hg], hgw⟩
end Go.Proofs.YtdcadiaeaclpgaaGreatDoor
