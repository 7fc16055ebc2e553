/- What WholeDivides wants of numbers: greatest divisors, and their quotients. -/
import Derived.Test.YtdcadiaeaclpgaaGreatDoorRga
namespace Go.Proofs.YtdcadiaeaclpgaaGreatDoor
open Go.RowKit Go.Lib Go.Sort
set_option linter.unusedVariables false
theorem gcd_lt {x y:Int} {k:Nat} (h1:x.natAbs<256 ^ k) (h2:y.natAbs<256 ^ k):Int.gcd x y<256 ^ k:=by
 unfold Int.gcd
 rcases Nat.eq_zero_or_pos y.natAbs with h|h
 ·rw [h,Nat.gcd_zero_right];exact h1
 ·exact Nat.lt_of_le_of_lt (Nat.le_of_dvd h (Nat.gcd_dvd_right _ _)) h2
def rby (x y:Int):Int:=if y<0 then -((Int.gcd x y:Nat):Int)else((Int.gcd x y:Nat):Int)
def rd (x y:Int):Int:=y / rby x y
end Go.Proofs.YtdcadiaeaclpgaaGreatDoor
