/-
  What WholeDivides wants of numbers: greatest divisors, and their quotients.
-/
import Derived.Test.YtjngcpbdilhkbaaGreatDoorRga
namespace Go.Proofs.YtjngcpbdilhkbaaGreatDoor
open Go.RowKit Go.Lib Go.Sort
set_option linter.unusedVariables false

theorem gcd_lt {x y : Int} {k : Nat} (h1 : x.natAbs < 256 ^ k) (h2 : y.natAbs < 256 ^ k) : Int.gcd x y < 256 ^ k := by
  unfold Int.gcd
  rcases Nat.eq_zero_or_pos y.natAbs with h | h
  · rw [h, Nat.gcd_zero_right]; exact h1
  · exact Nat.lt_of_le_of_lt (Nat.le_of_dvd h (Nat.gcd_dvd_right _ _)) h2
theorem gcd_swap (x y : Int) : (Int.gcd y x : Int) = Int.gcd x y := by rw [Int.gcd_comm]
theorem gcd_turn (x y : Int) : (Int.gcd (-y) x : Int) = Int.gcd x y := by rw [Int.neg_gcd, Int.gcd_comm]
theorem gcd_rest1 (x y : Int) : x % (Int.gcd x y : Int) = 0 := Int.emod_eq_zero_of_dvd (Int.gcd_dvd_left ..)
theorem gcd_rest2 (x y : Int) : y % (Int.gcd x y : Int) = 0 := Int.emod_eq_zero_of_dvd (Int.gcd_dvd_right ..)
theorem gcd_quots (x y : Int) (h : (Int.gcd x y : Int) ≠ 0) : (Int.gcd (x / (Int.gcd x y : Int)) (y / (Int.gcd x y : Int)) : Int) = 1 := by
  obtain ⟨a, ha⟩ : (Int.gcd x y : Int) ∣ x := Int.gcd_dvd_left ..
  obtain ⟨b, hb⟩ : (Int.gcd x y : Int) ∣ y := Int.gcd_dvd_right ..
  generalize hg : Int.gcd x y = g at *
  have e1 : x / (g : Int) = a := by rw [ha]; exact Int.mul_ediv_cancel_left a h
  have e2 : y / (g : Int) = b := by rw [hb]; exact Int.mul_ediv_cancel_left b h
  rw [e1, e2]
  have h3 : Int.gcd x y = g * Int.gcd a b := by
    have := Int.gcd_mul_left g a b
    rw [← ha, ← hb] at this
    simpa using this
  rw [hg] at h3
  have hp : 0 < g := by omega
  have : g * Int.gcd a b = g * 1 := by omega
  have := Nat.eq_of_mul_eq_mul_left hp this
  omega
theorem quot_back (x y : Int) : x / y * y + x % y = x := by
  have := Int.emod_add_mul_ediv x y
  rw [Int.mul_comm]
  omega
theorem cmp_rest (x y : Int) (h : y ≠ 0) : cmpZ (x % y) (y.natAbs : Int) = -1 := by
  have h2 := Int.emod_nonneg x h
  have h3 := Int.emod_lt x h
  unfold cmpZ
  rw [if_pos (by omega)]
theorem cmp_rest0 (x y : Int) (h : y ≠ 0) : 0 ≤ cmpZ (x % y) 0 := by
  have h2 := Int.emod_nonneg x h
  unfold cmpZ
  repeat' split
  all_goals omega
theorem cmp_le {d r : Nat} (h : d ≤ r + r) : cmpZ (d : Int) ((r : Int) + r) ≤ 0 := by
  unfold cmpZ
  repeat' split
  all_goals omega
end Go.Proofs.YtjngcpbdilhkbaaGreatDoor
