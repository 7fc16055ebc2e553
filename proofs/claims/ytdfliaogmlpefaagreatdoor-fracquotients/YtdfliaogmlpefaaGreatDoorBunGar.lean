/-
  What WholeDivides wants of numbers: greatest divisors, and their quotients.
  Fractions in lowest terms, over Int.
-/
import Derived.Test.YtdfliaogmlpefaaGreatDoorRga
namespace Go.Proofs.YtdfliaogmlpefaaGreatDoor
open Go.RowKit Go.Lib Go.Sort
set_option linter.unusedVariables false
theorem gcd_lt {x y : Int} {k : Nat} (h1 : x.natAbs < 256 ^ k) (h2 : y.natAbs < 256 ^ k) : Int.gcd x y < 256 ^ k := by
  unfold Int.gcd
  rcases Nat.eq_zero_or_pos y.natAbs with h | h
  · rw [h, Nat.gcd_zero_right]; exact h1
  · exact Nat.lt_of_le_of_lt (Nat.le_of_dvd h (Nat.gcd_dvd_right _ _)) h2
def rby (x y : Int) : Int := if y < 0 then -((Int.gcd x y : Nat) : Int) else ((Int.gcd x y : Nat) : Int)
def rn (x y : Int) : Int := x / rby x y
def rd (x y : Int) : Int := y / rby x y
theorem gcd_pos_of {x y : Int} (h : y ≠ 0) : 0 < Int.gcd x y := by
  refine Nat.pos_of_ne_zero fun e => h ?_
  exact (Int.gcd_eq_zero_iff.1 e).2
theorem rby_ne {x y : Int} (h : y ≠ 0) : rby x y ≠ 0 := by
  have := gcd_pos_of (x := x) h
  unfold rby
  split <;> omega
theorem rby_dvd (x y : Int) : rby x y ∣ x ∧ rby x y ∣ y := by
  unfold rby
  split
  · exact ⟨Int.neg_dvd.2 (Int.gcd_dvd_left ..), Int.neg_dvd.2 (Int.gcd_dvd_right ..)⟩
  · exact ⟨Int.gcd_dvd_left .., Int.gcd_dvd_right ..⟩
theorem rn_mul (x y : Int) : rn x y * rby x y = x := Int.ediv_mul_cancel (rby_dvd x y).1
theorem rd_mul (x y : Int) : rd x y * rby x y = y := Int.ediv_mul_cancel (rby_dvd x y).2
theorem rn_mod (x y : Int) : x % rby x y = 0 := Int.emod_eq_zero_of_dvd (rby_dvd x y).1
theorem rd_mod (x y : Int) : y % rby x y = 0 := Int.emod_eq_zero_of_dvd (rby_dvd x y).2
theorem rd_pos {x y : Int} (h : y ≠ 0) : 0 < rd x y := by
  have h1 := rd_mul x y
  have h2 := gcd_pos_of (x := x) h
  unfold rby at h1
  split at h1
  · rename_i hy
    rcases Int.lt_trichotomy (rd x y) 0 with h3 | h3 | h3
    · have : 0 ≤ rd x y * -((Int.gcd x y : Nat) : Int) := by
        have := Int.mul_nonneg (show 0 ≤ -rd x y by omega) (show (0 : Int) ≤ ((Int.gcd x y : Nat) : Int) by omega)
        rw [Int.neg_mul] at this
        rw [Int.mul_neg]; exact this
      omega
    · rw [h3] at h1; omega
    · exact h3
  · rename_i hy
    rcases Int.lt_trichotomy (rd x y) 0 with h3 | h3 | h3
    · have : 0 ≤ -rd x y * ((Int.gcd x y : Nat) : Int) := Int.mul_nonneg (by omega) (by omega)
      rw [Int.neg_mul] at this
      omega
    · rw [h3] at h1; omega
    · exact h3
theorem gcd_rby (x y : Int) : (rby x y).natAbs = Int.gcd x y := by
  unfold rby
  split <;> omega
theorem rnd_gcd {x y : Int} (h : y ≠ 0) : Int.gcd (rn x y) (rd x y) = 1 := by
  have h1 := Int.gcd_mul_right (rn x y) (rby x y) (rd x y)
  rw [rn_mul, rd_mul, gcd_rby] at h1
  have h2 := gcd_pos_of (x := x) h
  have : 1 * Int.gcd x y = Int.gcd (rn x y) (rd x y) * Int.gcd x y := by omega
  exact (Nat.eq_of_mul_eq_mul_right h2 this).symm
theorem rn_cross (x y : Int) : rn x y * y = x * rd x y := by
  have h1 := rn_mul x y
  have h2 := rd_mul x y
  generalize hb : rby x y = b at *
  generalize hn : rn x y = n at *
  generalize hd : rd x y = d at *
  rw [← h1, ← h2, Int.mul_assoc, Int.mul_comm b d]
theorem dvd_of_cop {a b d : Int} (h : Int.gcd a b = 1) (hd : b ∣ a * d) : b ∣ d := by
  have h1 : b.natAbs ∣ a.natAbs * d.natAbs := by rw [← Int.natAbs_mul]; exact Int.natAbs_dvd_natAbs.2 hd
  have h2 : Nat.Coprime b.natAbs a.natAbs := by rw [Nat.coprime_comm]; exact h
  exact Int.natAbs_dvd_natAbs.1 (Nat.Coprime.dvd_of_dvd_mul_left h2 h1)
theorem low_one {a b c d : Int} (hb : 0 < b) (hd : 0 < d) (h1 : Int.gcd a b = 1) (h2 : Int.gcd c d = 1) (h : a * d = c * b) : a = c ∧ b = d := by
  have e1 : b ∣ d := by
    have : b ∣ a * d := ⟨c, by rw [h, Int.mul_comm]⟩
    exact dvd_of_cop h1 this
  have e2 : d ∣ b := by
    have : d ∣ c * b := ⟨a, by rw [← h, Int.mul_comm]⟩
    exact dvd_of_cop h2 this
  have hbd : b = d := Int.dvd_antisymm (by omega) (by omega) e1 e2
  subst hbd
  exact ⟨Int.eq_of_mul_eq_mul_right (by omega) h, rfl⟩
theorem rnd_one {x y a b : Int} (hy : y ≠ 0) (hb : 0 < b) (h : Int.gcd a b = 1) (e : a * y = x * b) : a = rn x y ∧ b = rd x y := by
  refine low_one hb (rd_pos hy) h (rnd_gcd hy) ?_
  have h1 := rn_cross x y
  apply Int.eq_of_mul_eq_mul_right hy
  calc a * rd x y * y = a * y * rd x y := by rw [Int.mul_assoc, Int.mul_comm (rd x y), ← Int.mul_assoc]
    _ = x * b * rd x y := by rw [e]
    _ = x * rd x y * b := by rw [Int.mul_assoc, Int.mul_comm b, ← Int.mul_assoc]
    _ = rn x y * y * b := by rw [h1]
    _ = rn x y * b * y := by rw [Int.mul_assoc, Int.mul_comm y, ← Int.mul_assoc]
theorem rnd_low {a b : Int} (hb : 0 < b) (h : Int.gcd a b = 1) : rn a b = a ∧ rd a b = b := by
  have := rnd_one (x := a) (y := b) (a := a) (b := b) (by omega) hb h rfl
  exact ⟨this.1.symm, this.2.symm⟩
end Go.Proofs.YtdfliaogmlpefaaGreatDoor
