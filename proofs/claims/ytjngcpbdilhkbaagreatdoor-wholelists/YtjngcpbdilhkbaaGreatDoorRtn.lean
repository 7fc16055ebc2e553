/-
  Roots of numbers: Newton from above.
-/
import Derived.Test.YtjngcpbdilhkbaaGreatDoorBunAll
namespace Go.Proofs.YtjngcpbdilhkbaaGreatDoor
theorem amgm (r s : Nat) : 4 * (r * s) ≤ (r + s) * (r + s) := by
  rcases Nat.le_total r s with h | h
  · obtain ⟨k, rfl⟩ := Nat.exists_eq_add_of_le h
    have e : (r + (r + k)) * (r + (r + k)) = 4 * (r * (r + k)) + k * k := by grind
    omega
  · obtain ⟨k, rfl⟩ := Nat.exists_eq_add_of_le h
    have e : (s + k + s) * (s + k + s) = 4 * ((s + k) * s) + k * k := by grind
    omega
theorem newton_up {N r : Nat} (hr : 0 < r) : N < ((N / r + r) / 2 + 1) * ((N / r + r) / 2 + 1) := by
  have h1 := Nat.lt_mul_div_succ N hr
  obtain ⟨q, hq⟩ : ∃ q, N / r = q := ⟨_, rfl⟩
  rw [hq] at h1 ⊢
  obtain ⟨t, ht⟩ : ∃ t, (q + r) / 2 = t := ⟨_, rfl⟩
  have h2 : r + (q + 1) ≤ 2 * (t + 1) := by omega
  have h3 := Nat.mul_le_mul h2 h2
  have h4 := amgm r (q + 1)
  have e : 2 * (t + 1) * (2 * (t + 1)) = 4 * ((t + 1) * (t + 1)) := by grind
  rw [ht]
  omega
theorem newton_stop {N r : Nat} (h : r ≤ (N / r + r) / 2) : r * r ≤ N :=
  Nat.le_trans (Nat.mul_le_mul_left r (show r ≤ N / r by omega)) (Nat.mul_div_le N r)
theorem root_start {N s h : Nat} (hs : N / 2 ^ (2 * h) < (s + 1) * (s + 1)) : N < (s + 1) * 2 ^ h * ((s + 1) * 2 ^ h) := by
  have hp := Nat.two_pow_pos (2 * h)
  have h1 : N < (s + 1) * (s + 1) * 2 ^ (2 * h) := (Nat.div_lt_iff_lt_mul hp).1 hs
  have e : (s + 1) * 2 ^ h * ((s + 1) * 2 ^ h) = (s + 1) * (s + 1) * 2 ^ (2 * h) := by
    rw [show 2 * h = h + h by omega, Nat.pow_add]; grind
  rw [e]; exact h1
/-- From above: not below the root, and at the root where the next one is not less. -/
theorem root_one {N r : Nat} (h1 : r * r ≤ N) (h2 : N < (r + 1) * (r + 1)) {s : Nat} (h3 : s * s ≤ N) (h4 : N < (s + 1) * (s + 1)) : r = s := by
  rcases Nat.lt_trichotomy r s with k | k | k
  · have := Nat.mul_le_mul (show r + 1 ≤ s by omega) (show r + 1 ≤ s by omega); omega
  · exact k
  · have := Nat.mul_le_mul (show s + 1 ≤ r by omega) (show s + 1 ≤ r by omega); omega
end Go.Proofs.YtjngcpbdilhkbaaGreatDoor
