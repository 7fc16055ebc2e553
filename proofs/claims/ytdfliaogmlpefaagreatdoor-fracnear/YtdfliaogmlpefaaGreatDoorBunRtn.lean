/-
  Roots of numbers: Newton from above.
  The program's rootWord: the root of a word, bit by bit.
-/
import Derived.Test.YtdfliaogmlpefaaGreatDoorBunAll
import Derived.Laws.BitsAllLaws
namespace Go.Proofs.YtdfliaogmlpefaaGreatDoor
set_option maxHeartbeats 1600000
set_option maxRecDepth 1000000
theorem amgm (r s : Nat) : 4 * (r * s) ≤ (r + s) * (r + s) := by
  rcases Nat.le_total r s with h | h
  · obtain ⟨k, rfl⟩ := Nat.exists_eq_add_of_le h
    have e : (r + (r + k)) * (r + (r + k)) = 4 * (r * (r + k)) + k * k := by grind
    omega
  · obtain ⟨k, rfl⟩ := Nat.exists_eq_add_of_le h
    have e : (s + k + s) * (s + k + s) = 4 * ((s + k) * s) + k * k := by grind
    omega
theorem newton_up {N r : Nat} (hr : 0 < r) : N < ((N / r + r) / 2 + 1) * ((N / r + r) / 2 + 1) := by
  have h1 := Nat.lt_mul_div_succ N hr
  obtain ⟨q, hq⟩ : ∃ q, N / r = q := ⟨_, rfl⟩
  rw [hq] at h1 ⊢
  obtain ⟨t, ht⟩ : ∃ t, (q + r) / 2 = t := ⟨_, rfl⟩
  have h2 : r + (q + 1) ≤ 2 * (t + 1) := by omega
  have h3 := Nat.mul_le_mul h2 h2
  have h4 := amgm r (q + 1)
  have e : 2 * (t + 1) * (2 * (t + 1)) = 4 * ((t + 1) * (t + 1)) := by grind
  rw [ht]
  omega
theorem newton_stop {N r : Nat} (h : r ≤ (N / r + r) / 2) : r * r ≤ N :=
  Nat.le_trans (Nat.mul_le_mul_left r (show r ≤ N / r by omega)) (Nat.mul_div_le N r)
theorem root_start {N s h : Nat} (hs : N / 2 ^ (2 * h) < (s + 1) * (s + 1)) : N < (s + 1) * 2 ^ h * ((s + 1) * 2 ^ h) := by
  have hp := Nat.two_pow_pos (2 * h)
  have h1 : N < (s + 1) * (s + 1) * 2 ^ (2 * h) := (Nat.div_lt_iff_lt_mul hp).1 hs
  have e : (s + 1) * 2 ^ h * ((s + 1) * 2 ^ h) = (s + 1) * (s + 1) * 2 ^ (2 * h) := by
    rw [show 2 * h = h + h by omega, Nat.pow_add]; grind
  rw [e]; exact h1
theorem root_one {N r : Nat} (h1 : r * r ≤ N) (h2 : N < (r + 1) * (r + 1)) {s : Nat} (h3 : s * s ≤ N) (h4 : N < (s + 1) * (s + 1)) : r = s := by
  rcases Nat.lt_trichotomy r s with k | k | k
  · have := Nat.mul_le_mul (show r + 1 ≤ s by omega) (show r + 1 ≤ s by omega); omega
  · exact k
  · have := Nat.mul_le_mul (show s + 1 ≤ r by omega) (show s + 1 ≤ r by omega); omega
end Go.Proofs.YtdfliaogmlpefaaGreatDoor
namespace Go.Proofs.YtdfliaogmlpefaaGreatDoor
open Go.RowKit Go.Lib Go.Sort
set_option maxHeartbeats 1600000
set_option maxRecDepth 1000000
theorem or_low (r k : Nat) (hr : r % 2 ^ (k + 1) = 0) (hr2 : r < 2 ^ 32) (hk : k < 32) : bits .or .u64 (r : Int) ((2 ^ k : Nat) : Int) = ((r + 2 ^ k : Nat) : Int) := by
  have hk2 : 2 ^ k < 2 ^ 32 := Nat.pow_lt_pow_right (by decide) hk
  have e32 : (2 : Nat) ^ 32 = 4294967296 := by decide
  rw [u64_or_nat r _ (by omega) (by omega)]
  obtain ⟨q, hq⟩ : ∃ q, r = 2 ^ (k + 1) * q := ⟨r / 2 ^ (k + 1), by have := Nat.div_add_mod r (2 ^ (k + 1)); omega⟩
  rw [hq, ← Nat.two_pow_add_eq_or_of_lt (i := k + 1) (Nat.pow_lt_pow_right (by decide) (by omega))]
theorem xor_back (r k : Nat) (hr : r % 2 ^ (k + 1) = 0) (hr2 : r < 2 ^ 32) (hk : k < 32) : bits .xor .u64 ((r + 2 ^ k : Nat) : Int) ((2 ^ k : Nat) : Int) = (r : Int) := by
  have hk2 : 2 ^ k < 2 ^ 32 := Nat.pow_lt_pow_right (by decide) hk
  have e32 : (2 : Nat) ^ 32 = 4294967296 := by decide
  rw [u64_xor_nat _ _ (by omega) (by omega)]
  obtain ⟨q, hq⟩ : ∃ q, r = 2 ^ (k + 1) * q := ⟨r / 2 ^ (k + 1), by have := Nat.div_add_mod r (2 ^ (k + 1)); omega⟩
  have e : r + 2 ^ k = r ^^^ 2 ^ k := by
    rw [hq, Nat.two_pow_add_eq_or_of_lt (i := k + 1) (Nat.pow_lt_pow_right (by decide) (by omega))]
    apply Nat.eq_of_testBit_eq
    intro i
    rw [Nat.testBit_or, Nat.testBit_xor]
    by_cases h : i < k + 1
    · have : (2 ^ (k + 1) * q).testBit i = false := by
        rw [Nat.testBit_two_pow_mul]; simp; omega
      rw [this]; simp
    · have : (2 ^ k).testBit i = false := by
        rw [Nat.testBit_two_pow]; simp; omega
      rw [this]; simp
  rw [e, Nat.xor_assoc, Nat.xor_self, Nat.xor_zero]
theorem half_pow (k : Nat) : 2 ^ k / 2 = if k = 0 then 0 else 2 ^ (k - 1) := by
  cases k with
  | zero => rfl
  | succ k => rw [if_neg (by omega), Nat.pow_succ, Nat.mul_div_cancel _ (by decide), Nat.add_sub_cancel]
theorem rootWord_any (n : Nat) (hn : n < 18446744073709551616) (w : World) :
    Calls Tryz.prog 177 #[.int .u64 (n : Int)] w fun e w' => ∃ r : Nat, e = .returned (.int .u64 (r : Int)) ∧ r * r ≤ n ∧ n < (r + 1) * (r + 1) ∧ r < 4294967296 ∧ w' = w := by
  have HN : Hid (n < 18446744073709551616) := hn
  go_enter Tryz.func177, Tryz.ntmps177
  go_wp2_with fail
  go_loopw [3, 4] (fun s t wr => ∃ j r : Nat, j ≤ 32 ∧ s = .int .u64 (r : Int) ∧ t = .int .u64 ((if j = 0 then 0 else 2 ^ (j - 1) : Nat) : Int) ∧ r % 2 ^ j = 0 ∧ r * r ≤ n ∧ n < (r + 2 ^ j) * (r + 2 ^ j) ∧ r + 2 ^ j ≤ 4294967296 ∧ wr = w) (fun _ t _ => (RowKit.intOf t).toNat)
  case atStart => exact ⟨32, 0, by omega, rfl, rfl, by simp, by omega, by have e : (0 + 2 ^ 32) * (0 + 2 ^ 32) = 18446744073709551616 := (by decide); rw [e]; exact HN.out, by decide, rfl⟩
  case round =>
    obtain ⟨j, r, hj, rfl, rfl, h1, h2, h3, h4, rfl⟩ := hrel
    cases j with
    | zero =>
      have HE : Hid (r * r ≤ n ∧ n < (r + 1) * (r + 1) ∧ r < 4294967296) := ⟨h2, by simpa using h3, by simp at h4; omega⟩
      clear h1 h2 h3 h4 hn
      simp only [if_true]
      go_wp2_with fail
      go_ret
      exact ⟨r, rfl, HE.out.1, HE.out.2.1, HE.out.2.2, rfl⟩
    | succ k =>
      rw [if_neg (by omega), Nat.add_sub_cancel]
      have hr32 : r < 2 ^ 32 := by have := Nat.two_pow_pos (k + 1); omega
      have ho := or_low r k h1 hr32 (by omega)
      have hx := xor_back r k h1 hr32 (by omega)
      have hpk : 2 ^ (k + 1) = 2 ^ k + 2 ^ k := by rw [Nat.pow_succ]; omega
      have hb0 := Nat.two_pow_pos k
      have HF : Hid (r % 2 ^ (k + 1) = 0 ∧ r * r ≤ n ∧ n < (r + 2 ^ (k + 1)) * (r + 2 ^ (k + 1)) ∧ r + 2 ^ (k + 1) ≤ 4294967296 ∧ k < 32) := ⟨h1, h2, h3, h4, by omega⟩
      have HH : Hid (2 ^ k / 2 = if k = 0 then 0 else 2 ^ (k - 1)) := half_pow k
      obtain ⟨b, hb⟩ : ∃ b, 2 ^ k = b := ⟨_, rfl⟩
      rw [hb] at ho hx hpk hb0 HH ⊢
      obtain ⟨x, hxx⟩ : ∃ x, r + b = x := ⟨_, rfl⟩
      rw [hxx] at ho hx
      have hxl : x ≤ 4294967295 := by omega
      obtain ⟨y, hy⟩ : ∃ y, x * x = y := ⟨_, rfl⟩
      have hyl : y ≤ 18446744065119617025 := by have := Nat.mul_le_mul hxl hxl; omega
      have hyI : (x : Int) * (x : Int) = (y : Int) := by rw [← hy]; push_cast; rfl
      have hylI : (y : Int) ≤ 18446744065119617025 := by omega
      have HB : Hid (2 ^ k = b ∧ r + b = x ∧ x * x = y ∧ 0 < b ∧ 2 ^ (k + 1) = b + b) := ⟨hb, hxx, hy, hb0, hpk⟩
      have hbI : (0 : Int) < (b : Int) := by omega
      have hbI2 : (b : Int) ≤ 4294967295 := by omega
      have hnI : (n : Int) ≤ 18446744073709551615 := by omega
      clear h1 h2 h3 h4 hn hpk hb hxx hy hyl hxl hr32 hb0 hj
      by_cases hc : y ≤ n
      · have hcI : (y : Int) ≤ (n : Int) := by omega
        have HC : Hid (y ≤ n) := hc
        clear hc
        go_wp2_with fail
        obtain ⟨k1, k2, k3, k4, k5⟩ := HB.out
        obtain ⟨f1, f2, f3, f4, f5⟩ := HF.out
        have hh := HH.out
        refine ⟨⟨k, x, by omega, rfl, by rw [← hh]; rfl, ?_, ?_, ?_, ?_, trivial⟩, ?_⟩
        · rw [← k2, k1]
          have h5 : r % b = 0 := by
            obtain ⟨q, hq⟩ := Nat.dvd_of_mod_eq_zero f1
            rw [hq, k5, Nat.add_mul, ← Nat.mul_add]
            exact Nat.mul_mod_right _ _
          rw [Nat.add_mod_right]
          exact h5
        · rw [k3]; exact HC.out
        · rw [← k2, k1, show r + b + b = r + 2 ^ (k + 1) by omega]; exact f3
        · rw [k1]; omega
        · simp [RowKit.intOf]; omega
      · have hcI : (n : Int) < (y : Int) := by omega
        have HC : Hid (¬ y ≤ n) := hc
        clear hc
        go_wp2_with fail
        obtain ⟨k1, k2, k3, k4, k5⟩ := HB.out
        obtain ⟨f1, f2, f3, f4, f5⟩ := HF.out
        have hh := HH.out
        refine ⟨⟨k, r, by omega, rfl, by rw [← hh]; rfl, ?_, f2, ?_, ?_, trivial⟩, ?_⟩
        · rw [k1]
          obtain ⟨q, hq⟩ := Nat.dvd_of_mod_eq_zero f1
          rw [hq, k5, Nat.add_mul, ← Nat.mul_add]
          exact Nat.mul_mod_right _ _
        · rw [k1, k2, k3]; have := HC.out; omega
        · rw [k1]; omega
        · simp [RowKit.intOf]; omega
end Go.Proofs.YtdfliaogmlpefaaGreatDoor
