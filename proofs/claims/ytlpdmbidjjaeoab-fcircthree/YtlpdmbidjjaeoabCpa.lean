/-
  The program's small functions over floats.
-/
import Derived.Test.YtlpdmbidjjaeoabRows
import Derived.WalkKit
import Derived.WalkLawsBesides
import Derived.Lib.Walk
import Derived.Laws.BitsAllLaws
import Derived.Test.YtlpdmbidjjaeoabFld
namespace Go.Proofs.Ytlpdmbidjjaeoab
open Go.RowKit Go.Lib

theorem extBits (x : Nat) (w : World) : (callFunc 38 #[.float .f64 x]).run Try.prog w = .ok (.value (.int .u64 x)) w := by
  rw [run_callFunc_extern Try.func38 (by kernel_rfl) (by kernel_rfl) (by kernel_rfl) (e := Extern.MathFloatBits.float64bits) (by kernel_rfl)]
  rfl
theorem extFrom (n : Int) (w : World) : (callFunc 37 #[.int .u64 n]).run Try.prog w = .ok (.value (.float .f64 n.toNat)) w := by
  rw [run_callFunc_extern Try.func37 (by kernel_rfl) (by kernel_rfl) (by kernel_rfl) (e := Extern.MathFloatBits.float64frombits) (by kernel_rfl)]
  rfl
theorem extSqrt (x r : Nat) (h : Ieee.double.sqrt x = some r) (w : World) : (callFunc 36 #[.float .f64 x]).run Try.prog w = .ok (.value (.float .f64 r)) w := by
  have hs : (Extern.MathSqrt.sqrt #[.float .f64 x]).run Try.prog w = .ok (.float .f64 r) w := by
    show (match Ieee.double.sqrt x with | some r => pure (.float .f64 r) | none => do pure (.float .f64 (← choose (.nanBits .f64 x x))) : Sem Value).run Try.prog w = _
    rw [h]
    rfl
  rw [run_callFunc_extern Try.func36 (by kernel_rfl) (by kernel_rfl) (by kernel_rfl) (e := Extern.MathSqrt.sqrt) (by kernel_rfl), hs]
  rfl
attribute [local go_sem] extBits extFrom

theorem bits_abs (x : Nat) (h : x < 2 ^ 64) : bits .andNot .u64 (x : Int) 9223372036854775808 = ((x % 2 ^ 63 : Nat) : Int) := by
  rw [show (9223372036854775808 : Int) = ((9223372036854775808 : Nat) : Int) by rfl, u64_andNot_nat x _ h (by decide), show 18446744073709551615 - 9223372036854775808 = 2 ^ 63 - 1 by decide, Nat.and_two_pow_sub_one_eq_mod]
theorem bits_sign (x : Nat) (h : x < 2 ^ 64) : bits .and .u64 (x : Int) 9223372036854775808 = ((x / 2 ^ 63 * 2 ^ 63 : Nat) : Int) := by
  rw [show (9223372036854775808 : Int) = ((2 ^ 63 : Nat) : Int) by rfl, u64_and_nat x _ h (by decide)]
  have h1 : (x &&& 2 ^ 63) / 2 ^ 63 = x / 2 ^ 63 := by
    rw [Nat.and_div_two_pow, show 2 ^ 63 / 2 ^ 63 = 2 ^ 1 - 1 by decide, Nat.and_two_pow_sub_one_eq_mod]
    omega
  have h2 : (x &&& 2 ^ 63) % 2 ^ 63 = 0 := by
    rw [Nat.and_mod_two_pow, Nat.mod_self, Nat.and_zero]
  have h3 := Nat.div_add_mod (x &&& 2 ^ 63) (2 ^ 63)
  rw [h1, h2] at h3
  rw [← h3, Nat.mul_comm, Nat.add_zero]
theorem bits_both (a b : Nat) (ha : a < 2 ^ 63) (hb : b ≤ 1) : bits .or .u64 (a : Int) ((b * 2 ^ 63 : Nat) : Int) = ((a + b * 2 ^ 63 : Nat) : Int) := by
  rw [u64_or_nat a _ (by omega) (by omega), Nat.or_comm, Nat.mul_comm b, ← Nat.two_pow_add_eq_or_of_lt ha, Nat.add_comm]

theorem abs_any (x : Nat) (h : x < 2 ^ 64) (w : World) :
    Calls Try.prog 30 #[.float .f64 x] w fun e w' => e = .returned (.float .f64 (x % 2 ^ 63)) ∧ w' = w := by
  go_enter Try.func30, Try.ntmps30
  go_wp2
  go_ret
  refine ⟨?_, rfl⟩
  show Ending.returned (.float .f64 (bits .andNot .u64 (x : Int) 9223372036854775808).toNat) = _
  rw [bits_abs x h, Int.toNat_natCast]
theorem sqrtm_any (x r : Nat) (h : Ieee.double.sqrt x = some r) (w : World) :
    Calls Try.prog 29 #[.float .f64 x] w fun e w' => e = .returned (.float .f64 r) ∧ w' = w := by
  have he := extSqrt x r h
  go_enter Try.func29, Try.ntmps29
  go_wp2_with (simp only [he])
  all_goals (go_ret; exact ⟨rfl, rfl⟩)
end Go.Proofs.Ytlpdmbidjjaeoab
