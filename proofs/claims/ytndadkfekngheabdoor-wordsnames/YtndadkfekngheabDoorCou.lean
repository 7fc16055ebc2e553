/-
  The program's Count at two places.
-/
import Derived.Test.YtndadkfekngheabDoorShf
import Derived.Test.YtndadkfekngheabDoorTop
namespace Go.Proofs.YtndadkfekngheabDoor
open Go.RowKit Go.Lib Go.Sort
set_option linter.unusedVariables false
set_option linter.unusedSimpArgs false
set_option maxHeartbeats 1600000
set_option maxRecDepth 100000
theorem count_one (w : World) : Calls Tryd.prog 7 #[.int .i64 1, .int .i64 4611686018427387904] w fun e w' => e = .returned (.tuple #[.int .u64 2, .int .i64 0]) ∧ w' = w := by
  go_enter Tryd.func7, Tryd.ntmps7
  go_wp2_with fail
  go_ret2
  exact ⟨rfl, rfl⟩
theorem ct_rows (i : Nat) (h : i ≤ 8) : 128 * 127 ^ i < 18446744073709551616 ∧ (i < 8 → 128 * 127 ^ i * 127 / 18446744073709551616 = 0 ∧ 128 * 127 ^ i * 127 % 18446744073709551616 = 128 * 127 ^ (i + 1)) ∧ (i = 8 → 128 * 127 ^ i * 127 / 18446744073709551616 ≠ 0) := by
  match i, h with
  | 0, _ => decide
  | 1, _ => decide
  | 2, _ => decide
  | 3, _ => decide
  | 4, _ => decide
  | 5, _ => decide
  | 6, _ => decide
  | 7, _ => decide
  | 8, _ => decide
def ctA (i : Nat) : Nat := 128 * 127 ^ i
theorem mul127 (w : World) (a : Nat) (h : a < 18446744073709551616) : Calls Tryd.prog 19 #[.int .u64 (a : Int), .int .u64 127] w fun e w' => e = .returned (.tuple #[.int .u64 ((a * 127 / 18446744073709551616 : Nat) : Int), .int .u64 ((a * 127 % 18446744073709551616 : Nat) : Int)]) ∧ w' = w := Tryd.bits_Mul64 a 127 h (by decide) w
theorem count_64 (w : World) : Calls Tryd.prog 7 #[.int .i64 64, .int .i64 10] w fun e w' => e = .returned (.tuple #[.int .u64 0, .int .i64 4]) ∧ w' = w := by
  go_enter Tryd.func7, Tryd.ntmps7
  go_wp2_with fail
  go_loopw [6, 36] (fun s t wr => ∃ (i : Nat), i ≤ 8 ∧ t = .int .i64 (i : Int) ∧ s = .int .u64 ((ctA i : Nat) : Int) ∧ w = wr) (fun _ t _ => match t with | .int _ i => 9 - i.toNat | _ => 0)
  case atStart => exact ⟨0, by omega, rfl, rfl, rfl⟩
  case round =>
    obtain ⟨i, hi, rfl, rfl, rfl⟩ := hrel
    have hiI : (i : Int) < 9 := by omega
    have HR : Hid (ctA i < 18446744073709551616 ∧ (i < 8 → ctA i * 127 / 18446744073709551616 = 0 ∧ ctA i * 127 % 18446744073709551616 = ctA (i + 1)) ∧ (i = 8 → ctA i * 127 / 18446744073709551616 ≠ 0)) := ct_rows i hi
    generalize ctA i = a at *
    go_wp2_with fail
    refine (mul127 _ a HR.out.1).mono ?_
    have HR2 : Hid (∀ hh ll, a * 127 / 18446744073709551616 = hh → a * 127 % 18446744073709551616 = ll → (i < 8 → hh = 0 ∧ ll = ctA (i + 1)) ∧ (i = 8 → hh ≠ 0)) := by
      rintro hh ll rfl rfl
      exact HR.out.2
    obtain ⟨hh, h1⟩ : ∃ hh, a * 127 / 18446744073709551616 = hh := ⟨_, rfl⟩
    obtain ⟨ll, h2⟩ : ∃ ll, a * 127 % 18446744073709551616 = ll := ⟨_, rfl⟩
    have HR3 : Hid ((i < 8 → hh = 0 ∧ ll = ctA (i + 1)) ∧ (i = 8 → hh ≠ 0)) := HR2.out hh ll h1 h2
    rw [h1, h2]
    clear h1 h2 HR2 HR
    rintro e w' ⟨rfl, hw⟩
    obtain rfl := hw.symm
    by_cases h8 : i = 8
    · have hb : ((hh : Int) != 0) = true := by
        have := HR3.out.2 h8
        simp
        omega
      go_wp2_with fail
      go_ret2
      exact ⟨rfl, rfl⟩
    · obtain ⟨e1, e2⟩ := HR3.out.1 (by omega)
      subst e1 e2
      have HN : Hid (i + 1 ≤ 8) := by show i + 1 ≤ 8; omega
      go_wp2_with fail
      go_roundw
      case rel => exact ⟨i + 1, HN.out, by simp, rfl, trivial⟩
      case measure => simp; omega
end Go.Proofs.YtndadkfekngheabDoor
