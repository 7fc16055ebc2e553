/-
  The text that 'works' reads and tells.
-/
import Derived.Test.YtfnminljpifloabCqa
namespace Go.Proofs.Ytfnminljpifloab
open Go.RowKit Go.Lib Go.Sort Ieee

theorem hexV_A : hexV txA 16 = 4607182418800017408 := by kernel_rfl
theorem hexV_B : hexV txB 16 = 9223372036854775808 := by kernel_rfl
theorem isHex_dec (c : Nat) (h : (decide (48 ≤ c) && decide (c ≤ 57) || decide (97 ≤ c) && decide (c ≤ 102)) = true) : isHex c := by
  simp at h
  exact h
theorem hex_A : ∀ k, k < 16 → isHex (txA.data.toList.getD k 0).toNat := fun k hk => isHex_dec _ (by
  have := (show ∀ k : Fin 16, (decide (48 ≤ (txA.data.toList.getD k.1 0).toNat) && decide ((txA.data.toList.getD k.1 0).toNat ≤ 57) || decide (97 ≤ (txA.data.toList.getD k.1 0).toNat) && decide ((txA.data.toList.getD k.1 0).toNat ≤ 102)) = true by decide)
  exact this ⟨k, hk⟩)
theorem hex_B : ∀ k, k < 16 → isHex (txB.data.toList.getD k 0).toNat := fun k hk => isHex_dec _ (by
  have := (show ∀ k : Fin 16, (decide (48 ≤ (txB.data.toList.getD k.1 0).toNat) && decide ((txB.data.toList.getD k.1 0).toNat ≤ 57) || decide (97 ≤ (txB.data.toList.getD k.1 0).toNat) && decide ((txB.data.toList.getD k.1 0).toNat ≤ 102)) = true by decide)
  exact this ⟨k, hk⟩)
theorem read_A : Gives 23 #[.string txA] (.tuple #[.float .f64 4607182418800017408, .bool true]) := by
  have := readP_any txA rfl hex_A (by rw [hexV_A]; kernel_rfl)
  rw [hexV_A] at this
  exact this
theorem read_B : Gives 23 #[.string txB] (.tuple #[.float .f64 9223372036854775808, .bool true]) := by
  have := readP_any txB rfl hex_B (by rw [hexV_B]; kernel_rfl)
  rw [hexV_B] at this
  exact this
theorem text_A (w : World) : Calls Try.prog 26 #[.float .f64 4607182418800017408] w fun e w' => e = .returned (.string txA) ∧ w.grownBy w' none := by
  have := textP_any 4607182418800017408 (by decide) (by kernel_rfl) w
  rw [show strOf (ints (hexL 4607182418800017408 16)) = txA by kernel_rfl] at this
  exact this
theorem text_B (w : World) : Calls Try.prog 26 #[.float .f64 9223372036854775808] w fun e w' => e = .returned (.string txB) ∧ w.grownBy w' none := by
  have := textP_any 9223372036854775808 (by decide) (by kernel_rfl) w
  rw [show strOf (ints (hexL 9223372036854775808 16)) = txB by kernel_rfl] at this
  exact this

theorem readZ_tx (w : World) :
    Calls Try.prog 10 #[.string txZ] w fun e w' => e = .returned (.tuple #[.complex .f64 4607182418800017408 9223372036854775808, .int .i64 0]) ∧ w.grownBy w' none := readZ_gen cutS_tx read_A read_B w
theorem textZ_tx (w : World) :
    Calls Try.prog 12 #[.complex .f64 4607182418800017408 9223372036854775808] w fun e w' => e = .returned (.string txZ) ∧ w.grownBy w' none := by
  have := textZ_gen (by decide) (by decide) text_A text_B w
  rw [show txA ++ ⟨#[44]⟩ ++ txB = txZ by kernel_rfl] at this
  exact this
end Go.Proofs.Ytfnminljpifloab
