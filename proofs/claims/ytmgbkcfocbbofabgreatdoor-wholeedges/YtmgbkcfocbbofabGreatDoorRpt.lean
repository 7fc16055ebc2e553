/-
  strings.Repeat of a nought, at most eight times.
-/
import Derived.Test.YtmgbkcfocbbofabGreatDoorRdp
import Derived.Laws.DeepStrings4
namespace Go.Proofs.YtmgbkcfocbbofabGreatDoor
open Go.RowKit Go.Lib Go.Sort

theorem to_eight {k : Nat} (h2 : 2 ≤ k) (h8 : k ≤ 8) : k = 2 ∨ k = 3 ∨ k = 4 ∨ k = 5 ∨ k = 6 ∨ k = 7 ∨ k = 8 := by omega
set_option maxHeartbeats 3200000 in
set_option maxRecDepth 1000000 in
theorem mul64_small (k : Nat) (h2 : 2 ≤ k) (h8 : k ≤ 8) (K : Int) (hK : (k : Int) = K) (w : World) : Calls Tryz.prog 91 #[.int .u64 1, .int .u64 K] w fun e w' => e = .returned (.tuple #[.int .u64 0, .int .u64 K]) ∧ w' = w := by
  rcases to_eight h2 h8 with rfl | rfl | rfl | rfl | rfl | rfl | rfl <;> subst hK <;> (
    go_enter Tryz.func91, Tryz.ntmps91
    go_wp2
    go_ret2
    exact ⟨rfl, rfl⟩)
set_option maxHeartbeats 3200000 in
set_option maxRecDepth 1000000 in
theorem mul_small (k : Nat) (h2 : 2 ≤ k) (h8 : k ≤ 8) (w : World) : Calls Tryz.prog 64 #[.int .u64 1, .int .u64 (k : Int)] w fun e w' => e = .returned (.tuple #[.int .u64 0, .int .u64 (k : Int)]) ∧ w' = w := by
  have HM : Hid (∀ w, Calls Tryz.prog 91 #[.int .u64 1, .int .u64 (k : Int)] w fun e w' => e = .returned (.tuple #[.int .u64 0, .int .u64 (k : Int)]) ∧ w' = w) := fun w => mul64_small k h2 h8 k rfl w
  have h2I : (2 : Int) ≤ k := by omega
  have h8I : (k : Int) ≤ 8 := by omega
  go_enter Tryz.func64, Tryz.ntmps64
  go_wp2_with fail
  refine (HM.out _).mono ?_
  rintro e w' ⟨rfl, rfl⟩
  go_wp2_with fail
  go_ret2
  exact ⟨rfl, rfl⟩
set_option maxHeartbeats 1600000 in
set_option maxRecDepth 1000000 in
theorem hasPrefix_nought_lite (s : ByteArray) (h9 : s.size ≤ 1000000) (h0 : s.size ≠ 0) (b : Bool) (hb : decide ((bN s).head? = some 48) = b) (w : World) :
    Calls Tryz.prog 92 #[.string s, .string ⟨#[48]⟩] w fun e w' => e = .returned (.bool b) ∧ w' = w := by
  have hp : (1 : Int) ≤ s.size := by omega
  have h9' : (s.size : Int) ≤ 1000000 := by omega
  go_enter Tryz.func92, Tryz.ntmps92
  go_wp2
  go_ret
  refine ⟨ret_bool ?_, rfl⟩
  rw [← hb, bN_eq_lit, bN_extract]
  have hl : (bN s).length = s.size := bN_length s
  cases hb : bN s with
  | nil => rw [hb] at hl; simp at hl; omega
  | cons x l => simp
set_option maxHeartbeats 1600000 in
set_option maxRecDepth 1000000 in
theorem hasPrefix_nought (s : ByteArray) (h9 : s.size ≤ 1000000) (h0 : s.size ≠ 0) (b : Bool) (hb : decide ((bN s).head? = some 48) = b) (w : World) :
    Calls Tryz.prog 65 #[.string s, .string ⟨#[48]⟩] w fun e w' => e = .returned (.bool b) ∧ w' = w := by
  have HH : Hid (Calls Tryz.prog 92 #[.string s, .string ⟨#[48]⟩] w fun e w' => e = .returned (.bool b) ∧ w' = w) := hasPrefix_nought_lite s h9 h0 b hb w
  go_enter Tryz.func65, Tryz.ntmps65
  go_wp2_with fail
  refine HH.out.mono ?_
  rintro e w' ⟨rfl, rfl⟩
  go_wp2_with fail
  go_ret
  exact ⟨rfl, rfl⟩
theorem zeros_take : ∀ k : Fin 9, ∀ S : ByteArray, bN S = List.replicate 64 48 → bN (S.extract 0 k.1) = List.replicate k.1 48 := by
  intro k S h
  have hk := k.2
  rw [bN_extract, h, List.drop_zero, Nat.sub_zero, List.take_replicate, Nat.min_eq_left (by omega)]
set_option maxHeartbeats 3200000 in
set_option maxRecDepth 1000000 in
theorem repeat_nought (k : Nat) (h8 : k ≤ 8) (w : World) : Calls Tryz.prog 36 #[.string ⟨#[48]⟩, .int .i64 (k : Int)] w fun e w' => ∃ s, e = .returned (.string s) ∧ bN s = List.replicate k 48 ∧ w.grownBy w' none := by
  rcases Nat.lt_or_ge k 2 with h2 | h2
  · obtain rfl | rfl : k = 0 ∨ k = 1 := by omega
    · go_enter Tryz.func36, Tryz.ntmps36
      go_wp2
      go_ret
      exact ⟨_, rfl, rfl, World.grownBy.refl _ _⟩
    · go_enter Tryz.func36, Tryz.ntmps36
      go_wp2
      go_ret
      exact ⟨_, rfl, rfl, World.grownBy.refl _ _⟩
  · have HM : Hid (∀ w, Calls Tryz.prog 64 #[.int .u64 1, .int .u64 (k : Int)] w fun e w' => e = .returned (.tuple #[.int .u64 0, .int .u64 (k : Int)]) ∧ w' = w) := fun w => mul_small k h2 h8 w
    have h2I : (2 : Int) ≤ k := by omega
    have h8I : (k : Int) ≤ 8 := by omega
    have hk0 : ((k : Int) == 0) = false := by rw [beq_eq_false_iff_ne]; omega
    have hk1 : ((k : Int) == 1) = false := by rw [beq_eq_false_iff_ne]; omega
    go_enter Tryz.func36, Tryz.ntmps36
    go_wp2_with fail
    refine (HM.out _).mono ?_
    rintro e w' ⟨rfl, rfl⟩
    go_wp2_with fail
    refine (hasPrefix_nought _ (by decide) (by decide) false (by decide) _).mono ?_
    rintro e w' ⟨rfl, rfl⟩
    go_wp2_with fail
    refine (hasPrefix_nought _ (by decide) (by decide) false (by decide) _).mono ?_
    rintro e w' ⟨rfl, rfl⟩
    go_wp2_with fail
    refine (hasPrefix_nought _ (by decide) (by decide) true (by decide) _).mono ?_
    rintro e w' ⟨rfl, rfl⟩
    go_wp2_with fail
    go_ret
    exact ⟨_, rfl, zeros_take ⟨k, by omega⟩ _ (by decide), World.grownBy.refl _ _⟩
end Go.Proofs.YtmgbkcfocbbofabGreatDoor
