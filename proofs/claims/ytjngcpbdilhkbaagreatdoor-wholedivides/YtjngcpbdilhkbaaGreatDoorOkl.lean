/-
  The law's ok: nothing is refused.
-/
import Derived.Test.YtjngcpbdilhkbaaGreatDoorBunPrg
namespace Go.Proofs.YtjngcpbdilhkbaaGreatDoor
open Go.RowKit Go.Lib Go.Sort

set_option maxHeartbeats 1600000 in
set_option maxRecDepth 1000000 in
theorem ok_all (w : World) (B n c : Nat) (hc : n ≤ c) (hn : n ≤ 1000) (h : ∀ j, j < n → w.cell? ⟨B, j, none⟩ = some (.int .i64 0)) :
    Calls Tryz.prog 21 #[.slice (some ⟨B, 0, none⟩) n c] w fun e w' => e = .returned (.bool true) ∧ w' = w := by
  have HC : Hid (∀ j, j < n → w.cell? ⟨B, j, none⟩ = some (.int .i64 0)) := h
  have hnI : (n : Int) ≤ 1000 := by omega
  clear h
  go_enter Tryz.func21, Tryz.ntmps21
  go_wp2_with fail
  go_loopw [3] (fun s wr => ∃ k, k ≤ n ∧ s = .int .i64 k ∧ wr = w) (fun s _ => n - (RowKit.intOf s).toNat)
  case atStart => exact ⟨0, by omega, rfl, rfl⟩
  case round =>
    obtain ⟨k, hk, rfl, rfl⟩ := hrel
    by_cases hk1 : k < n
    · have hcs := HC.out k hk1
      have hkI : (k : Int) < n := by omega
      go_wp2_with (go_at_call 14; refine (num_any _ _).mono ?_; rintro e w1 ⟨rfl, rfl⟩)
      go_roundw
      case rel => exact ⟨k + 1, by omega, rfl, trivial⟩
      case measure => simp [RowKit.intOf]; omega
    · obtain rfl : k = n := by omega
      go_wp2_with fail
      go_ret
      exact ⟨rfl, rfl⟩
end Go.Proofs.YtjngcpbdilhkbaaGreatDoor
