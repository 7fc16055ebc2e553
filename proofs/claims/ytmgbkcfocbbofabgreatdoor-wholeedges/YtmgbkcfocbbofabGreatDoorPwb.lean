/-
  The program's Pow where it refuses at once.
-/
import Derived.Test.YtmgbkcfocbbofabGreatDoorShf
namespace Go.Proofs.YtmgbkcfocbbofabGreatDoor
open Go.RowKit Go.Lib Go.Sort

set_option maxHeartbeats 1600000 in
set_option maxRecDepth 1000000 in
theorem pow_big (neg : Bool) (mag : ByteArray) (h : may neg mag = true) (b : Nat) (hb : bl (val (bN mag)) = b) (hb1 : 1 < b) (n : Int) (hn0 : 0 ≤ n) (hn : 131071 / ((b : Int) - 1) < n) (hn9 : n ≤ 9223372036854775807) (w : World) :
    Calls Tryz.prog 25 #[whole neg mag, .int .i64 n] w fun e w' => e = .returned (.tuple #[whole false eS, .int .i64 4]) ∧ w.grownBy w' none := by
  have hm1 := may_size h
  have hm : mag.size ≤ maxLen := by unfold maxLen; omega
  have HC : Hid (∀ w, Calls Tryz.prog 7 #[whole neg mag] w fun e w' => e = .returned (.int .i64 0) ∧ w' = w.alloc (wObj neg mag)) := fun w => by
    have := check_any neg mag hm w
    rw [chk_yes h] at this
    exact this
  have HB : Hid (∀ w, Calls Tryz.prog 27 #[whole neg mag] w fun e w' => e = .returned (.int .i64 (b : Int)) ∧ w.grownBy w' none) := fun w => by
    have := bits_yes neg mag h w
    rw [hb] at this
    exact this
  have hb9 := (bl_max h _ rfl).2
  rw [hb] at hb9
  have hbI : (b : Int) ≤ 131072 := by omega
  have hbI1 : (2 : Int) ≤ b := by omega
  have hbz : ((b : Int) - 1 == 0) = false := by rw [beq_eq_false_iff_ne]; omega
  clear h hb9 hb
  go_enter Tryz.func25, Tryz.ntmps25
  go_wp2_with fail
  refine (HC.out _).mono ?_
  rintro e w1 ⟨rfl, rfl⟩
  go_wp2_with fail
  refine (HB.out _).mono ?_
  rintro e w2 ⟨rfl, g2⟩
  have HG2 : Hid (((w.alloc (wObj neg mag)).alloc (wObj false eS)).grownBy w2 none) := grownBy_trans (grow1 _ _) g2
  clear g2 HB HC
  go_wp2_with fail
  refine (zero_any _).mono ?_
  rintro e w3 ⟨rfl, rfl⟩
  have HG3 : Hid (((w.alloc (wObj neg mag)).alloc (wObj false eS)).grownBy (w2.alloc (wObj false eS)) none) := grownBy_trans HG2.out (grow1 _ _)
  obtain ⟨_, hb⟩ := blks2 HG3.out
  have hc0 := hb.c0
  have hc1 := hb.c1
  have hf0 := hb.fr 0
  have hf1 := hb.fr 1
  go_wp2_with fail
  refine bodyPost_ret (res_cell_tmp rfl _ _ (w.heap.size + 1) _ _ _ _ rfl (hb.put _ _)) rfl ?_
  exact ⟨rfl, grown_set (grown_set (grownBy_trans (grow2 _ _ _) HG3.out) (by omega)) (by omega)⟩
end Go.Proofs.YtmgbkcfocbbofabGreatDoor
