/-
  The document's Of.
-/
import Derived.Test.YtaldmfbicddcbaaGreatDoorMad
namespace Go.Proofs.YtaldmfbicddcbaaGreatDoor
open Go.RowKit Go.Lib Go.Sort

theorem d4_two (w : World) (a b : Nat) : D4 (w.alloc (.cells #[.int .u32 a, .int .u32 b] 74)) (.slice (some ⟨w.heap.size, 0, none⟩) 2 2) [a, b] := by
  have h : BlkL (w.alloc (.cells #[.int .u32 a, .int .u32 b] 74)) w.heap.size 74 enc4 (ints [a, b]) := heap_alloc_new _ _
  exact h.d4

set_option maxHeartbeats 1600000 in
set_option maxRecDepth 1000000 in
theorem rOf_any (n : Int) (h0 : -9223372036854775808 ≤ n) (h1 : n ≤ 9223372036854775807) (w : World) :
    Calls Tryz.prog 14 #[.int .i64 n] w fun e w' => ∃ s, e = .returned (whole (decide (n < 0)) s) ∧ bN s = magN n.natAbs ∧ w.grownBy w' none := by
  by_cases hn : n < 0
  · obtain ⟨a, rfl⟩ : ∃ a : Nat, n = -(a : Int) := ⟨n.natAbs, by omega⟩
    have hw : IntKind.u64.wrap (-IntKind.u64.wrap (-(a : Int))) = a := by rw [IntKind.wrap_u64, IntKind.wrap_u64]; omega
    go_enter Tryz.func14, Tryz.ntmps14
    go_wp2_with fail
    have hd := d4_two (w.alloc (wObj false eS)) (a % 4294967296) (a / 4294967296)
    rw [World.size_alloc, show ((a % 4294967296 : Nat) : Int) = (a : Int) % 4294967296 by omega, show ((a / 4294967296 : Nat) : Int) = (a : Int) / 4294967296 by omega] at hd
    have hv : nv B32 [a % 4294967296, a / 4294967296] = a := by simp [nv, B32]; omega
    refine (made_any true _ _ _ hd (fun x hx => by simp at hx; rcases hx with rfl | rfl <;> simp only [B32] <;> omega) (by simp)).mono ?_
    rintro e w1 ⟨s, rfl, hs, hg⟩
    rw [hv] at hs
    have hN : (true && decide (nv B32 [a % 4294967296, a / 4294967296] ≠ 0)) = true := by rw [hv]; rw [Bool.true_and]; exact decide_eq_true (by omega)
    rw [hN]
    have hg2 := grownBy_trans (grow1 (w.alloc (wObj false eS)) _) hg
    have hb : WBlk w1 w.heap.size (.bool false) (.string eS) := WBlk.kept (w := w.alloc (wObj false eS)) (heap_alloc_new _ _) hg2 (by simp)
    have hc0 := hb.c0
    have hc1 := hb.c1
    have hf0 := hb.fr 0
    have hf1 := hb.fr 1
    have HG : Hid ((w.alloc (wObj false eS)).grownBy w1 none) := hg2
    clear hg hg2 hd hv hN
    go_wp2_with fail
    refine bodyPost_ret (res_cell rfl _ _ w.heap.size _ _ _ _ rfl (hb.put _ _)) rfl ?_
    refine ⟨s, ret_val ?_, by rw [hs]; first | rfl | (congr 1; omega), grown_set (grown_set (grownBy_trans (grow1 _ _) HG.out) (Nat.le_refl _)) (Nat.le_refl _)⟩
    rw [decide_eq_true (by omega)]
  · obtain ⟨a, rfl⟩ := Int.eq_ofNat_of_zero_le (show 0 ≤ n by omega)
    go_enter Tryz.func14, Tryz.ntmps14
    go_wp2_with fail
    have hd := d4_two (w.alloc (wObj false eS)) (a % 4294967296) (a / 4294967296)
    rw [World.size_alloc, show ((a % 4294967296 : Nat) : Int) = (a : Int) % 4294967296 by omega, show ((a / 4294967296 : Nat) : Int) = (a : Int) / 4294967296 by omega] at hd
    have hv : nv B32 [a % 4294967296, a / 4294967296] = a := by simp [nv, B32]; omega
    refine (made_any false _ _ _ hd (fun x hx => by simp at hx; rcases hx with rfl | rfl <;> simp only [B32] <;> omega) (by simp)).mono ?_
    rintro e w1 ⟨s, rfl, hs, hg⟩
    rw [hv] at hs
    have hN : (false && decide (nv B32 [a % 4294967296, a / 4294967296] ≠ 0)) = false := by rw [hv]; rfl
    rw [hN]
    have hg2 := grownBy_trans (grow1 (w.alloc (wObj false eS)) _) hg
    have hb : WBlk w1 w.heap.size (.bool false) (.string eS) := WBlk.kept (w := w.alloc (wObj false eS)) (heap_alloc_new _ _) hg2 (by simp)
    have hc0 := hb.c0
    have hc1 := hb.c1
    have hf0 := hb.fr 0
    have hf1 := hb.fr 1
    have HG : Hid ((w.alloc (wObj false eS)).grownBy w1 none) := hg2
    clear hg hg2 hd hv hN
    go_wp2_with fail
    refine bodyPost_ret (res_cell rfl _ _ w.heap.size _ _ _ _ rfl (hb.put _ _)) rfl ?_
    refine ⟨s, ret_val ?_, by rw [hs]; first | rfl | (congr 1; omega), grown_set (grown_set (grownBy_trans (grow1 _ _) HG.out) (Nat.le_refl _)) (Nat.le_refl _)⟩
    rw [decide_eq_false (by omega)]
end Go.Proofs.YtaldmfbicddcbaaGreatDoor
