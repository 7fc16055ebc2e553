/-
  The document's Fits and Told of fractions; the law's told; frac's Small.
-/
import Derived.Test.YtdfliaogmlpefaaGreatDoorFri
namespace Go.Proofs.YtdfliaogmlpefaaGreatDoor
open Go.RowKit Go.Lib Go.Sort
set_option linter.unusedVariables false
set_option maxHeartbeats 1600000
set_option maxRecDepth 1000000
theorem rfits_any (n d : Bool) (s t : ByteArray) (z1 : s.size ≤ maxLen) (z2 : t.size ≤ maxLen) (w : World) :
    Calls Tryz.prog 48 #[frac n s d t] w fun e w' => e = .returned (.bool (fitsB s t)) ∧ w' = w.alloc (qObj n s d t) := by
  unfold maxLen at z1 z2
  have z1I : (s.size : Int) ≤ 9223372036854775807 := by omega
  have z2I : (t.size : Int) ≤ 9223372036854775807 := by omega
  by_cases h1 : s.size ≤ 1024
  · have h1I : (s.size : Int) ≤ 1024 := by omega
    by_cases h2 : t.size ≤ 1024
    · have h2I : (t.size : Int) ≤ 1024 := by omega
      have hb : fitsB s t = true := decide_eq_true ⟨h1, h2⟩
      rw [hb]
      clear z1 z2 h1 h2 hb
      go_enter Tryz.func48, Tryz.ntmps48
      go_wp2
      go_ret
      exact ⟨ret_bool (by first | rfl | (simp; omega)), rfl⟩
    · have h2I : (1025 : Int) ≤ (t.size : Int) := by omega
      have hb : fitsB s t = false := decide_eq_false (fun h => h2 h.2)
      rw [hb]
      clear z1 z2 h1 h2 hb
      go_enter Tryz.func48, Tryz.ntmps48
      go_wp2
      go_ret
      exact ⟨ret_bool (by first | rfl | (simp; omega)), rfl⟩
  · have h1I : (1025 : Int) ≤ (s.size : Int) := by omega
    have hb : fitsB s t = false := decide_eq_false (fun h => h1 h.1)
    rw [hb]
    clear z1 z2 h1 hb
    go_enter Tryz.func48, Tryz.ntmps48
    go_wp2
    go_ret
    exact ⟨ret_bool (by first | rfl | (simp; omega)), rfl⟩
theorem fsmall_any (x y : Int) (hx0 : -9223372036854775808 ≤ x) (hx1 : x ≤ 9223372036854775807) (hy0 : -9223372036854775808 ≤ y) (hy1 : y ≤ 9223372036854775807) (hy : y ≠ 0) {n' d' : Bool} {s' t' : ByteArray} (L : Low x y n' s' d' t') (w : World) :
    Calls Tryz.prog 17 #[.int .i64 x, .int .i64 y] w fun e w' => e = .returned (.tuple #[toldV n' s' d' t', .int .i64 (toldE s' t')]) ∧ w.grownBy w' none := by
  obtain ⟨nx, sx, zx⟩ := isz_ex x
  obtain ⟨ny, sy, zy⟩ := isz_ex y
  have kx : Sz 8 x nx sx := zx.sz (by have : (256 : Nat) ^ 8 = 18446744073709551616 := by decide
                                      omega)
  have ky : Sz 8 y ny sy := zy.sz (by have : (256 : Nat) ^ 8 = 18446744073709551616 := by decide
                                      omega)
  have HO : Hid (∀ z b s (w : World), (z = x ∧ b = nx ∧ s = sx) ∨ (z = y ∧ b = ny ∧ s = sy) → Calls Tryz.prog 52 #[.int .i64 z] w fun e w' => e = .returned (whole b s) ∧ w.grownBy w' none) := (by
    intro z b s w h
    rcases h with ⟨rfl, rfl, rfl⟩ | ⟨rfl, rfl, rfl⟩
    · refine (of_any z hx0 hx1 w).mono ?_
      rintro e w' ⟨s0, rfl, hs, hg⟩
      have hz0 : IsZ z (decide (z < 0)) s0 := ⟨rfl, hs⟩
      exact ⟨by rw [hz0.one zx], hg⟩
    · refine (of_any z hy0 hy1 w).mono ?_
      rintro e w' ⟨s0, rfl, hs, hg⟩
      have hz0 : IsZ z (decide (z < 0)) s0 := ⟨rfl, hs⟩
      exact ⟨by rw [hz0.one zy], hg⟩)
  have HF : Hid (∀ w, Calls Tryz.prog 41 #[whole nx sx, whole ny sy] w fun e w' => e = .returned (.tuple #[toldV n' s' d' t', .int .i64 (toldE s' t')]) ∧ w.grownBy w' none) := fun w => fof_any (by decide) kx ky hy L w
  unfold toldV at *
  generalize tB (fitsB s' t') n' = rn1 at *
  generalize tS (fitsB s' t') s' = rs1 at *
  generalize tB (fitsB s' t') d' = rd1 at *
  generalize tS (fitsB s' t') t' = rt1 at *
  generalize toldE s' t' = re1 at *
  clear L zx zy kx ky hy hx0 hx1 hy0 hy1
  go_enter Tryz.func17, Tryz.ntmps17
  go_wp2_with fail
  refine (HO.out _ _ _ _ (.inl ⟨rfl, rfl, rfl⟩)).mono ?_
  rintro e w1 ⟨rfl, g1⟩
  go_wp2_with fail
  refine (HO.out _ _ _ _ (.inr ⟨rfl, rfl, rfl⟩)).mono ?_
  rintro e w2 ⟨rfl, g2⟩
  go_wp2_with fail
  refine (HF.out _).mono ?_
  rintro e w3 ⟨rfl, g3⟩
  have G3 : (w.alloc (qObj false eS false eS)).grownBy w3 none := grownBy_trans g1 (grownBy_trans g2 g3)
  have hR : QBlk w3 w.heap.size (.bool false) (.string eS) (.bool false) (.string eS) := QBlk.kept (w := w.alloc (qObj false eS false eS)) (heap_alloc_new _ _) G3 (by simp)
  have HG3 : Hid (w.grownBy w3 none) := grownBy_trans (grow1 _ _) G3
  clear g1 g2 g3 G3
  have r0 := hR.c0
  have r1 := hR.c1
  have r2 := hR.c2
  have r3 := hR.c3
  have f0 := hR.fr 0
  have f1 := hR.fr 1
  have f2 := hR.fr 2
  have f3 := hR.fr 3
  go_wp2_with fail
  refine bodyPost_ret (res_cellQ_tmp rfl _ _ w.heap.size _ _ _ _ _ _ rfl (hR.put _ _ _ _)) rfl ?_
  exact ⟨rfl, grown_put4 HG3.out (Nat.le_refl _)⟩
end Go.Proofs.YtdfliaogmlpefaaGreatDoor
