/-
  frac's Simplest, by what it asks.
  The document's Simplest of two fractions above 0: the simplest by quotients.
  FracSimple: all ways together.
-/
import Derived.Test.YtdfliaogmlpefaaGreatDoorOna
import Derived.Test.YtdfliaogmlpefaaGreatDoorBunFrq
import Derived.Deep.CutRange
import Derived.Test.YtdfliaogmlpefaaGreatDoorSim
import Derived.Test.YtdfliaogmlpefaaGreatDoorBunOnh
import Derived.Test.YtdfliaogmlpefaaGreatDoorBunFre
import Derived.Deep.RegionWith
import Derived.Test.YtdfliaogmlpefaaGreatDoorOph
namespace Go.Proofs.YtdfliaogmlpefaaGreatDoor
open Go.RowKit Go.Lib Go.Sort
set_option linter.unusedVariables false
set_option maxHeartbeats 6400000
set_option maxRecDepth 1000000
theorem opp_any (n d : Bool) (s t : ByteArray) (hm : may n s = true) (w : World) : Calls Tryz.prog 50 #[frac n s d t] w fun e w' => e = .returned (frac (ngs n s) s d t) ∧ w.grownBy w' none :=
  opposite_by n d (ngs n s) s t s (fun w => neg_yes n s (by have := may_size hm; unfold maxLen; omega) hm w) w
theorem sim_no (n d n2 d2 : Bool) (s t s2 t2 : ByteArray) (c er : Int) (h : (er = 2 ∧ c = 0) ∨ (er = 0 ∧ c = 1)) (w : World)
    (HC : Hid (∀ w, Calls Tryz.prog 73 #[frac n s d t, frac n2 s2 d2 t2] w fun e w' => e = .returned (.tuple #[.int .i64 c, .int .i64 er]) ∧ w.grownBy w' none)) :
    Calls Tryz.prog 29 #[frac n s d t, frac n2 s2 d2 t2] w fun e w' => e = .returned (.tuple #[frac false eS false eS, .int .i64 2]) ∧ w.grownBy w' none := by
  rcases h with ⟨rfl, rfl⟩ | ⟨rfl, rfl⟩
  all_goals (
    go_enter Tryz.func29, Tryz.ntmps29
    go_wp2_with fail
    refine (HC.out _).mono ?_
    rintro e w1 ⟨rfl, g1⟩
    have hR : QBlk w1 (w.heap.size + 1 + 1) (.bool false) (.string eS) (.bool false) (.string eS) := QBlk.kept (w := ((w.alloc (qObj n s d t)).alloc (qObj n2 s2 d2 t2)).alloc (qObj false eS false eS)) (at_alloc3 _ _ _ _) g1 (by simp)
    have HG : Hid (w.grownBy w1 none) := grownBy_trans (grow3 _ _ _ _) g1
    have r0 := hR.c0
    have r1 := hR.c1
    have r2 := hR.c2
    have r3 := hR.c3
    have f0 := hR.fr 0
    have f1 := hR.fr 1
    have f2 := hR.fr 2
    have f3 := hR.fr 3
    clear g1
    go_wp2_with fail
    refine bodyPost_ret (res_cellQ_tmp rfl _ _ (w.heap.size + 1 + 1) _ _ _ _ _ _ rfl (hR.put _ _ _ _)) rfl ?_
    exact ⟨rfl, grown_put4 HG.out (by omega)⟩)
def SwI (w W : World) (n d n2 d2 : Bool) (s t s2 t2 : ByteArray) : Prop := QBlk W w.heap.size (.bool n) (.string s) (.bool d) (.string t) ∧ QBlk W (w.heap.size + 1) (.bool n2) (.string s2) (.bool d2) (.string t2) ∧ QBlk W (w.heap.size + 1 + 1) (.bool false) (.string eS) (.bool false) (.string eS) ∧ w.grownBy W none
theorem SwI.kept {w W W' : World} {n d n2 d2 : Bool} {s t s2 t2 : ByteArray} (h : SwI w W n d n2 d2 s t s2 t2) (g : W.grownBy W' none) : SwI w W' n d n2 d2 s t s2 t2 := ⟨h.1.kept g (by simp), h.2.1.kept g (by simp), h.2.2.1.kept g (by simp), grownBy_trans h.2.2.2 g⟩
theorem SwI.put {w W : World} {n d n2 d2 : Bool} {s t s2 t2 : ByteArray} (h : SwI w W n d n2 d2 s t s2 t2) {P : Nat} (hP : w.heap.size + 1 + 1 < P) (a b c e : Value) : SwI w ((((W.setCell ⟨P, 0, none⟩ a).setCell ⟨P, 1, none⟩ b).setCell ⟨P, 2, none⟩ c).setCell ⟨P, 3, none⟩ e) n d n2 d2 s t s2 t2 := by
  have hg : W.grownBy ((((W.setCell ⟨P, 0, none⟩ a).setCell ⟨P, 1, none⟩ b).setCell ⟨P, 2, none⟩ c).setCell ⟨P, 3, none⟩ e) (some P) := grownBy_trans (grownBy_trans (grownBy_setCell _ _ _ _) (grownBy_setCell _ _ _ _)) (grownBy_trans (grownBy_setCell _ _ _ _) (grownBy_setCell _ _ _ _))
  exact ⟨h.1.kept hg (by intro e; injection e with e; omega), h.2.1.kept hg (by intro e; injection e with e; omega), h.2.2.1.kept hg (by intro e; injection e with e; omega), grown_put4 h.2.2.2 (by omega)⟩
theorem SwI.first (w : World) (n d n2 d2 : Bool) (s t s2 t2 : ByteArray) : SwI w (((w.alloc (qObj n s d t)).alloc (qObj n2 s2 d2 t2)).alloc (qObj false eS false eS)) n d n2 d2 s t s2 t2 := ⟨old_alloc _ _ (old_alloc _ _ (heap_alloc_new _ _)), old_alloc _ _ (heap_alloc2_new _ _ _), at_alloc3 _ _ _ _, grow3 _ _ _ _⟩
theorem sim_pos (n d n2 d2 rn rd : Bool) (s t s2 t2 rs rt : ByteArray) (c sx : Int) (hc : c = -1 ∨ c = 0) (hs : sx = 1) (w : World)
    (HC : Hid (∀ w, Calls Tryz.prog 73 #[frac n s d t, frac n2 s2 d2 t2] w fun e w' => e = .returned (.tuple #[.int .i64 c, .int .i64 0]) ∧ w.grownBy w' none))
    (HX : Hid (∀ w, Calls Tryz.prog 22 #[frac n s d t] w fun e w' => e = .returned (.int .i64 sx) ∧ w.grownBy w' none))
    (HS : Hid (∀ w, Calls Tryz.prog 74 #[frac n s d t, frac n2 s2 d2 t2] w fun e w' => e = .returned (.tuple #[frac rn rs rd rt, .int .i64 0]) ∧ w.grownBy w' none)) :
    Calls Tryz.prog 29 #[frac n s d t, frac n2 s2 d2 t2] w fun e w' => e = .returned (.tuple #[frac rn rs rd rt, .int .i64 0]) ∧ w.grownBy w' none := by
  subst hs
  have hI0 := SwI.first w n d n2 d2 s t s2 t2
  rcases hc with rfl | rfl
  all_goals (
    go_enter Tryz.func29, Tryz.ntmps29
    go_wp2_with fail
    refine (HC.out _).mono ?_
    rintro e w1 ⟨rfl, g1⟩
    have HI1 : Hid (SwI w w1 n d n2 d2 s t s2 t2) := hI0.kept g1
    clear g1
    have x0 := HI1.out.1.c0
    have x1 := HI1.out.1.c1
    have x2 := HI1.out.1.c2
    have x3 := HI1.out.1.c3
    go_wp2_with fail
    refine (HX.out _).mono ?_
    rintro e w2 ⟨rfl, g2⟩
    have HI2 : Hid (SwI w w2 n d n2 d2 s t s2 t2) := HI1.out.kept g2
    clear g2 x0 x1 x2 x3
    have x0 := HI2.out.1.c0
    have x1 := HI2.out.1.c1
    have x2 := HI2.out.1.c2
    have x3 := HI2.out.1.c3
    have y0 := HI2.out.2.1.c0
    have y1 := HI2.out.2.1.c1
    have y2 := HI2.out.2.1.c2
    have y3 := HI2.out.2.1.c3
    go_wp2_with fail
    refine (HS.out _).mono ?_
    rintro e w3 ⟨rfl, g3⟩
    have HI3 : Hid (SwI w w3 n d n2 d2 s t s2 t2) := HI2.out.kept g3
    clear g3 x0 x1 x2 x3 y0 y1 y2 y3
    have hR := HI3.out.2.2.1
    have r0 := hR.c0
    have r1 := hR.c1
    have r2 := hR.c2
    have r3 := hR.c3
    have f0 := hR.fr 0
    have f1 := hR.fr 1
    have f2 := hR.fr 2
    have f3 := hR.fr 3
    go_wp2_with fail
    refine bodyPost_ret (res_cellQ_tmp rfl _ _ (w.heap.size + 1 + 1) _ _ _ _ _ _ rfl (hR.put _ _ _ _)) rfl ?_
    exact ⟨rfl, grown_put4 HI3.out.2.2.2 (by omega)⟩)
theorem sim_zero (n d n2 d2 : Bool) (s t s2 t2 : ByteArray) (c sx sy : Int) (hc : c = -1 ∨ c = 0) (hs : sx ≤ 0) (hy : 0 ≤ sy) (w : World)
    (HC : Hid (∀ w, Calls Tryz.prog 73 #[frac n s d t, frac n2 s2 d2 t2] w fun e w' => e = .returned (.tuple #[.int .i64 c, .int .i64 0]) ∧ w.grownBy w' none))
    (HX : Hid (∀ a b f g z (w : World), (a = n ∧ b = s ∧ f = d ∧ g = t ∧ z = sx) ∨ (a = n2 ∧ b = s2 ∧ f = d2 ∧ g = t2 ∧ z = sy) → Calls Tryz.prog 22 #[frac a b f g] w fun e w' => e = .returned (.int .i64 z) ∧ w.grownBy w' none))
    (HI : Hid (∀ w, Calls Tryz.prog 19 #[.int .i64 0] w fun e w' => e = .returned (frac false eS false oneS) ∧ w.grownBy w' none)) :
    Calls Tryz.prog 29 #[frac n s d t, frac n2 s2 d2 t2] w fun e w' => e = .returned (.tuple #[frac false eS false oneS, .int .i64 0]) ∧ w.grownBy w' none := by
  have hI0 := SwI.first w n d n2 d2 s t s2 t2
  rcases hc with rfl | rfl
  all_goals (
    go_enter Tryz.func29, Tryz.ntmps29
    go_wp2_with fail
    refine (HC.out _).mono ?_
    rintro e w1 ⟨rfl, g1⟩
    have HI1 : Hid (SwI w w1 n d n2 d2 s t s2 t2) := hI0.kept g1
    clear g1
    have x0 := HI1.out.1.c0
    have x1 := HI1.out.1.c1
    have x2 := HI1.out.1.c2
    have x3 := HI1.out.1.c3
    go_wp2_with fail
    refine (HX.out _ _ _ _ _ _ (.inl ⟨rfl, rfl, rfl, rfl, rfl⟩)).mono ?_
    rintro e w2 ⟨rfl, g2⟩
    have HI2 : Hid (SwI w w2 n d n2 d2 s t s2 t2) := HI1.out.kept g2
    clear g2 x0 x1 x2 x3
    have y0 := HI2.out.2.1.c0
    have y1 := HI2.out.2.1.c1
    have y2 := HI2.out.2.1.c2
    have y3 := HI2.out.2.1.c3
    go_wp2_with fail
    refine (HX.out _ _ _ _ _ _ (.inr ⟨rfl, rfl, rfl, rfl, rfl⟩)).mono ?_
    rintro e w3 ⟨rfl, g3⟩
    have HI3 : Hid (SwI w w3 n d n2 d2 s t s2 t2) := HI2.out.kept g3
    clear g3 y0 y1 y2 y3
    go_wp2_with fail
    refine (HI.out _).mono ?_
    rintro e w4 ⟨rfl, g4⟩
    have HI4 : Hid (SwI w w4 n d n2 d2 s t s2 t2) := HI3.out.kept g4
    clear g4
    have hR := HI4.out.2.2.1
    have r0 := hR.c0
    have r1 := hR.c1
    have r2 := hR.c2
    have r3 := hR.c3
    have f0 := hR.fr 0
    have f1 := hR.fr 1
    have f2 := hR.fr 2
    have f3 := hR.fr 3
    go_wp2_with fail
    refine bodyPost_ret (res_cellQ_tmp rfl _ _ (w.heap.size + 1 + 1) _ _ _ _ _ _ rfl (hR.put _ _ _ _)) rfl ?_
    exact ⟨rfl, grown_put4 HI4.out.2.2.2 (by omega)⟩)
theorem sim_neg (n d n2 d2 rn rd : Bool) (s t s2 t2 rs rt : ByteArray) (c sx : Int) (hc : c = -1 ∨ c = 0) (hs : sx ≤ 0) (hm1 : may n s = true) (hm2 : may n2 s2 = true) (hmr : may rn rs = true) (w : World)
    (HC : Hid (∀ w, Calls Tryz.prog 73 #[frac n s d t, frac n2 s2 d2 t2] w fun e w' => e = .returned (.tuple #[.int .i64 c, .int .i64 0]) ∧ w.grownBy w' none))
    (HX : Hid (∀ a b f g z (w : World), (a = n ∧ b = s ∧ f = d ∧ g = t ∧ z = sx) ∨ (a = n2 ∧ b = s2 ∧ f = d2 ∧ g = t2 ∧ z = -1) → Calls Tryz.prog 22 #[frac a b f g] w fun e w' => e = .returned (.int .i64 z) ∧ w.grownBy w' none))
    (HS : Hid (∀ w, Calls Tryz.prog 74 #[frac (ngs n2 s2) s2 d2 t2, frac (ngs n s) s d t] w fun e w' => e = .returned (.tuple #[frac rn rs rd rt, .int .i64 0]) ∧ w.grownBy w' none)) :
    Calls Tryz.prog 29 #[frac n s d t, frac n2 s2 d2 t2] w fun e w' => e = .returned (.tuple #[frac (ngs rn rs) rs rd rt, .int .i64 0]) ∧ w.grownBy w' none := by
  have hI0 := SwI.first w n d n2 d2 s t s2 t2
  rcases hc with rfl | rfl
  all_goals (
    go_enter Tryz.func29, Tryz.ntmps29
    go_wp2_with fail
    refine (HC.out _).mono ?_
    rintro e w1 ⟨rfl, g1⟩
    have HI1 : Hid (SwI w w1 n d n2 d2 s t s2 t2) := hI0.kept g1
    clear g1
    have x0 := HI1.out.1.c0
    have x1 := HI1.out.1.c1
    have x2 := HI1.out.1.c2
    have x3 := HI1.out.1.c3
    go_wp2_with fail
    refine (HX.out _ _ _ _ _ _ (.inl ⟨rfl, rfl, rfl, rfl, rfl⟩)).mono ?_
    rintro e w2 ⟨rfl, g2⟩
    have HI2 : Hid (SwI w w2 n d n2 d2 s t s2 t2) := HI1.out.kept g2
    clear g2 x0 x1 x2 x3
    have y0 := HI2.out.2.1.c0
    have y1 := HI2.out.2.1.c1
    have y2 := HI2.out.2.1.c2
    have y3 := HI2.out.2.1.c3
    go_wp2_with fail
    refine (HX.out _ _ _ _ _ _ (.inr ⟨rfl, rfl, rfl, rfl, rfl⟩)).mono ?_
    rintro e w3 ⟨rfl, g3⟩
    have HI3 : Hid (SwI w w3 n d n2 d2 s t s2 t2) := HI2.out.kept g3
    clear g3 y0 y1 y2 y3
    go_upto_region 8 with fail
    have HK : Hid (∀ w', w3.grownBy w' none → w'.cell? ⟨w.heap.size, 0, none⟩ = some (.bool n) ∧ w'.cell? ⟨w.heap.size, 1, none⟩ = some (.string s) ∧ w'.cell? ⟨w.heap.size, 2, none⟩ = some (.bool d) ∧ w'.cell? ⟨w.heap.size, 3, none⟩ = some (.string t) ∧ w'.cell? ⟨w.heap.size + 1, 0, none⟩ = some (.bool n2) ∧ w'.cell? ⟨w.heap.size + 1, 1, none⟩ = some (.string s2) ∧ w'.cell? ⟨w.heap.size + 1, 2, none⟩ = some (.bool d2) ∧ w'.cell? ⟨w.heap.size + 1, 3, none⟩ = some (.string t2)) := fun w' hg => by
      have h := HI3.out.kept hg
      exact ⟨h.1.c0, h.1.c1, h.1.c2, h.1.c3, h.2.1.c0, h.2.1.c1, h.2.1.c2, h.2.1.c3⟩
    have hlt := HI3.out.2.2.1.lt
    go_cut [8, 9] from 35 to 42 (fun s8 s9 wx => ∃ P, s8 = .pointer (some ⟨P, 0, none⟩) ∧ s9 = .int .i64 0 ∧ QBlk wx P (.bool rn) (.string rs) (.bool rd) (.string rt) ∧ w.heap.size + 1 + 1 < P ∧ SwI w wx n d n2 d2 s t s2 t2)
    case first =>
      obtain ⟨k0, k1, k2, k3, k4, k5, k6, k7⟩ := HK.out _ (World.grownBy.refl _ _)
      go_region_held3 (fun w' => w'.cell? ⟨w.heap.size, 0, none⟩ = some (.bool n) ∧ w'.cell? ⟨w.heap.size, 1, none⟩ = some (.string s) ∧ w'.cell? ⟨w.heap.size, 2, none⟩ = some (.bool d) ∧ w'.cell? ⟨w.heap.size, 3, none⟩ = some (.string t) ∧ w'.cell? ⟨w.heap.size + 1, 0, none⟩ = some (.bool n2) ∧ w'.cell? ⟨w.heap.size + 1, 1, none⟩ = some (.string s2) ∧ w'.cell? ⟨w.heap.size + 1, 2, none⟩ = some (.bool d2) ∧ w'.cell? ⟨w.heap.size + 1, 3, none⟩ = some (.string t2))
        (first | (go_keep; done) | with_reducible exact HK.out _ (by assumption) | with_reducible exact HK.out _ (grow_drew (World.grownBy.refl _ _)) | with_reducible exact HK.out _ (grownBy_trans (by assumption) (grow1 _ _)) | with_reducible exact HK.out _ (grownBy_trans (grow_drew (World.grownBy.refl _ _)) (grow1 _ _)) | exact HK.out _ (grown_put4 GC (by first | exact Nat.le_refl _ | exact GA.size | exact GB.size)) | fail)
        (first
          | (go_at_call 50; refine (opp_any _ _ _ _ (by assumption) _).mono ?_; first | (have _q := GA; rintro e wB ⟨rfl, gB⟩; have GB : w3.grownBy wB none := (by first | exact grownBy_trans GA gB | exact grownBy_trans GA (grownBy_trans (grow1 _ _) gB)); (first | (have hPB : QBlk wB w3.heap.size (.bool false) (.string eS) (.bool false) (.string eS) := QBlk.kept hPA gB (by simp)) | (have hPB : QBlk wB wA.heap.size (.bool false) (.string eS) (.bool false) (.string eS) := QBlk.kept (heap_alloc_new _ _) gB (by simp)) | skip)) | (rintro e wA ⟨rfl, gA⟩; have GA : w3.grownBy wA none := (by first | exact grownBy_undrew gA | exact grownBy_trans (grow1 _ _) (grownBy_undrew gA) | exact grownBy_undrew (grownBy_trans (grow1 _ _) gA) | exact gA); (try (have hPA : QBlk wA w3.heap.size (.bool false) (.string eS) (.bool false) (.string eS) := (by first | exact QBlk.kept (heap_alloc_new _ _) gA (by simp) | exact QBlk.kept (heap_alloc_new _ _) (grownBy_undrew gA) (by simp))))))
          | (go_at_call 74; refine (HS.out _).mono ?_; rintro e wC ⟨rfl, gC⟩; have GC : w3.grownBy wC none := (by first | exact grownBy_trans GB gC | exact grownBy_trans GB (grownBy_trans (grow1 _ _) gC)); (first | (have hPC := QBlk.kept hPB gC (by simp); have j0 := hPC.c0; have j1 := hPC.c1; have j2 := hPC.c2; have j3 := hPC.c3; have j4 := hPC.fr 0; have j5 := hPC.fr 1; have j6 := hPC.fr 2; have j7 := hPC.fr 3) | (have hPC : QBlk wC wB.heap.size (.bool false) (.string eS) (.bool false) (.string eS) := QBlk.kept (heap_alloc_new _ _) gC (by simp); have j0 := hPC.c0; have j1 := hPC.c1; have j2 := hPC.c2; have j3 := hPC.c3; have j4 := hPC.fr 0; have j5 := hPC.fr 1; have j6 := hPC.fr 2; have j7 := hPC.fr 3) | skip))
          | fail)
      all_goals (go_wp2_with fail; go_meet)
      · exact ⟨_, rfl, rfl, heap_alloc_new _ _, by have := GC.size; omega, (HI3.out.kept GC).kept (grow1 _ _)⟩
      · exact ⟨_, rfl, rfl, hPC.put _ _ _ _, by have := GB.size; omega, (HI3.out.kept GC).put (by have := GB.size; omega) _ _ _ _⟩
      · exact ⟨_, rfl, rfl, hPC.put _ _ _ _, by have := GA.size; omega, (HI3.out.kept GC).put (by have := GA.size; omega) _ _ _ _⟩
      · exact ⟨_, rfl, rfl, hPC.put _ _ _ _, by omega, (HI3.out.kept GC).put (by omega) _ _ _ _⟩
    case rest =>
      obtain ⟨P, rfl, rfl, hP, hPl, hI⟩ := hcut
      have HP : Hid (QBlk wc P (.bool rn) (.string rs) (.bool rd) (.string rt)) := hP
      have HI4 : Hid (SwI w wc n d n2 d2 s t s2 t2) := hI
      have p0 := hP.c0
      have p1 := hP.c1
      have p2 := hP.c2
      have p3 := hP.c3
      clear hP hI HK HI3 hlt
      go_wp2_with fail
      refine (opp_any _ _ _ _ hmr _).mono ?_
      rintro e w5 ⟨rfl, g5⟩
      have HI5 : Hid (SwI w w5 n d n2 d2 s t s2 t2) := HI4.out.kept g5
      clear g5 p0 p1 p2 p3
      have hR := HI5.out.2.2.1
      have r0 := hR.c0
      have r1 := hR.c1
      have r2 := hR.c2
      have r3 := hR.c3
      have f0 := hR.fr 0
      have f1 := hR.fr 1
      have f2 := hR.fr 2
      have f3 := hR.fr 3
      go_wp2_with fail
      refine bodyPost_ret (res_cellQ_tmp rfl _ _ (w.heap.size + 1 + 1) _ _ _ _ _ _ rfl (hR.put _ _ _ _)) rfl ?_
      exact ⟨rfl, grown_put4 HI5.out.2.2.2 (by omega)⟩)
theorem sm_comm : ∀ (f : Nat) (N1 D1 N2 D2 : Int), sm f N1 D1 N2 D2 = sm f N2 D2 N1 D1
  | 0, _, _, _, _ => rfl
  | f + 1, N1, D1, N2, D2 => by
    have ih := sm_comm f D1 (N1 % D1) D2 (N2 % D2)
    unfold sm
    generalize N1 / D1 = a at *
    generalize N2 / D2 = c at *
    generalize N1 % D1 = r at *
    generalize N2 % D2 = s at *
    by_cases h1 : a ≤ c ∧ r = 0
    · by_cases h2 : c ≤ a ∧ s = 0
      · rw [if_pos h1, if_pos h2, show a = c by omega]
      · rw [if_pos h1, if_neg h2, if_pos h1]
    · by_cases h2 : c ≤ a ∧ s = 0
      · rw [if_neg h1, if_pos h2, if_pos h2]
      · rw [if_neg h1, if_neg h2, if_neg h2, if_neg h1]
        by_cases h3 : a < c
        · rw [if_pos h3, if_neg (show ¬ c < a by omega), if_pos h3]
        · by_cases h4 : c < a
          · rw [if_neg h3, if_pos h4, if_pos h4]
          · rw [if_neg h3, if_neg h4, if_neg h4, if_neg h3, ih, show a = c by omega]
theorem isq_ez {N D : Int} (hD : 0 < D) (hg : Int.gcd N D = 1) (bn : N.natAbs < 256 ^ 1024) (bd : D.natAbs < 256 ^ 1024) : IsQ N D (ez N).1 (ez N).2 (ez D).1 (ez D).2 := ⟨⟨ez_is N, bn⟩, ⟨ez_is D, bd⟩, hD, hg⟩
theorem isq_11 : IsQ 1 1 false oneS false oneS := ⟨one_1024, one_1024, by decide, by decide⟩
theorem cmpZ_le {a b : Int} (h : a ≤ b) : cmpZ a b ≤ 0 := by
  rcases Int.lt_or_eq_of_le h with h | h
  · rw [cmpZ_lt h]; decide
  · rw [h, cmpZ_same]; decide
theorem fo_one (a : Int) : fo [a] = (a, 1) := by simp [fo]
theorem int_lt {z : Int} {m : Nat} (h0 : 0 ≤ z) (h1 : z < (m : Int)) : z.natAbs < m := by omega
theorem zero_k (k : Nat) : Sz k 0 false eS := ⟨zero_z, by show (0 : Nat) < 256 ^ k; exact Nat.pow_pos (by decide)⟩
theorem hk2 : 100 ≤ 1024 := by decide
theorem cmpZ_ge {a b : Int} (h : b ≤ a) : 0 ≤ cmpZ a b := by
  rcases Int.lt_or_eq_of_le h with h | h
  · rw [cmpZ_gt h]; decide
  · rw [h, cmpZ_same]; decide
theorem cmpZ_two {a b : Int} (h : a ≤ b) : cmpZ a b = -1 ∨ cmpZ a b = 0 := by
  rcases Int.lt_or_eq_of_le h with h | h
  · exact .inl (cmpZ_lt h)
  · exact .inr (by rw [h, cmpZ_same])
theorem isq_01 : IsQ 0 1 false eS false oneS := ⟨zero_k 1024, one_1024, by decide, by decide⟩
end Go.Proofs.YtdfliaogmlpefaaGreatDoor
