/-
  frac's Simplest, by what it asks.
  The document's Simplest, by what it asks.
  The document's Simplest of two fractions above 0, by what it asks.
-/
import Derived.Test.YtdfliaogmlpefaaGreatDoorBunOna
import Derived.Test.YtdfliaogmlpefaaGreatDoorBunFrp
import Derived.Deep.CutRange
namespace Go.Proofs.YtdfliaogmlpefaaGreatDoor
open Go.RowKit Go.Lib Go.Sort
set_option linter.unusedVariables false
set_option maxHeartbeats 6400000
set_option maxRecDepth 1000000
theorem opp_any (n d : Bool) (s t : ByteArray) (hm : may n s = true) (w : World) : Calls Tryz.prog 50 #[frac n s d t] w fun e w' => e = .returned (frac (ngs n s) s d t) ∧ w.grownBy w' none :=
  opposite_by n d (ngs n s) s t s (fun w => neg_yes n s (by have := may_size hm; unfold maxLen; omega) hm w) w
theorem sim_no (n d n2 d2 : Bool) (s t s2 t2 : ByteArray) (c er : Int) (h : (er = 2 ∧ c = 0) ∨ (er = 0 ∧ c = 1)) (w : World)
    (HC : Hid (∀ w, Calls Tryz.prog 73 #[frac n s d t, frac n2 s2 d2 t2] w fun e w' => e = .returned (.tuple #[.int .i64 c, .int .i64 er]) ∧ w.grownBy w' none)) :
    Calls Tryz.prog 29 #[frac n s d t, frac n2 s2 d2 t2] w fun e w' => e = .returned (.tuple #[frac false eS false eS, .int .i64 2]) ∧ w.grownBy w' none := by
  rcases h with ⟨rfl, rfl⟩ | ⟨rfl, rfl⟩
  all_goals (
    go_enter Tryz.func29, Tryz.ntmps29
    go_wp2_with fail
    refine (HC.out _).mono ?_
    rintro e w1 ⟨rfl, g1⟩
    have hR : QBlk w1 (w.heap.size + 1 + 1) (.bool false) (.string eS) (.bool false) (.string eS) := QBlk.kept (w := ((w.alloc (qObj n s d t)).alloc (qObj n2 s2 d2 t2)).alloc (qObj false eS false eS)) (at_alloc3 _ _ _ _) g1 (by simp)
    have HG : Hid (w.grownBy w1 none) := grownBy_trans (grow3 _ _ _ _) g1
    have r0 := hR.c0
    have r1 := hR.c1
    have r2 := hR.c2
    have r3 := hR.c3
    have f0 := hR.fr 0
    have f1 := hR.fr 1
    have f2 := hR.fr 2
    have f3 := hR.fr 3
    clear g1
    go_wp2_with fail
    refine bodyPost_ret (res_cellQ_tmp rfl _ _ (w.heap.size + 1 + 1) _ _ _ _ _ _ rfl (hR.put _ _ _ _)) rfl ?_
    exact ⟨rfl, grown_put4 HG.out (by omega)⟩)
def SwI (w W : World) (n d n2 d2 : Bool) (s t s2 t2 : ByteArray) : Prop := QBlk W w.heap.size (.bool n) (.string s) (.bool d) (.string t) ∧ QBlk W (w.heap.size + 1) (.bool n2) (.string s2) (.bool d2) (.string t2) ∧ QBlk W (w.heap.size + 1 + 1) (.bool false) (.string eS) (.bool false) (.string eS) ∧ w.grownBy W none
theorem SwI.kept {w W W' : World} {n d n2 d2 : Bool} {s t s2 t2 : ByteArray} (h : SwI w W n d n2 d2 s t s2 t2) (g : W.grownBy W' none) : SwI w W' n d n2 d2 s t s2 t2 := ⟨h.1.kept g (by simp), h.2.1.kept g (by simp), h.2.2.1.kept g (by simp), grownBy_trans h.2.2.2 g⟩
theorem SwI.put {w W : World} {n d n2 d2 : Bool} {s t s2 t2 : ByteArray} (h : SwI w W n d n2 d2 s t s2 t2) {P : Nat} (hP : w.heap.size + 1 + 1 < P) (a b c e : Value) : SwI w ((((W.setCell ⟨P, 0, none⟩ a).setCell ⟨P, 1, none⟩ b).setCell ⟨P, 2, none⟩ c).setCell ⟨P, 3, none⟩ e) n d n2 d2 s t s2 t2 := by
  have hg : W.grownBy ((((W.setCell ⟨P, 0, none⟩ a).setCell ⟨P, 1, none⟩ b).setCell ⟨P, 2, none⟩ c).setCell ⟨P, 3, none⟩ e) (some P) := grownBy_trans (grownBy_trans (grownBy_setCell _ _ _ _) (grownBy_setCell _ _ _ _)) (grownBy_trans (grownBy_setCell _ _ _ _) (grownBy_setCell _ _ _ _))
  exact ⟨h.1.kept hg (by intro e; injection e with e; omega), h.2.1.kept hg (by intro e; injection e with e; omega), h.2.2.1.kept hg (by intro e; injection e with e; omega), grown_put4 h.2.2.2 (by omega)⟩
theorem SwI.putR {w W : World} {n d n2 d2 : Bool} {s t s2 t2 : ByteArray} (h : SwI w W n d n2 d2 s t s2 t2) (a b c e : Value) : QBlk ((((W.setCell ⟨w.heap.size + 1 + 1, 0, none⟩ a).setCell ⟨w.heap.size + 1 + 1, 1, none⟩ b).setCell ⟨w.heap.size + 1 + 1, 2, none⟩ c).setCell ⟨w.heap.size + 1 + 1, 3, none⟩ e) w.heap.size (.bool n) (.string s) (.bool d) (.string t) ∧ QBlk ((((W.setCell ⟨w.heap.size + 1 + 1, 0, none⟩ a).setCell ⟨w.heap.size + 1 + 1, 1, none⟩ b).setCell ⟨w.heap.size + 1 + 1, 2, none⟩ c).setCell ⟨w.heap.size + 1 + 1, 3, none⟩ e) (w.heap.size + 1) (.bool n2) (.string s2) (.bool d2) (.string t2) := by
  have hg : W.grownBy ((((W.setCell ⟨w.heap.size + 1 + 1, 0, none⟩ a).setCell ⟨w.heap.size + 1 + 1, 1, none⟩ b).setCell ⟨w.heap.size + 1 + 1, 2, none⟩ c).setCell ⟨w.heap.size + 1 + 1, 3, none⟩ e) (some (w.heap.size + 1 + 1)) := grownBy_trans (grownBy_trans (grownBy_setCell _ _ _ _) (grownBy_setCell _ _ _ _)) (grownBy_trans (grownBy_setCell _ _ _ _) (grownBy_setCell _ _ _ _))
  exact ⟨h.1.kept hg (by intro e; injection e with e; omega), h.2.1.kept hg (by intro e; injection e with e; omega)⟩
theorem SwI.first (w : World) (n d n2 d2 : Bool) (s t s2 t2 : ByteArray) : SwI w (((w.alloc (qObj n s d t)).alloc (qObj n2 s2 d2 t2)).alloc (qObj false eS false eS)) n d n2 d2 s t s2 t2 := ⟨old_alloc _ _ (old_alloc _ _ (heap_alloc_new _ _)), old_alloc _ _ (heap_alloc2_new _ _ _), at_alloc3 _ _ _ _, grow3 _ _ _ _⟩
theorem sim_pos (n d n2 d2 rn rd : Bool) (s t s2 t2 rs rt : ByteArray) (c sx : Int) (hc : c = -1 ∨ c = 0) (hs : sx = 1) (w : World)
    (HC : Hid (∀ w, Calls Tryz.prog 73 #[frac n s d t, frac n2 s2 d2 t2] w fun e w' => e = .returned (.tuple #[.int .i64 c, .int .i64 0]) ∧ w.grownBy w' none))
    (HX : Hid (∀ w, Calls Tryz.prog 22 #[frac n s d t] w fun e w' => e = .returned (.int .i64 sx) ∧ w.grownBy w' none))
    (HS : Hid (∀ w, Calls Tryz.prog 74 #[frac n s d t, frac n2 s2 d2 t2] w fun e w' => e = .returned (.tuple #[frac rn rs rd rt, .int .i64 0]) ∧ w.grownBy w' none)) :
    Calls Tryz.prog 29 #[frac n s d t, frac n2 s2 d2 t2] w fun e w' => e = .returned (.tuple #[frac rn rs rd rt, .int .i64 0]) ∧ w.grownBy w' none := by
  subst hs
  have hI0 := SwI.first w n d n2 d2 s t s2 t2
  rcases hc with rfl | rfl
  all_goals (
    go_enter Tryz.func29, Tryz.ntmps29
    go_wp2_with fail
    refine (HC.out _).mono ?_
    rintro e w1 ⟨rfl, g1⟩
    have HI1 : Hid (SwI w w1 n d n2 d2 s t s2 t2) := hI0.kept g1
    clear g1
    have x0 := HI1.out.1.c0
    have x1 := HI1.out.1.c1
    have x2 := HI1.out.1.c2
    have x3 := HI1.out.1.c3
    go_wp2_with fail
    refine (HX.out _).mono ?_
    rintro e w2 ⟨rfl, g2⟩
    have HI2 : Hid (SwI w w2 n d n2 d2 s t s2 t2) := HI1.out.kept g2
    clear g2 x0 x1 x2 x3
    have x0 := HI2.out.1.c0
    have x1 := HI2.out.1.c1
    have x2 := HI2.out.1.c2
    have x3 := HI2.out.1.c3
    have y0 := HI2.out.2.1.c0
    have y1 := HI2.out.2.1.c1
    have y2 := HI2.out.2.1.c2
    have y3 := HI2.out.2.1.c3
    go_wp2_with fail
    refine (HS.out _).mono ?_
    rintro e w3 ⟨rfl, g3⟩
    have HI3 : Hid (SwI w w3 n d n2 d2 s t s2 t2) := HI2.out.kept g3
    clear g3 x0 x1 x2 x3 y0 y1 y2 y3
    have hR := HI3.out.2.2.1
    have r0 := hR.c0
    have r1 := hR.c1
    have r2 := hR.c2
    have r3 := hR.c3
    have f0 := hR.fr 0
    have f1 := hR.fr 1
    have f2 := hR.fr 2
    have f3 := hR.fr 3
    go_wp2_with fail
    refine bodyPost_ret (res_cellQ_tmp rfl _ _ (w.heap.size + 1 + 1) _ _ _ _ _ _ rfl (hR.put _ _ _ _)) rfl ?_
    exact ⟨rfl, grown_put4 HI3.out.2.2.2 (by omega)⟩)
theorem sim_zero (n d n2 d2 : Bool) (s t s2 t2 : ByteArray) (c sx sy : Int) (hc : c = -1 ∨ c = 0) (hs : sx ≤ 0) (hy : 0 ≤ sy) (w : World)
    (HC : Hid (∀ w, Calls Tryz.prog 73 #[frac n s d t, frac n2 s2 d2 t2] w fun e w' => e = .returned (.tuple #[.int .i64 c, .int .i64 0]) ∧ w.grownBy w' none))
    (HX : Hid (∀ a b f g z (w : World), (a = n ∧ b = s ∧ f = d ∧ g = t ∧ z = sx) ∨ (a = n2 ∧ b = s2 ∧ f = d2 ∧ g = t2 ∧ z = sy) → Calls Tryz.prog 22 #[frac a b f g] w fun e w' => e = .returned (.int .i64 z) ∧ w.grownBy w' none))
    (HI : Hid (∀ w, Calls Tryz.prog 19 #[.int .i64 0] w fun e w' => e = .returned (frac false eS false oneS) ∧ w.grownBy w' none)) :
    Calls Tryz.prog 29 #[frac n s d t, frac n2 s2 d2 t2] w fun e w' => e = .returned (.tuple #[frac false eS false oneS, .int .i64 0]) ∧ w.grownBy w' none := by
  have hI0 := SwI.first w n d n2 d2 s t s2 t2
  rcases hc with rfl | rfl
  all_goals (
    go_enter Tryz.func29, Tryz.ntmps29
    go_wp2_with fail
    refine (HC.out _).mono ?_
    rintro e w1 ⟨rfl, g1⟩
    have HI1 : Hid (SwI w w1 n d n2 d2 s t s2 t2) := hI0.kept g1
    clear g1
    have x0 := HI1.out.1.c0
    have x1 := HI1.out.1.c1
    have x2 := HI1.out.1.c2
    have x3 := HI1.out.1.c3
    go_wp2_with fail
    refine (HX.out _ _ _ _ _ _ (.inl ⟨rfl, rfl, rfl, rfl, rfl⟩)).mono ?_
    rintro e w2 ⟨rfl, g2⟩
    have HI2 : Hid (SwI w w2 n d n2 d2 s t s2 t2) := HI1.out.kept g2
    clear g2 x0 x1 x2 x3
    have y0 := HI2.out.2.1.c0
    have y1 := HI2.out.2.1.c1
    have y2 := HI2.out.2.1.c2
    have y3 := HI2.out.2.1.c3
    go_wp2_with fail
    refine (HX.out _ _ _ _ _ _ (.inr ⟨rfl, rfl, rfl, rfl, rfl⟩)).mono ?_
    rintro e w3 ⟨rfl, g3⟩
    have HI3 : Hid (SwI w w3 n d n2 d2 s t s2 t2) := HI2.out.kept g3
    clear g3 y0 y1 y2 y3
    go_wp2_with fail
    refine (HI.out _).mono ?_
    rintro e w4 ⟨rfl, g4⟩
    have HI4 : Hid (SwI w w4 n d n2 d2 s t s2 t2) := HI3.out.kept g4
    clear g4
    have hR := HI4.out.2.2.1
    have r0 := hR.c0
    have r1 := hR.c1
    have r2 := hR.c2
    have r3 := hR.c3
    have f0 := hR.fr 0
    have f1 := hR.fr 1
    have f2 := hR.fr 2
    have f3 := hR.fr 3
    go_wp2_with fail
    refine bodyPost_ret (res_cellQ_tmp rfl _ _ (w.heap.size + 1 + 1) _ _ _ _ _ _ rfl (hR.put _ _ _ _)) rfl ?_
    exact ⟨rfl, grown_put4 HI4.out.2.2.2 (by omega)⟩)
theorem sim_neg (n d n2 d2 rn rd : Bool) (s t s2 t2 rs rt : ByteArray) (c sx : Int) (hc : c = -1 ∨ c = 0) (hs : sx ≤ 0) (hm1 : may n s = true) (hm2 : may n2 s2 = true) (hmr : may rn rs = true) (w : World)
    (HC : Hid (∀ w, Calls Tryz.prog 73 #[frac n s d t, frac n2 s2 d2 t2] w fun e w' => e = .returned (.tuple #[.int .i64 c, .int .i64 0]) ∧ w.grownBy w' none))
    (HX : Hid (∀ a b f g z (w : World), (a = n ∧ b = s ∧ f = d ∧ g = t ∧ z = sx) ∨ (a = n2 ∧ b = s2 ∧ f = d2 ∧ g = t2 ∧ z = -1) → Calls Tryz.prog 22 #[frac a b f g] w fun e w' => e = .returned (.int .i64 z) ∧ w.grownBy w' none))
    (HS : Hid (∀ w, Calls Tryz.prog 74 #[frac (ngs n2 s2) s2 d2 t2, frac (ngs n s) s d t] w fun e w' => e = .returned (.tuple #[frac rn rs rd rt, .int .i64 0]) ∧ w.grownBy w' none)) :
    Calls Tryz.prog 29 #[frac n s d t, frac n2 s2 d2 t2] w fun e w' => e = .returned (.tuple #[frac (ngs rn rs) rs rd rt, .int .i64 0]) ∧ w.grownBy w' none := by
  have hI0 := SwI.first w n d n2 d2 s t s2 t2
  rcases hc with rfl | rfl
  all_goals (
    go_enter Tryz.func29, Tryz.ntmps29
    go_wp2_with fail
    refine (HC.out _).mono ?_
    rintro e w1 ⟨rfl, g1⟩
    have HI1 : Hid (SwI w w1 n d n2 d2 s t s2 t2) := hI0.kept g1
    clear g1
    have x0 := HI1.out.1.c0
    have x1 := HI1.out.1.c1
    have x2 := HI1.out.1.c2
    have x3 := HI1.out.1.c3
    go_wp2_with fail
    refine (HX.out _ _ _ _ _ _ (.inl ⟨rfl, rfl, rfl, rfl, rfl⟩)).mono ?_
    rintro e w2 ⟨rfl, g2⟩
    have HI2 : Hid (SwI w w2 n d n2 d2 s t s2 t2) := HI1.out.kept g2
    clear g2 x0 x1 x2 x3
    have y0 := HI2.out.2.1.c0
    have y1 := HI2.out.2.1.c1
    have y2 := HI2.out.2.1.c2
    have y3 := HI2.out.2.1.c3
    go_wp2_with fail
    refine (HX.out _ _ _ _ _ _ (.inr ⟨rfl, rfl, rfl, rfl, rfl⟩)).mono ?_
    rintro e w3 ⟨rfl, g3⟩
    have HI3 : Hid (SwI w w3 n d n2 d2 s t s2 t2) := HI2.out.kept g3
    clear g3 y0 y1 y2 y3
    go_upto_region 8 with fail
    have HK : Hid (∀ w', w3.grownBy w' none → w'.cell? ⟨w.heap.size, 0, none⟩ = some (.bool n) ∧ w'.cell? ⟨w.heap.size, 1, none⟩ = some (.string s) ∧ w'.cell? ⟨w.heap.size, 2, none⟩ = some (.bool d) ∧ w'.cell? ⟨w.heap.size, 3, none⟩ = some (.string t) ∧ w'.cell? ⟨w.heap.size + 1, 0, none⟩ = some (.bool n2) ∧ w'.cell? ⟨w.heap.size + 1, 1, none⟩ = some (.string s2) ∧ w'.cell? ⟨w.heap.size + 1, 2, none⟩ = some (.bool d2) ∧ w'.cell? ⟨w.heap.size + 1, 3, none⟩ = some (.string t2)) := fun w' hg => by
      have h := HI3.out.kept hg
      exact ⟨h.1.c0, h.1.c1, h.1.c2, h.1.c3, h.2.1.c0, h.2.1.c1, h.2.1.c2, h.2.1.c3⟩
    have hlt := HI3.out.2.2.1.lt
    go_cut [8, 9] from 35 to 42 (fun s8 s9 wx => ∃ P, s8 = .pointer (some ⟨P, 0, none⟩) ∧ s9 = .int .i64 0 ∧ QBlk wx P (.bool rn) (.string rs) (.bool rd) (.string rt) ∧ w.heap.size + 1 + 1 < P ∧ SwI w wx n d n2 d2 s t s2 t2)
    case first =>
      obtain ⟨k0, k1, k2, k3, k4, k5, k6, k7⟩ := HK.out _ (World.grownBy.refl _ _)
      go_region_held3 (fun w' => w'.cell? ⟨w.heap.size, 0, none⟩ = some (.bool n) ∧ w'.cell? ⟨w.heap.size, 1, none⟩ = some (.string s) ∧ w'.cell? ⟨w.heap.size, 2, none⟩ = some (.bool d) ∧ w'.cell? ⟨w.heap.size, 3, none⟩ = some (.string t) ∧ w'.cell? ⟨w.heap.size + 1, 0, none⟩ = some (.bool n2) ∧ w'.cell? ⟨w.heap.size + 1, 1, none⟩ = some (.string s2) ∧ w'.cell? ⟨w.heap.size + 1, 2, none⟩ = some (.bool d2) ∧ w'.cell? ⟨w.heap.size + 1, 3, none⟩ = some (.string t2))
        (first | (go_keep; done) | with_reducible exact HK.out _ (by assumption) | with_reducible exact HK.out _ (grow_drew (World.grownBy.refl _ _)) | with_reducible exact HK.out _ (grownBy_trans (by assumption) (grow1 _ _)) | with_reducible exact HK.out _ (grownBy_trans (grow_drew (World.grownBy.refl _ _)) (grow1 _ _)) | exact HK.out _ (grown_put4 GC (by first | exact Nat.le_refl _ | exact GA.size | exact GB.size)) | fail)
        (first
          | (go_at_call 50; refine (opp_any _ _ _ _ (by assumption) _).mono ?_; first | (have _q := GA; rintro e wB ⟨rfl, gB⟩; have GB : w3.grownBy wB none := (by first | exact grownBy_trans GA gB | exact grownBy_trans GA (grownBy_trans (grow1 _ _) gB)); (first | (have hPB : QBlk wB w3.heap.size (.bool false) (.string eS) (.bool false) (.string eS) := QBlk.kept hPA gB (by simp)) | (have hPB : QBlk wB wA.heap.size (.bool false) (.string eS) (.bool false) (.string eS) := QBlk.kept (heap_alloc_new _ _) gB (by simp)) | skip)) | (rintro e wA ⟨rfl, gA⟩; have GA : w3.grownBy wA none := (by first | exact grownBy_undrew gA | exact grownBy_trans (grow1 _ _) (grownBy_undrew gA) | exact grownBy_undrew (grownBy_trans (grow1 _ _) gA) | exact gA); (try (have hPA : QBlk wA w3.heap.size (.bool false) (.string eS) (.bool false) (.string eS) := (by first | exact QBlk.kept (heap_alloc_new _ _) gA (by simp) | exact QBlk.kept (heap_alloc_new _ _) (grownBy_undrew gA) (by simp))))))
          | (go_at_call 74; refine (HS.out _).mono ?_; rintro e wC ⟨rfl, gC⟩; have GC : w3.grownBy wC none := (by first | exact grownBy_trans GB gC | exact grownBy_trans GB (grownBy_trans (grow1 _ _) gC)); (first | (have hPC := QBlk.kept hPB gC (by simp); have j0 := hPC.c0; have j1 := hPC.c1; have j2 := hPC.c2; have j3 := hPC.c3; have j4 := hPC.fr 0; have j5 := hPC.fr 1; have j6 := hPC.fr 2; have j7 := hPC.fr 3) | (have hPC : QBlk wC wB.heap.size (.bool false) (.string eS) (.bool false) (.string eS) := QBlk.kept (heap_alloc_new _ _) gC (by simp); have j0 := hPC.c0; have j1 := hPC.c1; have j2 := hPC.c2; have j3 := hPC.c3; have j4 := hPC.fr 0; have j5 := hPC.fr 1; have j6 := hPC.fr 2; have j7 := hPC.fr 3) | skip))
          | fail)
      all_goals (go_wp2_with fail; go_meet)
      · exact ⟨_, rfl, rfl, heap_alloc_new _ _, by have := GC.size; omega, (HI3.out.kept GC).kept (grow1 _ _)⟩
      · exact ⟨_, rfl, rfl, hPC.put _ _ _ _, by have := GB.size; omega, (HI3.out.kept GC).put (by have := GB.size; omega) _ _ _ _⟩
      · exact ⟨_, rfl, rfl, hPC.put _ _ _ _, by have := GA.size; omega, (HI3.out.kept GC).put (by have := GA.size; omega) _ _ _ _⟩
      · exact ⟨_, rfl, rfl, hPC.put _ _ _ _, by omega, (HI3.out.kept GC).put (by omega) _ _ _ _⟩
    case rest =>
      obtain ⟨P, rfl, rfl, hP, hPl, hI⟩ := hcut
      have HP : Hid (QBlk wc P (.bool rn) (.string rs) (.bool rd) (.string rt)) := hP
      have HI4 : Hid (SwI w wc n d n2 d2 s t s2 t2) := hI
      have p0 := hP.c0
      have p1 := hP.c1
      have p2 := hP.c2
      have p3 := hP.c3
      clear hP hI HK HI3 hlt
      go_wp2_with fail
      refine (opp_any _ _ _ _ hmr _).mono ?_
      rintro e w5 ⟨rfl, g5⟩
      have HI5 : Hid (SwI w w5 n d n2 d2 s t s2 t2) := HI4.out.kept g5
      clear g5 p0 p1 p2 p3
      have hR := HI5.out.2.2.1
      have r0 := hR.c0
      have r1 := hR.c1
      have r2 := hR.c2
      have r3 := hR.c3
      have f0 := hR.fr 0
      have f1 := hR.fr 1
      have f2 := hR.fr 2
      have f3 := hR.fr 3
      go_wp2_with fail
      refine bodyPost_ret (res_cellQ_tmp rfl _ _ (w.heap.size + 1 + 1) _ _ _ _ _ _ rfl (hR.put _ _ _ _)) rfl ?_
      exact ⟨rfl, grown_put4 HI5.out.2.2.2 (by omega)⟩)
theorem rsim_zero (n d n2 d2 : Bool) (s t s2 t2 : ByteArray) (sx sy : Int) (hs : sx ≤ 0) (hy : 0 ≤ sy) (w : World)
    (HX : Hid (∀ a b f g z (w : World), (a = n ∧ b = s ∧ f = d ∧ g = t ∧ z = sx) ∨ (a = n2 ∧ b = s2 ∧ f = d2 ∧ g = t2 ∧ z = sy) → Calls Tryz.prog 28 #[frac a b f g] w fun e w' => e = .returned (.int .i64 z) ∧ w.grownBy w' none))
    (HI : Hid (∀ w, Calls Tryz.prog 20 #[.int .i64 0] w fun e w' => e = .returned (frac false eS false oneS) ∧ w.grownBy w' none)) :
    Calls Tryz.prog 31 #[frac n s d t, frac n2 s2 d2 t2] w fun e w' => e = .returned (frac false eS false oneS) ∧ w.grownBy w' none := by
  have hI0 := SwI.first w n d n2 d2 s t s2 t2
  go_enter Tryz.func31, Tryz.ntmps31
  go_wp2_with fail
  refine (HX.out _ _ _ _ _ _ (.inl ⟨rfl, rfl, rfl, rfl, rfl⟩)).mono ?_
  rintro e w2 ⟨rfl, g2⟩
  have HI2 : Hid (SwI w w2 n d n2 d2 s t s2 t2) := hI0.kept g2
  clear g2
  have y0 := HI2.out.2.1.c0
  have y1 := HI2.out.2.1.c1
  have y2 := HI2.out.2.1.c2
  have y3 := HI2.out.2.1.c3
  go_wp2_with fail
  refine (HX.out _ _ _ _ _ _ (.inr ⟨rfl, rfl, rfl, rfl, rfl⟩)).mono ?_
  rintro e w3 ⟨rfl, g3⟩
  have HI3 : Hid (SwI w w3 n d n2 d2 s t s2 t2) := HI2.out.kept g3
  clear g3 y0 y1 y2 y3
  go_wp2_with fail
  refine (HI.out _).mono ?_
  rintro e w4 ⟨rfl, g4⟩
  have HI4 : Hid (SwI w w4 n d n2 d2 s t s2 t2) := HI3.out.kept g4
  clear g4
  have hR := HI4.out.2.2.1
  have r0 := hR.c0
  have r1 := hR.c1
  have r2 := hR.c2
  have r3 := hR.c3
  have f0 := hR.fr 0
  have f1 := hR.fr 1
  have f2 := hR.fr 2
  have f3 := hR.fr 3
  go_wp2_with fail
  refine bodyPost_ret (res_cellQ rfl _ _ (w.heap.size + 1 + 1) _ _ _ _ _ _ rfl (hR.put _ _ _ _)) rfl ?_
  exact ⟨rfl, grown_put4 HI4.out.2.2.2 (by omega)⟩
def Sw8 (w w' : World) (n d n2 d2 : Bool) (s t s2 t2 : ByteArray) : Prop := w'.cell? ⟨w.heap.size, 0, none⟩ = some (.bool n) ∧ w'.cell? ⟨w.heap.size, 1, none⟩ = some (.string s) ∧ w'.cell? ⟨w.heap.size, 2, none⟩ = some (.bool d) ∧ w'.cell? ⟨w.heap.size, 3, none⟩ = some (.string t) ∧ w'.cell? ⟨w.heap.size + 1, 0, none⟩ = some (.bool n2) ∧ w'.cell? ⟨w.heap.size + 1, 1, none⟩ = some (.string s2) ∧ w'.cell? ⟨w.heap.size + 1, 2, none⟩ = some (.bool d2) ∧ w'.cell? ⟨w.heap.size + 1, 3, none⟩ = some (.string t2)
theorem SwI.c8 {w W : World} {n d n2 d2 : Bool} {s t s2 t2 : ByteArray} (h : SwI w W n d n2 d2 s t s2 t2) : Sw8 w W n d n2 d2 s t s2 t2 := ⟨h.1.c0, h.1.c1, h.1.c2, h.1.c3, h.2.1.c0, h.2.1.c1, h.2.1.c2, h.2.1.c3⟩
theorem rsim_neg (n d n2 d2 rn rd : Bool) (s t s2 t2 rs rt : ByteArray) (w : World)
    (HX : Hid (∀ a b f g (w : World), (a = n ∧ b = s ∧ f = d ∧ g = t) ∨ (a = n2 ∧ b = s2 ∧ f = d2 ∧ g = t2) → Calls Tryz.prog 28 #[frac a b f g] w fun e w' => e = .returned (.int .i64 (-1)) ∧ w.grownBy w' none))
    (HN : Hid (∀ a b f g (w : World), Calls Tryz.prog 24 #[frac a b f g] w fun e w' => e = .returned (frac (ngs a b) b f g) ∧ w.grownBy w' none))
    (HS : Hid (∀ w, Calls Tryz.prog 31 #[frac (ngs n2 s2) s2 d2 t2, frac (ngs n s) s d t] w fun e w' => e = .returned (frac rn rs rd rt) ∧ w.grownBy w' none)) :
    Calls Tryz.prog 31 #[frac n s d t, frac n2 s2 d2 t2] w fun e w' => e = .returned (frac (ngs rn rs) rs rd rt) ∧ w.grownBy w' none := by
  have hI0 := SwI.first w n d n2 d2 s t s2 t2
  go_enter Tryz.func31, Tryz.ntmps31
  go_wp2_with fail
  refine (HX.out _ _ _ _ _ (.inl ⟨rfl, rfl, rfl, rfl⟩)).mono ?_
  rintro e w2 ⟨rfl, g2⟩
  have HI2 : Hid (SwI w w2 n d n2 d2 s t s2 t2) := hI0.kept g2
  clear g2
  have y0 := HI2.out.2.1.c0
  have y1 := HI2.out.2.1.c1
  have y2 := HI2.out.2.1.c2
  have y3 := HI2.out.2.1.c3
  go_wp2_with fail
  refine (HX.out _ _ _ _ _ (.inr ⟨rfl, rfl, rfl, rfl⟩)).mono ?_
  rintro e w3 ⟨rfl, g3⟩
  have HI3 : Hid (SwI w w3 n d n2 d2 s t s2 t2) := HI2.out.kept g3
  clear g3 y0 y1 y2 y3
  have y0 := HI3.out.2.1.c0
  have y1 := HI3.out.2.1.c1
  have y2 := HI3.out.2.1.c2
  have y3 := HI3.out.2.1.c3
  go_wp2_with fail
  refine (HX.out _ _ _ _ _ (.inr ⟨rfl, rfl, rfl, rfl⟩)).mono ?_
  rintro e w4 ⟨rfl, g4⟩
  have HI4 : Hid (SwI w w4 n d n2 d2 s t s2 t2) := HI3.out.kept g4
  clear g4 y0 y1 y2 y3
  go_upto_region 4 with fail
  have HK : Hid (∀ w', w4.grownBy w' none → w'.cell? ⟨w.heap.size, 0, none⟩ = some (.bool n) ∧ w'.cell? ⟨w.heap.size, 1, none⟩ = some (.string s) ∧ w'.cell? ⟨w.heap.size, 2, none⟩ = some (.bool d) ∧ w'.cell? ⟨w.heap.size, 3, none⟩ = some (.string t) ∧ w'.cell? ⟨w.heap.size + 1, 0, none⟩ = some (.bool n2) ∧ w'.cell? ⟨w.heap.size + 1, 1, none⟩ = some (.string s2) ∧ w'.cell? ⟨w.heap.size + 1, 2, none⟩ = some (.bool d2) ∧ w'.cell? ⟨w.heap.size + 1, 3, none⟩ = some (.string t2)) := fun w' hg => (HI4.out.kept hg).c8
  obtain ⟨k0, k1, k2, k3, k4, k5, k6, k7⟩ := HK.out _ (World.grownBy.refl _ _)
  go_region_held3 (fun w' => w'.cell? ⟨w.heap.size, 0, none⟩ = some (.bool n) ∧ w'.cell? ⟨w.heap.size, 1, none⟩ = some (.string s) ∧ w'.cell? ⟨w.heap.size, 2, none⟩ = some (.bool d) ∧ w'.cell? ⟨w.heap.size, 3, none⟩ = some (.string t) ∧ w'.cell? ⟨w.heap.size + 1, 0, none⟩ = some (.bool n2) ∧ w'.cell? ⟨w.heap.size + 1, 1, none⟩ = some (.string s2) ∧ w'.cell? ⟨w.heap.size + 1, 2, none⟩ = some (.bool d2) ∧ w'.cell? ⟨w.heap.size + 1, 3, none⟩ = some (.string t2))
    (first | with_reducible exact HK5 | with_reducible exact HK.out _ (by assumption) | with_reducible exact HK.out _ (grow_drew (World.grownBy.refl _ _)) | (go_keep; done) | fail)
    (first
      | (go_at_call 24; refine (HN.out _ _ _ _ _).mono ?_; first | (have _q := GC; rintro e wD ⟨rfl, gD⟩; have GD : w4.grownBy wD none := grownBy_trans GC gD; have HI5 : Hid (SwI w wD n d n2 d2 s t s2 t2) := HI4.out.kept GD; have hR := HI5.out.2.2.1; have r0 := hR.c0; have r1 := hR.c1; have r2 := hR.c2; have r3 := hR.c3; have f0 := hR.fr 0; have f1 := hR.fr 1; have f2 := hR.fr 2; have f3 := hR.fr 3; have hpr := HI5.out.putR (.bool (ngs rn rs)) (.string rs) (.bool rd) (.string rt); have HK5 := (And.intro hpr.1.c0 (And.intro hpr.1.c1 (And.intro hpr.1.c2 (And.intro hpr.1.c3 (And.intro hpr.2.c0 (And.intro hpr.2.c1 (And.intro hpr.2.c2 hpr.2.c3)))))))) | (have _q := GA; rintro e wB ⟨rfl, gB⟩; have GB : w4.grownBy wB none := grownBy_trans GA gB) | (rintro e wA ⟨rfl, gA⟩; have GA : w4.grownBy wA none := (by first | exact grownBy_undrew gA | exact gA)))
      | (go_at_call 31; refine (HS.out _).mono ?_; rintro e wC ⟨rfl, gC⟩; have GC : w4.grownBy wC none := grownBy_trans GB gC)
      | fail)
  all_goals (
    go_wp2_with fail
    refine bodyPost_ret (res_cellQ rfl _ _ (w.heap.size + 1 + 1) _ _ _ _ _ _ rfl (hR.put _ _ _ _)) rfl ?_
    exact ⟨rfl, grown_put4 HI5.out.2.2.2 (by omega)⟩)
def StI (w W : World) (NB : Nat) (n d n2 d2 fn : Bool) (s t s2 t2 fs : ByteArray) : Prop := SwI w W n d n2 d2 s t s2 t2 ∧ QBlk W NB (.bool fn) (.string fs) (.bool false) (.string oneS) ∧ w.heap.size + 1 + 1 < NB
theorem StI.kept {w W W' : World} {NB : Nat} {n d n2 d2 fn : Bool} {s t s2 t2 fs : ByteArray} (h : StI w W NB n d n2 d2 fn s t s2 t2 fs) (g : W.grownBy W' none) : StI w W' NB n d n2 d2 fn s t s2 t2 fs := ⟨h.1.kept g, h.2.1.kept g (by simp), h.2.2⟩
theorem StI.put {w W : World} {NB : Nat} {n d n2 d2 fn : Bool} {s t s2 t2 fs : ByteArray} (h : StI w W NB n d n2 d2 fn s t s2 t2 fs) {P : Nat} (hP : NB < P) (a b c e : Value) : StI w ((((W.setCell ⟨P, 0, none⟩ a).setCell ⟨P, 1, none⟩ b).setCell ⟨P, 2, none⟩ c).setCell ⟨P, 3, none⟩ e) NB n d n2 d2 fn s t s2 t2 fs := by
  have hg : W.grownBy ((((W.setCell ⟨P, 0, none⟩ a).setCell ⟨P, 1, none⟩ b).setCell ⟨P, 2, none⟩ c).setCell ⟨P, 3, none⟩ e) (some P) := grownBy_trans (grownBy_trans (grownBy_setCell _ _ _ _) (grownBy_setCell _ _ _ _)) (grownBy_trans (grownBy_setCell _ _ _ _) (grownBy_setCell _ _ _ _))
  have := h.2.2
  exact ⟨h.1.put (by omega) _ _ _ _, h.2.1.kept hg (by intro e; injection e with e; omega), h.2.2⟩
theorem rsim_a (n d n2 d2 fn : Bool) (s t s2 t2 fs : ByteArray) (w : World)
    (HX : Hid (∀ a b f g (w : World), (a = n ∧ b = s ∧ f = d ∧ g = t) ∨ (a = n2 ∧ b = s2 ∧ f = d2 ∧ g = t2) → Calls Tryz.prog 28 #[frac a b f g] w fun e w' => e = .returned (.int .i64 1) ∧ w.grownBy w' none))
    (HFl : Hid (∀ w, Calls Tryz.prog 26 #[frac n s d t] w fun e w' => e = .returned (whole fn fs) ∧ w.grownBy w' none))
    (HWh : Hid (∀ w, Calls Tryz.prog 71 #[whole fn fs] w fun e w' => e = .returned (frac fn fs false oneS) ∧ w.grownBy w' none))
    (HC1 : Hid (∀ w, Calls Tryz.prog 30 #[frac fn fs false oneS, frac n s d t] w fun e w' => e = .returned (.int .i64 0) ∧ w.grownBy w' none)) :
    Calls Tryz.prog 31 #[frac n s d t, frac n2 s2 d2 t2] w fun e w' => e = .returned (frac fn fs false oneS) ∧ w.grownBy w' none := by
  have hI0 := SwI.first w n d n2 d2 s t s2 t2
  go_enter Tryz.func31, Tryz.ntmps31
  go_wp2_with fail
  refine (HX.out _ _ _ _ _ (.inl ⟨rfl, rfl, rfl, rfl⟩)).mono ?_
  rintro e w2 ⟨rfl, g2⟩
  have HI2 : Hid (SwI w w2 n d n2 d2 s t s2 t2) := hI0.kept g2
  clear g2
  have y0 := HI2.out.2.1.c0
  have y1 := HI2.out.2.1.c1
  have y2 := HI2.out.2.1.c2
  have y3 := HI2.out.2.1.c3
  go_wp2_with fail
  refine (HX.out _ _ _ _ _ (.inr ⟨rfl, rfl, rfl, rfl⟩)).mono ?_
  rintro e w3 ⟨rfl, g3⟩
  have HI3 : Hid (SwI w w3 n d n2 d2 s t s2 t2) := HI2.out.kept g3
  clear g3 y0 y1 y2 y3
  have x0 := HI3.out.1.c0
  have x1 := HI3.out.1.c1
  have x2 := HI3.out.1.c2
  have x3 := HI3.out.1.c3
  go_wp2_with fail
  refine (HFl.out _).mono ?_
  rintro e w4 ⟨rfl, g4⟩
  go_wp2_with fail
  refine (HWh.out _).mono ?_
  rintro e w5 ⟨rfl, g5⟩
  have HI5 : Hid (StI w (w5.alloc (qObj fn fs false oneS)) w5.heap.size n d n2 d2 fn s t s2 t2 fs) := (by
    have h := HI3.out.kept (grownBy_trans g4 g5)
    exact ⟨h.kept (grow1 _ _), heap_alloc_new _ _, h.2.2.1.lt⟩)
  clear g4 g5 x0 x1 x2 x3
  go_upto_region 6 with fail
  generalize w5.alloc (qObj fn fs false oneS) = V5 at *
  generalize w5.heap.size = NB at *
  have x0 := HI5.out.1.1.c0
  have x1 := HI5.out.1.1.c1
  have x2 := HI5.out.1.1.c2
  have x3 := HI5.out.1.1.c3
  have m0 := HI5.out.2.1.c0
  have m1 := HI5.out.2.1.c1
  have m2 := HI5.out.2.1.c2
  have m3 := HI5.out.2.1.c3
  go_wp2_with fail
  refine (HC1.out _).mono ?_
  rintro e w6 ⟨rfl, g6⟩
  have HI6 : Hid (StI w w6 NB n d n2 d2 fn s t s2 t2 fs) := HI5.out.kept g6
  clear g6 x0 x1 x2 x3 m0 m1 m2 m3 HI5
  have hR := HI6.out.1.2.2.1
  have r0 := hR.c0
  have r1 := hR.c1
  have r2 := hR.c2
  have r3 := hR.c3
  have f0 := hR.fr 0
  have f1 := hR.fr 1
  have f2 := hR.fr 2
  have f3 := hR.fr 3
  have m0 := HI6.out.2.1.c0
  have m1 := HI6.out.2.1.c1
  have m2 := HI6.out.2.1.c2
  have m3 := HI6.out.2.1.c3
  go_wp2_with fail
  refine bodyPost_ret (res_cellQ rfl _ _ (w.heap.size + 1 + 1) _ _ _ _ _ _ rfl (hR.put _ _ _ _)) rfl ?_
  exact ⟨rfl, grown_put4 HI6.out.1.2.2.2 (by omega)⟩
theorem rsim_b (n d n2 d2 fn xn : Bool) (s t s2 t2 fs xs : ByteArray) (c2 : Int) (hc2 : c2 ≤ 0) (w : World)
    (HX : Hid (∀ a b f g (w : World), (a = n ∧ b = s ∧ f = d ∧ g = t) ∨ (a = n2 ∧ b = s2 ∧ f = d2 ∧ g = t2) → Calls Tryz.prog 28 #[frac a b f g] w fun e w' => e = .returned (.int .i64 1) ∧ w.grownBy w' none))
    (HFl : Hid (∀ w, Calls Tryz.prog 26 #[frac n s d t] w fun e w' => e = .returned (whole fn fs) ∧ w.grownBy w' none))
    (HWh : Hid (∀ w, Calls Tryz.prog 71 #[whole fn fs] w fun e w' => e = .returned (frac fn fs false oneS) ∧ w.grownBy w' none))
    (HC1 : Hid (∀ w, Calls Tryz.prog 30 #[frac fn fs false oneS, frac n s d t] w fun e w' => e = .returned (.int .i64 (-1)) ∧ w.grownBy w' none))
    (HO : Hid (∀ w, Calls Tryz.prog 20 #[.int .i64 1] w fun e w' => e = .returned (frac false oneS false oneS) ∧ w.grownBy w' none))
    (HPl : Hid (∀ w, Calls Tryz.prog 77 #[frac fn fs false oneS, frac false oneS false oneS] w fun e w' => e = .returned (frac xn xs false oneS) ∧ w.grownBy w' none))
    (HC2 : Hid (∀ w, Calls Tryz.prog 30 #[frac xn xs false oneS, frac n2 s2 d2 t2] w fun e w' => e = .returned (.int .i64 c2) ∧ w.grownBy w' none)) :
    Calls Tryz.prog 31 #[frac n s d t, frac n2 s2 d2 t2] w fun e w' => e = .returned (frac xn xs false oneS) ∧ w.grownBy w' none := by
  have hI0 := SwI.first w n d n2 d2 s t s2 t2
  go_enter Tryz.func31, Tryz.ntmps31
  go_wp2_with fail
  refine (HX.out _ _ _ _ _ (.inl ⟨rfl, rfl, rfl, rfl⟩)).mono ?_
  rintro e w2 ⟨rfl, g2⟩
  have HI2 : Hid (SwI w w2 n d n2 d2 s t s2 t2) := hI0.kept g2
  clear g2
  have y0 := HI2.out.2.1.c0
  have y1 := HI2.out.2.1.c1
  have y2 := HI2.out.2.1.c2
  have y3 := HI2.out.2.1.c3
  go_wp2_with fail
  refine (HX.out _ _ _ _ _ (.inr ⟨rfl, rfl, rfl, rfl⟩)).mono ?_
  rintro e w3 ⟨rfl, g3⟩
  have HI3 : Hid (SwI w w3 n d n2 d2 s t s2 t2) := HI2.out.kept g3
  clear g3 y0 y1 y2 y3
  have x0 := HI3.out.1.c0
  have x1 := HI3.out.1.c1
  have x2 := HI3.out.1.c2
  have x3 := HI3.out.1.c3
  go_wp2_with fail
  refine (HFl.out _).mono ?_
  rintro e w4 ⟨rfl, g4⟩
  go_wp2_with fail
  refine (HWh.out _).mono ?_
  rintro e w5 ⟨rfl, g5⟩
  have HI5 : Hid (StI w (w5.alloc (qObj fn fs false oneS)) w5.heap.size n d n2 d2 fn s t s2 t2 fs) := (by
    have h := HI3.out.kept (grownBy_trans g4 g5)
    exact ⟨h.kept (grow1 _ _), heap_alloc_new _ _, h.2.2.1.lt⟩)
  clear g4 g5 x0 x1 x2 x3
  go_upto_region 6 with fail
  generalize w5.alloc (qObj fn fs false oneS) = V5 at *
  generalize w5.heap.size = NB at *
  have x0 := HI5.out.1.1.c0
  have x1 := HI5.out.1.1.c1
  have x2 := HI5.out.1.1.c2
  have x3 := HI5.out.1.1.c3
  have m0 := HI5.out.2.1.c0
  have m1 := HI5.out.2.1.c1
  have m2 := HI5.out.2.1.c2
  have m3 := HI5.out.2.1.c3
  go_wp2_with fail
  refine (HC1.out _).mono ?_
  rintro e w6 ⟨rfl, g6⟩
  have HI6 : Hid (StI w w6 NB n d n2 d2 fn s t s2 t2 fs) := HI5.out.kept g6
  clear g6 x0 x1 x2 x3 m0 m1 m2 m3 HI5
  go_upto_region 8 with fail
  generalize w6 = U at *
  have HIU : Hid (StI w U NB n d n2 d2 fn s t s2 t2 fs) := HI6.out
  clear HI6
  go_cut [6] from 34 to 36 (fun s6 wx => ∃ P, s6 = .pointer (some ⟨P, 0, none⟩) ∧ QBlk wx P (.bool xn) (.string xs) (.bool false) (.string oneS) ∧ NB < P ∧ StI w wx NB n d n2 d2 fn s t s2 t2 fs)
  case first =>
    have HZ : Hid (∀ w', U.grownBy w' none → w'.cell? ⟨NB, 0, none⟩ = some (.bool fn) ∧ w'.cell? ⟨NB, 1, none⟩ = some (.string fs) ∧ w'.cell? ⟨NB, 2, none⟩ = some (.bool false) ∧ w'.cell? ⟨NB, 3, none⟩ = some (.string oneS)) := fun w' g => by
      have h2 := HIU.out.2.1.kept g (by simp)
      exact ⟨h2.c0, h2.c1, h2.c2, h2.c3⟩
    obtain ⟨c0, c1, c2, c3⟩ := HZ.out _ (World.grownBy.refl _ _)
    have hNU := HIU.out.2.1.lt
    go_region_held3 (fun w' => w'.cell? ⟨NB, 0, none⟩ = some (.bool fn) ∧ w'.cell? ⟨NB, 1, none⟩ = some (.string fs) ∧ w'.cell? ⟨NB, 2, none⟩ = some (.bool false) ∧ w'.cell? ⟨NB, 3, none⟩ = some (.string oneS))
      (first | with_reducible exact HZ.out _ (by assumption) | with_reducible exact HZ.out _ (grow_drew (World.grownBy.refl _ _)) | with_reducible exact HZ.out _ (grownBy_trans (by assumption) (grow1 _ _)) | with_reducible exact HZ.out _ (grownBy_trans (grow_drew (World.grownBy.refl _ _)) (grow1 _ _)) | with_reducible exact HZ.out _ (grow_drew (grow1 _ _)) | with_reducible exact HZ.out _ (grown_put4 GC (by first | exact Nat.le_refl _ | exact GA.size)) | (go_keep; done) | fail)
      (first
      | (go_at_call 20; refine (HO.out _).mono ?_; rintro e wA ⟨rfl, gA⟩; have GA : U.grownBy wA none := (by first | exact grownBy_undrew gA | exact grownBy_undrew (grownBy_trans (grow1 _ _) gA) | exact grownBy_trans (grow1 _ _) (grownBy_undrew gA) | exact gA | exact grownBy_trans (grow1 _ _) gA); obtain ⟨e0, e1, e2, e3⟩ := HZ.out _ GA; (try (have hP : QBlk wA U.heap.size (.bool false) (.string eS) (.bool false) (.string eS) := (by first | exact QBlk.kept (heap_alloc_new _ _) gA (by simp) | exact QBlk.kept (heap_alloc_new _ _) (grownBy_undrew gA) (by simp)))))
      | (go_at_call 77; refine (HPl.out _).mono ?_; rintro e wC ⟨rfl, gC⟩; have GC : U.grownBy wC none := (by first | exact grownBy_trans GA gC | exact grownBy_trans GA (grownBy_trans (grow1 _ _) gC)); (first | (have hQ : QBlk wC U.heap.size (.bool false) (.string eS) (.bool false) (.string eS) := QBlk.kept hP (by first | exact gC | exact grownBy_trans (grow1 _ _) gC) (by simp); have j0 := hQ.c0; have j1 := hQ.c1; have j2 := hQ.c2; have j3 := hQ.c3; have j4 := hQ.fr 0; have j5 := hQ.fr 1; have j6 := hQ.fr 2; have j7 := hQ.fr 3) | (have hQ : QBlk wC wA.heap.size (.bool false) (.string eS) (.bool false) (.string eS) := QBlk.kept (heap_alloc_new _ _) gC (by simp); have j0 := hQ.c0; have j1 := hQ.c1; have j2 := hQ.c2; have j3 := hQ.c3; have j4 := hQ.fr 0; have j5 := hQ.fr 1; have j6 := hQ.fr 2; have j7 := hQ.fr 3) | skip))
      | fail)
    all_goals (go_wp2_with fail; go_meet)
    · exact ⟨_, rfl, heap_alloc_new _ _, by have := GC.size; omega, (HIU.out.kept GC).kept (grow1 _ _)⟩
    · exact ⟨_, rfl, hQ.put _ _ _ _, by have := GA.size; omega, (HIU.out.kept GC).put (by have := GA.size; omega) _ _ _ _⟩
    · exact ⟨_, rfl, hQ.put _ _ _ _, by omega, (HIU.out.kept GC).put (by omega) _ _ _ _⟩
  case rest =>
    obtain ⟨XP, rfl, hX, hXl, hI⟩ := hcut
    have HXP : Hid (QBlk wc XP (.bool xn) (.string xs) (.bool false) (.string oneS)) := hX
    have HI8 : Hid (StI w wc NB n d n2 d2 fn s t s2 t2 fs) := hI
    have p0 := hX.c0
    have p1 := hX.c1
    have p2 := hX.c2
    have p3 := hX.c3
    have y0 := hI.1.2.1.c0
    have y1 := hI.1.2.1.c1
    have y2 := hI.1.2.1.c2
    have y3 := hI.1.2.1.c3
    clear hX hI HIU
    go_wp2_with fail
    refine (HC2.out _).mono ?_
    rintro e w9 ⟨rfl, g9⟩
    have HI9 : Hid (StI w w9 NB n d n2 d2 fn s t s2 t2 fs) := HI8.out.kept g9
    have HX9 : Hid (QBlk w9 XP (.bool xn) (.string xs) (.bool false) (.string oneS)) := HXP.out.kept g9 (by simp)
    clear g9 p0 p1 p2 p3 y0 y1 y2 y3 HXP HI8
    have hR := HI9.out.1.2.2.1
    have r0 := hR.c0
    have r1 := hR.c1
    have r2 := hR.c2
    have r3 := hR.c3
    have f0 := hR.fr 0
    have f1 := hR.fr 1
    have f2 := hR.fr 2
    have f3 := hR.fr 3
    have m0 := HX9.out.c0
    have m1 := HX9.out.c1
    have m2 := HX9.out.c2
    have m3 := HX9.out.c3
    go_wp2_with fail
    refine bodyPost_ret (res_cellQ rfl _ _ (w.heap.size + 1 + 1) _ _ _ _ _ _ rfl (hR.put _ _ _ _)) rfl ?_
    exact ⟨rfl, grown_put4 HI9.out.1.2.2.2 (by omega)⟩
end Go.Proofs.YtdfliaogmlpefaaGreatDoor
