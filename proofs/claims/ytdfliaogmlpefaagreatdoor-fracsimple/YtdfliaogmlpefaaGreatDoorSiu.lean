/-
  The document's Simplest of two fractions above 0, where it asks itself.
-/
import Derived.Test.YtdfliaogmlpefaaGreatDoorBunSiw
namespace Go.Proofs.YtdfliaogmlpefaaGreatDoor
open Go.RowKit Go.Lib Go.Sort
set_option linter.unusedVariables false
set_option maxHeartbeats 6400000
set_option maxRecDepth 1000000
theorem rsim_c (n d n2 d2 fn xn yn yd un ud zn zd vn vd In Id on od rn rd : Bool) (s t s2 t2 fs xs ys yt us ut zs zt vs vt Is It os ot rs rt : ByteArray) (w : World)
    (HX : Hid (∀ a b f g (w : World), (a = n ∧ b = s ∧ f = d ∧ g = t) ∨ (a = n2 ∧ b = s2 ∧ f = d2 ∧ g = t2) → Calls Tryz.prog 28 #[frac a b f g] w fun e w' => e = .returned (.int .i64 1) ∧ w.grownBy w' none))
    (HFl : Hid (∀ w, Calls Tryz.prog 26 #[frac n s d t] w fun e w' => e = .returned (whole fn fs) ∧ w.grownBy w' none))
    (HWh : Hid (∀ w, Calls Tryz.prog 71 #[whole fn fs] w fun e w' => e = .returned (frac fn fs false oneS) ∧ w.grownBy w' none))
    (HC1 : Hid (∀ w, Calls Tryz.prog 30 #[frac fn fs false oneS, frac n s d t] w fun e w' => e = .returned (.int .i64 (-1)) ∧ w.grownBy w' none))
    (HO : Hid (∀ w, Calls Tryz.prog 20 #[.int .i64 1] w fun e w' => e = .returned (frac false oneS false oneS) ∧ w.grownBy w' none))
    (HPl : Hid (∀ w, Calls Tryz.prog 77 #[frac fn fs false oneS, frac false oneS false oneS] w fun e w' => e = .returned (frac xn xs false oneS) ∧ w.grownBy w' none))
    (HC2 : Hid (∀ w, Calls Tryz.prog 30 #[frac xn xs false oneS, frac n2 s2 d2 t2] w fun e w' => e = .returned (.int .i64 1) ∧ w.grownBy w' none))
    (HMy : Hid (∀ w, Calls Tryz.prog 70 #[frac n2 s2 d2 t2, frac fn fs false oneS] w fun e w' => e = .returned (frac yn ys yd yt) ∧ w.grownBy w' none))
    (HOy : Hid (∀ w, Calls Tryz.prog 78 #[frac false oneS false oneS, frac yn ys yd yt] w fun e w' => e = .returned (frac un us ud ut) ∧ w.grownBy w' none))
    (HMx : Hid (∀ w, Calls Tryz.prog 70 #[frac n s d t, frac fn fs false oneS] w fun e w' => e = .returned (frac zn zs zd zt) ∧ w.grownBy w' none))
    (HOx : Hid (∀ w, Calls Tryz.prog 78 #[frac false oneS false oneS, frac zn zs zd zt] w fun e w' => e = .returned (frac vn vs vd vt) ∧ w.grownBy w' none))
    (HSm : Hid (∀ w, Calls Tryz.prog 31 #[frac un us ud ut, frac vn vs vd vt] w fun e w' => e = .returned (frac In Is Id It) ∧ w.grownBy w' none))
    (HOi : Hid (∀ w, Calls Tryz.prog 78 #[frac false oneS false oneS, frac In Is Id It] w fun e w' => e = .returned (frac on os od ot) ∧ w.grownBy w' none))
    (HPr : Hid (∀ w, Calls Tryz.prog 77 #[frac fn fs false oneS, frac on os od ot] w fun e w' => e = .returned (frac rn rs rd rt) ∧ w.grownBy w' none)) :
    Calls Tryz.prog 31 #[frac n s d t, frac n2 s2 d2 t2] w fun e w' => e = .returned (frac rn rs rd rt) ∧ w.grownBy w' none := by
  have hI0 := SwI.first w n d n2 d2 s t s2 t2
  go_enter Tryz.func31, Tryz.ntmps31
  go_wp2_with fail
  refine (HX.out _ _ _ _ _ (.inl ⟨rfl, rfl, rfl, rfl⟩)).mono ?_
  rintro e w2 ⟨rfl, g2⟩
  have HI2 : Hid (SwI w w2 n d n2 d2 s t s2 t2) := hI0.kept g2
  clear g2
  have y0 := HI2.out.2.1.c0
  have y1 := HI2.out.2.1.c1
  have y2 := HI2.out.2.1.c2
  have y3 := HI2.out.2.1.c3
  go_wp2_with fail
  refine (HX.out _ _ _ _ _ (.inr ⟨rfl, rfl, rfl, rfl⟩)).mono ?_
  rintro e w3 ⟨rfl, g3⟩
  have HI3 : Hid (SwI w w3 n d n2 d2 s t s2 t2) := HI2.out.kept g3
  clear g3 y0 y1 y2 y3
  have x0 := HI3.out.1.c0
  have x1 := HI3.out.1.c1
  have x2 := HI3.out.1.c2
  have x3 := HI3.out.1.c3
  go_wp2_with fail
  refine (HFl.out _).mono ?_
  rintro e w4 ⟨rfl, g4⟩
  go_wp2_with fail
  refine (HWh.out _).mono ?_
  rintro e w5 ⟨rfl, g5⟩
  have HI5 : Hid (StI w (w5.alloc (qObj fn fs false oneS)) w5.heap.size n d n2 d2 fn s t s2 t2 fs) := (by
    have h := HI3.out.kept (grownBy_trans g4 g5)
    exact ⟨h.kept (grow1 _ _), heap_alloc_new _ _, h.2.2.1.lt⟩)
  clear g4 g5 x0 x1 x2 x3
  go_upto_region 6 with fail
  generalize w5.alloc (qObj fn fs false oneS) = V5 at *
  generalize w5.heap.size = NB at *
  have x0 := HI5.out.1.1.c0
  have x1 := HI5.out.1.1.c1
  have x2 := HI5.out.1.1.c2
  have x3 := HI5.out.1.1.c3
  have m0 := HI5.out.2.1.c0
  have m1 := HI5.out.2.1.c1
  have m2 := HI5.out.2.1.c2
  have m3 := HI5.out.2.1.c3
  go_wp2_with fail
  refine (HC1.out _).mono ?_
  rintro e w6 ⟨rfl, g6⟩
  have HI6 : Hid (StI w w6 NB n d n2 d2 fn s t s2 t2 fs) := HI5.out.kept g6
  clear g6 x0 x1 x2 x3 m0 m1 m2 m3 HI5
  go_upto_region 8 with fail
  generalize w6 = U at *
  have HIU : Hid (StI w U NB n d n2 d2 fn s t s2 t2 fs) := HI6.out
  clear HI6
  go_cut [6] from 34 to 36 (fun s6 wx => ∃ P, s6 = .pointer (some ⟨P, 0, none⟩) ∧ QBlk wx P (.bool xn) (.string xs) (.bool false) (.string oneS) ∧ NB < P ∧ StI w wx NB n d n2 d2 fn s t s2 t2 fs)
  case first =>
    have HZ : Hid (∀ w', U.grownBy w' none → w'.cell? ⟨NB, 0, none⟩ = some (.bool fn) ∧ w'.cell? ⟨NB, 1, none⟩ = some (.string fs) ∧ w'.cell? ⟨NB, 2, none⟩ = some (.bool false) ∧ w'.cell? ⟨NB, 3, none⟩ = some (.string oneS)) := fun w' g => by
      have h2 := HIU.out.2.1.kept g (by simp)
      exact ⟨h2.c0, h2.c1, h2.c2, h2.c3⟩
    obtain ⟨c0, c1, c2, c3⟩ := HZ.out _ (World.grownBy.refl _ _)
    have hNU := HIU.out.2.1.lt
    go_region_held3 (fun w' => w'.cell? ⟨NB, 0, none⟩ = some (.bool fn) ∧ w'.cell? ⟨NB, 1, none⟩ = some (.string fs) ∧ w'.cell? ⟨NB, 2, none⟩ = some (.bool false) ∧ w'.cell? ⟨NB, 3, none⟩ = some (.string oneS))
      (first | with_reducible exact HZ.out _ (by assumption) | with_reducible exact HZ.out _ (grow_drew (World.grownBy.refl _ _)) | with_reducible exact HZ.out _ (grownBy_trans (by assumption) (grow1 _ _)) | with_reducible exact HZ.out _ (grownBy_trans (grow_drew (World.grownBy.refl _ _)) (grow1 _ _)) | with_reducible exact HZ.out _ (grow_drew (grow1 _ _)) | with_reducible exact HZ.out _ (grown_put4 GC (by first | exact Nat.le_refl _ | exact GA.size)) | (go_keep; done) | fail)
      (first
      | (go_at_call 20; refine (HO.out _).mono ?_; rintro e wA ⟨rfl, gA⟩; have GA : U.grownBy wA none := (by first | exact grownBy_undrew gA | exact grownBy_undrew (grownBy_trans (grow1 _ _) gA) | exact grownBy_trans (grow1 _ _) (grownBy_undrew gA) | exact gA | exact grownBy_trans (grow1 _ _) gA); obtain ⟨e0, e1, e2, e3⟩ := HZ.out _ GA; (try (have hP : QBlk wA U.heap.size (.bool false) (.string eS) (.bool false) (.string eS) := (by first | exact QBlk.kept (heap_alloc_new _ _) gA (by simp) | exact QBlk.kept (heap_alloc_new _ _) (grownBy_undrew gA) (by simp)))))
      | (go_at_call 77; refine (HPl.out _).mono ?_; rintro e wC ⟨rfl, gC⟩; have GC : U.grownBy wC none := (by first | exact grownBy_trans GA gC | exact grownBy_trans GA (grownBy_trans (grow1 _ _) gC)); (first | (have hQ : QBlk wC U.heap.size (.bool false) (.string eS) (.bool false) (.string eS) := QBlk.kept hP (by first | exact gC | exact grownBy_trans (grow1 _ _) gC) (by simp); have j0 := hQ.c0; have j1 := hQ.c1; have j2 := hQ.c2; have j3 := hQ.c3; have j4 := hQ.fr 0; have j5 := hQ.fr 1; have j6 := hQ.fr 2; have j7 := hQ.fr 3) | (have hQ : QBlk wC wA.heap.size (.bool false) (.string eS) (.bool false) (.string eS) := QBlk.kept (heap_alloc_new _ _) gC (by simp); have j0 := hQ.c0; have j1 := hQ.c1; have j2 := hQ.c2; have j3 := hQ.c3; have j4 := hQ.fr 0; have j5 := hQ.fr 1; have j6 := hQ.fr 2; have j7 := hQ.fr 3) | skip))
      | fail)
    all_goals (go_wp2_with fail; go_meet)
    · exact ⟨_, rfl, heap_alloc_new _ _, by have := GC.size; omega, (HIU.out.kept GC).kept (grow1 _ _)⟩
    · exact ⟨_, rfl, hQ.put _ _ _ _, by have := GA.size; omega, (HIU.out.kept GC).put (by have := GA.size; omega) _ _ _ _⟩
    · exact ⟨_, rfl, hQ.put _ _ _ _, by omega, (HIU.out.kept GC).put (by omega) _ _ _ _⟩
  case rest =>
    obtain ⟨XP, rfl, hX, hXl, hI⟩ := hcut
    have HXP : Hid (QBlk wc XP (.bool xn) (.string xs) (.bool false) (.string oneS)) := hX
    have HI8 : Hid (StI w wc NB n d n2 d2 fn s t s2 t2 fs) := hI
    have p0 := hX.c0
    have p1 := hX.c1
    have p2 := hX.c2
    have p3 := hX.c3
    have y0 := hI.1.2.1.c0
    have y1 := hI.1.2.1.c1
    have y2 := hI.1.2.1.c2
    have y3 := hI.1.2.1.c3
    clear hX hI HIU
    go_wp2_with fail
    refine (HC2.out _).mono ?_
    rintro e w9 ⟨rfl, g9⟩
    have HI9 : Hid (StI w w9 NB n d n2 d2 fn s t s2 t2 fs) := HI8.out.kept g9
    have HX9 : Hid (QBlk w9 XP (.bool xn) (.string xs) (.bool false) (.string oneS)) := HXP.out.kept g9 (by simp)
    clear g9 p0 p1 p2 p3 y0 y1 y2 y3 HXP HI8
    go_upto_region 11 with fail
    clear HX9
    generalize w9 = U at *
    have HIU : Hid (StI w U NB n d n2 d2 fn s t s2 t2 fs) := HI9.out
    clear HI9
    go_cut [7] from 42 to 52 (fun s7 wx => ∃ P, s7 = .pointer (some ⟨P, 0, none⟩) ∧ QBlk wx P (.bool In) (.string Is) (.bool Id) (.string It) ∧ NB < P ∧ StI w wx NB n d n2 d2 fn s t s2 t2 fs)
    case first =>
      have HZ : Hid (∀ w', U.grownBy w' none → w'.cell? ⟨w.heap.size, 0, none⟩ = some (.bool n) ∧ w'.cell? ⟨w.heap.size, 1, none⟩ = some (.string s) ∧ w'.cell? ⟨w.heap.size, 2, none⟩ = some (.bool d) ∧ w'.cell? ⟨w.heap.size, 3, none⟩ = some (.string t) ∧ w'.cell? ⟨w.heap.size + 1, 0, none⟩ = some (.bool n2) ∧ w'.cell? ⟨w.heap.size + 1, 1, none⟩ = some (.string s2) ∧ w'.cell? ⟨w.heap.size + 1, 2, none⟩ = some (.bool d2) ∧ w'.cell? ⟨w.heap.size + 1, 3, none⟩ = some (.string t2) ∧ w'.cell? ⟨NB, 0, none⟩ = some (.bool fn) ∧ w'.cell? ⟨NB, 1, none⟩ = some (.string fs) ∧ w'.cell? ⟨NB, 2, none⟩ = some (.bool false) ∧ w'.cell? ⟨NB, 3, none⟩ = some (.string oneS)) := fun w' hg => by
        have h := HIU.out.1.kept hg
        have h2 := HIU.out.2.1.kept hg (by simp)
        exact ⟨h.1.c0, h.1.c1, h.1.c2, h.1.c3, h.2.1.c0, h.2.1.c1, h.2.1.c2, h.2.1.c3, h2.c0, h2.c1, h2.c2, h2.c3⟩
      obtain ⟨k0, k1, k2, k3, k4, k5, k6, k7, k8, k9, ka, kb⟩ := HZ.out _ (World.grownBy.refl _ _)
      have hNU := HIU.out.2.1.lt
      go_region_held3 (fun w' => w'.cell? ⟨w.heap.size, 0, none⟩ = some (.bool n) ∧ w'.cell? ⟨w.heap.size, 1, none⟩ = some (.string s) ∧ w'.cell? ⟨w.heap.size, 2, none⟩ = some (.bool d) ∧ w'.cell? ⟨w.heap.size, 3, none⟩ = some (.string t) ∧ w'.cell? ⟨w.heap.size + 1, 0, none⟩ = some (.bool n2) ∧ w'.cell? ⟨w.heap.size + 1, 1, none⟩ = some (.string s2) ∧ w'.cell? ⟨w.heap.size + 1, 2, none⟩ = some (.bool d2) ∧ w'.cell? ⟨w.heap.size + 1, 3, none⟩ = some (.string t2) ∧ w'.cell? ⟨NB, 0, none⟩ = some (.bool fn) ∧ w'.cell? ⟨NB, 1, none⟩ = some (.string fs) ∧ w'.cell? ⟨NB, 2, none⟩ = some (.bool false) ∧ w'.cell? ⟨NB, 3, none⟩ = some (.string oneS))
        (first | with_reducible exact HZ.out _ (by assumption) | with_reducible exact HZ.out _ (grow_drew (World.grownBy.refl _ _)) | with_reducible exact HZ.out _ (grownBy_trans (by assumption) (grow1 _ _)) | with_reducible exact HZ.out _ (grownBy_trans (grow_drew (World.grownBy.refl _ _)) (grow1 _ _)) | with_reducible exact HZ.out _ (grow_drew (grow1 _ _)) | with_reducible exact HZ.out _ (grown_put4 GG hPl) | (go_keep; done) | fail)
        (first
        | (go_at_call 31; have _q := GF; refine (HSm.out _).mono ?_; rintro e wG ⟨rfl, gg⟩; have GG : U.grownBy wG none := (by first | exact grownBy_trans GF gg | exact grownBy_trans GF (grownBy_trans (grow1 _ _) gg)); (first | (have hP := QBlk.kept hP gg (by simp)) | (have hP : QBlk wG wF.heap.size (.bool false) (.string eS) (.bool false) (.string eS) := QBlk.kept (heap_alloc_new _ _) gg (by simp); have hPl : U.heap.size ≤ wF.heap.size := GF.size) | skip); clear gg; (try (have j0 := hP.c0; have j1 := hP.c1; have j2 := hP.c2; have j3 := hP.c3; have j4 := hP.fr 0; have j5 := hP.fr 1; have j6 := hP.fr 2; have j7 := hP.fr 3)))
        | (go_at_call 78; have _q := GE; refine (HOx.out _).mono ?_; rintro e wF ⟨rfl, gg⟩; have GF : U.grownBy wF none := (by first | exact grownBy_trans GE gg | exact grownBy_trans GE (grownBy_trans (grow1 _ _) gg)); (first | (have hP := QBlk.kept hP gg (by simp)) | (have hP : QBlk wF wE.heap.size (.bool false) (.string eS) (.bool false) (.string eS) := QBlk.kept (heap_alloc_new _ _) gg (by simp); have hPl : U.heap.size ≤ wE.heap.size := GE.size) | skip); clear gg)
        | (go_at_call 70; have _q := GD; refine (HMx.out _).mono ?_; rintro e wE ⟨rfl, gg⟩; have GE : U.grownBy wE none := (by first | exact grownBy_trans GD gg | exact grownBy_trans GD (grownBy_trans (grow1 _ _) gg)); (first | (have hP := QBlk.kept hP gg (by simp)) | (have hP : QBlk wE wD.heap.size (.bool false) (.string eS) (.bool false) (.string eS) := QBlk.kept (heap_alloc_new _ _) gg (by simp); have hPl : U.heap.size ≤ wD.heap.size := GD.size) | skip); clear gg)
        | (go_at_call 20; have _q := GC; refine (HO.out _).mono ?_; rintro e wD ⟨rfl, gg⟩; have GD : U.grownBy wD none := (by first | exact grownBy_trans GC gg | exact grownBy_trans GC (grownBy_trans (grow1 _ _) gg)); (first | (have hP := QBlk.kept hP gg (by simp)) | (have hP : QBlk wD wC.heap.size (.bool false) (.string eS) (.bool false) (.string eS) := QBlk.kept (heap_alloc_new _ _) gg (by simp); have hPl : U.heap.size ≤ wC.heap.size := GC.size) | skip); clear gg)
        | (go_at_call 78; have _q := GB; refine (HOy.out _).mono ?_; rintro e wC ⟨rfl, gg⟩; have GC : U.grownBy wC none := (by first | exact grownBy_trans GB gg | exact grownBy_trans GB (grownBy_trans (grow1 _ _) gg)); (first | (have hP := QBlk.kept hP gg (by simp)) | (have hP : QBlk wC wB.heap.size (.bool false) (.string eS) (.bool false) (.string eS) := QBlk.kept (heap_alloc_new _ _) gg (by simp); have hPl : U.heap.size ≤ wB.heap.size := GB.size) | skip); clear gg)
        | (go_at_call 70; have _q := GA; refine (HMy.out _).mono ?_; rintro e wB ⟨rfl, gg⟩; have GB : U.grownBy wB none := (by first | exact grownBy_trans GA gg | exact grownBy_trans GA (grownBy_trans (grow1 _ _) gg)); (first | (have hP := QBlk.kept hP gg (by simp)) | (have hP : QBlk wB wA.heap.size (.bool false) (.string eS) (.bool false) (.string eS) := QBlk.kept (heap_alloc_new _ _) gg (by simp); have hPl : U.heap.size ≤ wA.heap.size := GA.size) | skip); clear gg)
        | (go_at_call 20; refine (HO.out _).mono ?_; rintro e wA ⟨rfl, gg⟩; have GA : U.grownBy wA none := (by first | exact grownBy_undrew gg | exact grownBy_undrew (grownBy_trans (grow1 _ _) gg) | exact grownBy_trans (grow1 _ _) (grownBy_undrew gg) | exact gg | exact grownBy_trans (grow1 _ _) gg); (try (have hP : QBlk wA U.heap.size (.bool false) (.string eS) (.bool false) (.string eS) := (by first | exact QBlk.kept (heap_alloc_new _ _) gg (by simp) | exact QBlk.kept (heap_alloc_new _ _) (grownBy_undrew gg) (by simp)); have hPl : U.heap.size ≤ U.heap.size := Nat.le_refl _)))
        | fail)
      all_goals (go_wp2_with fail; go_meet)
      all_goals first
        | with_reducible exact ⟨_, rfl, hP.put _ _ _ _, by omega, (HIU.out.kept GG).put (by omega) _ _ _ _⟩
        | exact ⟨_, rfl, heap_alloc_new _ _, by have := GG.size; omega, (HIU.out.kept GG).kept (grow1 _ _)⟩
    case rest =>
      obtain ⟨IP, rfl, hX, hXl, hI⟩ := hcut
      have HXP : Hid (QBlk wc IP (.bool In) (.string Is) (.bool Id) (.string It)) := hX
      have HI10 : Hid (StI w wc NB n d n2 d2 fn s t s2 t2 fs) := hI
      clear hX hI HIU
      go_upto_region 12 with fail
      have HK : Hid (∀ w', wc.grownBy w' none → w'.cell? ⟨NB, 0, none⟩ = some (.bool fn) ∧ w'.cell? ⟨NB, 1, none⟩ = some (.string fs) ∧ w'.cell? ⟨NB, 2, none⟩ = some (.bool false) ∧ w'.cell? ⟨NB, 3, none⟩ = some (.string oneS) ∧ w'.cell? ⟨IP, 0, none⟩ = some (.bool In) ∧ w'.cell? ⟨IP, 1, none⟩ = some (.string Is) ∧ w'.cell? ⟨IP, 2, none⟩ = some (.bool Id) ∧ w'.cell? ⟨IP, 3, none⟩ = some (.string It)) := fun w' hg => by
        have h := HI10.out.2.1.kept hg (by simp)
        have h2 := HXP.out.kept hg (by simp)
        exact ⟨h.c0, h.c1, h.c2, h.c3, h2.c0, h2.c1, h2.c2, h2.c3⟩
      obtain ⟨k0, k1, k2, k3, k4, k5, k6, k7⟩ := HK.out _ (World.grownBy.refl _ _)
      have hNl := HI10.out.2.2
      go_region_held3 (fun w' => w'.cell? ⟨NB, 0, none⟩ = some (.bool fn) ∧ w'.cell? ⟨NB, 1, none⟩ = some (.string fs) ∧ w'.cell? ⟨NB, 2, none⟩ = some (.bool false) ∧ w'.cell? ⟨NB, 3, none⟩ = some (.string oneS) ∧ w'.cell? ⟨IP, 0, none⟩ = some (.bool In) ∧ w'.cell? ⟨IP, 1, none⟩ = some (.string Is) ∧ w'.cell? ⟨IP, 2, none⟩ = some (.bool Id) ∧ w'.cell? ⟨IP, 3, none⟩ = some (.string It))
        (first | with_reducible exact HK5 | with_reducible exact HK.out _ (by assumption) | with_reducible exact HK.out _ (grow_drew (World.grownBy.refl _ _)) | (go_keep; done) | fail)
        (first
          | (go_at_call 77; refine (HPr.out _).mono ?_; rintro e wC ⟨rfl, gC⟩; have GC : wc.grownBy wC none := grownBy_trans GB gC; have HI11 : Hid (StI w wC NB n d n2 d2 fn s t s2 t2 fs) := HI10.out.kept GC; have hR := HI11.out.1.2.2.1; have r0 := hR.c0; have r1 := hR.c1; have r2 := hR.c2; have r3 := hR.c3; have f0 := hR.fr 0; have f1 := hR.fr 1; have f2 := hR.fr 2; have f3 := hR.fr 3; have hx : wC.grownBy ((((wC.setCell ⟨w.heap.size + 1 + 1, 0, none⟩ (.bool rn)).setCell ⟨w.heap.size + 1 + 1, 1, none⟩ (.string rs)).setCell ⟨w.heap.size + 1 + 1, 2, none⟩ (.bool rd)).setCell ⟨w.heap.size + 1 + 1, 3, none⟩ (.string rt)) (some (w.heap.size + 1 + 1)) := grownBy_trans (grownBy_trans (grownBy_setCell _ _ _ _) (grownBy_setCell _ _ _ _)) (grownBy_trans (grownBy_setCell _ _ _ _) (grownBy_setCell _ _ _ _)); have q1 := HI11.out.2.1.kept hx (by intro e; injection e with e; omega); have q2 := (HXP.out.kept GC (by simp)).kept hx (by intro e; injection e with e; omega); have HK5 := (And.intro q1.c0 (And.intro q1.c1 (And.intro q1.c2 (And.intro q1.c3 (And.intro q2.c0 (And.intro q2.c1 (And.intro q2.c2 q2.c3)))))))) 
          | (go_at_call 78; refine (HOi.out _).mono ?_; rintro e wB ⟨rfl, gB⟩; have GB : wc.grownBy wB none := grownBy_trans GA gB)
          | (go_at_call 20; refine (HO.out _).mono ?_; rintro e wA ⟨rfl, gA⟩; have GA : wc.grownBy wA none := (by first | exact grownBy_undrew gA | exact gA))
          | fail)
      all_goals (
        go_wp2_with fail
        refine bodyPost_ret (res_cellQ rfl _ _ (w.heap.size + 1 + 1) _ _ _ _ _ _ rfl (hR.put _ _ _ _)) rfl ?_
        exact ⟨rfl, grown_put4 HI11.out.1.2.2.2 (by omega)⟩)
end Go.Proofs.YtdfliaogmlpefaaGreatDoor
