/-
  frac's Nearest, by what it asks.
-/
import Derived.Deep.CutRange
import Derived.Test.YtdfliaogmlpefaaGreatDoorFri
namespace Go.Proofs.YtdfliaogmlpefaaGreatDoor
open Go.RowKit Go.Lib Go.Sort
set_option linter.unusedVariables false
set_option maxHeartbeats 12800000
set_option maxRecDepth 1000000
structure NrI (w W : World) (T : Nat) (n d tn : Bool) (s t ts : ByteArray) : Prop where
  x : QBlk W w.heap.size (.bool n) (.string s) (.bool d) (.string t)
  r : WBlk W (w.heap.size + 1) (.bool false) (.string eS)
  t2 : WBlk W T (.bool tn) (.string ts)
  lt : w.heap.size + 1 < T
  g : w.grownBy W none
theorem NrI.kept {w W W' : World} {T : Nat} {n d tn : Bool} {s t ts : ByteArray} (h : NrI w W T n d tn s t ts) (g : W.grownBy W' none) : NrI w W' T n d tn s t ts :=
  ⟨h.x.kept g (by simp), h.r.kept g (by simp), h.t2.kept g (by simp), h.lt, grownBy_trans h.g g⟩
theorem NrI.set {w W : World} {T P : Nat} {n d tn : Bool} {s t ts : ByteArray} (h : NrI w W T n d tn s t ts) (hP : T < P) (a b : Value) : NrI w ((W.setCell ⟨P, 0, none⟩ a).setCell ⟨P, 1, none⟩ b) T n d tn s t ts := by
  have hl := h.lt
  exact ⟨(h.x.other (by omega)).other (by omega), (h.r.other (by omega)).other (by omega), (h.t2.other (by omega)).other (by omega), h.lt, grown_set (grown_set h.g (by omega)) (by omega)⟩
theorem r5_s3 {w W : World} {P Q : Nat} {a b c d x y z u : Value} (hP : WBlk W P x y) (hQ : WBlk W Q z u) (hr : WBlk W (w.heap.size + 1) (.bool false) (.string eS)) (g : w.grownBy W none) (lP : w.heap.size + 1 < P) (lQ : w.heap.size + 1 < Q) (ne : P ≠ Q) :
    WBlk ((((W.setCell ⟨P, 0, none⟩ a).setCell ⟨P, 1, none⟩ b).setCell ⟨Q, 0, none⟩ c).setCell ⟨Q, 1, none⟩ d) P a b ∧ WBlk ((((W.setCell ⟨P, 0, none⟩ a).setCell ⟨P, 1, none⟩ b).setCell ⟨Q, 0, none⟩ c).setCell ⟨Q, 1, none⟩ d) Q c d ∧ WBlk ((((W.setCell ⟨P, 0, none⟩ a).setCell ⟨P, 1, none⟩ b).setCell ⟨Q, 0, none⟩ c).setCell ⟨Q, 1, none⟩ d) (w.heap.size + 1) (.bool false) (.string eS) ∧ w.heap.size + 1 < P ∧ w.heap.size + 1 < Q ∧ w.grownBy ((((W.setCell ⟨P, 0, none⟩ a).setCell ⟨P, 1, none⟩ b).setCell ⟨Q, 0, none⟩ c).setCell ⟨Q, 1, none⟩ d) none :=
  ⟨((hP.put a b).other (fun e => ne e.symm)).other (fun e => ne e.symm), ((hQ.other ne).other ne).put c d, (((hr.other (by omega)).other (by omega)).other (by omega)).other (by omega), lP, lQ, grown_set (grown_set (grown_set (grown_set g (by omega)) (by omega)) (by omega)) (by omega)⟩
theorem sets_size (W : World) (P : Nat) (a b : Value) : ((W.setCell ⟨P, 0, none⟩ a).setCell ⟨P, 1, none⟩ b).heap.size = W.heap.size := by
  simp [World.setCell]
theorem new_set (W : World) (P : Nat) (a b : Value) (o : Obj) : (((W.setCell ⟨P, 0, none⟩ a).setCell ⟨P, 1, none⟩ b).alloc o).heap[W.heap.size]? = some o := by
  have h := heap_alloc_new ((W.setCell ⟨P, 0, none⟩ a).setCell ⟨P, 1, none⟩ b) o
  rwa [sets_size] at h
theorem r5_s2a {w W : World} {P : Nat} {a b c d x y : Value} (hP : WBlk W P x y) (hr : WBlk W (w.heap.size + 1) (.bool false) (.string eS)) (g : w.grownBy W none) (lP : w.heap.size + 1 < P) :
    WBlk (((W.setCell ⟨P, 0, none⟩ a).setCell ⟨P, 1, none⟩ b).alloc (.cells #[c, d] 23)) P a b ∧ WBlk (((W.setCell ⟨P, 0, none⟩ a).setCell ⟨P, 1, none⟩ b).alloc (.cells #[c, d] 23)) W.heap.size c d ∧ WBlk (((W.setCell ⟨P, 0, none⟩ a).setCell ⟨P, 1, none⟩ b).alloc (.cells #[c, d] 23)) (w.heap.size + 1) (.bool false) (.string eS) ∧ w.heap.size + 1 < P ∧ w.heap.size + 1 < W.heap.size ∧ w.grownBy (((W.setCell ⟨P, 0, none⟩ a).setCell ⟨P, 1, none⟩ b).alloc (.cells #[c, d] 23)) none :=
  ⟨old_alloc _ _ (hP.put a b), new_set _ _ _ _ _, old_alloc _ _ ((hr.other (by omega)).other (by omega)), lP, hr.lt, grownBy_trans (grown_set (grown_set g (by omega)) (by omega)) (grow1 _ _)⟩
theorem r5_s2b {w W : World} {P : Nat} {a b c d x y : Value} (hP : WBlk W P x y) (hr : WBlk W (w.heap.size + 1) (.bool false) (.string eS)) (g : w.grownBy W none) (lP : w.heap.size + 1 < P) :
    WBlk (((W.setCell ⟨P, 0, none⟩ a).setCell ⟨P, 1, none⟩ b).alloc (.cells #[c, d] 23)) W.heap.size c d ∧ WBlk (((W.setCell ⟨P, 0, none⟩ a).setCell ⟨P, 1, none⟩ b).alloc (.cells #[c, d] 23)) P a b ∧ WBlk (((W.setCell ⟨P, 0, none⟩ a).setCell ⟨P, 1, none⟩ b).alloc (.cells #[c, d] 23)) (w.heap.size + 1) (.bool false) (.string eS) ∧ w.heap.size + 1 < W.heap.size ∧ w.heap.size + 1 < P ∧ w.grownBy (((W.setCell ⟨P, 0, none⟩ a).setCell ⟨P, 1, none⟩ b).alloc (.cells #[c, d] 23)) none := by
  obtain ⟨h1, h2, h3, h4, h5, h6⟩ := r5_s2a (a := a) (b := b) (c := c) (d := d) hP hr g lP
  exact ⟨h2, h1, h3, h5, h4, h6⟩
theorem r5_s1a {w W : World} {a b c d : Value} (hr : WBlk W (w.heap.size + 1) (.bool false) (.string eS)) (g : w.grownBy W none) :
    WBlk ((W.alloc (.cells #[a, b] 23)).alloc (.cells #[c, d] 23)) W.heap.size a b ∧ WBlk ((W.alloc (.cells #[a, b] 23)).alloc (.cells #[c, d] 23)) (W.heap.size + 1) c d ∧ WBlk ((W.alloc (.cells #[a, b] 23)).alloc (.cells #[c, d] 23)) (w.heap.size + 1) (.bool false) (.string eS) ∧ w.heap.size + 1 < W.heap.size ∧ w.heap.size + 1 < W.heap.size + 1 ∧ w.grownBy ((W.alloc (.cells #[a, b] 23)).alloc (.cells #[c, d] 23)) none :=
  ⟨at_alloc1 _ _ _, heap_alloc2_new _ _ _, old_alloc _ _ (old_alloc _ _ hr), hr.lt, Nat.lt_succ_of_lt hr.lt, grownBy_trans g (grow2 _ _ _)⟩
theorem r5_s1b {w W : World} {a b c d : Value} (hr : WBlk W (w.heap.size + 1) (.bool false) (.string eS)) (g : w.grownBy W none) :
    WBlk ((W.alloc (.cells #[a, b] 23)).alloc (.cells #[c, d] 23)) (W.heap.size + 1) c d ∧ WBlk ((W.alloc (.cells #[a, b] 23)).alloc (.cells #[c, d] 23)) W.heap.size a b ∧ WBlk ((W.alloc (.cells #[a, b] 23)).alloc (.cells #[c, d] 23)) (w.heap.size + 1) (.bool false) (.string eS) ∧ w.heap.size + 1 < W.heap.size + 1 ∧ w.heap.size + 1 < W.heap.size ∧ w.grownBy ((W.alloc (.cells #[a, b] 23)).alloc (.cells #[c, d] 23)) none := by
  obtain ⟨h1, h2, h3, h4, h5, h6⟩ := r5_s1a (a := a) (b := b) (c := c) (d := d) hr g
  exact ⟨h2, h1, h3, h5, h4, h6⟩
theorem near_by (n d tn p1 pn p3 qn an rn0 : Bool) (s t ts q1 ps q3 qs az rs0 : ByteArray) (bt : Int)
    (HM : Hid (∀ w, Calls Tryz.prog 40 #[frac n s d t] w fun e w' => e = .returned (.bool true) ∧ w.grownBy w' none))
    (HO : Hid (∀ w, Calls Tryz.prog 52 #[.int .i64 2] w fun e w' => e = .returned (whole tn ts) ∧ w.grownBy w' none))
    (HT1 : Hid (∀ w, Calls Tryz.prog 54 #[whole n s, whole tn ts] w fun e w' => e = .returned (whole p1 q1) ∧ w.grownBy w' none))
    (HA : Hid (∀ w, Calls Tryz.prog 53 #[whole p1 q1, whole d t] w fun e w' => e = .returned (.tuple #[whole pn ps, .int .i64 0]) ∧ w.grownBy w' none))
    (HT2 : Hid (∀ w, Calls Tryz.prog 54 #[whole d t, whole tn ts] w fun e w' => e = .returned (whole p3 q3) ∧ w.grownBy w' none))
    (HDv : Hid (∀ w, Calls Tryz.prog 55 #[whole pn ps, whole p3 q3] w fun e w' => e = .returned (.tuple #[whole qn qs, whole rn0 rs0, .int .i64 0]) ∧ w.grownBy w' none))
    (HB : Hid (∀ w, Calls Tryz.prog 56 #[whole qn qs, .int .i64 0] w fun e w' => e = .returned (.tuple #[.int .i64 bt, .int .i64 0]) ∧ w.grownBy w' none))
    (HE : Hid ((bt = 1 ∧ rn0 = false ∧ rs0 = eS ∧ Hid (∀ w, Calls Tryz.prog 57 #[whole qn qs, whole false oneS] w fun e w' => e = .returned (.tuple #[whole an az, .int .i64 0]) ∧ w.grownBy w' none)) ∨ (bt = 0 ∧ an = qn ∧ az = qs) ∨ (bt = 1 ∧ (rs0.toList == []) = false ∧ an = qn ∧ az = qs)))
    (w : World) :
    Calls Tryz.prog 15 #[frac n s d t] w fun e w' => e = .returned (.tuple #[whole an az, .int .i64 0]) ∧ w.grownBy w' none := by
  go_enter Tryz.func15, Tryz.ntmps15
  go_wp2_with fail
  refine (HM.out _).mono ?_
  rintro e w1 ⟨rfl, g1⟩
  have HX : Hid (QBlk w1 w.heap.size (.bool n) (.string s) (.bool d) (.string t)) := QBlk.kept (w := (w.alloc (qObj n s d t)).alloc (wObj false eS)) (at_alloc1 _ _ _) g1 (by simp)
  have HR : Hid (WBlk w1 (w.heap.size + 1) (.bool false) (.string eS)) := WBlk.kept (w := (w.alloc (qObj n s d t)).alloc (wObj false eS)) (heap_alloc2_new _ _ _) g1 (by simp)
  have HG : Hid (w.grownBy w1 none) := grownBy_trans (grow2 _ _ _) g1
  clear g1
  go_wp2_with fail
  refine (HO.out _).mono ?_
  rintro e w2 ⟨rfl, g2⟩
  have HI : Hid (NrI w (w2.alloc (wObj tn ts)) w2.heap.size n d tn s t ts) := ⟨HX.out.kept (grownBy_trans g2 (grow1 _ _)) (by simp), HR.out.kept (grownBy_trans g2 (grow1 _ _)) (by simp), heap_alloc_new _ _, Nat.lt_of_lt_of_le (HR.out.lt) g2.size, grownBy_trans HG.out (grownBy_trans g2 (grow1 _ _))⟩
  clear g2 HX HR HG
  go_upto_region 4 with fail
  generalize hT : w2.heap.size = T at *
  generalize w2.alloc (wObj tn ts) = W at *
  go_cut [5] from 17 to 26 (fun s5 wx => ∃ P, s5 = .pointer (some ⟨P, 0, none⟩) ∧ WBlk wx P (.bool pn) (.string ps) ∧ w.heap.size + 1 < P ∧ NrI w wx T n d tn s t ts)
  case first =>
    have HS : Hid (∀ w', W.grownBy w' none → w'.cell? ⟨w.heap.size, 0, none⟩ = some (.bool n) ∧ w'.cell? ⟨w.heap.size, 1, none⟩ = some (.string s) ∧ w'.cell? ⟨w.heap.size, 2, none⟩ = some (.bool d) ∧ w'.cell? ⟨w.heap.size, 3, none⟩ = some (.string t) ∧ w'.cell? ⟨T, 0, none⟩ = some (.bool tn) ∧ w'.cell? ⟨T, 1, none⟩ = some (.string ts)) := fun w' g => ⟨(HI.out.kept g).x.c0, (HI.out.kept g).x.c1, (HI.out.kept g).x.c2, (HI.out.kept g).x.c3, (HI.out.kept g).t2.c0, (HI.out.kept g).t2.c1⟩
    obtain ⟨c0, c1, c2, c3, c4, c5⟩ := HS.out _ (World.grownBy.refl _ _)
    have hTl := HI.out.t2.lt
    go_region_held3 (fun w' => w'.cell? ⟨w.heap.size, 0, none⟩ = some (.bool n) ∧ w'.cell? ⟨w.heap.size, 1, none⟩ = some (.string s) ∧ w'.cell? ⟨w.heap.size, 2, none⟩ = some (.bool d) ∧ w'.cell? ⟨w.heap.size, 3, none⟩ = some (.string t) ∧ w'.cell? ⟨T, 0, none⟩ = some (.bool tn) ∧ w'.cell? ⟨T, 1, none⟩ = some (.string ts))
      (first | (go_keep; done) | exact HS.out _ (by assumption) | exact HS.out _ (grow_drew (World.grownBy.refl _ _)) | exact HS.out _ (grownBy_trans (by assumption) (grow1 _ _)) | exact HS.out _ (grownBy_trans (grow_drew (World.grownBy.refl _ _)) (grow1 _ _)) | exact HS.out _ (grown_set (grown_set GC (by first | exact Nat.le_refl _ | exact GA.size)) (by first | exact Nat.le_refl _ | exact GA.size)) | fail)
      (first
      | (go_at_call 54; refine (HT1.out _).mono ?_; rintro e wA ⟨rfl, gA⟩; have GA : W.grownBy wA none := (by first | exact grownBy_undrew gA | exact grownBy_undrew (grownBy_trans (grow1 _ _) gA) | exact grownBy_trans (grow1 _ _) (grownBy_undrew gA) | exact gA | exact grownBy_trans (grow1 _ _) gA); obtain ⟨e0, e1, e2, e3, e4, e5⟩ := HS.out _ GA; (try (have hP : WBlk wA W.heap.size (.bool false) (.string eS) := (by first | exact WBlk.kept (heap_alloc_new _ _) gA (by simp) | exact WBlk.kept (heap_alloc_new _ _) (grownBy_undrew gA) (by simp)))))
      | (go_at_call 53; refine (HA.out _).mono ?_; rintro e wC ⟨rfl, gC⟩; have GC : W.grownBy wC none := (by first | exact grownBy_trans GA gC | exact grownBy_trans GA (grownBy_trans (grow1 _ _) gC)); (first | (have hQ : WBlk wC W.heap.size (.bool false) (.string eS) := WBlk.kept hP gC (by simp); have j0 := hQ.c0; have j1 := hQ.c1; have j2 := hQ.fr 0; have j3 := hQ.fr 1) | (have hQ : WBlk wC wA.heap.size (.bool false) (.string eS) := WBlk.kept (heap_alloc_new _ _) gC (by simp); have j0 := hQ.c0; have j1 := hQ.c1; have j2 := hQ.fr 0; have j3 := hQ.fr 1) | skip))
      | fail)
    all_goals (go_wp2_with fail; go_meet)
    · exact ⟨_, rfl, heap_alloc_new _ _, by have := HI.out.lt; have := GC.size; omega, HI.out.kept (grownBy_trans GC (grow1 _ _))⟩
    · exact ⟨_, rfl, hQ.put _ _, by have := HI.out.lt; have := GA.size; omega, (HI.out.kept GC).set (by have := GA.size; omega) _ _⟩
    · exact ⟨_, rfl, hQ.put _ _, by have := HI.out.lt; omega, (HI.out.kept GC).set (by omega) _ _⟩
  case rest =>
    obtain ⟨P, rfl, hP, hPl, hN⟩ := hcut
    clear HI
    have HP : Hid (WBlk wc P (.bool pn) (.string ps)) := hP
    have HI : Hid (NrI w wc T n d tn s t ts) := hN
    clear hP hN
    go_upto_region 5 with fail
    go_cut [7, 8] from 27 to 36 (fun s7 s8 wx => ∃ P7 P8, s7 = .pointer (some ⟨P7, 0, none⟩) ∧ s8 = .pointer (some ⟨P8, 0, none⟩) ∧ WBlk wx P7 (.bool qn) (.string qs) ∧ WBlk wx P8 (.bool rn0) (.string rs0) ∧ WBlk wx (w.heap.size + 1) (.bool false) (.string eS) ∧ w.heap.size + 1 < P7 ∧ w.heap.size + 1 < P8 ∧ w.grownBy wx none)
    case first =>
      have HS : Hid (∀ w', wc.grownBy w' none → w'.cell? ⟨w.heap.size, 2, none⟩ = some (.bool d) ∧ w'.cell? ⟨w.heap.size, 3, none⟩ = some (.string t) ∧ w'.cell? ⟨T, 0, none⟩ = some (.bool tn) ∧ w'.cell? ⟨T, 1, none⟩ = some (.string ts) ∧ w'.cell? ⟨P, 0, none⟩ = some (.bool pn) ∧ w'.cell? ⟨P, 1, none⟩ = some (.string ps)) := fun w' g => ⟨(HI.out.kept g).x.c2, (HI.out.kept g).x.c3, (HI.out.kept g).t2.c0, (HI.out.kept g).t2.c1, (HP.out.kept g (by simp)).c0, (HP.out.kept g (by simp)).c1⟩
      obtain ⟨c0, c1, c2, c3, c4, c5⟩ := HS.out _ (World.grownBy.refl _ _)
      have hpl := HP.out.lt
      have htl := HI.out.t2.lt
      go_region_held3 (fun w' => w'.cell? ⟨w.heap.size, 2, none⟩ = some (.bool d) ∧ w'.cell? ⟨w.heap.size, 3, none⟩ = some (.string t) ∧ w'.cell? ⟨T, 0, none⟩ = some (.bool tn) ∧ w'.cell? ⟨T, 1, none⟩ = some (.string ts) ∧ w'.cell? ⟨P, 0, none⟩ = some (.bool pn) ∧ w'.cell? ⟨P, 1, none⟩ = some (.string ps))
        (first | (go_keep; done) | exact HS.out _ (by assumption) | exact HS.out _ (by repeat (first | exact GC | exact GA | exact grow_drew (World.grownBy.refl _ _) | refine grownBy_trans ?_ (grow1 _ _) | refine grown_set ?_ (by omega))) | fail)
        (first
          | (go_at_call 54; refine (HT2.out _).mono ?_; rintro e wA ⟨rfl, gA⟩; have GA : wc.grownBy wA none := (by first | exact grownBy_undrew gA | exact grownBy_undrew (grownBy_trans (grow1 _ _) gA) | exact grownBy_undrew (grownBy_trans (grow2 _ _ _) gA)); have sA := GA.size; (try (have x1 : ¬ wc.heap.size = wA.heap.size := (by have hh := gA.size; simp at hh; omega))); (try (have x1' : ¬ wA.heap.size = wc.heap.size := (by have hh := gA.size; simp at hh; omega))); (try (have x2 : ¬ wc.heap.size + 1 = wA.heap.size := (by have hh := gA.size; simp at hh; omega))); (try (have x2' : ¬ wA.heap.size = wc.heap.size + 1 := (by have hh := gA.size; simp at hh; omega))); (try (have k1 : WBlk wA wc.heap.size (.bool false) (.string eS) := (by first | exact WBlk.kept (heap_alloc_new _ _) gA (by simp) | exact WBlk.kept (at_alloc1 _ _ _) gA (by simp) | exact WBlk.kept (heap_alloc_new _ _) (grownBy_undrew gA) (by simp) | exact WBlk.kept (at_alloc1 _ _ _) (grownBy_undrew gA) (by simp)))); (try (have k2 : WBlk wA (wc.heap.size + 1) (.bool false) (.string eS) := (by first | exact WBlk.kept (heap_alloc2_new _ _ _) gA (by simp) | exact WBlk.kept (heap_alloc2_new _ _ _) (grownBy_undrew gA) (by simp)))))
          | (go_at_call 55; refine (HDv.out _).mono ?_; rintro e wC ⟨rfl, gC⟩; have GC : wc.grownBy wC none := (by first | exact grownBy_trans GA gC | exact grownBy_trans GA (grownBy_trans (grow1 _ _) gC) | exact grownBy_trans GA (grownBy_trans (grow2 _ _ _) gC)); have sC := GC.size; have gAC : wA.grownBy wC none := (by first | exact gC | exact grownBy_trans (grow1 _ _) gC | exact grownBy_trans (grow2 _ _ _) gC); have sAC := gAC.size; (try (have m1 : WBlk wC (wc.heap.size) (.bool false) (.string eS) := k1.kept gAC (by simp); have m10 := m1.c0; have m11 := m1.c1; have m12 := m1.fr 0; have m13 := m1.fr 1; have m14 := m1.lt; have m15 : ¬ wc.heap.size = wC.heap.size := (by omega); have m16 : ¬ wC.heap.size = wc.heap.size := (by omega))); (try (have m2 : WBlk wC (wc.heap.size + 1) (.bool false) (.string eS) := k2.kept gAC (by simp); have m20 := m2.c0; have m21 := m2.c1; have m22 := m2.fr 0; have m23 := m2.fr 1; have m24 := m2.lt; have m25 : ¬ wc.heap.size + 1 = wC.heap.size := (by omega); have m26 : ¬ wC.heap.size = wc.heap.size + 1 := (by omega))); (try (have m3 : WBlk wC (wA.heap.size) (.bool false) (.string eS) := (by first | exact WBlk.kept (heap_alloc_new _ _) gC (by simp) | exact WBlk.kept (at_alloc1 _ _ _) gC (by simp)); have m30 := m3.c0; have m31 := m3.c1; have m32 := m3.fr 0; have m33 := m3.fr 1; have m34 := m3.lt; have m35 : ¬ wA.heap.size = wC.heap.size := (by omega); have m36 : ¬ wC.heap.size = wA.heap.size := (by omega))); (try (have m4 : WBlk wC (wA.heap.size + 1) (.bool false) (.string eS) := WBlk.kept (heap_alloc2_new _ _ _) gC (by simp); have m40 := m4.c0; have m41 := m4.c1; have m42 := m4.fr 0; have m43 := m4.fr 1; have m44 := m4.lt; have m45 : ¬ wA.heap.size + 1 = wC.heap.size := (by omega); have m46 : ¬ wC.heap.size = wA.heap.size + 1 := (by omega))))
          | fail)
      all_goals (go_wp2_with fail; go_meet)
      all_goals have hwl := HI.out.r.lt
      all_goals first | (have _q := m1; have _r := m2; first | (refine ⟨wc.heap.size, wc.heap.size + 1, rfl, rfl, ?_⟩; exact r5_s3 m1 m2 (HI.out.kept GC).r (HI.out.kept GC).g (by omega) (by omega) (by omega)) | (refine ⟨wc.heap.size + 1, wc.heap.size, rfl, rfl, ?_⟩; exact r5_s3 m2 m1 (HI.out.kept GC).r (HI.out.kept GC).g (by omega) (by omega) (by omega))) | (have _q := m1; have _r := m3; first | (refine ⟨wc.heap.size, wA.heap.size, rfl, rfl, ?_⟩; exact r5_s3 m1 m3 (HI.out.kept GC).r (HI.out.kept GC).g (by omega) (by omega) (by omega)) | (refine ⟨wA.heap.size, wc.heap.size, rfl, rfl, ?_⟩; exact r5_s3 m3 m1 (HI.out.kept GC).r (HI.out.kept GC).g (by omega) (by omega) (by omega))) | (have _q := m3; have _r := m4; first | (refine ⟨wA.heap.size, wA.heap.size + 1, rfl, rfl, ?_⟩; exact r5_s3 m3 m4 (HI.out.kept GC).r (HI.out.kept GC).g (by omega) (by omega) (by omega)) | (refine ⟨wA.heap.size + 1, wA.heap.size, rfl, rfl, ?_⟩; exact r5_s3 m4 m3 (HI.out.kept GC).r (HI.out.kept GC).g (by omega) (by omega) (by omega))) | (have _q := m1; first | (refine ⟨wc.heap.size, wC.heap.size, rfl, rfl, ?_⟩; exact r5_s2a m1 (HI.out.kept GC).r (HI.out.kept GC).g (by omega)) | (refine ⟨wC.heap.size, wc.heap.size, rfl, rfl, ?_⟩; exact r5_s2b m1 (HI.out.kept GC).r (HI.out.kept GC).g (by omega))) | (have _q := m3; first | (refine ⟨wA.heap.size, wC.heap.size, rfl, rfl, ?_⟩; exact r5_s2a m3 (HI.out.kept GC).r (HI.out.kept GC).g (by omega)) | (refine ⟨wC.heap.size, wA.heap.size, rfl, rfl, ?_⟩; exact r5_s2b m3 (HI.out.kept GC).r (HI.out.kept GC).g (by omega))) | (refine ⟨wC.heap.size, wC.heap.size + 1, rfl, rfl, ?_⟩; exact r5_s1a (HI.out.kept GC).r (HI.out.kept GC).g) | (refine ⟨wC.heap.size + 1, wC.heap.size, rfl, rfl, ?_⟩; exact r5_s1b (HI.out.kept GC).r (HI.out.kept GC).g)
    case rest =>
      clear HI HP
      obtain ⟨P7, P8, rfl, rfl, h7, h8, hr, l7, l8, g⟩ := hcut
      have H7 : Hid (WBlk wc P7 (.bool qn) (.string qs)) := h7
      have H8 : Hid (WBlk wc P8 (.bool rn0) (.string rs0)) := h8
      have HR : Hid (WBlk wc (w.heap.size + 1) (.bool false) (.string eS)) := hr
      have HG : Hid (w.grownBy wc none) := g
      have c0 := h7.c0
      have c1 := h7.c1
      clear h7 h8 hr g
      go_wp2_with fail
      refine (HB.out _).mono ?_
      rintro e v1 ⟨rfl, g1⟩
      clear c0 c1
      replace H7 : Hid (WBlk v1 P7 (.bool qn) (.string qs)) := H7.out.kept g1 (by simp)
      replace H8 : Hid (WBlk v1 P8 (.bool rn0) (.string rs0)) := H8.out.kept g1 (by simp)
      replace HR : Hid (WBlk v1 (w.heap.size + 1) (.bool false) (.string eS)) := HR.out.kept g1 (by simp)
      replace HG : Hid (w.grownBy v1 none) := grownBy_trans HG.out g1
      clear g1
      have N7 : Hid (w.heap.size + 1 ≠ P7) := (by omega : w.heap.size + 1 ≠ P7)
      clear l7 l8
      rcases HE.out with ⟨rfl, rfl, rfl, HSb⟩ | ⟨rfl, rfl, rfl⟩ | ⟨rfl, hne, rfl, rfl⟩
      · clear HE
        have HZ : Hid (∀ w', v1.grownBy w' none → w'.cell? ⟨P8, 0, none⟩ = some (.bool false) ∧ w'.cell? ⟨P8, 1, none⟩ = some (.string eS)) := fun w' g => ⟨(H8.out.kept g (by simp)).c0, (H8.out.kept g (by simp)).c1⟩
        go_wp2_with fail
        go_region_held3 (fun w' => w'.cell? ⟨P8, 0, none⟩ = some (.bool false) ∧ w'.cell? ⟨P8, 1, none⟩ = some (.string eS))
          (first | (go_keep; done) | exact HZ.out _ (by assumption) | exact HZ.out _ (grow_drew (World.grownBy.refl _ _)) | fail)
          (first
            | (go_at_call 51; refine (fzero_gr _).mono ?_; rintro e v2 ⟨rfl, g⟩; have G2 : v1.grownBy v2 none := (by first | exact g | exact grownBy_undrew g); clear g)
            | fail)
        replace H7 : Hid (WBlk v2 P7 (.bool qn) (.string qs)) := H7.out.kept G2 (by simp)
        replace HR : Hid (WBlk v2 (w.heap.size + 1) (.bool false) (.string eS)) := HR.out.kept G2 (by simp)
        replace HG : Hid (w.grownBy v2 none) := grownBy_trans HG.out G2
        clear G2 HZ H8
        have HY : Hid (∀ w', v2.grownBy w' none → w'.cell? ⟨P7, 0, none⟩ = some (.bool qn) ∧ w'.cell? ⟨P7, 1, none⟩ = some (.string qs)) := fun w' g => ⟨(H7.out.kept g (by simp)).c0, (H7.out.kept g (by simp)).c1⟩
        go_wp2_with fail
        go_region_held3 (fun w' => w'.cell? ⟨P7, 0, none⟩ = some (.bool qn) ∧ w'.cell? ⟨P7, 1, none⟩ = some (.string qs))
          (first | (go_keep; done) | exact ⟨(((H7.out.kept G4 (by simp)).other N7.out).other N7.out).c0, (((H7.out.kept G4 (by simp)).other N7.out).other N7.out).c1⟩ | exact HY.out _ (by assumption) | exact HY.out _ (grow_drew (World.grownBy.refl _ _)) | fail)
          (first
            | (go_at_call 58; refine (fone_any _).mono ?_; rintro e v3 ⟨rfl, g⟩; have G3 : v2.grownBy v3 none := (by first | exact g | exact grownBy_undrew g); clear g)
            | (go_at_call 57; refine (HSb.out _).mono ?_; rintro e v4 ⟨rfl, g⟩; have G4 : v2.grownBy v4 none := grownBy_trans G3 g; clear g; have hR := HR.out.kept G4 (by simp); have k0 := hR.c0; have k1 := hR.c1; have k2 := hR.fr 0; have k3 := hR.fr 1)
            | fail)
        go_wp2_with fail
        refine bodyPost_ret (res_cell_tmp rfl _ _ (w.heap.size + 1) _ _ _ _ rfl (hR.put _ _)) rfl ?_
        exact ⟨rfl, grown_set (grown_set (grownBy_trans HG.out G4) (by omega)) (by omega)⟩
      · clear HE
        have HZ : Hid (∀ w', v1.grownBy w' none → w'.cell? ⟨P8, 0, none⟩ = some (.bool rn0) ∧ w'.cell? ⟨P8, 1, none⟩ = some (.string rs0)) := fun w' g => ⟨(H8.out.kept g (by simp)).c0, (H8.out.kept g (by simp)).c1⟩
        go_wp2_with fail
        go_region_with (first | fail)
        all_goals
          have h7 : WBlk v1.drew P7 (.bool an) (.string az) := H7.out.kept (row := none) (grow_drew (World.grownBy.refl _ _)) (by simp)
          have hR : WBlk v1.drew (w.heap.size + 1) (.bool false) (.string eS) := HR.out.kept (row := none) (grow_drew (World.grownBy.refl _ _)) (by simp)
          have hG : w.grownBy v1.drew none := grow_drew HG.out
          clear HZ H7 H8 HR HG
          generalize v1.drew = V at *
          have c0 := h7.c0
          have c1 := h7.c1
          have k0 := hR.c0
          have k1 := hR.c1
          have k2 := hR.fr 0
          have k3 := hR.fr 1
          go_wp2_with fail
          refine bodyPost_ret (res_cell_tmp rfl _ _ (w.heap.size + 1) _ _ _ _ rfl (hR.put _ _)) rfl ?_
          exact ⟨rfl, grown_set (grown_set hG (by omega)) (by omega)⟩
      · clear HE
        have HZ : Hid (∀ w', v1.grownBy w' none → w'.cell? ⟨P8, 0, none⟩ = some (.bool rn0) ∧ w'.cell? ⟨P8, 1, none⟩ = some (.string rs0)) := fun w' g => ⟨(H8.out.kept g (by simp)).c0, (H8.out.kept g (by simp)).c1⟩
        go_wp2_with fail
        go_region_held3 (fun w' => w'.cell? ⟨P8, 0, none⟩ = some (.bool rn0) ∧ w'.cell? ⟨P8, 1, none⟩ = some (.string rs0))
          (first | (go_keep; done) | exact HZ.out _ (by assumption) | exact HZ.out _ (grow_drew (World.grownBy.refl _ _)) | fail)
          (first
            | (go_at_call 51; refine (fzero_gr _).mono ?_; rintro e v2 ⟨rfl, g⟩; have G2 : v1.grownBy v2 none := (by first | exact g | exact grownBy_undrew g); clear g)
            | fail)
        have h7 := H7.out.kept G2 (by simp)
        have hR := HR.out.kept G2 (by simp)
        have c0 := h7.c0
        have c1 := h7.c1
        have k0 := hR.c0
        have k1 := hR.c1
        have k2 := hR.fr 0
        have k3 := hR.fr 1
        go_wp2_with fail
        refine bodyPost_ret (res_cell_tmp rfl _ _ (w.heap.size + 1) _ _ _ _ rfl (hR.put _ _)) rfl ?_
        exact ⟨rfl, grown_set (grown_set (grownBy_trans HG.out G2) (by omega)) (by omega)⟩
end Go.Proofs.YtdfliaogmlpefaaGreatDoor
