/-
  The document's Nearest, by what it asks.
-/
import Derived.Deep.CutRange
import Derived.Test.YtdfliaogmlpefaaGreatDoorFrj
import Derived.Test.YtdfliaogmlpefaaGreatDoorBunOna
namespace Go.Proofs.YtdfliaogmlpefaaGreatDoor
open Go.RowKit Go.Lib Go.Sort
set_option linter.unusedVariables false
set_option maxHeartbeats 12800000
set_option maxRecDepth 1000000
structure NqI (w W : World) (F : Nat) (fn : Bool) (fs : ByteArray) : Prop where
  f : WBlk W F (.bool fn) (.string fs)
  r : WBlk W (w.heap.size + 1) (.bool false) (.string eS)
  lt : w.heap.size + 1 < F
  g : w.grownBy W none
theorem NqI.kept {w W W' : World} {F : Nat} {fn : Bool} {fs : ByteArray} (h : NqI w W F fn fs) (g : W.grownBy W' none) : NqI w W' F fn fs :=
  ⟨h.f.kept g (by simp), h.r.kept g (by simp), h.lt, grownBy_trans h.g g⟩
theorem NqI.set {w W : World} {F P : Nat} {fn : Bool} {fs : ByteArray} (h : NqI w W F fn fs) (hP : F < P) (v0 v1 v2 v3 : Value) : NqI w ((((W.setCell ⟨P, 0, none⟩ v0).setCell ⟨P, 1, none⟩ v1).setCell ⟨P, 2, none⟩ v2).setCell ⟨P, 3, none⟩ v3) F fn fs := by
  have hl := h.lt
  exact ⟨(((h.f.other (by omega)).other (by omega)).other (by omega)).other (by omega), (((h.r.other (by omega)).other (by omega)).other (by omega)).other (by omega), h.lt, grown_put4 h.g (by omega)⟩
theorem NqI.set2 {w W : World} {F P : Nat} {fn : Bool} {fs : ByteArray} (h : NqI w W F fn fs) (hP : F < P) (v0 v1 : Value) : NqI w ((W.setCell ⟨P, 0, none⟩ v0).setCell ⟨P, 1, none⟩ v1) F fn fs := by
  have hl := h.lt
  exact ⟨(h.f.other (by omega)).other (by omega), (h.r.other (by omega)).other (by omega), h.lt, grown_set (grown_set h.g (by omega)) (by omega)⟩
theorem q5_s3 {w W : World} {P Q F : Nat} {fn : Bool} {fs : ByteArray} {a b c d x y z u : Value} (hP : WBlk W P x y) (hQ : WBlk W Q z u) (h : NqI w W F fn fs) (lP : F < P) (lQ : F < Q) (ne : P ≠ Q) :
    WBlk ((((W.setCell ⟨P, 0, none⟩ a).setCell ⟨P, 1, none⟩ b).setCell ⟨Q, 0, none⟩ c).setCell ⟨Q, 1, none⟩ d) Q c d ∧ NqI w ((((W.setCell ⟨P, 0, none⟩ a).setCell ⟨P, 1, none⟩ b).setCell ⟨Q, 0, none⟩ c).setCell ⟨Q, 1, none⟩ d) F fn fs :=
  ⟨((hQ.other ne).other ne).put c d, (h.set2 lP a b).set2 lQ c d⟩
theorem q5_s2a {w W : World} {P F : Nat} {fn : Bool} {fs : ByteArray} {a b c d x y : Value} (hP : WBlk W P x y) (h : NqI w W F fn fs) (lP : F < P) :
    WBlk (((W.setCell ⟨P, 0, none⟩ a).setCell ⟨P, 1, none⟩ b).alloc (.cells #[c, d] 23)) W.heap.size c d ∧ NqI w (((W.setCell ⟨P, 0, none⟩ a).setCell ⟨P, 1, none⟩ b).alloc (.cells #[c, d] 23)) F fn fs :=
  ⟨new_set _ _ _ _ _, (h.set2 lP a b).kept (grow1 _ _)⟩
theorem q5_s2b {w W : World} {P F : Nat} {fn : Bool} {fs : ByteArray} {a b c d x y : Value} (hP : WBlk W P x y) (h : NqI w W F fn fs) (lP : F < P) :
    WBlk (((W.setCell ⟨P, 0, none⟩ a).setCell ⟨P, 1, none⟩ b).alloc (.cells #[c, d] 23)) P a b ∧ NqI w (((W.setCell ⟨P, 0, none⟩ a).setCell ⟨P, 1, none⟩ b).alloc (.cells #[c, d] 23)) F fn fs :=
  ⟨old_alloc _ _ (hP.put a b), (h.set2 lP a b).kept (grow1 _ _)⟩
theorem q5_s1a {w W : World} {F : Nat} {fn : Bool} {fs : ByteArray} {a b c d : Value} (h : NqI w W F fn fs) :
    WBlk ((W.alloc (.cells #[a, b] 23)).alloc (.cells #[c, d] 23)) (W.heap.size + 1) c d ∧ NqI w ((W.alloc (.cells #[a, b] 23)).alloc (.cells #[c, d] 23)) F fn fs :=
  ⟨heap_alloc2_new _ _ _, h.kept (grow2 _ _ _)⟩
theorem q5_s1b {w W : World} {F : Nat} {fn : Bool} {fs : ByteArray} {a b c d : Value} (h : NqI w W F fn fs) :
    WBlk ((W.alloc (.cells #[a, b] 23)).alloc (.cells #[c, d] 23)) W.heap.size a b ∧ NqI w ((W.alloc (.cells #[a, b] 23)).alloc (.cells #[c, d] 23)) F fn fs :=
  ⟨at_alloc1 _ _ _, h.kept (grow2 _ _ _)⟩
theorem rnearq_by (n d fn a c m1 m3 an : Bool) (s t fs b f m2 m4 az : ByteArray) (cm gs : Int) (hcm : -1 ≤ cm) (hcm1 : cm ≤ 1)
    (HF : Hid (∀ w, Calls Tryz.prog 26 #[frac n s d t] w fun e w' => e = .returned (whole fn fs) ∧ w.grownBy w' none))
    (HW : Hid (∀ w, Calls Tryz.prog 71 #[whole fn fs] w fun e w' => e = .returned (frac fn fs false oneS) ∧ w.grownBy w' none))
    (HM : Hid (∀ w, Calls Tryz.prog 70 #[frac n s d t, frac fn fs false oneS] w fun e w' => e = .returned (frac a b c f) ∧ w.grownBy w' none))
    (HS : Hid (∀ w, Calls Tryz.prog 18 #[.int .i64 1, .int .i64 2] w fun e w' => e = .returned (frac false ⟨#[1]⟩ false ⟨#[2]⟩) ∧ w.grownBy w' none))
    (HC : Hid (∀ w, Calls Tryz.prog 30 #[frac a b c f, frac false ⟨#[1]⟩ false ⟨#[2]⟩] w fun e w' => e = .returned (.int .i64 cm) ∧ w.grownBy w' none))
    (HO2 : Hid (∀ w, Calls Tryz.prog 47 #[.int .i64 2] w fun e w' => e = .returned (whole false ⟨#[2]⟩) ∧ w.grownBy w' none))
    (HD : Hid (∀ w, Calls Tryz.prog 69 #[whole fn fs, whole false ⟨#[2]⟩] w fun e w' => e = .returned (.tuple #[whole m1 m2, whole m3 m4]) ∧ w.grownBy w' none))
    (HG : Hid (∀ w, Calls Tryz.prog 66 #[whole m3 m4] w fun e w' => e = .returned (.int .i64 gs) ∧ w.grownBy w' none))
    (HO1 : Hid (∀ w, Calls Tryz.prog 47 #[.int .i64 1] w fun e w' => e = .returned (whole false oneS) ∧ w.grownBy w' none))
    (HE : Hid (((cm = 1 ∨ (cm = 0 ∧ gs = 1)) ∧ Hid (∀ w, Calls Tryz.prog 72 #[whole fn fs, whole false oneS] w fun e w' => e = .returned (whole an az) ∧ w.grownBy w' none)) ∨ ((cm = -1 ∨ (cm = 0 ∧ gs = 0)) ∧ an = fn ∧ az = fs)))
    (w : World) :
    Calls Tryz.prog 27 #[frac n s d t] w fun e w' => e = .returned (whole an az) ∧ w.grownBy w' none := by
  go_enter Tryz.func27, Tryz.ntmps27
  go_wp2_with fail
  refine (HF.out _).mono ?_
  rintro e w1 ⟨rfl, g1⟩
  have HX : Hid (QBlk (w1.alloc (wObj fn fs)) w.heap.size (.bool n) (.string s) (.bool d) (.string t)) := old_alloc _ _ (QBlk.kept (at_alloc1 _ _ _) g1 (by simp))
  have hR1 : WBlk w1 (w.heap.size + 1) (.bool false) (.string eS) := WBlk.kept (heap_alloc2_new _ _ _) g1 (by simp)
  have HI : Hid (NqI w (w1.alloc (wObj fn fs)) w1.heap.size fn fs) := ⟨heap_alloc_new _ _, old_alloc _ _ hR1, hR1.lt, grownBy_trans (grownBy_trans (grow2 _ _ _) g1) (grow1 _ _)⟩
  clear g1 hR1
  go_upto_region 2 with fail
  generalize hF : w1.heap.size = F at *
  generalize w1.alloc (wObj fn fs) = W at *
  go_cut [4] from 10 to 13 (fun s4 wx => ∃ P, s4 = .pointer (some ⟨P, 0, none⟩) ∧ QBlk wx P (.bool a) (.string b) (.bool c) (.string f) ∧ NqI w wx F fn fs)
  case first =>
    have HZ : Hid (∀ w', W.grownBy w' none → w'.cell? ⟨w.heap.size, 0, none⟩ = some (.bool n) ∧ w'.cell? ⟨w.heap.size, 1, none⟩ = some (.string s) ∧ w'.cell? ⟨w.heap.size, 2, none⟩ = some (.bool d) ∧ w'.cell? ⟨w.heap.size, 3, none⟩ = some (.string t) ∧ w'.cell? ⟨F, 0, none⟩ = some (.bool fn) ∧ w'.cell? ⟨F, 1, none⟩ = some (.string fs)) := fun w' g => ⟨(HX.out.kept g (by simp)).c0, (HX.out.kept g (by simp)).c1, (HX.out.kept g (by simp)).c2, (HX.out.kept g (by simp)).c3, (HI.out.kept g).f.c0, (HI.out.kept g).f.c1⟩
    obtain ⟨c0, c1, c2, c3, c4, c5⟩ := HZ.out _ (World.grownBy.refl _ _)
    have hfl := HI.out.f.lt
    go_region_held3 (fun w' => w'.cell? ⟨w.heap.size, 0, none⟩ = some (.bool n) ∧ w'.cell? ⟨w.heap.size, 1, none⟩ = some (.string s) ∧ w'.cell? ⟨w.heap.size, 2, none⟩ = some (.bool d) ∧ w'.cell? ⟨w.heap.size, 3, none⟩ = some (.string t) ∧ w'.cell? ⟨F, 0, none⟩ = some (.bool fn) ∧ w'.cell? ⟨F, 1, none⟩ = some (.string fs))
      (first | (go_keep; done) | with_reducible exact HZ.out _ (by assumption) | with_reducible exact HZ.out _ (grow_drew (World.grownBy.refl _ _)) | with_reducible exact HZ.out _ (grownBy_trans (by assumption) (grow1 _ _)) | with_reducible exact HZ.out _ (grownBy_trans (grow_drew (World.grownBy.refl _ _)) (grow1 _ _)) | with_reducible exact HZ.out _ (grow_drew (grow1 _ _)) | with_reducible exact HZ.out _ (grown_put4 GC (by first | exact Nat.le_refl _ | exact GA.size)) | fail)
      (first
      | (go_at_call 71; refine (HW.out _).mono ?_; rintro e wA ⟨rfl, gA⟩; have GA : W.grownBy wA none := (by first | exact grownBy_undrew gA | exact grownBy_undrew (grownBy_trans (grow1 _ _) gA) | exact grownBy_trans (grow1 _ _) (grownBy_undrew gA) | exact gA | exact grownBy_trans (grow1 _ _) gA); obtain ⟨e0, e1, e2, e3, e4, e5⟩ := HZ.out _ GA; (try (have hP : QBlk wA W.heap.size (.bool false) (.string eS) (.bool false) (.string eS) := (by first | exact QBlk.kept (heap_alloc_new _ _) gA (by simp) | exact QBlk.kept (heap_alloc_new _ _) (grownBy_undrew gA) (by simp)))))
      | (go_at_call 70; refine (HM.out _).mono ?_; rintro e wC ⟨rfl, gC⟩; have GC : W.grownBy wC none := (by first | exact grownBy_trans GA gC | exact grownBy_trans GA (grownBy_trans (grow1 _ _) gC)); (first | (have hQ : QBlk wC W.heap.size (.bool false) (.string eS) (.bool false) (.string eS) := QBlk.kept hP (by first | exact gC | exact grownBy_trans (grow1 _ _) gC) (by simp); have j0 := hQ.c0; have j1 := hQ.c1; have j2 := hQ.c2; have j3 := hQ.c3; have j4 := hQ.fr 0; have j5 := hQ.fr 1; have j6 := hQ.fr 2; have j7 := hQ.fr 3) | (have hQ : QBlk wC wA.heap.size (.bool false) (.string eS) (.bool false) (.string eS) := QBlk.kept (heap_alloc_new _ _) gC (by simp); have j0 := hQ.c0; have j1 := hQ.c1; have j2 := hQ.c2; have j3 := hQ.c3; have j4 := hQ.fr 0; have j5 := hQ.fr 1; have j6 := hQ.fr 2; have j7 := hQ.fr 3) | skip))
      | fail)
    all_goals (go_wp2_with fail; go_meet)
    · refine ⟨wC.heap.size, rfl, ?_, ?_⟩
      · exact heap_alloc_new _ _
      · exact HI.out.kept (grownBy_trans GC (grow1 _ _))
    · refine ⟨wA.heap.size, rfl, ?_, ?_⟩
      · exact hQ.put _ _ _ _
      · exact (HI.out.kept GC).set (by have := GA.size; omega) _ _ _ _
    · refine ⟨W.heap.size, rfl, ?_, ?_⟩
      · exact hQ.put _ _ _ _
      · exact (HI.out.kept GC).set (by omega) _ _ _ _
  case rest =>
    clear HI HX
    obtain ⟨P, rfl, hP, hN⟩ := hcut
    have HP : Hid (QBlk wc P (.bool a) (.string b) (.bool c) (.string f)) := hP
    have HI : Hid (NqI w wc F fn fs) := hN
    clear hP hN
    have HZ : Hid (∀ w', wc.grownBy w' none → w'.cell? ⟨P, 0, none⟩ = some (.bool a) ∧ w'.cell? ⟨P, 1, none⟩ = some (.string b) ∧ w'.cell? ⟨P, 2, none⟩ = some (.bool c) ∧ w'.cell? ⟨P, 3, none⟩ = some (.string f)) := fun w' g => ⟨(HP.out.kept g (by simp)).c0, (HP.out.kept g (by simp)).c1, (HP.out.kept g (by simp)).c2, (HP.out.kept g (by simp)).c3⟩
    go_upto_region 3 with fail
    go_region_held3 (fun w' => w'.cell? ⟨P, 0, none⟩ = some (.bool a) ∧ w'.cell? ⟨P, 1, none⟩ = some (.string b) ∧ w'.cell? ⟨P, 2, none⟩ = some (.bool c) ∧ w'.cell? ⟨P, 3, none⟩ = some (.string f))
      (first | (go_keep; done) | with_reducible exact HZ.out _ (by assumption) | with_reducible exact HZ.out _ (grow_drew (World.grownBy.refl _ _)) | fail)
      (first
        | (go_at_call 18; refine (HS.out _).mono ?_; rintro e wD ⟨rfl, gD⟩; have GD : wc.grownBy wD none := (by first | exact gD | exact grownBy_undrew gD); clear gD)
        | (go_at_call 30; refine (HC.out _).mono ?_; rintro e wE ⟨rfl, gE⟩; have GE : wc.grownBy wE none := grownBy_trans GD gE; clear gE)
        | fail)
    replace HI : Hid (NqI w wE F fn fs) := HI.out.kept GE
    clear HP HZ GD GE
    go_upto_region 4 with fail
    go_cut [6, 7] from 17 to 22 (fun s6 s7 wx => ∃ P6 P7, s6 = .pointer (some ⟨P6, 0, none⟩) ∧ s7 = .pointer (some ⟨P7, 0, none⟩) ∧ WBlk wx P7 (.bool m3) (.string m4) ∧ NqI w wx F fn fs)
    case first =>
      have HZ : Hid (∀ w', wE.grownBy w' none → w'.cell? ⟨F, 0, none⟩ = some (.bool fn) ∧ w'.cell? ⟨F, 1, none⟩ = some (.string fs)) := fun w' g => ⟨(HI.out.kept g).f.c0, (HI.out.kept g).f.c1⟩
      obtain ⟨c0, c1⟩ := HZ.out _ (World.grownBy.refl _ _)
      have hfl := HI.out.f.lt
      go_region_held3 (fun w' => w'.cell? ⟨F, 0, none⟩ = some (.bool fn) ∧ w'.cell? ⟨F, 1, none⟩ = some (.string fs))
        (first | (go_keep; done) | with_reducible exact HZ.out _ (by assumption) | exact HZ.out _ (by repeat (first | with_reducible exact GC | with_reducible exact GA | with_reducible exact grow_drew (World.grownBy.refl _ _) | with_reducible refine grownBy_trans ?_ (grow1 _ _) | with_reducible refine grown_set ?_ (by omega))) | fail)
        (first
          | (go_at_call 47; refine (HO2.out _).mono ?_; rintro e wA ⟨rfl, gA⟩; have GA : wE.grownBy wA none := (by first | exact grownBy_undrew gA | exact grownBy_undrew (grownBy_trans (grow1 _ _) gA) | exact grownBy_undrew (grownBy_trans (grow2 _ _ _) gA)); have sA := GA.size; (try (have x1 : ¬ wE.heap.size = wA.heap.size := (by have hh := gA.size; simp at hh; omega))); (try (have x1' : ¬ wA.heap.size = wE.heap.size := (by have hh := gA.size; simp at hh; omega))); (try (have x2 : ¬ wE.heap.size + 1 = wA.heap.size := (by have hh := gA.size; simp at hh; omega))); (try (have x2' : ¬ wA.heap.size = wE.heap.size + 1 := (by have hh := gA.size; simp at hh; omega))); (try (have k1 : WBlk wA wE.heap.size (.bool false) (.string eS) := (by first | exact WBlk.kept (heap_alloc_new _ _) gA (by simp) | exact WBlk.kept (at_alloc1 _ _ _) gA (by simp) | exact WBlk.kept (heap_alloc_new _ _) (grownBy_undrew gA) (by simp) | exact WBlk.kept (at_alloc1 _ _ _) (grownBy_undrew gA) (by simp)))); (try (have k2 : WBlk wA (wE.heap.size + 1) (.bool false) (.string eS) := (by first | exact WBlk.kept (heap_alloc2_new _ _ _) gA (by simp) | exact WBlk.kept (heap_alloc2_new _ _ _) (grownBy_undrew gA) (by simp)))))
          | (go_at_call 69; refine (HD.out _).mono ?_; rintro e wC ⟨rfl, gC⟩; have GC : wE.grownBy wC none := (by first | exact grownBy_trans GA gC | exact grownBy_trans GA (grownBy_trans (grow1 _ _) gC) | exact grownBy_trans GA (grownBy_trans (grow2 _ _ _) gC)); have sC := GC.size; have gAC : wA.grownBy wC none := (by first | exact gC | exact grownBy_trans (grow1 _ _) gC | exact grownBy_trans (grow2 _ _ _) gC); have sAC := gAC.size; (try (have y1 : WBlk wC (wE.heap.size) (.bool false) (.string eS) := k1.kept gAC (by simp); have y10 := y1.c0; have y11 := y1.c1; have y12 := y1.fr 0; have y13 := y1.fr 1; have y14 := y1.lt; have y15 : ¬ wE.heap.size = wC.heap.size := (by omega); have y16 : ¬ wC.heap.size = wE.heap.size := (by omega))); (try (have y2 : WBlk wC (wE.heap.size + 1) (.bool false) (.string eS) := k2.kept gAC (by simp); have y20 := y2.c0; have y21 := y2.c1; have y22 := y2.fr 0; have y23 := y2.fr 1; have y24 := y2.lt; have y25 : ¬ wE.heap.size + 1 = wC.heap.size := (by omega); have y26 : ¬ wC.heap.size = wE.heap.size + 1 := (by omega))); (try (have y3 : WBlk wC (wA.heap.size) (.bool false) (.string eS) := (by first | exact WBlk.kept (heap_alloc_new _ _) gC (by simp) | exact WBlk.kept (at_alloc1 _ _ _) gC (by simp)); have y30 := y3.c0; have y31 := y3.c1; have y32 := y3.fr 0; have y33 := y3.fr 1; have y34 := y3.lt; have y35 : ¬ wA.heap.size = wC.heap.size := (by omega); have y36 : ¬ wC.heap.size = wA.heap.size := (by omega))); (try (have y4 : WBlk wC (wA.heap.size + 1) (.bool false) (.string eS) := WBlk.kept (heap_alloc2_new _ _ _) gC (by simp); have y40 := y4.c0; have y41 := y4.c1; have y42 := y4.fr 0; have y43 := y4.fr 1; have y44 := y4.lt; have y45 : ¬ wA.heap.size + 1 = wC.heap.size := (by omega); have y46 : ¬ wC.heap.size = wA.heap.size + 1 := (by omega))))
          | fail)
      all_goals (go_wp2_with fail; go_meet)
      all_goals first | (have _q := y1; have _r := y2; first | (refine ⟨wE.heap.size, wE.heap.size + 1, rfl, rfl, ?_⟩; exact q5_s3 y1 y2 (HI.out.kept GC) (by omega) (by omega) (by omega)) | (refine ⟨wE.heap.size + 1, wE.heap.size, rfl, rfl, ?_⟩; exact q5_s3 y2 y1 (HI.out.kept GC) (by omega) (by omega) (by omega))) | (have _q := y1; have _r := y3; first | (refine ⟨wE.heap.size, wA.heap.size, rfl, rfl, ?_⟩; exact q5_s3 y1 y3 (HI.out.kept GC) (by omega) (by omega) (by omega)) | (refine ⟨wA.heap.size, wE.heap.size, rfl, rfl, ?_⟩; exact q5_s3 y3 y1 (HI.out.kept GC) (by omega) (by omega) (by omega))) | (have _q := y3; have _r := y4; first | (refine ⟨wA.heap.size, wA.heap.size + 1, rfl, rfl, ?_⟩; exact q5_s3 y3 y4 (HI.out.kept GC) (by omega) (by omega) (by omega)) | (refine ⟨wA.heap.size + 1, wA.heap.size, rfl, rfl, ?_⟩; exact q5_s3 y4 y3 (HI.out.kept GC) (by omega) (by omega) (by omega))) | (have _q := y1; first | (refine ⟨wE.heap.size, wC.heap.size, rfl, rfl, ?_⟩; exact q5_s2a y1 (HI.out.kept GC) (by omega)) | (refine ⟨wC.heap.size, wE.heap.size, rfl, rfl, ?_⟩; exact q5_s2b y1 (HI.out.kept GC) (by omega))) | (have _q := y3; first | (refine ⟨wA.heap.size, wC.heap.size, rfl, rfl, ?_⟩; exact q5_s2a y3 (HI.out.kept GC) (by omega)) | (refine ⟨wC.heap.size, wA.heap.size, rfl, rfl, ?_⟩; exact q5_s2b y3 (HI.out.kept GC) (by omega))) | (refine ⟨wC.heap.size, wC.heap.size + 1, rfl, rfl, ?_⟩; exact q5_s1a (HI.out.kept GC)) | (refine ⟨wC.heap.size + 1, wC.heap.size, rfl, rfl, ?_⟩; exact q5_s1b (HI.out.kept GC))
    case rest =>
      clear HI
      obtain ⟨P6, P7, rfl, rfl, h7, hN⟩ := hcut
      have H7 : Hid (WBlk wc P7 (.bool m3) (.string m4)) := h7
      have HI : Hid (NqI w wc F fn fs) := hN
      clear h7 hN
      have c0 := H7.out.c0
      have c1 := H7.out.c1
      rcases HE.out with ⟨he, HPl⟩ | ⟨he, rfl, rfl⟩
      · rcases he with rfl | ⟨rfl, rfl⟩
        · go_wp2_with fail
          have HZ : Hid (∀ w', wc.grownBy w' none → w'.cell? ⟨F, 0, none⟩ = some (.bool fn) ∧ w'.cell? ⟨F, 1, none⟩ = some (.string fs)) := fun w' g => ⟨(HI.out.kept g).f.c0, (HI.out.kept g).f.c1⟩
          go_region_held3 (fun w' => w'.cell? ⟨F, 0, none⟩ = some (.bool fn) ∧ w'.cell? ⟨F, 1, none⟩ = some (.string fs))
            (first | (go_keep; done) | with_reducible exact HZ.out _ (by assumption) | with_reducible exact HZ.out _ (grow_drew (World.grownBy.refl _ _)) | exact ⟨(((HI.out.kept G4).f.other NF.out).other NF.out).c0, (((HI.out.kept G4).f.other NF.out).other NF.out).c1⟩ | fail)
            (first
              | (go_at_call 47; refine (HO1.out _).mono ?_; rintro e v3 ⟨rfl, g⟩; have G3 : wc.grownBy v3 none := (by first | exact g | exact grownBy_undrew g); clear g)
              | (go_at_call 72; refine (HPl.out _).mono ?_; rintro e v4 ⟨rfl, g⟩; have G4 : wc.grownBy v4 none := grownBy_trans G3 g; clear g; have hR := (HI.out.kept G4).r; have k0 := hR.c0; have k1 := hR.c1; have k2 := hR.fr 0; have k3 := hR.fr 1; have NF : Hid (w.heap.size + 1 ≠ F) := (by have := HI.out.lt; omega : w.heap.size + 1 ≠ F))
              | fail)
          go_wp2_with fail
          refine bodyPost_ret (res_cell rfl _ _ (w.heap.size + 1) _ _ _ _ rfl (hR.put _ _)) rfl ?_
          exact ⟨rfl, grown_set (grown_set (HI.out.kept G4).g (by omega)) (by omega)⟩
        · go_wp2_with fail
          refine (HG.out _).mono ?_
          rintro e v1 ⟨rfl, g1⟩
          clear c0 c1
          replace HI : Hid (NqI w v1 F fn fs) := HI.out.kept g1
          clear g1 H7
          go_wp2_with fail
          have HZ : Hid (∀ w', v1.grownBy w' none → w'.cell? ⟨F, 0, none⟩ = some (.bool fn) ∧ w'.cell? ⟨F, 1, none⟩ = some (.string fs)) := fun w' g => ⟨(HI.out.kept g).f.c0, (HI.out.kept g).f.c1⟩
          go_region_held3 (fun w' => w'.cell? ⟨F, 0, none⟩ = some (.bool fn) ∧ w'.cell? ⟨F, 1, none⟩ = some (.string fs))
            (first | (go_keep; done) | with_reducible exact HZ.out _ (by assumption) | with_reducible exact HZ.out _ (grow_drew (World.grownBy.refl _ _)) | exact ⟨(((HI.out.kept G4).f.other NF.out).other NF.out).c0, (((HI.out.kept G4).f.other NF.out).other NF.out).c1⟩ | fail)
            (first
              | (go_at_call 47; refine (HO1.out _).mono ?_; rintro e v3 ⟨rfl, g⟩; have G3 : v1.grownBy v3 none := (by first | exact g | exact grownBy_undrew g); clear g)
              | (go_at_call 72; refine (HPl.out _).mono ?_; rintro e v4 ⟨rfl, g⟩; have G4 : v1.grownBy v4 none := grownBy_trans G3 g; clear g; have hR := (HI.out.kept G4).r; have k0 := hR.c0; have k1 := hR.c1; have k2 := hR.fr 0; have k3 := hR.fr 1; have NF : Hid (w.heap.size + 1 ≠ F) := (by have := HI.out.lt; omega : w.heap.size + 1 ≠ F))
              | fail)
          go_wp2_with fail
          refine bodyPost_ret (res_cell rfl _ _ (w.heap.size + 1) _ _ _ _ rfl (hR.put _ _)) rfl ?_
          exact ⟨rfl, grown_set (grown_set (HI.out.kept G4).g (by omega)) (by omega)⟩
      · rcases he with rfl | ⟨rfl, rfl⟩
        · have hR := HI.out.r
          have u0 := HI.out.f.c0
          have u1 := HI.out.f.c1
          have k0 := hR.c0
          have k1 := hR.c1
          have k2 := hR.fr 0
          have k3 := hR.fr 1
          go_wp2_with fail
          refine bodyPost_ret (res_cell rfl _ _ (w.heap.size + 1) _ _ _ _ rfl (hR.put _ _)) rfl ?_
          exact ⟨rfl, grown_set (grown_set HI.out.g (by omega)) (by omega)⟩
        · go_wp2_with fail
          refine (HG.out _).mono ?_
          rintro e v1 ⟨rfl, g1⟩
          clear c0 c1
          replace HI : Hid (NqI w v1 F an az) := HI.out.kept g1
          clear g1 H7
          have hR := HI.out.r
          have u0 := HI.out.f.c0
          have u1 := HI.out.f.c1
          have k0 := hR.c0
          have k1 := hR.c1
          have k2 := hR.fr 0
          have k3 := hR.fr 1
          go_wp2_with fail
          refine bodyPost_ret (res_cell rfl _ _ (w.heap.size + 1) _ _ _ _ rfl (hR.put _ _)) rfl ?_
          exact ⟨rfl, grown_set (grown_set HI.out.g (by omega)) (by omega)⟩
end Go.Proofs.YtdfliaogmlpefaaGreatDoor
