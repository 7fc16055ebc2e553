/-
  The law's simpler: no.
  FracNear's walk.
  FracBack of any fraction.
-/
import Derived.Test.YtdfliaogmlpefaaGreatDoorRue
import Derived.Test.YtdfliaogmlpefaaGreatDoorBunFre
import Derived.Deep.RegionWith
import Derived.Deep.CutRange
import Derived.Test.YtdfliaogmlpefaaGreatDoorBunWla
import Derived.Test.YtdfliaogmlpefaaGreatDoorBunRfs
import Derived.Test.YtdfliaogmlpefaaGreatDoorBunRfq
import Derived.Test.YtdfliaogmlpefaaGreatDoorBunBwh
import Derived.Sort.CutIn
import Derived.Deep.CutBlock
import Derived.Test.YtdfliaogmlpefaaGreatDoorBunFrb
import Derived.Test.YtdfliaogmlpefaaGreatDoorBunWka
import Derived.Test.YtdfliaogmlpefaaGreatDoorBunRed
import Derived.WalkMore
import Derived.Laws.DeepStrings4
import Derived.Test.YtdfliaogmlpefaaGreatDoorRga
import Derived.Test.YtdfliaogmlpefaaGreatDoorBunFrz
import Derived.Test.YtdfliaogmlpefaaGreatDoorBunFri
import Derived.Test.YtdfliaogmlpefaaGreatDoorBunFrq
import Derived.Test.YtdfliaogmlpefaaGreatDoorBunMor
import Derived.Test.YtdfliaogmlpefaaGreatDoorBunAll
import Derived.Test.YtdfliaogmlpefaaGreatDoorOna
import Derived.Test.YtdfliaogmlpefaaGreatDoorFrv
namespace Go.Proofs.YtdfliaogmlpefaaGreatDoor
open Go.RowKit Go.Lib Go.Sort
set_option linter.unusedVariables false
set_option linter.unusedSimpArgs false
set_option maxHeartbeats 12800000
set_option maxRecDepth 1000000
theorem simpler_no (n d n2 d2 : Bool) (s t s2 t2 : ByteArray) (c c2 sg : Int) (way : c = 1 ∨ (c = 0 ∧ (c2 = 1 ∨ c2 = 0))) (w : World)
    (HI : Hid (∀ w, Calls Tryz.prog 19 #[.int .i64 1] w fun e w' => e = .returned (frac false oneS false oneS) ∧ w.grownBy w' none))
    (HO : Hid (∀ a b (w : World), (a = d ∧ b = t) ∨ (a = d2 ∧ b = t2) → Calls Tryz.prog 41 #[whole a b, whole false oneS] w fun e w' => e = .returned (.tuple #[frac a b false oneS, .int .i64 0]) ∧ w.grownBy w' none))
    (HC : Hid (∀ w, Calls Tryz.prog 43 #[frac d t false oneS, frac d2 t2 false oneS] w fun e w' => e = .returned (.int .i64 c) ∧ w.grownBy w' none))
    (HAb : Hid (∀ a b f g (w : World), (a = n ∧ b = s ∧ f = d ∧ g = t) ∨ (a = n2 ∧ b = s2 ∧ f = d2 ∧ g = t2) → Calls Tryz.prog 13 #[frac a b f g] w fun e w' => e = .returned (.tuple #[frac false b f g, .int .i64 0]) ∧ w.grownBy w' none))
    (HC2 : Hid (∀ w, Calls Tryz.prog 43 #[frac false s d t, frac false s2 d2 t2] w fun e w' => e = .returned (.int .i64 c2) ∧ w.grownBy w' none))
    (HSg : Hid (c2 = 0 → ∀ a b f g (w : World), (a = n ∧ b = s ∧ f = d ∧ g = t) ∨ (a = n2 ∧ b = s2 ∧ f = d2 ∧ g = t2) → Calls Tryz.prog 22 #[frac a b f g] w fun e w' => e = .returned (.int .i64 sg) ∧ w.grownBy w' none)) :
    Calls Tryz.prog 46 #[frac n s d t, frac n2 s2 d2 t2] w fun e w' => e = .returned (.bool false) ∧ w.grownBy w' none := by
  have hfl : ∀ (w : World), (Instr.field 25 (frac false oneS false oneS) 0).run Tryz.prog w = .ok (whole false oneS) w := fun w => rfl
  go_enter Tryz.func46, Tryz.ntmps46
  go_upto_region 1 with fail
  have HT : Hid (Two ((w.alloc (qObj n s d t)).alloc (qObj n2 s2 d2 t2)) w.heap.size (w.heap.size + 1) n d n2 d2 s t s2 t2) := ⟨at_alloc1 _ _ _, heap_alloc2_new _ _ _⟩
  have HG : Hid (w.grownBy ((w.alloc (qObj n s d t)).alloc (qObj n2 s2 d2 t2)) none) := grow2 _ _ _
  generalize (w.alloc (qObj n s d t)).alloc (qObj n2 s2 d2 t2) = U at *
  go_cut [5, 6] from 14 to 21 (fun s5 s6 wx => ∃ P, s5 = .pointer (some ⟨P, 0, none⟩) ∧ s6 = .int .i64 0 ∧ QBlk wx P (.bool d) (.string t) (.bool false) (.string oneS) ∧ w.heap.size + 1 < P ∧ Two wx w.heap.size (w.heap.size + 1) n d n2 d2 s t s2 t2 ∧ w.grownBy wx none)
  case first =>
    have HZ : Hid (∀ w', U.grownBy w' none → w'.cell? ⟨w.heap.size, 0, none⟩ = some (.bool n) ∧ w'.cell? ⟨w.heap.size, 1, none⟩ = some (.string s) ∧ w'.cell? ⟨w.heap.size, 2, none⟩ = some (.bool d) ∧ w'.cell? ⟨w.heap.size, 3, none⟩ = some (.string t) ∧ w'.cell? ⟨w.heap.size + 1, 0, none⟩ = some (.bool n2) ∧ w'.cell? ⟨w.heap.size + 1, 1, none⟩ = some (.string s2) ∧ w'.cell? ⟨w.heap.size + 1, 2, none⟩ = some (.bool d2) ∧ w'.cell? ⟨w.heap.size + 1, 3, none⟩ = some (.string t2)) := fun w' g => (HT.out.kept g).cells
    obtain ⟨c0, c1, c2, c3, c4, c5, c6, c7⟩ := HZ.out _ (World.grownBy.refl _ _)
    have xl := HT.out.1.lt
    have yl := HT.out.2.lt
    go_region_held3 (fun w' => w'.cell? ⟨w.heap.size, 0, none⟩ = some (.bool n) ∧ w'.cell? ⟨w.heap.size, 1, none⟩ = some (.string s) ∧ w'.cell? ⟨w.heap.size, 2, none⟩ = some (.bool d) ∧ w'.cell? ⟨w.heap.size, 3, none⟩ = some (.string t) ∧ w'.cell? ⟨w.heap.size + 1, 0, none⟩ = some (.bool n2) ∧ w'.cell? ⟨w.heap.size + 1, 1, none⟩ = some (.string s2) ∧ w'.cell? ⟨w.heap.size + 1, 2, none⟩ = some (.bool d2) ∧ w'.cell? ⟨w.heap.size + 1, 3, none⟩ = some (.string t2))
      (first | with_reducible exact HZ.out _ (by assumption) | with_reducible exact HZ.out _ (grow_drew (World.grownBy.refl _ _)) | with_reducible exact HZ.out _ (grownBy_trans (by assumption) (grow1 _ _)) | with_reducible exact HZ.out _ (grownBy_trans (grow_drew (World.grownBy.refl _ _)) (grow1 _ _)) | with_reducible exact HZ.out _ (grow_drew (grow1 _ _)) | with_reducible exact HZ.out _ (grown_put4 GC (by first | exact Nat.le_refl _ | exact GA.size)) | (go_keep; done) | fail)
      (first
      | (go_at_call 19; refine (HI.out _).mono ?_; rintro e wA ⟨rfl, gA⟩; have GA : U.grownBy wA none := (by first | exact grownBy_undrew gA | exact grownBy_undrew (grownBy_trans (grow1 _ _) gA) | exact grownBy_trans (grow1 _ _) (grownBy_undrew gA) | exact gA | exact grownBy_trans (grow1 _ _) gA); obtain ⟨e0, e1, e2, e3, e4, e5, e6, e7⟩ := HZ.out _ GA; (try (have hP : QBlk wA U.heap.size (.bool false) (.string eS) (.bool false) (.string eS) := (by first | exact QBlk.kept (heap_alloc_new _ _) gA (by simp) | exact QBlk.kept (heap_alloc_new _ _) (grownBy_undrew gA) (by simp)))))
      | (go_at_call 41; refine (HO.out _ _ _ (by first | exact .inl ⟨rfl, rfl⟩ | exact .inr ⟨rfl, rfl⟩)).mono ?_; rintro e wC ⟨rfl, gC⟩; have GC : U.grownBy wC none := (by first | exact grownBy_trans GA gC | exact grownBy_trans GA (grownBy_trans (grow1 _ _) gC)); (first | (have hQ : QBlk wC U.heap.size (.bool false) (.string eS) (.bool false) (.string eS) := QBlk.kept hP (by first | exact gC | exact grownBy_trans (grow1 _ _) gC) (by simp); have j0 := hQ.c0; have j1 := hQ.c1; have j2 := hQ.c2; have j3 := hQ.c3; have j4 := hQ.fr 0; have j5 := hQ.fr 1; have j6 := hQ.fr 2; have j7 := hQ.fr 3) | (have hQ : QBlk wC wA.heap.size (.bool false) (.string eS) (.bool false) (.string eS) := QBlk.kept (heap_alloc_new _ _) gC (by simp); have j0 := hQ.c0; have j1 := hQ.c1; have j2 := hQ.c2; have j3 := hQ.c3; have j4 := hQ.fr 0; have j5 := hQ.fr 1; have j6 := hQ.fr 2; have j7 := hQ.fr 3) | skip))
      | fail)
    all_goals (go_wp2_with fail; go_meet)
    · exact ⟨_, rfl, rfl, heap_alloc_new _ _, by have := GC.size; omega, HT.out.kept (grownBy_trans GC (grow1 _ _)), grownBy_trans HG.out (grownBy_trans GC (grow1 _ _))⟩
    · exact ⟨_, rfl, rfl, hQ.put _ _ _ _, by have := GA.size; omega, HT.out.kept (grown_put4 GC GA.size), grownBy_trans HG.out (grown_put4 GC GA.size)⟩
    · exact ⟨_, rfl, rfl, hQ.put _ _ _ _, by omega, HT.out.kept (grown_put4 GC (Nat.le_refl _)), grownBy_trans HG.out (grown_put4 GC (Nat.le_refl _))⟩
  case rest =>
    obtain ⟨P, rfl, rfl, hP, hPl, hT, hG⟩ := hcut
    clear HT HG
    have HT : Hid (Two wc w.heap.size (w.heap.size + 1) n d n2 d2 s t s2 t2) := hT
    have HG : Hid (w.grownBy wc none) := hG
    have HP5 : Hid (QBlk wc P (.bool d) (.string t) (.bool false) (.string oneS)) := hP
    clear hP hT hG
    go_upto_region 2 with fail
    generalize wc = U at *
    go_cut [7, 8] from 22 to 29 (fun s7 s8 wx => ∃ P7, s7 = .pointer (some ⟨P7, 0, none⟩) ∧ s8 = .int .i64 0 ∧ QBlk wx P7 (.bool d2) (.string t2) (.bool false) (.string oneS) ∧ w.heap.size + 1 < P7 ∧ Two wx w.heap.size (w.heap.size + 1) n d n2 d2 s t s2 t2 ∧ w.grownBy wx none ∧ QBlk wx P (.bool d) (.string t) (.bool false) (.string oneS))
    case first =>
      have HZ : Hid (∀ w', U.grownBy w' none → w'.cell? ⟨w.heap.size, 0, none⟩ = some (.bool n) ∧ w'.cell? ⟨w.heap.size, 1, none⟩ = some (.string s) ∧ w'.cell? ⟨w.heap.size, 2, none⟩ = some (.bool d) ∧ w'.cell? ⟨w.heap.size, 3, none⟩ = some (.string t) ∧ w'.cell? ⟨w.heap.size + 1, 0, none⟩ = some (.bool n2) ∧ w'.cell? ⟨w.heap.size + 1, 1, none⟩ = some (.string s2) ∧ w'.cell? ⟨w.heap.size + 1, 2, none⟩ = some (.bool d2) ∧ w'.cell? ⟨w.heap.size + 1, 3, none⟩ = some (.string t2)) := fun w' g => (HT.out.kept g).cells
      obtain ⟨c0, c1, c2, c3, c4, c5, c6, c7⟩ := HZ.out _ (World.grownBy.refl _ _)
      have xl := HT.out.1.lt
      have yl := HT.out.2.lt
      go_region_held3 (fun w' => w'.cell? ⟨w.heap.size, 0, none⟩ = some (.bool n) ∧ w'.cell? ⟨w.heap.size, 1, none⟩ = some (.string s) ∧ w'.cell? ⟨w.heap.size, 2, none⟩ = some (.bool d) ∧ w'.cell? ⟨w.heap.size, 3, none⟩ = some (.string t) ∧ w'.cell? ⟨w.heap.size + 1, 0, none⟩ = some (.bool n2) ∧ w'.cell? ⟨w.heap.size + 1, 1, none⟩ = some (.string s2) ∧ w'.cell? ⟨w.heap.size + 1, 2, none⟩ = some (.bool d2) ∧ w'.cell? ⟨w.heap.size + 1, 3, none⟩ = some (.string t2))
        (first | with_reducible exact HZ.out _ (by assumption) | with_reducible exact HZ.out _ (grow_drew (World.grownBy.refl _ _)) | with_reducible exact HZ.out _ (grownBy_trans (by assumption) (grow1 _ _)) | with_reducible exact HZ.out _ (grownBy_trans (grow_drew (World.grownBy.refl _ _)) (grow1 _ _)) | with_reducible exact HZ.out _ (grow_drew (grow1 _ _)) | with_reducible exact HZ.out _ (grown_put4 GC (by first | exact Nat.le_refl _ | exact GA.size)) | (go_keep; done) | fail)
        (first
        | (go_at_call 19; refine (HI.out _).mono ?_; rintro e wA ⟨rfl, gA⟩; have GA : U.grownBy wA none := (by first | exact grownBy_undrew gA | exact grownBy_undrew (grownBy_trans (grow1 _ _) gA) | exact grownBy_trans (grow1 _ _) (grownBy_undrew gA) | exact gA | exact grownBy_trans (grow1 _ _) gA); obtain ⟨e0, e1, e2, e3, e4, e5, e6, e7⟩ := HZ.out _ GA; (try (have hP : QBlk wA U.heap.size (.bool false) (.string eS) (.bool false) (.string eS) := (by first | exact QBlk.kept (heap_alloc_new _ _) gA (by simp) | exact QBlk.kept (heap_alloc_new _ _) (grownBy_undrew gA) (by simp)))))
        | (go_at_call 41; refine (HO.out _ _ _ (by first | exact .inl ⟨rfl, rfl⟩ | exact .inr ⟨rfl, rfl⟩)).mono ?_; rintro e wC ⟨rfl, gC⟩; have GC : U.grownBy wC none := (by first | exact grownBy_trans GA gC | exact grownBy_trans GA (grownBy_trans (grow1 _ _) gC)); (first | (have hQ : QBlk wC U.heap.size (.bool false) (.string eS) (.bool false) (.string eS) := QBlk.kept hP (by first | exact gC | exact grownBy_trans (grow1 _ _) gC) (by simp); have j0 := hQ.c0; have j1 := hQ.c1; have j2 := hQ.c2; have j3 := hQ.c3; have j4 := hQ.fr 0; have j5 := hQ.fr 1; have j6 := hQ.fr 2; have j7 := hQ.fr 3) | (have hQ : QBlk wC wA.heap.size (.bool false) (.string eS) (.bool false) (.string eS) := QBlk.kept (heap_alloc_new _ _) gC (by simp); have j0 := hQ.c0; have j1 := hQ.c1; have j2 := hQ.c2; have j3 := hQ.c3; have j4 := hQ.fr 0; have j5 := hQ.fr 1; have j6 := hQ.fr 2; have j7 := hQ.fr 3) | skip))
        | fail)
      all_goals (go_wp2_with fail; go_meet)
      · exact ⟨_, rfl, rfl, heap_alloc_new _ _, by have := GC.size; omega, HT.out.kept (grownBy_trans GC (grow1 _ _)), grownBy_trans HG.out (grownBy_trans GC (grow1 _ _)), (HP5.out.kept (grownBy_trans GC (grow1 _ _)) (by simp))⟩
      · exact ⟨_, rfl, rfl, hQ.put _ _ _ _, by have := GA.size; omega, HT.out.kept (grown_put4 GC GA.size), grownBy_trans HG.out (grown_put4 GC GA.size), (HP5.out.kept (grown_put4 GC GA.size) (by simp))⟩
      · exact ⟨_, rfl, rfl, hQ.put _ _ _ _, by omega, HT.out.kept (grown_put4 GC (Nat.le_refl _)), grownBy_trans HG.out (grown_put4 GC (Nat.le_refl _)), (HP5.out.kept (grown_put4 GC (Nat.le_refl _)) (by simp))⟩
    case rest =>
      obtain ⟨P7, rfl, rfl, hP7, hPl7, hT, hG, hP5⟩ := hcut
      clear HT HG HP5
      have HT : Hid (Two wc w.heap.size (w.heap.size + 1) n d n2 d2 s t s2 t2) := hT
      have HG : Hid (w.grownBy wc none) := hG
      have p0 := hP5.c0
      have p1 := hP5.c1
      have p2 := hP5.c2
      have p3 := hP5.c3
      have q0 := hP7.c0
      have q1 := hP7.c1
      have q2 := hP7.c2
      have q3 := hP7.c3
      clear hT hG hP5 hP7
      go_wp2_with fail
      refine (HC.out _).mono ?_
      rintro e w2 ⟨rfl, g2⟩
      replace HT : Hid (Two w2 w.heap.size (w.heap.size + 1) n d n2 d2 s t s2 t2) := HT.out.kept g2
      replace HG : Hid (w.grownBy w2 none) := grownBy_trans HG.out g2
      clear g2 p0 p1 p2 p3 q0 q1 q2 q3
      rcases way with rfl | ⟨rfl, way⟩
      · go_wp2_with fail
        go_ret
        exact ⟨rfl, HG.out⟩
      ·
        obtain ⟨x0, x1, x2, x3, y0, y1, y2, y3⟩ := HT.out.cells
        have xl := HT.out.1.lt
        have yl := HT.out.2.lt
        go_wp2_with fail
        refine (HAb.out _ _ _ _ _ (.inl ⟨rfl, rfl, rfl, rfl⟩)).mono ?_
        rintro e w3 ⟨rfl, g3⟩
        have HTn : Hid (Two w3 w.heap.size (w.heap.size + 1) n d n2 d2 s t s2 t2) := HT.out.kept g3
        have HGn : Hid (w.grownBy w3 none) := grownBy_trans HG.out g3
        clear g3 HT HG
        have HT := HTn
        have HG := HGn
        clear HTn HGn
        clear x0 x1 x2 x3 y0 y1 y2 y3 xl yl
        obtain ⟨x0, x1, x2, x3, y0, y1, y2, y3⟩ := HT.out.cells
        have xl := HT.out.1.lt
        have yl := HT.out.2.lt
        go_wp2_with fail
        refine (HAb.out _ _ _ _ _ (.inr ⟨rfl, rfl, rfl, rfl⟩)).mono ?_
        rintro e w4 ⟨rfl, g4⟩
        have HTn : Hid (Two w4 w.heap.size (w.heap.size + 1) n d n2 d2 s t s2 t2) := HT.out.kept (grownBy_trans (grow1 _ _) g4)
        have HGn : Hid (w.grownBy w4 none) := grownBy_trans HG.out (grownBy_trans (grow1 _ _) g4)
        have HA : Hid (QBlk w4 w3.heap.size (.bool false) (.string s) (.bool d) (.string t)) := QBlk.kept (heap_alloc_new _ _) g4 (by simp)
        clear g4 HT HG
        have HT := HTn
        have HG := HGn
        clear HTn HGn
        clear x0 x1 x2 x3 y0 y1 y2 y3 xl yl
        have p0 := HA.out.c0
        have p1 := HA.out.c1
        have p2 := HA.out.c2
        have p3 := HA.out.c3
        have pl := HA.out.lt
        go_wp2_with fail
        refine (HC2.out _).mono ?_
        rintro e w5 ⟨rfl, g5⟩
        have HTn : Hid (Two w5 w.heap.size (w.heap.size + 1) n d n2 d2 s t s2 t2) := HT.out.kept (grownBy_trans (grow1 _ _) g5)
        have HGn : Hid (w.grownBy w5 none) := grownBy_trans HG.out (grownBy_trans (grow1 _ _) g5)
        clear g5 HT HG p0 p1 p2 p3 pl HA
        have HT := HTn
        have HG := HGn
        clear HTn HGn
        go_upto_region 9 with fail
        have HZ : Hid (∀ w', w5.grownBy w' none → w'.cell? ⟨w.heap.size, 0, none⟩ = some (.bool n) ∧ w'.cell? ⟨w.heap.size, 1, none⟩ = some (.string s) ∧ w'.cell? ⟨w.heap.size, 2, none⟩ = some (.bool d) ∧ w'.cell? ⟨w.heap.size, 3, none⟩ = some (.string t) ∧ w'.cell? ⟨w.heap.size + 1, 0, none⟩ = some (.bool n2) ∧ w'.cell? ⟨w.heap.size + 1, 1, none⟩ = some (.string s2) ∧ w'.cell? ⟨w.heap.size + 1, 2, none⟩ = some (.bool d2) ∧ w'.cell? ⟨w.heap.size + 1, 3, none⟩ = some (.string t2)) := fun w' g => (HT.out.kept g).cells
        obtain ⟨c0, c1, c2, c3, c4, c5, c6, c7⟩ := HZ.out _ (World.grownBy.refl _ _)
        rcases way with rfl | rfl
        ·
          refine wp_region_held_drew (S := fun w' => w'.cell? ⟨w.heap.size, 0, none⟩ = some (.bool n) ∧ w'.cell? ⟨w.heap.size, 1, none⟩ = some (.string s) ∧ w'.cell? ⟨w.heap.size, 2, none⟩ = some (.bool d) ∧ w'.cell? ⟨w.heap.size, 3, none⟩ = some (.string t) ∧ w'.cell? ⟨w.heap.size + 1, 0, none⟩ = some (.bool n2) ∧ w'.cell? ⟨w.heap.size + 1, 1, none⟩ = some (.string s2) ∧ w'.cell? ⟨w.heap.size + 1, 2, none⟩ = some (.bool d2) ∧ w'.cell? ⟨w.heap.size + 1, 3, none⟩ = some (.string t2)) (by kernel_rfl) (HZ.out _ (grow_drew (World.grownBy.refl _ _))) (fun hHeld => ?_)
          refine wpAnyH_take (i := 0) (v := ?_) rfl (by kernel_rfl) (by kernel_rfl) (by kernel_rfl) (fun _ _ _ h => h) (Or.inl ⟨by kernel_rfl, ?_⟩) (by assumption) ?_
          rotate_left
          · (intro w hSw; (try dsimp only at hSw); go_simp; try (with_reducible rfl))
          (try simp only [Act.put, List.getElem_toArray, List.getElem_cons_succ, List.getElem_cons_zero, List.setIfInBounds_toArray, List.set_cons_zero, List.set_cons_succ])
          refine wpAnyH_take (i := 1) (v := ?_) rfl (by kernel_rfl) (by kernel_rfl) (by kernel_rfl) (fun _ _ _ h => h) (Or.inl ⟨by kernel_rfl, ?_⟩) (by assumption) ?_
          rotate_left
          · (intro w hSw; (try dsimp only at hSw); go_simp; try (with_reducible rfl))
          (try simp only [Act.put, List.getElem_toArray, List.getElem_cons_succ, List.getElem_cons_zero, List.setIfInBounds_toArray, List.set_cons_zero, List.set_cons_succ])
          refine wpAnyH_take (i := 2) (v := ?_) rfl (by kernel_rfl) (by kernel_rfl) (by kernel_rfl) (fun _ _ _ h => h) (Or.inl ⟨by kernel_rfl, ?_⟩) (by assumption) ?_
          rotate_left
          · (intro w hSw; (try dsimp only at hSw); go_simp; try (with_reducible rfl))
          (try simp only [Act.put, List.getElem_toArray, List.getElem_cons_succ, List.getElem_cons_zero, List.setIfInBounds_toArray, List.set_cons_zero, List.set_cons_succ])
          refine wpAnyH_take (i := 3) (v := ?_) rfl (by kernel_rfl) (by kernel_rfl) (by kernel_rfl) (fun _ _ _ h => h) (Or.inl ⟨by kernel_rfl, ?_⟩) (by assumption) ?_
          rotate_left
          · (intro w hSw; (try dsimp only at hSw); go_simp; try (with_reducible rfl))
          (try simp only [Act.put, List.getElem_toArray, List.getElem_cons_succ, List.getElem_cons_zero, List.setIfInBounds_toArray, List.set_cons_zero, List.set_cons_succ])
          refine wpAnyH_take (i := 4) (v := ?_) rfl (by kernel_rfl) (by kernel_rfl) (by kernel_rfl) (fun _ _ _ h => h) (Or.inl ⟨by kernel_rfl, ?_⟩) (by assumption) ?_
          rotate_left
          · (intro w hSw; (try dsimp only at hSw); go_simp; try (with_reducible rfl))
          (try simp only [Act.put, List.getElem_toArray, List.getElem_cons_succ, List.getElem_cons_zero, List.setIfInBounds_toArray, List.set_cons_zero, List.set_cons_succ])
          refine wpAnyH_take (i := 5) (v := ?_) rfl (by kernel_rfl) (by kernel_rfl) (by kernel_rfl) (fun _ _ _ h => h) (Or.inl ⟨by kernel_rfl, ?_⟩) (by assumption) ?_
          rotate_left
          · (intro w hSw; (try dsimp only at hSw); go_simp; try (with_reducible rfl))
          (try simp only [Act.put, List.getElem_toArray, List.getElem_cons_succ, List.getElem_cons_zero, List.setIfInBounds_toArray, List.set_cons_zero, List.set_cons_succ])
          refine wpAnyH_take (i := 6) (v := undef) rfl (by kernel_rfl) (by kernel_rfl) (by kernel_rfl) (fun _ _ _ h => h) (Or.inr ⟨by kernel_rfl, rfl⟩) (by assumption) ?_
          (try simp only [Act.put, List.getElem_toArray, List.getElem_cons_succ, List.getElem_cons_zero, List.setIfInBounds_toArray, List.set_cons_zero, List.set_cons_succ])
          refine wpAnyH_take (i := 7) (v := undef) rfl (by kernel_rfl) (by kernel_rfl) (by kernel_rfl) (fun _ _ _ h => h) (Or.inr ⟨by kernel_rfl, rfl⟩) (by assumption) ?_
          (try simp only [Act.put, List.getElem_toArray, List.getElem_cons_succ, List.getElem_cons_zero, List.setIfInBounds_toArray, List.set_cons_zero, List.set_cons_succ])
          refine wpAnyH_take (i := 8) (v := undef) rfl (by kernel_rfl) (by kernel_rfl) (by kernel_rfl) (fun _ _ _ h => h) (Or.inr ⟨by kernel_rfl, rfl⟩) (by assumption) ?_
          (try simp only [Act.put, List.getElem_toArray, List.getElem_cons_succ, List.getElem_cons_zero, List.setIfInBounds_toArray, List.set_cons_zero, List.set_cons_succ])
          refine wpAnyH_take (i := 9) (v := undef) rfl (by kernel_rfl) (by kernel_rfl) (by kernel_rfl) (fun _ _ _ h => h) (Or.inr ⟨by kernel_rfl, rfl⟩) (by assumption) ?_
          (try simp only [Act.put, List.getElem_toArray, List.getElem_cons_succ, List.getElem_cons_zero, List.setIfInBounds_toArray, List.set_cons_zero, List.set_cons_succ])
          refine wpAnyH_take (i := 10) (v := undef) rfl (by kernel_rfl) (by kernel_rfl) (by kernel_rfl) (fun _ _ _ h => h) (Or.inr ⟨by kernel_rfl, rfl⟩) (by assumption) ?_
          (try simp only [Act.put, List.getElem_toArray, List.getElem_cons_succ, List.getElem_cons_zero, List.setIfInBounds_toArray, List.set_cons_zero, List.set_cons_succ])
          refine wpAnyH_take (i := 11) (v := ?_) rfl (by kernel_rfl) (by kernel_rfl) (by kernel_rfl) (fun _ _ _ h => h) (Or.inl ⟨by kernel_rfl, ?_⟩) (by assumption) ?_
          rotate_left
          · (intro w hSw; (try dsimp only at hSw); go_simp; try (with_reducible rfl))
          (try simp only [Act.put, List.getElem_toArray, List.getElem_cons_succ, List.getElem_cons_zero, List.setIfInBounds_toArray, List.set_cons_zero, List.set_cons_succ])
          refine wpAnyH_take (i := 12) (v := ?_) rfl (by kernel_rfl) (by kernel_rfl) (by kernel_rfl) (fun _ _ _ h => h) (Or.inl ⟨by kernel_rfl, ?_⟩) (by assumption) ?_
          rotate_left
          · (intro w hSw; (try dsimp only at hSw); go_simp; try (with_reducible rfl))
          (try simp only [Act.put, List.getElem_toArray, List.getElem_cons_succ, List.getElem_cons_zero, List.setIfInBounds_toArray, List.set_cons_zero, List.set_cons_succ])
          refine wpAnyH_take (i := 13) (v := ?_) rfl (by kernel_rfl) (by kernel_rfl) (by kernel_rfl) (fun _ _ _ h => h) (Or.inl ⟨by kernel_rfl, ?_⟩) (by assumption) ?_
          rotate_left
          · (intro w hSw; (try dsimp only at hSw); go_simp; try (with_reducible rfl))
          (try simp only [Act.put, List.getElem_toArray, List.getElem_cons_succ, List.getElem_cons_zero, List.setIfInBounds_toArray, List.set_cons_zero, List.set_cons_succ])
          refine wpAnyH_done (by kernel_rfl) ?_ _
          go_wp2_with fail
          go_ret
          exact ⟨rfl, grownBy_trans HG.out (grow_drew (World.grownBy.refl _ _))⟩
        · have HS2 := HSg.out rfl
          have HSS : Hid (∀ a b f g (w : World), (a = n ∧ b = s ∧ f = d ∧ g = t) ∨ (a = n2 ∧ b = s2 ∧ f = d2 ∧ g = t2) → Calls Tryz.prog 22 #[frac a b f g] w fun e w' => e = .returned (.int .i64 sg) ∧ w.grownBy w' none) := HS2
          clear HS2 HSg
          go_region_held3 (fun w' => w'.cell? ⟨w.heap.size, 0, none⟩ = some (.bool n) ∧ w'.cell? ⟨w.heap.size, 1, none⟩ = some (.string s) ∧ w'.cell? ⟨w.heap.size, 2, none⟩ = some (.bool d) ∧ w'.cell? ⟨w.heap.size, 3, none⟩ = some (.string t) ∧ w'.cell? ⟨w.heap.size + 1, 0, none⟩ = some (.bool n2) ∧ w'.cell? ⟨w.heap.size + 1, 1, none⟩ = some (.string s2) ∧ w'.cell? ⟨w.heap.size + 1, 2, none⟩ = some (.bool d2) ∧ w'.cell? ⟨w.heap.size + 1, 3, none⟩ = some (.string t2))
            (first | with_reducible exact HZ.out _ (by assumption) | with_reducible exact HZ.out _ (grow_drew (World.grownBy.refl _ _)) | (go_keep; done) | fail)
            (first
              | (go_at_call 22; first | (have _q := GA; refine (HSS.out _ _ _ _ _ (by exact .inr ⟨rfl, rfl, rfl, rfl⟩)).mono ?_; rintro e wB ⟨rfl, gB⟩; have GB : w5.grownBy wB none := grownBy_trans GA gB) | (refine (HSS.out _ _ _ _ _ (by exact .inl ⟨rfl, rfl, rfl, rfl⟩)).mono ?_; rintro e wA ⟨rfl, gA⟩; have GA : w5.grownBy wA none := (by first | exact gA | exact grownBy_undrew gA)))
              | fail)
          all_goals (
            go_wp2_with fail
            go_ret
            exact ⟨rfl, grownBy_trans HG.out GB⟩)
theorem QBlk.away {W : World} {B P : Nat} {a b c e : Value} (h : QBlk W B a b c e) (hP : B ≠ P) (x y z u : Value) : QBlk ((((W.setCell ⟨P, 0, none⟩ x).setCell ⟨P, 1, none⟩ y).setCell ⟨P, 2, none⟩ z).setCell ⟨P, 3, none⟩ u) B a b c e := by
  have hg : W.grownBy ((((W.setCell ⟨P, 0, none⟩ x).setCell ⟨P, 1, none⟩ y).setCell ⟨P, 2, none⟩ z).setCell ⟨P, 3, none⟩ u) (some P) := grownBy_trans (grownBy_trans (grownBy_setCell _ _ _ _) (grownBy_setCell _ _ _ _)) (grownBy_trans (grownBy_setCell _ _ _ _) (grownBy_setCell _ _ _ _))
  exact h.kept hg (by intro e; injection e with e; exact hP e.symm)
theorem near_walk (n d n2 d2 n3 d3 fn un mn on od tn td rn rd zn zd pn pd qn qd : Bool) (s t s2 t2 s3 t3 fs us ms os ot ts tt rs rt zs zt ps pt qs qt : ByteArray) (c1 c3 er sr c4 c5 c6 c7 c8 : Int) (h1 : c1 ≤ 0) (h3 : c3 ≤ 0) (hsr : 0 ≤ sr) (h5 : 0 ≤ c5) (h6 : c6 ≤ 0) (w : World)
    (HL : Hid (∀ (W : World) (B : Nat), W.heap[B]? = some (.cells #[.bool n, .string s, .bool d, .string t, .bool n2, .string s2, .bool d2, .string t2, .bool n3, .string s3, .bool d3, .string t3] 25 (0, 0)) → Calls Tryz.prog 9 #[.int .i64 60, .slice (some ⟨B, 0, none⟩) 3 3] W fun e w' => e = .returned (.bool false) ∧ W.grownBy w' none))
    (HM : Hid (∀ a b c f (w : World), (a = n ∧ b = s ∧ c = d ∧ f = t) ∨ (a = n2 ∧ b = s2 ∧ c = d2 ∧ f = t2) ∨ (a = n3 ∧ b = s3 ∧ c = d3 ∧ f = t3) → Calls Tryz.prog 40 #[frac a b c f] w fun e w' => e = .returned (.bool true) ∧ w.grownBy w' none))
    (HI : Hid (∀ w, Calls Tryz.prog 19 #[.int .i64 1] w fun e w' => e = .returned (frac false oneS false oneS) ∧ w.grownBy w' none))
    (HF : Hid (∀ w, Calls Tryz.prog 14 #[frac n s d t] w fun e w' => e = .returned (.tuple #[whole fn fs, .int .i64 0]) ∧ w.grownBy w' none))
    (HOf : Hid (∀ w, Calls Tryz.prog 41 #[whole fn fs, whole false oneS] w fun e w' => e = .returned (.tuple #[frac fn fs false oneS, .int .i64 0]) ∧ w.grownBy w' none))
    (HUp : Hid (∀ w, Calls Tryz.prog 42 #[frac fn fs false oneS, frac false oneS false oneS] w fun e w' => e = .returned (.tuple #[frac un us false oneS, .int .i64 0]) ∧ w.grownBy w' none))
    (HC1 : Hid (∀ w, Calls Tryz.prog 43 #[frac fn fs false oneS, frac n s d t] w fun e w' => e = .returned (.int .i64 c1) ∧ w.grownBy w' none))
    (HC2 : Hid (∀ w, Calls Tryz.prog 43 #[frac un us false oneS, frac n s d t] w fun e w' => e = .returned (.int .i64 1) ∧ w.grownBy w' none))
    (HNe : Hid (∀ w, Calls Tryz.prog 15 #[frac n s d t] w fun e w' => e = .returned (.tuple #[whole mn ms, .int .i64 0]) ∧ w.grownBy w' none))
    (HOm : Hid (∀ w, Calls Tryz.prog 41 #[whole mn ms, whole false oneS] w fun e w' => e = .returned (.tuple #[frac mn ms false oneS, .int .i64 0]) ∧ w.grownBy w' none))
    (HSu : Hid (∀ w, Calls Tryz.prog 44 #[frac mn ms false oneS, frac n s d t] w fun e w' => e = .returned (.tuple #[frac on os od ot, .int .i64 0]) ∧ w.grownBy w' none))
    (HTw : Hid (∀ w, Calls Tryz.prog 42 #[frac on os od ot, frac on os od ot] w fun e w' => e = .returned (.tuple #[frac tn ts td tt, .int .i64 0]) ∧ w.grownBy w' none))
    (HAb : Hid (∀ w, Calls Tryz.prog 13 #[frac tn ts td tt] w fun e w' => e = .returned (.tuple #[frac false ts td tt, .int .i64 0]) ∧ w.grownBy w' none))
    (HC3 : Hid (∀ w, Calls Tryz.prog 43 #[frac false ts td tt, frac false oneS false oneS] w fun e w' => e = .returned (.int .i64 c3) ∧ w.grownBy w' none))
    (HSq : Hid (∀ w, Calls Tryz.prog 16 #[frac n s d t] w fun e w' => e = .returned (.tuple #[frac rn rs rd rt, .int .i64 er]) ∧ w.grownBy w' none))
    (hr : er = 7 ∨ (er = 0 ∧ Hid (∀ w, Calls Tryz.prog 45 #[frac rn rs rd rt, frac rn rs rd rt] w fun e w' => e = .returned (.tuple #[frac n s d t, .int .i64 0]) ∧ w.grownBy w' none) ∧ Hid (∀ w, Calls Tryz.prog 22 #[frac rn rs rd rt] w fun e w' => e = .returned (.int .i64 sr) ∧ w.grownBy w' none)))
    (HC4 : Hid (∀ w, Calls Tryz.prog 43 #[frac n s d t, frac n2 s2 d2 t2] w fun e w' => e = .returned (.int .i64 c4) ∧ w.grownBy w' none))
    (hsw : (c4 ≤ 0 ∧ pn = n ∧ ps = s ∧ pd = d ∧ pt = t ∧ qn = n2 ∧ qs = s2 ∧ qd = d2 ∧ qt = t2) ∨ (c4 = 1 ∧ pn = n2 ∧ ps = s2 ∧ pd = d2 ∧ pt = t2 ∧ qn = n ∧ qs = s ∧ qd = d ∧ qt = t))
    (HSi : Hid (∀ w, Calls Tryz.prog 29 #[frac pn ps pd pt, frac qn qs qd qt] w fun e w' => e = .returned (.tuple #[frac zn zs zd zt, .int .i64 0]) ∧ w.grownBy w' none))
    (HC5 : Hid (∀ w, Calls Tryz.prog 43 #[frac zn zs zd zt, frac pn ps pd pt] w fun e w' => e = .returned (.int .i64 c5) ∧ w.grownBy w' none))
    (HC6 : Hid (∀ w, Calls Tryz.prog 43 #[frac zn zs zd zt, frac qn qs qd qt] w fun e w' => e = .returned (.int .i64 c6) ∧ w.grownBy w' none))
    (HC7 : Hid (∀ w, Calls Tryz.prog 43 #[frac n3 s3 d3 t3, frac pn ps pd pt] w fun e w' => e = .returned (.int .i64 c7) ∧ w.grownBy w' none))
    (HC8 : Hid (∀ w, Calls Tryz.prog 43 #[frac n3 s3 d3 t3, frac qn qs qd qt] w fun e w' => e = .returned (.int .i64 c8) ∧ w.grownBy w' none))
    (hin : c7 = -1 ∨ (0 ≤ c7 ∧ c8 = 1) ∨ (0 ≤ c7 ∧ c8 ≤ 0 ∧ Hid (∀ w, Calls Tryz.prog 46 #[frac n3 s3 d3 t3, frac zn zs zd zt] w fun e w' => e = .returned (.bool false) ∧ w.grownBy w' none)))
    (HK : Hid (∀ W, w.grownBy W none → Calls Tryz.prog 10 #[] W fun e w' => e = .returned (.bool true) ∧ W.grownBy w' none)) :
    Calls Tryz.prog 7 #[frac n s d t, frac n2 s2 d2 t2, frac n3 s3 d3 t3] w fun e w' => e = .returned (.bool true) ∧ w.grownBy w' none := by
  go_enter Tryz.func7, Tryz.ntmps7
  go_wp2_with fail
  refine (HL.out _ _ ?hb).mono ?_
  case hb => exact at_alloc4 _ _ _ _ _
  rintro e w1 ⟨rfl, g⟩
  have Xb1 : Hid (QBlk w1 w.heap.size (.bool n) (.string s) (.bool d) (.string t)) := QBlk.kept (old_alloc _ _ (old_alloc _ _ (old_alloc _ _ (heap_alloc_new _ _)))) g (by simp)
  have Yb1 : Hid (QBlk w1 (w.heap.size + 1) (.bool n2) (.string s2) (.bool d2) (.string t2)) := QBlk.kept (old_alloc _ _ (old_alloc _ _ (heap_alloc2_new _ _ _))) g (by simp)
  have Ob1 : Hid (QBlk w1 (w.heap.size + 1 + 1) (.bool n3) (.string s3) (.bool d3) (.string t3)) := QBlk.kept (old_alloc _ _ (at_alloc3 _ _ _ _)) g (by simp)
  have HG1 : Hid (w.grownBy w1 none) := grownBy_trans (grownBy_trans (grow3 _ _ _ _) (grow1 _ _)) g
  clear g HL
  have xc0 := Xb1.out.c0
  have xc1 := Xb1.out.c1
  have xc2 := Xb1.out.c2
  have xc3 := Xb1.out.c3
  have xl := Xb1.out.lt
  go_wp2_with fail
  refine (HM.out _ _ _ _ _ (.inl ⟨rfl, rfl, rfl, rfl⟩)).mono ?_
  rintro e w2 ⟨rfl, g⟩
  have Xb2 : Hid (QBlk w2 w.heap.size (.bool n) (.string s) (.bool d) (.string t)) := Xb1.out.kept g (by simp)
  have Yb2 : Hid (QBlk w2 (w.heap.size + 1) (.bool n2) (.string s2) (.bool d2) (.string t2)) := Yb1.out.kept g (by simp)
  have Ob2 : Hid (QBlk w2 (w.heap.size + 1 + 1) (.bool n3) (.string s3) (.bool d3) (.string t3)) := Ob1.out.kept g (by simp)
  have HG2 : Hid (w.grownBy w2 none) := grownBy_trans HG1.out g
  clear g HG1 Xb1 Yb1 Ob1 xc0 xc1 xc2 xc3 xl
  have yc0 := Yb2.out.c0
  have yc1 := Yb2.out.c1
  have yc2 := Yb2.out.c2
  have yc3 := Yb2.out.c3
  have yl := Yb2.out.lt
  go_wp2_with fail
  refine (HM.out _ _ _ _ _ (.inr (.inl ⟨rfl, rfl, rfl, rfl⟩))).mono ?_
  rintro e w3 ⟨rfl, g⟩
  have Xb3 : Hid (QBlk w3 w.heap.size (.bool n) (.string s) (.bool d) (.string t)) := Xb2.out.kept g (by simp)
  have Yb3 : Hid (QBlk w3 (w.heap.size + 1) (.bool n2) (.string s2) (.bool d2) (.string t2)) := Yb2.out.kept g (by simp)
  have Ob3 : Hid (QBlk w3 (w.heap.size + 1 + 1) (.bool n3) (.string s3) (.bool d3) (.string t3)) := Ob2.out.kept g (by simp)
  have HG3 : Hid (w.grownBy w3 none) := grownBy_trans HG2.out g
  clear g HG2 Xb2 Yb2 Ob2 yc0 yc1 yc2 yc3 yl
  have oc0 := Ob3.out.c0
  have oc1 := Ob3.out.c1
  have oc2 := Ob3.out.c2
  have oc3 := Ob3.out.c3
  have ol := Ob3.out.lt
  go_wp2_with fail
  refine (HM.out _ _ _ _ _ (.inr (.inr ⟨rfl, rfl, rfl, rfl⟩))).mono ?_
  rintro e w4 ⟨rfl, g⟩
  have Xb4 : Hid (QBlk w4 w.heap.size (.bool n) (.string s) (.bool d) (.string t)) := Xb3.out.kept g (by simp)
  have Yb4 : Hid (QBlk w4 (w.heap.size + 1) (.bool n2) (.string s2) (.bool d2) (.string t2)) := Yb3.out.kept g (by simp)
  have Ob4 : Hid (QBlk w4 (w.heap.size + 1 + 1) (.bool n3) (.string s3) (.bool d3) (.string t3)) := Ob3.out.kept g (by simp)
  have HG4 : Hid (w.grownBy w4 none) := grownBy_trans HG3.out g
  clear g HG3 Xb3 Yb3 Ob3 oc0 oc1 oc2 oc3 ol
  go_wp2_with fail
  refine (HI.out _).mono ?_
  rintro e w5 ⟨rfl, g⟩
  have Xb5 : Hid (QBlk w5 w.heap.size (.bool n) (.string s) (.bool d) (.string t)) := Xb4.out.kept g (by simp)
  have Yb5 : Hid (QBlk w5 (w.heap.size + 1) (.bool n2) (.string s2) (.bool d2) (.string t2)) := Yb4.out.kept g (by simp)
  have Ob5 : Hid (QBlk w5 (w.heap.size + 1 + 1) (.bool n3) (.string s3) (.bool d3) (.string t3)) := Ob4.out.kept g (by simp)
  have HG5 : Hid (w.grownBy w5 none) := grownBy_trans HG4.out g
  clear g HG4 Xb4 Yb4 Ob4
  have xc0 := Xb5.out.c0
  have xc1 := Xb5.out.c1
  have xc2 := Xb5.out.c2
  have xc3 := Xb5.out.c3
  have xl := Xb5.out.lt
  go_wp2_with fail
  refine (HF.out _).mono ?_
  rintro e w6 ⟨rfl, g⟩
  have Xb6 : Hid (QBlk w6 w.heap.size (.bool n) (.string s) (.bool d) (.string t)) := Xb5.out.kept (grownBy_trans (grow1 _ _) g) (by simp)
  have Yb6 : Hid (QBlk w6 (w.heap.size + 1) (.bool n2) (.string s2) (.bool d2) (.string t2)) := Yb5.out.kept (grownBy_trans (grow1 _ _) g) (by simp)
  have Ob6 : Hid (QBlk w6 (w.heap.size + 1 + 1) (.bool n3) (.string s3) (.bool d3) (.string t3)) := Ob5.out.kept (grownBy_trans (grow1 _ _) g) (by simp)
  have Ib6 : Hid (QBlk w6 w5.heap.size (.bool false) (.string oneS) (.bool false) (.string oneS)) := QBlk.kept (heap_alloc_new _ _) g (by simp)
  have HG6 : Hid (w.grownBy w6 none) := grownBy_trans HG5.out (grownBy_trans (grow1 _ _) g)
  clear g HG5 Xb5 Yb5 Ob5 xc0 xc1 xc2 xc3 xl
  have ic0 := Ib6.out.c0
  have ic1 := Ib6.out.c1
  have ic2 := Ib6.out.c2
  have ic3 := Ib6.out.c3
  have il := Ib6.out.lt
  go_wp2_with fail
  refine (HOf.out _).mono ?_
  rintro e w7 ⟨rfl, g⟩
  have Xb7 : Hid (QBlk w7 w.heap.size (.bool n) (.string s) (.bool d) (.string t)) := Xb6.out.kept (grownBy_trans (grow1 _ _) g) (by simp)
  have Yb7 : Hid (QBlk w7 (w.heap.size + 1) (.bool n2) (.string s2) (.bool d2) (.string t2)) := Yb6.out.kept (grownBy_trans (grow1 _ _) g) (by simp)
  have Ob7 : Hid (QBlk w7 (w.heap.size + 1 + 1) (.bool n3) (.string s3) (.bool d3) (.string t3)) := Ob6.out.kept (grownBy_trans (grow1 _ _) g) (by simp)
  have Ib7 : Hid (QBlk w7 w5.heap.size (.bool false) (.string oneS) (.bool false) (.string oneS)) := Ib6.out.kept (grownBy_trans (grow1 _ _) g) (by simp)
  have Nb7 : Hid (WBlk w7 w6.heap.size (.bool fn) (.string fs)) := WBlk.kept (heap_alloc_new _ _) g (by simp)
  have HG7 : Hid (w.grownBy w7 none) := grownBy_trans HG6.out (grownBy_trans (grow1 _ _) g)
  clear g HG6 Xb6 Yb6 Ob6 Ib6 ic0 ic1 ic2 ic3 il
  clear Nb7
  have ic0 := Ib7.out.c0
  have ic1 := Ib7.out.c1
  have ic2 := Ib7.out.c2
  have ic3 := Ib7.out.c3
  have il := Ib7.out.lt
  go_wp2_with fail
  refine (HUp.out _).mono ?_
  rintro e w8 ⟨rfl, g⟩
  have Xb8 : Hid (QBlk w8 w.heap.size (.bool n) (.string s) (.bool d) (.string t)) := Xb7.out.kept (grownBy_trans (grow1 _ _) g) (by simp)
  have Yb8 : Hid (QBlk w8 (w.heap.size + 1) (.bool n2) (.string s2) (.bool d2) (.string t2)) := Yb7.out.kept (grownBy_trans (grow1 _ _) g) (by simp)
  have Ob8 : Hid (QBlk w8 (w.heap.size + 1 + 1) (.bool n3) (.string s3) (.bool d3) (.string t3)) := Ob7.out.kept (grownBy_trans (grow1 _ _) g) (by simp)
  have Ib8 : Hid (QBlk w8 w5.heap.size (.bool false) (.string oneS) (.bool false) (.string oneS)) := Ib7.out.kept (grownBy_trans (grow1 _ _) g) (by simp)
  have Fb8 : Hid (QBlk w8 w7.heap.size (.bool fn) (.string fs) (.bool false) (.string oneS)) := QBlk.kept (heap_alloc_new _ _) g (by simp)
  have HG8 : Hid (w.grownBy w8 none) := grownBy_trans HG7.out (grownBy_trans (grow1 _ _) g)
  clear g HG7 Xb7 Yb7 Ob7 Ib7 ic0 ic1 ic2 ic3 il
  have fc0 := Fb8.out.c0
  have fc1 := Fb8.out.c1
  have fc2 := Fb8.out.c2
  have fc3 := Fb8.out.c3
  have fl := Fb8.out.lt
  have xc0 := Xb8.out.c0
  have xc1 := Xb8.out.c1
  have xc2 := Xb8.out.c2
  have xc3 := Xb8.out.c3
  have xl := Xb8.out.lt
  go_wp2_with fail
  refine (HC1.out _).mono ?_
  rintro e w9 ⟨rfl, g⟩
  have Xb9 : Hid (QBlk w9 w.heap.size (.bool n) (.string s) (.bool d) (.string t)) := Xb8.out.kept (grownBy_trans (grow1 _ _) g) (by simp)
  have Yb9 : Hid (QBlk w9 (w.heap.size + 1) (.bool n2) (.string s2) (.bool d2) (.string t2)) := Yb8.out.kept (grownBy_trans (grow1 _ _) g) (by simp)
  have Ob9 : Hid (QBlk w9 (w.heap.size + 1 + 1) (.bool n3) (.string s3) (.bool d3) (.string t3)) := Ob8.out.kept (grownBy_trans (grow1 _ _) g) (by simp)
  have Ib9 : Hid (QBlk w9 w5.heap.size (.bool false) (.string oneS) (.bool false) (.string oneS)) := Ib8.out.kept (grownBy_trans (grow1 _ _) g) (by simp)
  have Fb9 : Hid (QBlk w9 w7.heap.size (.bool fn) (.string fs) (.bool false) (.string oneS)) := Fb8.out.kept (grownBy_trans (grow1 _ _) g) (by simp)
  have Ub9 : Hid (QBlk w9 w8.heap.size (.bool un) (.string us) (.bool false) (.string oneS)) := QBlk.kept (heap_alloc_new _ _) g (by simp)
  have HG9 : Hid (w.grownBy w9 none) := grownBy_trans HG8.out (grownBy_trans (grow1 _ _) g)
  clear g HG8 Xb8 Yb8 Ob8 Ib8 Fb8 fc0 fc1 fc2 fc3 fl xc0 xc1 xc2 xc3 xl
  have uc0 := Ub9.out.c0
  have uc1 := Ub9.out.c1
  have uc2 := Ub9.out.c2
  have uc3 := Ub9.out.c3
  have ul := Ub9.out.lt
  have xc0 := Xb9.out.c0
  have xc1 := Xb9.out.c1
  have xc2 := Xb9.out.c2
  have xc3 := Xb9.out.c3
  have xl := Xb9.out.lt
  go_wp2_with fail
  refine (HC2.out _).mono ?_
  rintro e w10 ⟨rfl, g⟩
  have Xb10 : Hid (QBlk w10 w.heap.size (.bool n) (.string s) (.bool d) (.string t)) := Xb9.out.kept g (by simp)
  have Yb10 : Hid (QBlk w10 (w.heap.size + 1) (.bool n2) (.string s2) (.bool d2) (.string t2)) := Yb9.out.kept g (by simp)
  have Ob10 : Hid (QBlk w10 (w.heap.size + 1 + 1) (.bool n3) (.string s3) (.bool d3) (.string t3)) := Ob9.out.kept g (by simp)
  have Ib10 : Hid (QBlk w10 w5.heap.size (.bool false) (.string oneS) (.bool false) (.string oneS)) := Ib9.out.kept g (by simp)
  have Fb10 : Hid (QBlk w10 w7.heap.size (.bool fn) (.string fs) (.bool false) (.string oneS)) := Fb9.out.kept g (by simp)
  have Ub10 : Hid (QBlk w10 w8.heap.size (.bool un) (.string us) (.bool false) (.string oneS)) := Ub9.out.kept g (by simp)
  have HG10 : Hid (w.grownBy w10 none) := grownBy_trans HG9.out g
  clear g HG9 Xb9 Yb9 Ob9 Ib9 Fb9 Ub9 uc0 uc1 uc2 uc3 ul xc0 xc1 xc2 xc3 xl
  clear Fb10 Ub10
  have xc0 := Xb10.out.c0
  have xc1 := Xb10.out.c1
  have xc2 := Xb10.out.c2
  have xc3 := Xb10.out.c3
  have xl := Xb10.out.lt
  go_wp2_with fail
  refine (HNe.out _).mono ?_
  rintro e w11 ⟨rfl, g⟩
  have Xb11 : Hid (QBlk w11 w.heap.size (.bool n) (.string s) (.bool d) (.string t)) := Xb10.out.kept g (by simp)
  have Yb11 : Hid (QBlk w11 (w.heap.size + 1) (.bool n2) (.string s2) (.bool d2) (.string t2)) := Yb10.out.kept g (by simp)
  have Ob11 : Hid (QBlk w11 (w.heap.size + 1 + 1) (.bool n3) (.string s3) (.bool d3) (.string t3)) := Ob10.out.kept g (by simp)
  have Ib11 : Hid (QBlk w11 w5.heap.size (.bool false) (.string oneS) (.bool false) (.string oneS)) := Ib10.out.kept g (by simp)
  have HG11 : Hid (w.grownBy w11 none) := grownBy_trans HG10.out g
  clear g HG10 Xb10 Yb10 Ob10 Ib10 xc0 xc1 xc2 xc3 xl
  have ic0 := Ib11.out.c0
  have ic1 := Ib11.out.c1
  have ic2 := Ib11.out.c2
  have ic3 := Ib11.out.c3
  have il := Ib11.out.lt
  go_wp2_with fail
  refine (HOm.out _).mono ?_
  rintro e w12 ⟨rfl, g⟩
  have Xb12 : Hid (QBlk w12 w.heap.size (.bool n) (.string s) (.bool d) (.string t)) := Xb11.out.kept (grownBy_trans (grow1 _ _) g) (by simp)
  have Yb12 : Hid (QBlk w12 (w.heap.size + 1) (.bool n2) (.string s2) (.bool d2) (.string t2)) := Yb11.out.kept (grownBy_trans (grow1 _ _) g) (by simp)
  have Ob12 : Hid (QBlk w12 (w.heap.size + 1 + 1) (.bool n3) (.string s3) (.bool d3) (.string t3)) := Ob11.out.kept (grownBy_trans (grow1 _ _) g) (by simp)
  have Ib12 : Hid (QBlk w12 w5.heap.size (.bool false) (.string oneS) (.bool false) (.string oneS)) := Ib11.out.kept (grownBy_trans (grow1 _ _) g) (by simp)
  have Mb12 : Hid (WBlk w12 w11.heap.size (.bool mn) (.string ms)) := WBlk.kept (heap_alloc_new _ _) g (by simp)
  have HG12 : Hid (w.grownBy w12 none) := grownBy_trans HG11.out (grownBy_trans (grow1 _ _) g)
  clear g HG11 Xb11 Yb11 Ob11 Ib11 ic0 ic1 ic2 ic3 il
  clear Mb12
  have xc0 := Xb12.out.c0
  have xc1 := Xb12.out.c1
  have xc2 := Xb12.out.c2
  have xc3 := Xb12.out.c3
  have xl := Xb12.out.lt
  go_wp2_with fail
  refine (HSu.out _).mono ?_
  rintro e w13 ⟨rfl, g⟩
  have Xb13 : Hid (QBlk w13 w.heap.size (.bool n) (.string s) (.bool d) (.string t)) := Xb12.out.kept (grownBy_trans (grow1 _ _) g) (by simp)
  have Yb13 : Hid (QBlk w13 (w.heap.size + 1) (.bool n2) (.string s2) (.bool d2) (.string t2)) := Yb12.out.kept (grownBy_trans (grow1 _ _) g) (by simp)
  have Ob13 : Hid (QBlk w13 (w.heap.size + 1 + 1) (.bool n3) (.string s3) (.bool d3) (.string t3)) := Ob12.out.kept (grownBy_trans (grow1 _ _) g) (by simp)
  have Ib13 : Hid (QBlk w13 w5.heap.size (.bool false) (.string oneS) (.bool false) (.string oneS)) := Ib12.out.kept (grownBy_trans (grow1 _ _) g) (by simp)
  have Kb13 : Hid (QBlk w13 w12.heap.size (.bool mn) (.string ms) (.bool false) (.string oneS)) := QBlk.kept (heap_alloc_new _ _) g (by simp)
  have HG13 : Hid (w.grownBy w13 none) := grownBy_trans HG12.out (grownBy_trans (grow1 _ _) g)
  clear g HG12 Xb12 Yb12 Ob12 Ib12 xc0 xc1 xc2 xc3 xl
  clear Kb13
  go_wp2_with fail
  refine (HTw.out _).mono ?_
  rintro e w14 ⟨rfl, g⟩
  have Xb14 : Hid (QBlk w14 w.heap.size (.bool n) (.string s) (.bool d) (.string t)) := Xb13.out.kept (grownBy_trans (grow1 _ _) g) (by simp)
  have Yb14 : Hid (QBlk w14 (w.heap.size + 1) (.bool n2) (.string s2) (.bool d2) (.string t2)) := Yb13.out.kept (grownBy_trans (grow1 _ _) g) (by simp)
  have Ob14 : Hid (QBlk w14 (w.heap.size + 1 + 1) (.bool n3) (.string s3) (.bool d3) (.string t3)) := Ob13.out.kept (grownBy_trans (grow1 _ _) g) (by simp)
  have Ib14 : Hid (QBlk w14 w5.heap.size (.bool false) (.string oneS) (.bool false) (.string oneS)) := Ib13.out.kept (grownBy_trans (grow1 _ _) g) (by simp)
  have Db14 : Hid (QBlk w14 w13.heap.size (.bool on) (.string os) (.bool od) (.string ot)) := QBlk.kept (heap_alloc_new _ _) g (by simp)
  have HG14 : Hid (w.grownBy w14 none) := grownBy_trans HG13.out (grownBy_trans (grow1 _ _) g)
  clear g HG13 Xb13 Yb13 Ob13 Ib13
  clear Db14
  go_wp2_with fail
  refine (HAb.out _).mono ?_
  rintro e w15 ⟨rfl, g⟩
  have Xb15 : Hid (QBlk w15 w.heap.size (.bool n) (.string s) (.bool d) (.string t)) := Xb14.out.kept (grownBy_trans (grow1 _ _) g) (by simp)
  have Yb15 : Hid (QBlk w15 (w.heap.size + 1) (.bool n2) (.string s2) (.bool d2) (.string t2)) := Yb14.out.kept (grownBy_trans (grow1 _ _) g) (by simp)
  have Ob15 : Hid (QBlk w15 (w.heap.size + 1 + 1) (.bool n3) (.string s3) (.bool d3) (.string t3)) := Ob14.out.kept (grownBy_trans (grow1 _ _) g) (by simp)
  have Ib15 : Hid (QBlk w15 w5.heap.size (.bool false) (.string oneS) (.bool false) (.string oneS)) := Ib14.out.kept (grownBy_trans (grow1 _ _) g) (by simp)
  have Tb15 : Hid (QBlk w15 w14.heap.size (.bool tn) (.string ts) (.bool td) (.string tt)) := QBlk.kept (heap_alloc_new _ _) g (by simp)
  have HG15 : Hid (w.grownBy w15 none) := grownBy_trans HG14.out (grownBy_trans (grow1 _ _) g)
  clear g HG14 Xb14 Yb14 Ob14 Ib14
  clear Tb15
  have ic0 := Ib15.out.c0
  have ic1 := Ib15.out.c1
  have ic2 := Ib15.out.c2
  have ic3 := Ib15.out.c3
  have il := Ib15.out.lt
  go_wp2_with fail
  refine (HC3.out _).mono ?_
  rintro e w16 ⟨rfl, g⟩
  have Xb16 : Hid (QBlk w16 w.heap.size (.bool n) (.string s) (.bool d) (.string t)) := Xb15.out.kept (grownBy_trans (grow1 _ _) g) (by simp)
  have Yb16 : Hid (QBlk w16 (w.heap.size + 1) (.bool n2) (.string s2) (.bool d2) (.string t2)) := Yb15.out.kept (grownBy_trans (grow1 _ _) g) (by simp)
  have Ob16 : Hid (QBlk w16 (w.heap.size + 1 + 1) (.bool n3) (.string s3) (.bool d3) (.string t3)) := Ob15.out.kept (grownBy_trans (grow1 _ _) g) (by simp)
  have Ib16 : Hid (QBlk w16 w5.heap.size (.bool false) (.string oneS) (.bool false) (.string oneS)) := Ib15.out.kept (grownBy_trans (grow1 _ _) g) (by simp)
  have Ab16 : Hid (QBlk w16 w15.heap.size (.bool false) (.string ts) (.bool td) (.string tt)) := QBlk.kept (heap_alloc_new _ _) g (by simp)
  have HG16 : Hid (w.grownBy w16 none) := grownBy_trans HG15.out (grownBy_trans (grow1 _ _) g)
  clear g HG15 Xb15 Yb15 Ob15 Ib15 ic0 ic1 ic2 ic3 il
  clear Ab16 Ib16
  have xc0 := Xb16.out.c0
  have xc1 := Xb16.out.c1
  have xc2 := Xb16.out.c2
  have xc3 := Xb16.out.c3
  have xl := Xb16.out.lt
  go_wp2_with fail
  refine (HSq.out _).mono ?_
  rintro e w17 ⟨rfl, g⟩
  have Xb17 : Hid (QBlk w17 w.heap.size (.bool n) (.string s) (.bool d) (.string t)) := Xb16.out.kept g (by simp)
  have Yb17 : Hid (QBlk w17 (w.heap.size + 1) (.bool n2) (.string s2) (.bool d2) (.string t2)) := Yb16.out.kept g (by simp)
  have Ob17 : Hid (QBlk w17 (w.heap.size + 1 + 1) (.bool n3) (.string s3) (.bool d3) (.string t3)) := Ob16.out.kept g (by simp)
  have HG17 : Hid (w.grownBy w17 none) := grownBy_trans HG16.out g
  clear g HG16 Xb16 Yb16 Ob16 xc0 xc1 xc2 xc3 xl
  go_upto_if 152 with fail
  have HV : Hid (QBlk (w17.alloc (qObj rn rs rd rt)) w.heap.size (.bool n) (.string s) (.bool d) (.string t) ∧ QBlk (w17.alloc (qObj rn rs rd rt)) (w.heap.size + 1) (.bool n2) (.string s2) (.bool d2) (.string t2) ∧ QBlk (w17.alloc (qObj rn rs rd rt)) (w.heap.size + 1 + 1) (.bool n3) (.string s3) (.bool d3) (.string t3) ∧ w.grownBy (w17.alloc (qObj rn rs rd rt)) none) := ⟨Xb17.out.kept (grow1 _ _) (by simp), Yb17.out.kept (grow1 _ _) (by simp), Ob17.out.kept (grow1 _ _) (by simp), grownBy_trans HG17.out (grow1 _ _)⟩
  have HRb : Hid (QBlk (w17.alloc (qObj rn rs rd rt)) w17.heap.size (.bool rn) (.string rs) (.bool rd) (.string rt)) := heap_alloc_new _ _
  clear Xb17 Yb17 Ob17 HG17
  generalize w17.alloc (qObj rn rs rd rt) = V at *
  generalize w17.heap.size = RB at *
  go_cut [26, 27] from 151 to 170 (fun s26 s27 wx => QBlk wx w.heap.size (.bool n) (.string s) (.bool d) (.string t) ∧ QBlk wx (w.heap.size + 1) (.bool n2) (.string s2) (.bool d2) (.string t2) ∧ QBlk wx (w.heap.size + 1 + 1) (.bool n3) (.string s3) (.bool d3) (.string t3) ∧ w.grownBy wx none)
  case first =>
    rcases hr with rfl | ⟨rfl, HMu, HSr⟩
    · go_wp2_with fail
      go_meet
      exact HV.out
    · have r0 := HRb.out.c0
      have r1 := HRb.out.c1
      have r2 := HRb.out.c2
      have r3 := HRb.out.c3
      go_wp2_with fail
      refine (HMu.out _).mono ?_
      rintro e v1 ⟨rfl, g⟩
      have HV1 : Hid (QBlk v1 w.heap.size (.bool n) (.string s) (.bool d) (.string t) ∧ QBlk v1 (w.heap.size + 1) (.bool n2) (.string s2) (.bool d2) (.string t2) ∧ QBlk v1 (w.heap.size + 1 + 1) (.bool n3) (.string s3) (.bool d3) (.string t3) ∧ w.grownBy v1 none) := ⟨HV.out.1.kept g (by simp), HV.out.2.1.kept g (by simp), HV.out.2.2.1.kept g (by simp), grownBy_trans HV.out.2.2.2 g⟩
      have HR1 : Hid (QBlk v1 RB (.bool rn) (.string rs) (.bool rd) (.string rt)) := HRb.out.kept g (by simp)
      clear g HV HRb r0 r1 r2 r3
      have r0 := HR1.out.c0
      have r1 := HR1.out.c1
      have r2 := HR1.out.c2
      have r3 := HR1.out.c3
      have rl := HR1.out.lt
      have x0 := HV1.out.1.c0
      have x1 := HV1.out.1.c1
      have x2 := HV1.out.1.c2
      have x3 := HV1.out.1.c3
      have xl := HV1.out.1.lt
      go_wp2_with fail
      refine (HSr.out _).mono ?_
      rintro e v2 ⟨rfl, g⟩
      have g' := grownBy_trans (grow1 v1 (qObj n s d t)) g
      have HV2 : Hid (QBlk v2 w.heap.size (.bool n) (.string s) (.bool d) (.string t) ∧ QBlk v2 (w.heap.size + 1) (.bool n2) (.string s2) (.bool d2) (.string t2) ∧ QBlk v2 (w.heap.size + 1 + 1) (.bool n3) (.string s3) (.bool d3) (.string t3) ∧ w.grownBy v2 none) := ⟨HV1.out.1.kept g' (by simp), HV1.out.2.1.kept g' (by simp), HV1.out.2.2.1.kept g' (by simp), grownBy_trans HV1.out.2.2.2 g'⟩
      clear g g' HV1 HR1 r0 r1 r2 r3 rl x0 x1 x2 x3 xl
      go_wp2_with fail
      go_meet
      exact HV2.out
  case rest =>
    clear HV HRb
    have HV : Hid (QBlk wc w.heap.size (.bool n) (.string s) (.bool d) (.string t) ∧ QBlk wc (w.heap.size + 1) (.bool n2) (.string s2) (.bool d2) (.string t2) ∧ QBlk wc (w.heap.size + 1 + 1) (.bool n3) (.string s3) (.bool d3) (.string t3) ∧ w.grownBy wc none) := hcut
    clear hcut
    have x0 := HV.out.1.c0
    have x1 := HV.out.1.c1
    have x2 := HV.out.1.c2
    have x3 := HV.out.1.c3
    have y0 := HV.out.2.1.c0
    have y1 := HV.out.2.1.c1
    have y2 := HV.out.2.1.c2
    have y3 := HV.out.2.1.c3
    go_wp2_with fail
    refine (HC4.out _).mono ?_
    rintro e v1 ⟨rfl, g⟩
    have HV1 : Hid (QBlk v1 w.heap.size (.bool n) (.string s) (.bool d) (.string t) ∧ QBlk v1 (w.heap.size + 1) (.bool n2) (.string s2) (.bool d2) (.string t2) ∧ QBlk v1 (w.heap.size + 1 + 1) (.bool n3) (.string s3) (.bool d3) (.string t3) ∧ w.grownBy v1 none) := ⟨HV.out.1.kept g (by simp), HV.out.2.1.kept g (by simp), HV.out.2.2.1.kept g (by simp), grownBy_trans HV.out.2.2.2 g⟩
    clear g HV x0 x1 x2 x3 y0 y1 y2 y3
    go_upto_if 174 with fail
    go_cut [] from 171 to 176 (fun wx => QBlk wx w.heap.size (.bool pn) (.string ps) (.bool pd) (.string pt) ∧ QBlk wx (w.heap.size + 1) (.bool qn) (.string qs) (.bool qd) (.string qt) ∧ QBlk wx (w.heap.size + 1 + 1) (.bool n3) (.string s3) (.bool d3) (.string t3) ∧ w.grownBy wx none)
    case first =>
      rcases hsw with ⟨hc4, rfl, rfl, rfl, rfl, rfl, rfl, rfl, rfl⟩ | ⟨rfl, rfl, rfl, rfl, rfl, rfl, rfl, rfl, rfl⟩
      · go_wp2_with fail
        go_meet
        exact HV1.out
      · have x0 := HV1.out.1.c0
        have x1 := HV1.out.1.c1
        have x2 := HV1.out.1.c2
        have x3 := HV1.out.1.c3
        have y0 := HV1.out.2.1.c0
        have y1 := HV1.out.2.1.c1
        have y2 := HV1.out.2.1.c2
        have y3 := HV1.out.2.1.c3
        have f0 := HV1.out.1.fr 0
        have f1 := HV1.out.1.fr 1
        have f2 := HV1.out.1.fr 2
        have f3 := HV1.out.1.fr 3
        have k0 := HV1.out.2.1.fr 0
        have k1 := HV1.out.2.1.fr 1
        have k2 := HV1.out.2.1.fr 2
        have k3 := HV1.out.2.1.fr 3
        go_wp2_with fail
        go_meet
        exact ⟨(HV1.out.1.put _ _ _ _).away (by omega) _ _ _ _, (HV1.out.2.1.away (by omega) _ _ _ _).put _ _ _ _, (HV1.out.2.2.1.away (by omega) _ _ _ _).away (by omega) _ _ _ _, grown_put4 (grown_put4 HV1.out.2.2.2 (Nat.le_refl _)) (by omega)⟩
    case rest =>
      clear HV1
      have HV : Hid (QBlk wc w.heap.size (.bool pn) (.string ps) (.bool pd) (.string pt) ∧ QBlk wc (w.heap.size + 1) (.bool qn) (.string qs) (.bool qd) (.string qt) ∧ QBlk wc (w.heap.size + 1 + 1) (.bool n3) (.string s3) (.bool d3) (.string t3) ∧ w.grownBy wc none) := hcut
      clear hcut
      generalize wc = w1 at *
      have Xb1 : Hid (QBlk w1 w.heap.size (.bool pn) (.string ps) (.bool pd) (.string pt)) := HV.out.1
      have Yb1 : Hid (QBlk w1 (w.heap.size + 1) (.bool qn) (.string qs) (.bool qd) (.string qt)) := HV.out.2.1
      have Ob1 : Hid (QBlk w1 (w.heap.size + 1 + 1) (.bool n3) (.string s3) (.bool d3) (.string t3)) := HV.out.2.2.1
      have HG1 : Hid (w.grownBy w1 none) := HV.out.2.2.2
      clear HV hsw hr
      have xc0 := Xb1.out.c0
      have xc1 := Xb1.out.c1
      have xc2 := Xb1.out.c2
      have xc3 := Xb1.out.c3
      have xl := Xb1.out.lt
      have yc0 := Yb1.out.c0
      have yc1 := Yb1.out.c1
      have yc2 := Yb1.out.c2
      have yc3 := Yb1.out.c3
      have yl := Yb1.out.lt
      go_wp2_with fail
      refine (HSi.out _).mono ?_
      rintro e w2 ⟨rfl, g⟩
      have Xb2 : Hid (QBlk w2 w.heap.size (.bool pn) (.string ps) (.bool pd) (.string pt)) := Xb1.out.kept g (by simp)
      have Yb2 : Hid (QBlk w2 (w.heap.size + 1) (.bool qn) (.string qs) (.bool qd) (.string qt)) := Yb1.out.kept g (by simp)
      have Ob2 : Hid (QBlk w2 (w.heap.size + 1 + 1) (.bool n3) (.string s3) (.bool d3) (.string t3)) := Ob1.out.kept g (by simp)
      have HG2 : Hid (w.grownBy w2 none) := grownBy_trans HG1.out g
      clear g HG1 Xb1 Yb1 Ob1 xc0 xc1 xc2 xc3 xl yc0 yc1 yc2 yc3 yl
      have xc0 := Xb2.out.c0
      have xc1 := Xb2.out.c1
      have xc2 := Xb2.out.c2
      have xc3 := Xb2.out.c3
      have xl := Xb2.out.lt
      go_wp2_with fail
      refine (HC5.out _).mono ?_
      rintro e w3 ⟨rfl, g⟩
      have Xb3 : Hid (QBlk w3 w.heap.size (.bool pn) (.string ps) (.bool pd) (.string pt)) := Xb2.out.kept (grownBy_trans (grow1 _ _) g) (by simp)
      have Yb3 : Hid (QBlk w3 (w.heap.size + 1) (.bool qn) (.string qs) (.bool qd) (.string qt)) := Yb2.out.kept (grownBy_trans (grow1 _ _) g) (by simp)
      have Ob3 : Hid (QBlk w3 (w.heap.size + 1 + 1) (.bool n3) (.string s3) (.bool d3) (.string t3)) := Ob2.out.kept (grownBy_trans (grow1 _ _) g) (by simp)
      have Zb3 : Hid (QBlk w3 w2.heap.size (.bool zn) (.string zs) (.bool zd) (.string zt)) := QBlk.kept (heap_alloc_new _ _) g (by simp)
      have HG3 : Hid (w.grownBy w3 none) := grownBy_trans HG2.out (grownBy_trans (grow1 _ _) g)
      clear g HG2 Xb2 Yb2 Ob2 xc0 xc1 xc2 xc3 xl
      have zc0 := Zb3.out.c0
      have zc1 := Zb3.out.c1
      have zc2 := Zb3.out.c2
      have zc3 := Zb3.out.c3
      have zl := Zb3.out.lt
      have yc0 := Yb3.out.c0
      have yc1 := Yb3.out.c1
      have yc2 := Yb3.out.c2
      have yc3 := Yb3.out.c3
      have yl := Yb3.out.lt
      go_wp2_with fail
      refine (HC6.out _).mono ?_
      rintro e w4 ⟨rfl, g⟩
      have Xb4 : Hid (QBlk w4 w.heap.size (.bool pn) (.string ps) (.bool pd) (.string pt)) := Xb3.out.kept g (by simp)
      have Yb4 : Hid (QBlk w4 (w.heap.size + 1) (.bool qn) (.string qs) (.bool qd) (.string qt)) := Yb3.out.kept g (by simp)
      have Ob4 : Hid (QBlk w4 (w.heap.size + 1 + 1) (.bool n3) (.string s3) (.bool d3) (.string t3)) := Ob3.out.kept g (by simp)
      have Zb4 : Hid (QBlk w4 w2.heap.size (.bool zn) (.string zs) (.bool zd) (.string zt)) := Zb3.out.kept g (by simp)
      have HG4 : Hid (w.grownBy w4 none) := grownBy_trans HG3.out g
      clear g HG3 Xb3 Yb3 Ob3 Zb3 zc0 zc1 zc2 zc3 zl yc0 yc1 yc2 yc3 yl
      have oc0 := Ob4.out.c0
      have oc1 := Ob4.out.c1
      have oc2 := Ob4.out.c2
      have oc3 := Ob4.out.c3
      have ol := Ob4.out.lt
      have xc0 := Xb4.out.c0
      have xc1 := Xb4.out.c1
      have xc2 := Xb4.out.c2
      have xc3 := Xb4.out.c3
      have xl := Xb4.out.lt
      go_wp2_with fail
      refine (HC7.out _).mono ?_
      rintro e w5 ⟨rfl, g⟩
      have Xb5 : Hid (QBlk w5 w.heap.size (.bool pn) (.string ps) (.bool pd) (.string pt)) := Xb4.out.kept g (by simp)
      have Yb5 : Hid (QBlk w5 (w.heap.size + 1) (.bool qn) (.string qs) (.bool qd) (.string qt)) := Yb4.out.kept g (by simp)
      have Ob5 : Hid (QBlk w5 (w.heap.size + 1 + 1) (.bool n3) (.string s3) (.bool d3) (.string t3)) := Ob4.out.kept g (by simp)
      have Zb5 : Hid (QBlk w5 w2.heap.size (.bool zn) (.string zs) (.bool zd) (.string zt)) := Zb4.out.kept g (by simp)
      have HG5 : Hid (w.grownBy w5 none) := grownBy_trans HG4.out g
      clear g HG4 Xb4 Yb4 Ob4 Zb4 oc0 oc1 oc2 oc3 ol xc0 xc1 xc2 xc3 xl
      rcases hin with rfl | ⟨h7, rfl⟩ | ⟨h7, h8, HNo⟩
      · go_wp2_with fail
        refine (HK.out _ HG5.out).mono ?_
        rintro e v9 ⟨rfl, g9⟩
        go_wp2_with fail
        go_ret
        exact ⟨rfl, grownBy_trans HG5.out g9⟩
      ·
        have oc0 := Ob5.out.c0
        have oc1 := Ob5.out.c1
        have oc2 := Ob5.out.c2
        have oc3 := Ob5.out.c3
        have ol := Ob5.out.lt
        have yc0 := Yb5.out.c0
        have yc1 := Yb5.out.c1
        have yc2 := Yb5.out.c2
        have yc3 := Yb5.out.c3
        have yl := Yb5.out.lt
        go_wp2_with fail
        refine (HC8.out _).mono ?_
        rintro e w6 ⟨rfl, g⟩
        have Xb6 : Hid (QBlk w6 w.heap.size (.bool pn) (.string ps) (.bool pd) (.string pt)) := Xb5.out.kept g (by simp)
        have Yb6 : Hid (QBlk w6 (w.heap.size + 1) (.bool qn) (.string qs) (.bool qd) (.string qt)) := Yb5.out.kept g (by simp)
        have Ob6 : Hid (QBlk w6 (w.heap.size + 1 + 1) (.bool n3) (.string s3) (.bool d3) (.string t3)) := Ob5.out.kept g (by simp)
        have Zb6 : Hid (QBlk w6 w2.heap.size (.bool zn) (.string zs) (.bool zd) (.string zt)) := Zb5.out.kept g (by simp)
        have HG6 : Hid (w.grownBy w6 none) := grownBy_trans HG5.out g
        clear g HG5 Xb5 Yb5 Ob5 Zb5 oc0 oc1 oc2 oc3 ol yc0 yc1 yc2 yc3 yl
        go_wp2_with fail
        refine (HK.out _ HG6.out).mono ?_
        rintro e v9 ⟨rfl, g9⟩
        go_wp2_with fail
        go_ret
        exact ⟨rfl, grownBy_trans HG6.out g9⟩
      ·
        have oc0 := Ob5.out.c0
        have oc1 := Ob5.out.c1
        have oc2 := Ob5.out.c2
        have oc3 := Ob5.out.c3
        have ol := Ob5.out.lt
        have yc0 := Yb5.out.c0
        have yc1 := Yb5.out.c1
        have yc2 := Yb5.out.c2
        have yc3 := Yb5.out.c3
        have yl := Yb5.out.lt
        go_wp2_with fail
        refine (HC8.out _).mono ?_
        rintro e w6 ⟨rfl, g⟩
        have Xb6 : Hid (QBlk w6 w.heap.size (.bool pn) (.string ps) (.bool pd) (.string pt)) := Xb5.out.kept g (by simp)
        have Yb6 : Hid (QBlk w6 (w.heap.size + 1) (.bool qn) (.string qs) (.bool qd) (.string qt)) := Yb5.out.kept g (by simp)
        have Ob6 : Hid (QBlk w6 (w.heap.size + 1 + 1) (.bool n3) (.string s3) (.bool d3) (.string t3)) := Ob5.out.kept g (by simp)
        have Zb6 : Hid (QBlk w6 w2.heap.size (.bool zn) (.string zs) (.bool zd) (.string zt)) := Zb5.out.kept g (by simp)
        have HG6 : Hid (w.grownBy w6 none) := grownBy_trans HG5.out g
        clear g HG5 Xb5 Yb5 Ob5 Zb5 oc0 oc1 oc2 oc3 ol yc0 yc1 yc2 yc3 yl
        have oc0 := Ob6.out.c0
        have oc1 := Ob6.out.c1
        have oc2 := Ob6.out.c2
        have oc3 := Ob6.out.c3
        have ol := Ob6.out.lt
        have zc0 := Zb6.out.c0
        have zc1 := Zb6.out.c1
        have zc2 := Zb6.out.c2
        have zc3 := Zb6.out.c3
        have zl := Zb6.out.lt
        go_wp2_with fail
        refine (HNo.out _).mono ?_
        rintro e w7 ⟨rfl, g⟩
        have Xb7 : Hid (QBlk w7 w.heap.size (.bool pn) (.string ps) (.bool pd) (.string pt)) := Xb6.out.kept g (by simp)
        have Yb7 : Hid (QBlk w7 (w.heap.size + 1) (.bool qn) (.string qs) (.bool qd) (.string qt)) := Yb6.out.kept g (by simp)
        have Ob7 : Hid (QBlk w7 (w.heap.size + 1 + 1) (.bool n3) (.string s3) (.bool d3) (.string t3)) := Ob6.out.kept g (by simp)
        have Zb7 : Hid (QBlk w7 w2.heap.size (.bool zn) (.string zs) (.bool zd) (.string zt)) := Zb6.out.kept g (by simp)
        have HG7 : Hid (w.grownBy w7 none) := grownBy_trans HG6.out g
        clear g HG6 Xb6 Yb6 Ob6 Zb6 oc0 oc1 oc2 oc3 ol zc0 zc1 zc2 zc3 zl
        go_wp2_with fail
        refine (HK.out _ HG7.out).mono ?_
        rintro e v9 ⟨rfl, g9⟩
        go_wp2_with fail
        go_ret
        exact ⟨rfl, grownBy_trans HG7.out g9⟩
theorem ediv_abs (N D : Int) (hD : 0 < D) : (N / D).natAbs ≤ N.natAbs := by
  have h1 := Int.emod_nonneg N (Int.ne_of_gt hD)
  have h2 := Int.emod_lt_of_pos N hD
  have h3 := Int.emod_def N D
  by_cases hN : 0 ≤ N
  · have q0 : 0 ≤ N / D := Int.ediv_nonneg hN (Int.le_of_lt hD)
    have q1 : N / D ≤ N := by
      have := Int.mul_le_mul_of_nonneg_right (show (1 : Int) ≤ D by omega) q0
      rw [Int.one_mul] at this
      omega
    omega
  · have q0 : N / D < 0 := Int.ediv_neg_of_neg_of_pos (by omega) hD
    have q1 : N ≤ N / D := by
      have h4 : D * (N / D) = N - N % D := by omega
      have h5 : D * (N / D + 1) = D * (N / D) + D := by rw [Int.mul_add, Int.mul_one]
      have h6 : D * (N / D + 1) ≤ 1 * (N / D + 1) := Int.mul_le_mul_of_nonpos_right (by omega) (by omega)
      omega
    omega
end Go.Proofs.YtdfliaogmlpefaaGreatDoor
