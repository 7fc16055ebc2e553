/-
  FracSums, of two that may be.
-/
import Derived.Test.YtgemkfiippooeaaGreatDoorBunFre
import Derived.Deep.RegionWith
namespace Go.Proofs.YtgemkfiippooeaaGreatDoor
open Go.RowKit Go.Lib Go.Sort
set_option linter.unusedVariables false

set_option maxHeartbeats 6400000 in
set_option maxRecDepth 1000000 in
theorem sums_yes (n d n2 d2 na da ma oa nb db mb ob nc dc mc oc ne de me oe : Bool) (s t s2 t2 sa ta ra ua sb tb rb ub sc tc rc uc se te re ue : ByteArray) (ea eb ec ee z g : Int) (hg0 : ¬ g = 0) (w : World)
    (HL : Hid (∀ (W : World) (B : Nat), W.heap[B]? = some (.cells #[.bool n, .string s, .bool d, .string t, .bool n2, .string s2, .bool d2, .string t2] 25 (0, 0)) → Calls Tryz.prog 7 #[.int .i64 1100, .slice (some ⟨B, 0, none⟩) 2 2] W fun e w' => e = .returned (.bool false) ∧ W.grownBy w' none))
    (HM : Hid (∀ a b c f r (w : World), (a = n ∧ b = s ∧ c = d ∧ f = t ∧ r = true) ∨ (a = n2 ∧ b = s2 ∧ c = d2 ∧ f = t2 ∧ r = true) → Calls Tryz.prog 9 #[frac a b c f] w fun e w' => e = .returned (.bool r) ∧ w.grownBy w' none))
    (HP : Hid (∀ a b c f r (w : World), (a = n ∧ b = s ∧ c = d ∧ f = t ∧ r = true) ∨ (a = n2 ∧ b = s2 ∧ c = d2 ∧ f = t2 ∧ r = true) → Calls Tryz.prog 15 #[frac a b c f] w fun e w' => e = .returned (.bool r) ∧ w.grownBy w' none))
    (HAdd : Hid (∀ w, Calls Tryz.prog 10 #[frac n s d t, frac n2 s2 d2 t2] w fun e w' => e = .returned (.tuple #[frac na sa da ta, .int .i64 ea]) ∧ w.grownBy w' none))
    (HSub : Hid (∀ w, Calls Tryz.prog 11 #[frac n s d t, frac n2 s2 d2 t2] w fun e w' => e = .returned (.tuple #[frac nb sb db tb, .int .i64 eb]) ∧ w.grownBy w' none))
    (HMul : Hid (∀ w, Calls Tryz.prog 12 #[frac n s d t, frac n2 s2 d2 t2] w fun e w' => e = .returned (.tuple #[frac nc sc dc tc, .int .i64 ec]) ∧ w.grownBy w' none))
    (HDiv : Hid (∀ w, Calls Tryz.prog 13 #[frac n s d t, frac n2 s2 d2 t2] w fun e w' => e = .returned (.tuple #[frac ne se de te, .int .i64 ee]) ∧ w.grownBy w' none))
    (HCmp : Hid (∀ w, Calls Tryz.prog 14 #[frac n s d t, frac n2 s2 d2 t2] w fun e w' => e = .returned (.tuple #[.int .i64 z, .int .i64 0]) ∧ w.grownBy w' none))
    (HRa : Hid (∀ w, Calls Tryz.prog 17 #[frac n s d t, frac n2 s2 d2 t2] w fun e w' => e = .returned (frac ma ra oa ua) ∧ w.grownBy w' none))
    (HTa : Hid (∀ w, Calls Tryz.prog 16 #[frac na sa da ta, .int .i64 ea, frac ma ra oa ua, .bool true] w fun e w' => e = .returned (.bool true) ∧ w.grownBy w' none))
    (HRb : Hid (∀ w, Calls Tryz.prog 18 #[frac n s d t, frac n2 s2 d2 t2] w fun e w' => e = .returned (frac mb rb ob ub) ∧ w.grownBy w' none))
    (HTb : Hid (∀ w, Calls Tryz.prog 16 #[frac nb sb db tb, .int .i64 eb, frac mb rb ob ub, .bool true] w fun e w' => e = .returned (.bool true) ∧ w.grownBy w' none))
    (HRc : Hid (∀ w, Calls Tryz.prog 19 #[frac n s d t, frac n2 s2 d2 t2] w fun e w' => e = .returned (frac mc rc oc uc) ∧ w.grownBy w' none))
    (HTc : Hid (∀ w, Calls Tryz.prog 16 #[frac nc sc dc tc, .int .i64 ec, frac mc rc oc uc, .bool true] w fun e w' => e = .returned (.bool true) ∧ w.grownBy w' none))
    (HRe : Hid (∀ w, Calls Tryz.prog 22 #[frac n s d t, frac n2 s2 d2 t2] w fun e w' => e = .returned (frac me re oe ue) ∧ w.grownBy w' none))
    (HTe : Hid (∀ w, Calls Tryz.prog 16 #[frac ne se de te, .int .i64 ee, frac me re oe ue, .bool true] w fun e w' => e = .returned (.bool true) ∧ w.grownBy w' none))
    (HRC : Hid (∀ w, Calls Tryz.prog 20 #[frac n s d t, frac n2 s2 d2 t2] w fun e w' => e = .returned (.int .i64 z) ∧ w.grownBy w' none))
    (HRS : Hid (∀ w, Calls Tryz.prog 21 #[frac n2 s2 d2 t2] w fun e w' => e = .returned (.int .i64 g) ∧ w.grownBy w' none))
    (HK : Hid (∀ W, w.grownBy W none → Calls Tryz.prog 8 #[] W fun e w' => e = .returned (.bool true) ∧ W.grownBy w' none)) :
    Calls Tryz.prog 3 #[frac n s d t, frac n2 s2 d2 t2] w fun e w' => e = .returned (.bool true) ∧ w.grownBy w' none := by
  go_enter Tryz.func3, Tryz.ntmps3
  go_wp2_with fail
  refine (HL.out _ _ ?hb).mono ?_
  case hb => first | exact at_alloc3 _ _ _ _ | (have := at_alloc3 w (qObj n s d t) (qObj n2 s2 d2 t2) (.cells #[.bool n, .string s, .bool d, .string t, .bool n2, .string s2, .bool d2, .string t2] 25); simpa using this)
  rintro e w1 ⟨rfl, g1⟩
  have X1 : Hid (Two w1 w.heap.size (w.heap.size + 1) n d n2 d2 s t s2 t2) := Two.kept ⟨old_alloc _ _ (at_alloc1 _ _ _), at_alloc2 _ _ _ _⟩ g1
  have HG1 : Hid (w.grownBy w1 none) := grownBy_trans (grow3 _ _ _ _) g1
  clear g1 HL
  go_wp2_with fail
  go_region_held3 (fun w' => w'.cell? ⟨w.heap.size, 0, none⟩ = some (.bool n) ∧ w'.cell? ⟨w.heap.size, 1, none⟩ = some (.string s) ∧ w'.cell? ⟨w.heap.size, 2, none⟩ = some (.bool d) ∧ w'.cell? ⟨w.heap.size, 3, none⟩ = some (.string t) ∧ w'.cell? ⟨w.heap.size + 1, 0, none⟩ = some (.bool n2) ∧ w'.cell? ⟨w.heap.size + 1, 1, none⟩ = some (.string s2) ∧ w'.cell? ⟨w.heap.size + 1, 2, none⟩ = some (.bool d2) ∧ w'.cell? ⟨w.heap.size + 1, 3, none⟩ = some (.string t2))
    (first | (go_keep; done) | exact (X1.out.kept (by assumption)).cells | exact (X1.out.kept (grow_drew (World.grownBy.refl _ _))).cells | fail)
    (first
      | (go_at_call 9; first | (have _q := GA; refine (HM.out _ _ _ _ _ _ (by exact .inr ⟨rfl, rfl, rfl, rfl, rfl⟩)).mono ?_; rintro e w2 ⟨rfl, gB⟩; have GB : w1.grownBy w2 none := grownBy_trans GA gB) | (refine (HM.out _ _ _ _ _ _ (by exact .inl ⟨rfl, rfl, rfl, rfl, rfl⟩)).mono ?_; rintro e wA ⟨rfl, gA⟩; have GA : w1.grownBy wA none := (by first | exact gA | exact grownBy_undrew gA)))
      | fail)
  have X2 : Hid (Two w2 w.heap.size (w.heap.size + 1) n d n2 d2 s t s2 t2) := X1.out.kept GB
  have HG2 : Hid (w.grownBy w2 none) := grownBy_trans HG1.out GB
  clear gA GA gB GB X1 HG1 HM
  obtain ⟨x0, x1, x2, x3, y0, y1, y2, y3⟩ := X2.out.cells
  have xl := X2.out.1.lt
  have yl := X2.out.2.lt
  go_wp2_with fail
  refine (HAdd.out _).mono ?_
  rintro e w3 ⟨rfl, g3⟩
  have X3 : Hid (Two w3 w.heap.size (w.heap.size + 1) n d n2 d2 s t s2 t2) := X2.out.kept g3
  have HG3 : Hid (w.grownBy w3 none) := grownBy_trans HG2.out g3
  clear g3 X2 HG2 HAdd
  clear x0 x1 x2 x3 y0 y1 y2 y3 xl yl
  obtain ⟨x0, x1, x2, x3, y0, y1, y2, y3⟩ := X3.out.cells
  have xl := X3.out.1.lt
  have yl := X3.out.2.lt
  go_wp2_with fail
  refine (HSub.out _).mono ?_
  rintro e w4 ⟨rfl, g⟩
  have X4 : Hid (Two w4 w.heap.size (w.heap.size + 1) n d n2 d2 s t s2 t2) := X3.out.kept (grownBy_trans (grow1 _ _) g)
  have HG4 : Hid (w.grownBy w4 none) := grownBy_trans HG3.out (grownBy_trans (grow1 _ _) g)
  have A4 : Hid (QBlk w4 w3.heap.size (.bool na) (.string sa) (.bool da) (.string ta)) := QBlk.kept (heap_alloc_new _ _) g (by simp)
  clear g X3 HG3 HSub
  clear x0 x1 x2 x3 y0 y1 y2 y3 xl yl
  obtain ⟨x0, x1, x2, x3, y0, y1, y2, y3⟩ := X4.out.cells
  have xl := X4.out.1.lt
  have yl := X4.out.2.lt
  go_wp2_with fail
  refine (HMul.out _).mono ?_
  rintro e w5 ⟨rfl, g⟩
  have X5 : Hid (Two w5 w.heap.size (w.heap.size + 1) n d n2 d2 s t s2 t2) := X4.out.kept (grownBy_trans (grow1 _ _) g)
  have HG5 : Hid (w.grownBy w5 none) := grownBy_trans HG4.out (grownBy_trans (grow1 _ _) g)
  have A5 : Hid (QBlk w5 w3.heap.size (.bool na) (.string sa) (.bool da) (.string ta)) := A4.out.kept (grownBy_trans (grow1 _ _) g) (by simp)
  have B5 : Hid (QBlk w5 w4.heap.size (.bool nb) (.string sb) (.bool db) (.string tb)) := QBlk.kept (heap_alloc_new _ _) g (by simp)
  clear g X4 HG4 HMul A4
  clear x0 x1 x2 x3 y0 y1 y2 y3 xl yl
  obtain ⟨x0, x1, x2, x3, y0, y1, y2, y3⟩ := X5.out.cells
  have xl := X5.out.1.lt
  have yl := X5.out.2.lt
  go_wp2_with fail
  refine (HDiv.out _).mono ?_
  rintro e w6 ⟨rfl, g⟩
  have X6 : Hid (Two w6 w.heap.size (w.heap.size + 1) n d n2 d2 s t s2 t2) := X5.out.kept (grownBy_trans (grow1 _ _) g)
  have HG6 : Hid (w.grownBy w6 none) := grownBy_trans HG5.out (grownBy_trans (grow1 _ _) g)
  have A6 : Hid (QBlk w6 w3.heap.size (.bool na) (.string sa) (.bool da) (.string ta)) := A5.out.kept (grownBy_trans (grow1 _ _) g) (by simp)
  have B6 : Hid (QBlk w6 w4.heap.size (.bool nb) (.string sb) (.bool db) (.string tb)) := B5.out.kept (grownBy_trans (grow1 _ _) g) (by simp)
  have C6 : Hid (QBlk w6 w5.heap.size (.bool nc) (.string sc) (.bool dc) (.string tc)) := QBlk.kept (heap_alloc_new _ _) g (by simp)
  clear g X5 HG5 HDiv A5 B5
  clear x0 x1 x2 x3 y0 y1 y2 y3 xl yl
  obtain ⟨x0, x1, x2, x3, y0, y1, y2, y3⟩ := X6.out.cells
  have xl := X6.out.1.lt
  have yl := X6.out.2.lt
  go_wp2_with fail
  refine (HCmp.out _).mono ?_
  rintro e w7 ⟨rfl, g⟩
  have X7 : Hid (Two w7 w.heap.size (w.heap.size + 1) n d n2 d2 s t s2 t2) := X6.out.kept (grownBy_trans (grow1 _ _) g)
  have HG7 : Hid (w.grownBy w7 none) := grownBy_trans HG6.out (grownBy_trans (grow1 _ _) g)
  have A7 : Hid (QBlk w7 w3.heap.size (.bool na) (.string sa) (.bool da) (.string ta)) := A6.out.kept (grownBy_trans (grow1 _ _) g) (by simp)
  have B7 : Hid (QBlk w7 w4.heap.size (.bool nb) (.string sb) (.bool db) (.string tb)) := B6.out.kept (grownBy_trans (grow1 _ _) g) (by simp)
  have C7 : Hid (QBlk w7 w5.heap.size (.bool nc) (.string sc) (.bool dc) (.string tc)) := C6.out.kept (grownBy_trans (grow1 _ _) g) (by simp)
  have D7 : Hid (QBlk w7 w6.heap.size (.bool ne) (.string se) (.bool de) (.string te)) := QBlk.kept (heap_alloc_new _ _) g (by simp)
  clear g X6 HG6 HCmp A6 B6 C6
  clear x0 x1 x2 x3 y0 y1 y2 y3 xl yl
  obtain ⟨x0, x1, x2, x3, y0, y1, y2, y3⟩ := X7.out.cells
  have xl := X7.out.1.lt
  have yl := X7.out.2.lt
  go_wp2_with fail
  refine (HP.out _ _ _ _ _ _ (by exact .inl ⟨rfl, rfl, rfl, rfl, rfl⟩)).mono ?_
  rintro e w8 ⟨rfl, g⟩
  have X8 : Hid (Two w8 w.heap.size (w.heap.size + 1) n d n2 d2 s t s2 t2) := X7.out.kept g
  have HG8 : Hid (w.grownBy w8 none) := grownBy_trans HG7.out g
  have A8 : Hid (QBlk w8 w3.heap.size (.bool na) (.string sa) (.bool da) (.string ta)) := A7.out.kept g (by simp)
  have B8 : Hid (QBlk w8 w4.heap.size (.bool nb) (.string sb) (.bool db) (.string tb)) := B7.out.kept g (by simp)
  have C8 : Hid (QBlk w8 w5.heap.size (.bool nc) (.string sc) (.bool dc) (.string tc)) := C7.out.kept g (by simp)
  have D8 : Hid (QBlk w8 w6.heap.size (.bool ne) (.string se) (.bool de) (.string te)) := D7.out.kept g (by simp)
  clear g X7 HG7 A7 B7 C7 D7
  clear x0 x1 x2 x3 y0 y1 y2 y3 xl yl
  obtain ⟨x0, x1, x2, x3, y0, y1, y2, y3⟩ := X8.out.cells
  have xl := X8.out.1.lt
  have yl := X8.out.2.lt
  go_wp2_with fail
  refine (HP.out _ _ _ _ _ _ (by exact .inr ⟨rfl, rfl, rfl, rfl, rfl⟩)).mono ?_
  rintro e w9 ⟨rfl, g⟩
  have X9 : Hid (Two w9 w.heap.size (w.heap.size + 1) n d n2 d2 s t s2 t2) := X8.out.kept g
  have HG9 : Hid (w.grownBy w9 none) := grownBy_trans HG8.out g
  have A9 : Hid (QBlk w9 w3.heap.size (.bool na) (.string sa) (.bool da) (.string ta)) := A8.out.kept g (by simp)
  have B9 : Hid (QBlk w9 w4.heap.size (.bool nb) (.string sb) (.bool db) (.string tb)) := B8.out.kept g (by simp)
  have C9 : Hid (QBlk w9 w5.heap.size (.bool nc) (.string sc) (.bool dc) (.string tc)) := C8.out.kept g (by simp)
  have D9 : Hid (QBlk w9 w6.heap.size (.bool ne) (.string se) (.bool de) (.string te)) := D8.out.kept g (by simp)
  clear g X8 HG8 A8 B8 C8 D8
  clear x0 x1 x2 x3 y0 y1 y2 y3 xl yl
  clear HP
  have HZ : Hid (∀ w', w9.grownBy w' none → w'.cell? ⟨w.heap.size, 0, none⟩ = some (.bool n) ∧ w'.cell? ⟨w.heap.size, 1, none⟩ = some (.string s) ∧ w'.cell? ⟨w.heap.size, 2, none⟩ = some (.bool d) ∧ w'.cell? ⟨w.heap.size, 3, none⟩ = some (.string t) ∧ w'.cell? ⟨w.heap.size + 1, 0, none⟩ = some (.bool n2) ∧ w'.cell? ⟨w.heap.size + 1, 1, none⟩ = some (.string s2) ∧ w'.cell? ⟨w.heap.size + 1, 2, none⟩ = some (.bool d2) ∧ w'.cell? ⟨w.heap.size + 1, 3, none⟩ = some (.string t2) ∧ w'.cell? ⟨w3.heap.size, 0, none⟩ = some (.bool na) ∧ w'.cell? ⟨w3.heap.size, 1, none⟩ = some (.string sa) ∧ w'.cell? ⟨w3.heap.size, 2, none⟩ = some (.bool da) ∧ w'.cell? ⟨w3.heap.size, 3, none⟩ = some (.string ta) ∧ w'.cell? ⟨w4.heap.size, 0, none⟩ = some (.bool nb) ∧ w'.cell? ⟨w4.heap.size, 1, none⟩ = some (.string sb) ∧ w'.cell? ⟨w4.heap.size, 2, none⟩ = some (.bool db) ∧ w'.cell? ⟨w4.heap.size, 3, none⟩ = some (.string tb) ∧ w'.cell? ⟨w5.heap.size, 0, none⟩ = some (.bool nc) ∧ w'.cell? ⟨w5.heap.size, 1, none⟩ = some (.string sc) ∧ w'.cell? ⟨w5.heap.size, 2, none⟩ = some (.bool dc) ∧ w'.cell? ⟨w5.heap.size, 3, none⟩ = some (.string tc)) := fun w' g => by
    obtain ⟨x0, x1, x2, x3, y0, y1, y2, y3⟩ := (X9.out.kept g).cells
    exact ⟨x0, x1, x2, x3, y0, y1, y2, y3, (A9.out.kept g (by simp)).c0, (A9.out.kept g (by simp)).c1, (A9.out.kept g (by simp)).c2, (A9.out.kept g (by simp)).c3, (B9.out.kept g (by simp)).c0, (B9.out.kept g (by simp)).c1, (B9.out.kept g (by simp)).c2, (B9.out.kept g (by simp)).c3, (C9.out.kept g (by simp)).c0, (C9.out.kept g (by simp)).c1, (C9.out.kept g (by simp)).c2, (C9.out.kept g (by simp)).c3⟩
  go_wp2_with fail
  go_region_held3 (fun w' => w'.cell? ⟨w.heap.size, 0, none⟩ = some (.bool n) ∧ w'.cell? ⟨w.heap.size, 1, none⟩ = some (.string s) ∧ w'.cell? ⟨w.heap.size, 2, none⟩ = some (.bool d) ∧ w'.cell? ⟨w.heap.size, 3, none⟩ = some (.string t) ∧ w'.cell? ⟨w.heap.size + 1, 0, none⟩ = some (.bool n2) ∧ w'.cell? ⟨w.heap.size + 1, 1, none⟩ = some (.string s2) ∧ w'.cell? ⟨w.heap.size + 1, 2, none⟩ = some (.bool d2) ∧ w'.cell? ⟨w.heap.size + 1, 3, none⟩ = some (.string t2) ∧ w'.cell? ⟨w3.heap.size, 0, none⟩ = some (.bool na) ∧ w'.cell? ⟨w3.heap.size, 1, none⟩ = some (.string sa) ∧ w'.cell? ⟨w3.heap.size, 2, none⟩ = some (.bool da) ∧ w'.cell? ⟨w3.heap.size, 3, none⟩ = some (.string ta) ∧ w'.cell? ⟨w4.heap.size, 0, none⟩ = some (.bool nb) ∧ w'.cell? ⟨w4.heap.size, 1, none⟩ = some (.string sb) ∧ w'.cell? ⟨w4.heap.size, 2, none⟩ = some (.bool db) ∧ w'.cell? ⟨w4.heap.size, 3, none⟩ = some (.string tb) ∧ w'.cell? ⟨w5.heap.size, 0, none⟩ = some (.bool nc) ∧ w'.cell? ⟨w5.heap.size, 1, none⟩ = some (.string sc) ∧ w'.cell? ⟨w5.heap.size, 2, none⟩ = some (.bool dc) ∧ w'.cell? ⟨w5.heap.size, 3, none⟩ = some (.string tc))
    (first | (go_keep; done) | exact HZ.out _ (by assumption) | exact HZ.out _ (grow_drew (World.grownBy.refl _ _)) | fail)
    (first
      | (go_at_call 17; refine (HRa.out _).mono ?_; rintro e v1 ⟨rfl, g⟩; have V1 : w9.grownBy v1 none := (by first | exact g | exact grownBy_undrew g); clear g)
      | (go_at_call 18; refine (HRb.out _).mono ?_; rintro e v3 ⟨rfl, g⟩; have V3 : w9.grownBy v3 none := grownBy_trans V2 g; clear g)
      | (go_at_call 19; refine (HRc.out _).mono ?_; rintro e v5 ⟨rfl, g⟩; have V5 : w9.grownBy v5 none := grownBy_trans V4 g; clear g)
      | (go_at_call 20; refine (HRC.out _).mono ?_; rintro e v7 ⟨rfl, g⟩; have V7 : w9.grownBy v7 none := grownBy_trans V6 g; clear g)
      | (go_at_call 16; first | (have V := V5; refine (HTc.out _).mono ?_; rintro e v6 ⟨rfl, g⟩; have V6 : w9.grownBy v6 none := grownBy_trans V g; clear g V) | (have V := V3; refine (HTb.out _).mono ?_; rintro e v4 ⟨rfl, g⟩; have V4 : w9.grownBy v4 none := grownBy_trans V g; clear g V) | (have V := V1; refine (HTa.out _).mono ?_; rintro e v2 ⟨rfl, g⟩; have V2 : w9.grownBy v2 none := grownBy_trans V g; clear g V))
      | fail)
  have XV : Hid (Two v7 w.heap.size (w.heap.size + 1) n d n2 d2 s t s2 t2) := X9.out.kept V7
  have DV : Hid (QBlk v7 w6.heap.size (.bool ne) (.string se) (.bool de) (.string te)) := D9.out.kept V7 (by simp)
  have HV : Hid (w.grownBy v7 none) := grownBy_trans HG9.out V7
  clear V1 V2 V3 V4 V5 V6 V7 HZ X9 HG9 A9 B9 C9 D9
  obtain ⟨x0, x1, x2, x3, y0, y1, y2, y3⟩ := XV.out.cells
  have xl := XV.out.1.lt
  have yl := XV.out.2.lt
  go_wp2_with fail
  refine (HRS.out _).mono ?_
  rintro e v8 ⟨rfl, g⟩
  have X8 : Hid (Two v8 w.heap.size (w.heap.size + 1) n d n2 d2 s t s2 t2) := XV.out.kept g
  have D8 : Hid (QBlk v8 w6.heap.size (.bool ne) (.string se) (.bool de) (.string te)) := DV.out.kept g (by simp)
  have H8 : Hid (w.grownBy v8 none) := grownBy_trans HV.out g
  clear g XV DV HV
  clear x0 x1 x2 x3 y0 y1 y2 y3 xl yl
  have HZ : Hid (∀ w', v8.grownBy w' none → w'.cell? ⟨w.heap.size, 0, none⟩ = some (.bool n) ∧ w'.cell? ⟨w.heap.size, 1, none⟩ = some (.string s) ∧ w'.cell? ⟨w.heap.size, 2, none⟩ = some (.bool d) ∧ w'.cell? ⟨w.heap.size, 3, none⟩ = some (.string t) ∧ w'.cell? ⟨w.heap.size + 1, 0, none⟩ = some (.bool n2) ∧ w'.cell? ⟨w.heap.size + 1, 1, none⟩ = some (.string s2) ∧ w'.cell? ⟨w.heap.size + 1, 2, none⟩ = some (.bool d2) ∧ w'.cell? ⟨w.heap.size + 1, 3, none⟩ = some (.string t2) ∧ w'.cell? ⟨w6.heap.size, 0, none⟩ = some (.bool ne) ∧ w'.cell? ⟨w6.heap.size, 1, none⟩ = some (.string se) ∧ w'.cell? ⟨w6.heap.size, 2, none⟩ = some (.bool de) ∧ w'.cell? ⟨w6.heap.size, 3, none⟩ = some (.string te)) := fun w' g => by
    obtain ⟨x0, x1, x2, x3, y0, y1, y2, y3⟩ := (X8.out.kept g).cells
    exact ⟨x0, x1, x2, x3, y0, y1, y2, y3, (D8.out.kept g (by simp)).c0, (D8.out.kept g (by simp)).c1, (D8.out.kept g (by simp)).c2, (D8.out.kept g (by simp)).c3⟩
  go_wp2_with fail
  go_region_held3 (fun w' => w'.cell? ⟨w.heap.size, 0, none⟩ = some (.bool n) ∧ w'.cell? ⟨w.heap.size, 1, none⟩ = some (.string s) ∧ w'.cell? ⟨w.heap.size, 2, none⟩ = some (.bool d) ∧ w'.cell? ⟨w.heap.size, 3, none⟩ = some (.string t) ∧ w'.cell? ⟨w.heap.size + 1, 0, none⟩ = some (.bool n2) ∧ w'.cell? ⟨w.heap.size + 1, 1, none⟩ = some (.string s2) ∧ w'.cell? ⟨w.heap.size + 1, 2, none⟩ = some (.bool d2) ∧ w'.cell? ⟨w.heap.size + 1, 3, none⟩ = some (.string t2) ∧ w'.cell? ⟨w6.heap.size, 0, none⟩ = some (.bool ne) ∧ w'.cell? ⟨w6.heap.size, 1, none⟩ = some (.string se) ∧ w'.cell? ⟨w6.heap.size, 2, none⟩ = some (.bool de) ∧ w'.cell? ⟨w6.heap.size, 3, none⟩ = some (.string te))
    (first | (go_keep; done) | exact HZ.out _ (by assumption) | exact HZ.out _ (grow_drew (World.grownBy.refl _ _)) | fail)
    (first
      | (go_at_call 22; refine (HRe.out _).mono ?_; rintro e u1 ⟨rfl, g⟩; have U1 : v8.grownBy u1 none := (by first | exact g | exact grownBy_undrew g); clear g)
      | (go_at_call 16; refine (HTe.out _).mono ?_; rintro e u2 ⟨rfl, g⟩; have U2 : v8.grownBy u2 none := grownBy_trans U1 g; clear g)
      | (go_at_call 8; refine (HK.out _ (grownBy_trans H8.out U2)).mono ?_; rintro e u3 ⟨rfl, g⟩; have U3 : v8.grownBy u3 none := grownBy_trans U2 g; clear g)
      | fail)
  go_wp2_with fail
  go_ret
  exact ⟨rfl, grownBy_trans H8.out U3⟩
end Go.Proofs.YtgemkfiippooeaaGreatDoor
