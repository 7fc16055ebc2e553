/-
  FracRules, of what is too long or may not be.
  FracRules, of three that may be, the second 0.
  FracRules, of three that may be.
-/
import Derived.Test.YtgemkfiippooeaaGreatDoorBunFre
namespace Go.Proofs.YtgemkfiippooeaaGreatDoor
open Go.RowKit Go.Lib Go.Sort
set_option linter.unusedVariables false

set_option maxHeartbeats 6400000 in
set_option maxRecDepth 1000000 in
theorem rules_long (n1 d1 n2 d2 n3 d3 : Bool) (s1 t1 s2 t2 s3 t3 : ByteArray) (w : World)
    (HL : Hid (∀ (W : World) (B : Nat), W.heap[B]? = some (.cells #[.bool n1, .string s1, .bool d1, .string t1, .bool n2, .string s2, .bool d2, .string t2, .bool n3, .string s3, .bool d3, .string t3] 25 (0, 0)) → Calls Tryz.prog 7 #[.int .i64 150, .slice (some ⟨B, 0, none⟩) 3 3] W fun e w' => e = .returned (.bool true) ∧ W.grownBy w' none))
    (HK : Hid (∀ W, w.grownBy W none → Calls Tryz.prog 8 #[] W fun e w' => e = .returned (.bool true) ∧ W.grownBy w' none)) :
    Calls Tryz.prog 6 #[frac n1 s1 d1 t1, frac n2 s2 d2 t2, frac n3 s3 d3 t3] w fun e w' => e = .returned (.bool true) ∧ w.grownBy w' none := by
  go_enter Tryz.func6, Tryz.ntmps6
  go_wp2_with fail
  refine (HL.out _ _ ?hb).mono ?_
  case hb => first | exact at_alloc4 _ _ _ _ _ | (have := at_alloc4 w (qObj n1 s1 d1 t1) (qObj n2 s2 d2 t2) (qObj n3 s3 d3 t3) (.cells #[.bool n1, .string s1, .bool d1, .string t1, .bool n2, .string s2, .bool d2, .string t2, .bool n3, .string s3, .bool d3, .string t3] 25); simpa using this)
  rintro e w1 ⟨rfl, g⟩
  have Xb1 : Hid (QBlk w1 w.heap.size (.bool n1) (.string s1) (.bool d1) (.string t1)) := QBlk.kept (old_alloc _ _ (old_alloc _ _ (at_alloc1 _ _ _))) g (by simp)
  have Yb1 : Hid (QBlk w1 (w.heap.size + 1) (.bool n2) (.string s2) (.bool d2) (.string t2)) := QBlk.kept (old_alloc _ _ (at_alloc2 _ _ _ _)) g (by simp)
  have Zb1 : Hid (QBlk w1 (w.heap.size + 2) (.bool n3) (.string s3) (.bool d3) (.string t3)) := QBlk.kept (old_alloc _ _ (at_alloc3 _ _ _ _)) g (by simp)
  have HG1 : Hid (w.grownBy w1 none) := grownBy_trans (grownBy_trans (grow3 _ _ _ _) (grow1 _ _)) g
  clear g HL
  go_wp2_with fail
  refine (HK.out _ HG1.out).mono ?_
  rintro e w2 ⟨rfl, g⟩
  go_wp2_with fail
  go_ret
  exact ⟨rfl, grownBy_trans HG1.out g⟩

set_option maxHeartbeats 6400000 in
set_option maxRecDepth 1000000 in
theorem rules_noX (n1 d1 n2 d2 n3 d3 : Bool) (s1 t1 s2 t2 s3 t3 : ByteArray) (w : World)
    (HL : Hid (∀ (W : World) (B : Nat), W.heap[B]? = some (.cells #[.bool n1, .string s1, .bool d1, .string t1, .bool n2, .string s2, .bool d2, .string t2, .bool n3, .string s3, .bool d3, .string t3] 25 (0, 0)) → Calls Tryz.prog 7 #[.int .i64 150, .slice (some ⟨B, 0, none⟩) 3 3] W fun e w' => e = .returned (.bool false) ∧ W.grownBy w' none))
    (HM0 : Hid (∀ w, Calls Tryz.prog 15 #[frac n1 s1 d1 t1] w fun e w' => e = .returned (.bool false) ∧ w.grownBy w' none))
    (HK : Hid (∀ W, w.grownBy W none → Calls Tryz.prog 8 #[] W fun e w' => e = .returned (.bool true) ∧ W.grownBy w' none)) :
    Calls Tryz.prog 6 #[frac n1 s1 d1 t1, frac n2 s2 d2 t2, frac n3 s3 d3 t3] w fun e w' => e = .returned (.bool true) ∧ w.grownBy w' none := by
  go_enter Tryz.func6, Tryz.ntmps6
  go_wp2_with fail
  refine (HL.out _ _ ?hb).mono ?_
  case hb => first | exact at_alloc4 _ _ _ _ _ | (have := at_alloc4 w (qObj n1 s1 d1 t1) (qObj n2 s2 d2 t2) (qObj n3 s3 d3 t3) (.cells #[.bool n1, .string s1, .bool d1, .string t1, .bool n2, .string s2, .bool d2, .string t2, .bool n3, .string s3, .bool d3, .string t3] 25); simpa using this)
  rintro e w1 ⟨rfl, g⟩
  have Xb1 : Hid (QBlk w1 w.heap.size (.bool n1) (.string s1) (.bool d1) (.string t1)) := QBlk.kept (old_alloc _ _ (old_alloc _ _ (at_alloc1 _ _ _))) g (by simp)
  have Yb1 : Hid (QBlk w1 (w.heap.size + 1) (.bool n2) (.string s2) (.bool d2) (.string t2)) := QBlk.kept (old_alloc _ _ (at_alloc2 _ _ _ _)) g (by simp)
  have Zb1 : Hid (QBlk w1 (w.heap.size + 2) (.bool n3) (.string s3) (.bool d3) (.string t3)) := QBlk.kept (old_alloc _ _ (at_alloc3 _ _ _ _)) g (by simp)
  have HG1 : Hid (w.grownBy w1 none) := grownBy_trans (grownBy_trans (grow3 _ _ _ _) (grow1 _ _)) g
  clear g HL
  have xc0 := Xb1.out.c0
  have xc1 := Xb1.out.c1
  have xc2 := Xb1.out.c2
  have xc3 := Xb1.out.c3
  have xl := Xb1.out.lt
  go_wp2_with fail
  refine (HM0.out _).mono ?_
  rintro e w2 ⟨rfl, g⟩
  have Xb2 : Hid (QBlk w2 w.heap.size (.bool n1) (.string s1) (.bool d1) (.string t1)) := Xb1.out.kept g (by simp)
  have Yb2 : Hid (QBlk w2 (w.heap.size + 1) (.bool n2) (.string s2) (.bool d2) (.string t2)) := Yb1.out.kept g (by simp)
  have Zb2 : Hid (QBlk w2 (w.heap.size + 2) (.bool n3) (.string s3) (.bool d3) (.string t3)) := Zb1.out.kept g (by simp)
  have HG2 : Hid (w.grownBy w2 none) := grownBy_trans HG1.out g
  clear g HG1 Xb1 Yb1 Zb1 xc0 xc1 xc2 xc3 xl
  go_wp2_with fail
  refine (HK.out _ HG2.out).mono ?_
  rintro e w3 ⟨rfl, g⟩
  go_wp2_with fail
  go_ret
  exact ⟨rfl, grownBy_trans HG2.out g⟩

set_option maxHeartbeats 6400000 in
set_option maxRecDepth 1000000 in
theorem rules_noY (n1 d1 n2 d2 n3 d3 : Bool) (s1 t1 s2 t2 s3 t3 : ByteArray) (w : World)
    (HL : Hid (∀ (W : World) (B : Nat), W.heap[B]? = some (.cells #[.bool n1, .string s1, .bool d1, .string t1, .bool n2, .string s2, .bool d2, .string t2, .bool n3, .string s3, .bool d3, .string t3] 25 (0, 0)) → Calls Tryz.prog 7 #[.int .i64 150, .slice (some ⟨B, 0, none⟩) 3 3] W fun e w' => e = .returned (.bool false) ∧ W.grownBy w' none))
    (HM0 : Hid (∀ w, Calls Tryz.prog 15 #[frac n1 s1 d1 t1] w fun e w' => e = .returned (.bool true) ∧ w.grownBy w' none))
    (HM1 : Hid (∀ w, Calls Tryz.prog 15 #[frac n2 s2 d2 t2] w fun e w' => e = .returned (.bool false) ∧ w.grownBy w' none))
    (HK : Hid (∀ W, w.grownBy W none → Calls Tryz.prog 8 #[] W fun e w' => e = .returned (.bool true) ∧ W.grownBy w' none)) :
    Calls Tryz.prog 6 #[frac n1 s1 d1 t1, frac n2 s2 d2 t2, frac n3 s3 d3 t3] w fun e w' => e = .returned (.bool true) ∧ w.grownBy w' none := by
  go_enter Tryz.func6, Tryz.ntmps6
  go_wp2_with fail
  refine (HL.out _ _ ?hb).mono ?_
  case hb => first | exact at_alloc4 _ _ _ _ _ | (have := at_alloc4 w (qObj n1 s1 d1 t1) (qObj n2 s2 d2 t2) (qObj n3 s3 d3 t3) (.cells #[.bool n1, .string s1, .bool d1, .string t1, .bool n2, .string s2, .bool d2, .string t2, .bool n3, .string s3, .bool d3, .string t3] 25); simpa using this)
  rintro e w1 ⟨rfl, g⟩
  have Xb1 : Hid (QBlk w1 w.heap.size (.bool n1) (.string s1) (.bool d1) (.string t1)) := QBlk.kept (old_alloc _ _ (old_alloc _ _ (at_alloc1 _ _ _))) g (by simp)
  have Yb1 : Hid (QBlk w1 (w.heap.size + 1) (.bool n2) (.string s2) (.bool d2) (.string t2)) := QBlk.kept (old_alloc _ _ (at_alloc2 _ _ _ _)) g (by simp)
  have Zb1 : Hid (QBlk w1 (w.heap.size + 2) (.bool n3) (.string s3) (.bool d3) (.string t3)) := QBlk.kept (old_alloc _ _ (at_alloc3 _ _ _ _)) g (by simp)
  have HG1 : Hid (w.grownBy w1 none) := grownBy_trans (grownBy_trans (grow3 _ _ _ _) (grow1 _ _)) g
  clear g HL
  have xc0 := Xb1.out.c0
  have xc1 := Xb1.out.c1
  have xc2 := Xb1.out.c2
  have xc3 := Xb1.out.c3
  have xl := Xb1.out.lt
  go_wp2_with fail
  refine (HM0.out _).mono ?_
  rintro e w2 ⟨rfl, g⟩
  have Xb2 : Hid (QBlk w2 w.heap.size (.bool n1) (.string s1) (.bool d1) (.string t1)) := Xb1.out.kept g (by simp)
  have Yb2 : Hid (QBlk w2 (w.heap.size + 1) (.bool n2) (.string s2) (.bool d2) (.string t2)) := Yb1.out.kept g (by simp)
  have Zb2 : Hid (QBlk w2 (w.heap.size + 2) (.bool n3) (.string s3) (.bool d3) (.string t3)) := Zb1.out.kept g (by simp)
  have HG2 : Hid (w.grownBy w2 none) := grownBy_trans HG1.out g
  clear g HG1 Xb1 Yb1 Zb1 xc0 xc1 xc2 xc3 xl
  have yc0 := Yb2.out.c0
  have yc1 := Yb2.out.c1
  have yc2 := Yb2.out.c2
  have yc3 := Yb2.out.c3
  have yl := Yb2.out.lt
  go_wp2_with fail
  refine (HM1.out _).mono ?_
  rintro e w3 ⟨rfl, g⟩
  have Xb3 : Hid (QBlk w3 w.heap.size (.bool n1) (.string s1) (.bool d1) (.string t1)) := Xb2.out.kept g (by simp)
  have Yb3 : Hid (QBlk w3 (w.heap.size + 1) (.bool n2) (.string s2) (.bool d2) (.string t2)) := Yb2.out.kept g (by simp)
  have Zb3 : Hid (QBlk w3 (w.heap.size + 2) (.bool n3) (.string s3) (.bool d3) (.string t3)) := Zb2.out.kept g (by simp)
  have HG3 : Hid (w.grownBy w3 none) := grownBy_trans HG2.out g
  clear g HG2 Xb2 Yb2 Zb2 yc0 yc1 yc2 yc3 yl
  go_wp2_with fail
  refine (HK.out _ HG3.out).mono ?_
  rintro e w4 ⟨rfl, g⟩
  go_wp2_with fail
  go_ret
  exact ⟨rfl, grownBy_trans HG3.out g⟩

set_option maxHeartbeats 6400000 in
set_option maxRecDepth 1000000 in
theorem rules_noZ (n1 d1 n2 d2 n3 d3 : Bool) (s1 t1 s2 t2 s3 t3 : ByteArray) (w : World)
    (HL : Hid (∀ (W : World) (B : Nat), W.heap[B]? = some (.cells #[.bool n1, .string s1, .bool d1, .string t1, .bool n2, .string s2, .bool d2, .string t2, .bool n3, .string s3, .bool d3, .string t3] 25 (0, 0)) → Calls Tryz.prog 7 #[.int .i64 150, .slice (some ⟨B, 0, none⟩) 3 3] W fun e w' => e = .returned (.bool false) ∧ W.grownBy w' none))
    (HM0 : Hid (∀ w, Calls Tryz.prog 15 #[frac n1 s1 d1 t1] w fun e w' => e = .returned (.bool true) ∧ w.grownBy w' none))
    (HM1 : Hid (∀ w, Calls Tryz.prog 15 #[frac n2 s2 d2 t2] w fun e w' => e = .returned (.bool true) ∧ w.grownBy w' none))
    (HM2 : Hid (∀ w, Calls Tryz.prog 15 #[frac n3 s3 d3 t3] w fun e w' => e = .returned (.bool false) ∧ w.grownBy w' none))
    (HK : Hid (∀ W, w.grownBy W none → Calls Tryz.prog 8 #[] W fun e w' => e = .returned (.bool true) ∧ W.grownBy w' none)) :
    Calls Tryz.prog 6 #[frac n1 s1 d1 t1, frac n2 s2 d2 t2, frac n3 s3 d3 t3] w fun e w' => e = .returned (.bool true) ∧ w.grownBy w' none := by
  go_enter Tryz.func6, Tryz.ntmps6
  go_wp2_with fail
  refine (HL.out _ _ ?hb).mono ?_
  case hb => first | exact at_alloc4 _ _ _ _ _ | (have := at_alloc4 w (qObj n1 s1 d1 t1) (qObj n2 s2 d2 t2) (qObj n3 s3 d3 t3) (.cells #[.bool n1, .string s1, .bool d1, .string t1, .bool n2, .string s2, .bool d2, .string t2, .bool n3, .string s3, .bool d3, .string t3] 25); simpa using this)
  rintro e w1 ⟨rfl, g⟩
  have Xb1 : Hid (QBlk w1 w.heap.size (.bool n1) (.string s1) (.bool d1) (.string t1)) := QBlk.kept (old_alloc _ _ (old_alloc _ _ (at_alloc1 _ _ _))) g (by simp)
  have Yb1 : Hid (QBlk w1 (w.heap.size + 1) (.bool n2) (.string s2) (.bool d2) (.string t2)) := QBlk.kept (old_alloc _ _ (at_alloc2 _ _ _ _)) g (by simp)
  have Zb1 : Hid (QBlk w1 (w.heap.size + 2) (.bool n3) (.string s3) (.bool d3) (.string t3)) := QBlk.kept (old_alloc _ _ (at_alloc3 _ _ _ _)) g (by simp)
  have HG1 : Hid (w.grownBy w1 none) := grownBy_trans (grownBy_trans (grow3 _ _ _ _) (grow1 _ _)) g
  clear g HL
  have xc0 := Xb1.out.c0
  have xc1 := Xb1.out.c1
  have xc2 := Xb1.out.c2
  have xc3 := Xb1.out.c3
  have xl := Xb1.out.lt
  go_wp2_with fail
  refine (HM0.out _).mono ?_
  rintro e w2 ⟨rfl, g⟩
  have Xb2 : Hid (QBlk w2 w.heap.size (.bool n1) (.string s1) (.bool d1) (.string t1)) := Xb1.out.kept g (by simp)
  have Yb2 : Hid (QBlk w2 (w.heap.size + 1) (.bool n2) (.string s2) (.bool d2) (.string t2)) := Yb1.out.kept g (by simp)
  have Zb2 : Hid (QBlk w2 (w.heap.size + 2) (.bool n3) (.string s3) (.bool d3) (.string t3)) := Zb1.out.kept g (by simp)
  have HG2 : Hid (w.grownBy w2 none) := grownBy_trans HG1.out g
  clear g HG1 Xb1 Yb1 Zb1 xc0 xc1 xc2 xc3 xl
  have yc0 := Yb2.out.c0
  have yc1 := Yb2.out.c1
  have yc2 := Yb2.out.c2
  have yc3 := Yb2.out.c3
  have yl := Yb2.out.lt
  go_wp2_with fail
  refine (HM1.out _).mono ?_
  rintro e w3 ⟨rfl, g⟩
  have Xb3 : Hid (QBlk w3 w.heap.size (.bool n1) (.string s1) (.bool d1) (.string t1)) := Xb2.out.kept g (by simp)
  have Yb3 : Hid (QBlk w3 (w.heap.size + 1) (.bool n2) (.string s2) (.bool d2) (.string t2)) := Yb2.out.kept g (by simp)
  have Zb3 : Hid (QBlk w3 (w.heap.size + 2) (.bool n3) (.string s3) (.bool d3) (.string t3)) := Zb2.out.kept g (by simp)
  have HG3 : Hid (w.grownBy w3 none) := grownBy_trans HG2.out g
  clear g HG2 Xb2 Yb2 Zb2 yc0 yc1 yc2 yc3 yl
  have zc0 := Zb3.out.c0
  have zc1 := Zb3.out.c1
  have zc2 := Zb3.out.c2
  have zc3 := Zb3.out.c3
  have zl := Zb3.out.lt
  go_wp2_with fail
  refine (HM2.out _).mono ?_
  rintro e w4 ⟨rfl, g⟩
  have Xb4 : Hid (QBlk w4 w.heap.size (.bool n1) (.string s1) (.bool d1) (.string t1)) := Xb3.out.kept g (by simp)
  have Yb4 : Hid (QBlk w4 (w.heap.size + 1) (.bool n2) (.string s2) (.bool d2) (.string t2)) := Yb3.out.kept g (by simp)
  have Zb4 : Hid (QBlk w4 (w.heap.size + 2) (.bool n3) (.string s3) (.bool d3) (.string t3)) := Zb3.out.kept g (by simp)
  have HG4 : Hid (w.grownBy w4 none) := grownBy_trans HG3.out g
  clear g HG3 Xb3 Yb3 Zb3 zc0 zc1 zc2 zc3 zl
  go_wp2_with fail
  refine (HK.out _ HG4.out).mono ?_
  rintro e w5 ⟨rfl, g⟩
  go_wp2_with fail
  go_ret
  exact ⟨rfl, grownBy_trans HG4.out g⟩
end Go.Proofs.YtgemkfiippooeaaGreatDoor

namespace Go.Proofs.YtgemkfiippooeaaGreatDoor
open Go.RowKit Go.Lib Go.Sort
set_option linter.unusedVariables false

set_option maxHeartbeats 12800000 in
set_option maxRecDepth 1000000 in
theorem rules_zero (n1 d1 n2 d2 n3 d3 na da nb db nc dc np dp nq dq nr dr : Bool) (s1 t1 s2 t2 s3 t3 sa ta sb tb sc tc sp tp sq tq sr tr : ByteArray) (gx my mz : Int) (hm0 : -1 ≤ my) (hm1 : my ≤ 1) (w : World)
    (HL : Hid (∀ (W : World) (B : Nat), W.heap[B]? = some (.cells #[.bool n1, .string s1, .bool d1, .string t1, .bool n2, .string s2, .bool d2, .string t2, .bool n3, .string s3, .bool d3, .string t3] 25 (0, 0)) → Calls Tryz.prog 7 #[.int .i64 150, .slice (some ⟨B, 0, none⟩) 3 3] W fun e w' => e = .returned (.bool false) ∧ W.grownBy w' none))
    (HM0 : Hid (∀ w, Calls Tryz.prog 15 #[frac n1 s1 d1 t1] w fun e w' => e = .returned (.bool true) ∧ w.grownBy w' none))
    (HM1 : Hid (∀ w, Calls Tryz.prog 15 #[frac n2 s2 d2 t2] w fun e w' => e = .returned (.bool true) ∧ w.grownBy w' none))
    (HM2 : Hid (∀ w, Calls Tryz.prog 15 #[frac n3 s3 d3 t3] w fun e w' => e = .returned (.bool true) ∧ w.grownBy w' none))
    (H1 : Hid (∀ w, Calls Tryz.prog 10 #[frac n1 s1 d1 t1, frac n2 s2 d2 t2] w fun e w' => e = .returned (.tuple #[frac na sa da ta, .int .i64 0]) ∧ w.grownBy w' none))
    (H2 : Hid (∀ w, Calls Tryz.prog 10 #[frac n2 s2 d2 t2, frac n1 s1 d1 t1] w fun e w' => e = .returned (.tuple #[frac na sa da ta, .int .i64 0]) ∧ w.grownBy w' none))
    (H3 : Hid (∀ w, Calls Tryz.prog 10 #[frac n2 s2 d2 t2, frac n3 s3 d3 t3] w fun e w' => e = .returned (.tuple #[frac nb sb db tb, .int .i64 0]) ∧ w.grownBy w' none))
    (H4 : Hid (∀ w, Calls Tryz.prog 10 #[frac na sa da ta, frac n3 s3 d3 t3] w fun e w' => e = .returned (.tuple #[frac nc sc dc tc, .int .i64 0]) ∧ w.grownBy w' none))
    (H5 : Hid (∀ w, Calls Tryz.prog 10 #[frac n1 s1 d1 t1, frac nb sb db tb] w fun e w' => e = .returned (.tuple #[frac nc sc dc tc, .int .i64 0]) ∧ w.grownBy w' none))
    (H6 : Hid (∀ w, Calls Tryz.prog 12 #[frac n1 s1 d1 t1, frac n2 s2 d2 t2] w fun e w' => e = .returned (.tuple #[frac np sp dp tp, .int .i64 0]) ∧ w.grownBy w' none))
    (H7 : Hid (∀ w, Calls Tryz.prog 12 #[frac n1 s1 d1 t1, frac n3 s3 d3 t3] w fun e w' => e = .returned (.tuple #[frac nq sq dq tq, .int .i64 0]) ∧ w.grownBy w' none))
    (H8 : Hid (∀ w, Calls Tryz.prog 12 #[frac n1 s1 d1 t1, frac nb sb db tb] w fun e w' => e = .returned (.tuple #[frac nr sr dr tr, .int .i64 0]) ∧ w.grownBy w' none))
    (H9 : Hid (∀ w, Calls Tryz.prog 10 #[frac np sp dp tp, frac nq sq dq tq] w fun e w' => e = .returned (.tuple #[frac nr sr dr tr, .int .i64 0]) ∧ w.grownBy w' none))
    (HS : Hid (∀ w, Calls Tryz.prog 42 #[frac nr sr dr tr, .int .i64 0, frac nr sr dr tr, .int .i64 0] w fun e w' => e = .returned (.bool true) ∧ w.grownBy w' none))
    (H10 : Hid (∀ w, Calls Tryz.prog 11 #[frac na sa da ta, frac n2 s2 d2 t2] w fun e w' => e = .returned (.tuple #[frac n1 s1 d1 t1, .int .i64 0]) ∧ w.grownBy w' none))
    (H11 : Hid (∀ w, Calls Tryz.prog 32 #[frac n2 s2 d2 t2] w fun e w' => e = .returned (.int .i64 0) ∧ w.grownBy w' none))
    (H13 : Hid (∀ w, Calls Tryz.prog 14 #[frac n1 s1 d1 t1, frac n2 s2 d2 t2] w fun e w' => e = .returned (.tuple #[.int .i64 (-my), .int .i64 0]) ∧ w.grownBy w' none))
    (H14 : Hid (∀ w, Calls Tryz.prog 14 #[frac nc sc dc tc, frac nb sb db tb] w fun e w' => e = .returned (.tuple #[.int .i64 gx, .int .i64 0]) ∧ w.grownBy w' none))
    (H15 : Hid (∀ w, Calls Tryz.prog 14 #[frac na sa da ta, frac nb sb db tb] w fun e w' => e = .returned (.tuple #[.int .i64 mz, .int .i64 0]) ∧ w.grownBy w' none))
    (H16 : Hid (∀ w, Calls Tryz.prog 32 #[frac n1 s1 d1 t1] w fun e w' => e = .returned (.int .i64 gx) ∧ w.grownBy w' none))
    (H17 : Hid (∀ w, Calls Tryz.prog 43 #[frac n1 s1 d1 t1, frac n3 s3 d3 t3] w fun e w' => e = .returned (.int .i64 mz) ∧ w.grownBy w' none))
    (H18 : Hid (∀ w, Calls Tryz.prog 43 #[frac n2 s2 d2 t2, frac n1 s1 d1 t1] w fun e w' => e = .returned (.int .i64 my) ∧ w.grownBy w' none))
    (HK : Hid (∀ W, w.grownBy W none → Calls Tryz.prog 8 #[] W fun e w' => e = .returned (.bool true) ∧ W.grownBy w' none)) :
    Calls Tryz.prog 6 #[frac n1 s1 d1 t1, frac n2 s2 d2 t2, frac n3 s3 d3 t3] w fun e w' => e = .returned (.bool true) ∧ w.grownBy w' none := by
  go_enter Tryz.func6, Tryz.ntmps6
  go_wp2_with fail
  refine (HL.out _ _ ?hb).mono ?_
  case hb => first | exact at_alloc4 _ _ _ _ _ | (have := at_alloc4 w (qObj n1 s1 d1 t1) (qObj n2 s2 d2 t2) (qObj n3 s3 d3 t3) (.cells #[.bool n1, .string s1, .bool d1, .string t1, .bool n2, .string s2, .bool d2, .string t2, .bool n3, .string s3, .bool d3, .string t3] 25); simpa using this)
  rintro e w1 ⟨rfl, g⟩
  have Xb1 : Hid (QBlk w1 w.heap.size (.bool n1) (.string s1) (.bool d1) (.string t1)) := QBlk.kept (old_alloc _ _ (old_alloc _ _ (at_alloc1 _ _ _))) g (by simp)
  have Yb1 : Hid (QBlk w1 (w.heap.size + 1) (.bool n2) (.string s2) (.bool d2) (.string t2)) := QBlk.kept (old_alloc _ _ (at_alloc2 _ _ _ _)) g (by simp)
  have Zb1 : Hid (QBlk w1 (w.heap.size + 2) (.bool n3) (.string s3) (.bool d3) (.string t3)) := QBlk.kept (old_alloc _ _ (at_alloc3 _ _ _ _)) g (by simp)
  have HG1 : Hid (w.grownBy w1 none) := grownBy_trans (grownBy_trans (grow3 _ _ _ _) (grow1 _ _)) g
  clear g HL
  have xc0 := Xb1.out.c0
  have xc1 := Xb1.out.c1
  have xc2 := Xb1.out.c2
  have xc3 := Xb1.out.c3
  have xl := Xb1.out.lt
  go_wp2_with fail
  refine (HM0.out _).mono ?_
  rintro e w2 ⟨rfl, g⟩
  have Xb2 : Hid (QBlk w2 w.heap.size (.bool n1) (.string s1) (.bool d1) (.string t1)) := Xb1.out.kept g (by simp)
  have Yb2 : Hid (QBlk w2 (w.heap.size + 1) (.bool n2) (.string s2) (.bool d2) (.string t2)) := Yb1.out.kept g (by simp)
  have Zb2 : Hid (QBlk w2 (w.heap.size + 2) (.bool n3) (.string s3) (.bool d3) (.string t3)) := Zb1.out.kept g (by simp)
  have HG2 : Hid (w.grownBy w2 none) := grownBy_trans HG1.out g
  clear g HG1 Xb1 Yb1 Zb1 xc0 xc1 xc2 xc3 xl
  have yc0 := Yb2.out.c0
  have yc1 := Yb2.out.c1
  have yc2 := Yb2.out.c2
  have yc3 := Yb2.out.c3
  have yl := Yb2.out.lt
  go_wp2_with fail
  refine (HM1.out _).mono ?_
  rintro e w3 ⟨rfl, g⟩
  have Xb3 : Hid (QBlk w3 w.heap.size (.bool n1) (.string s1) (.bool d1) (.string t1)) := Xb2.out.kept g (by simp)
  have Yb3 : Hid (QBlk w3 (w.heap.size + 1) (.bool n2) (.string s2) (.bool d2) (.string t2)) := Yb2.out.kept g (by simp)
  have Zb3 : Hid (QBlk w3 (w.heap.size + 2) (.bool n3) (.string s3) (.bool d3) (.string t3)) := Zb2.out.kept g (by simp)
  have HG3 : Hid (w.grownBy w3 none) := grownBy_trans HG2.out g
  clear g HG2 Xb2 Yb2 Zb2 yc0 yc1 yc2 yc3 yl
  have zc0 := Zb3.out.c0
  have zc1 := Zb3.out.c1
  have zc2 := Zb3.out.c2
  have zc3 := Zb3.out.c3
  have zl := Zb3.out.lt
  go_wp2_with fail
  refine (HM2.out _).mono ?_
  rintro e w4 ⟨rfl, g⟩
  have Xb4 : Hid (QBlk w4 w.heap.size (.bool n1) (.string s1) (.bool d1) (.string t1)) := Xb3.out.kept g (by simp)
  have Yb4 : Hid (QBlk w4 (w.heap.size + 1) (.bool n2) (.string s2) (.bool d2) (.string t2)) := Yb3.out.kept g (by simp)
  have Zb4 : Hid (QBlk w4 (w.heap.size + 2) (.bool n3) (.string s3) (.bool d3) (.string t3)) := Zb3.out.kept g (by simp)
  have HG4 : Hid (w.grownBy w4 none) := grownBy_trans HG3.out g
  clear g HG3 Xb3 Yb3 Zb3 zc0 zc1 zc2 zc3 zl
  have xc0 := Xb4.out.c0
  have xc1 := Xb4.out.c1
  have xc2 := Xb4.out.c2
  have xc3 := Xb4.out.c3
  have xl := Xb4.out.lt
  have yc0 := Yb4.out.c0
  have yc1 := Yb4.out.c1
  have yc2 := Yb4.out.c2
  have yc3 := Yb4.out.c3
  have yl := Yb4.out.lt
  go_wp2_with fail
  refine (H1.out _).mono ?_
  rintro e w5 ⟨rfl, g⟩
  have Xb5 : Hid (QBlk w5 w.heap.size (.bool n1) (.string s1) (.bool d1) (.string t1)) := Xb4.out.kept g (by simp)
  have Yb5 : Hid (QBlk w5 (w.heap.size + 1) (.bool n2) (.string s2) (.bool d2) (.string t2)) := Yb4.out.kept g (by simp)
  have Zb5 : Hid (QBlk w5 (w.heap.size + 2) (.bool n3) (.string s3) (.bool d3) (.string t3)) := Zb4.out.kept g (by simp)
  have HG5 : Hid (w.grownBy w5 none) := grownBy_trans HG4.out g
  clear g HG4 Xb4 Yb4 Zb4 xc0 xc1 xc2 xc3 xl yc0 yc1 yc2 yc3 yl
  have yc0 := Yb5.out.c0
  have yc1 := Yb5.out.c1
  have yc2 := Yb5.out.c2
  have yc3 := Yb5.out.c3
  have yl := Yb5.out.lt
  have xc0 := Xb5.out.c0
  have xc1 := Xb5.out.c1
  have xc2 := Xb5.out.c2
  have xc3 := Xb5.out.c3
  have xl := Xb5.out.lt
  go_wp2_with fail
  refine (H2.out _).mono ?_
  rintro e w6 ⟨rfl, g⟩
  have Xb6 : Hid (QBlk w6 w.heap.size (.bool n1) (.string s1) (.bool d1) (.string t1)) := Xb5.out.kept (grownBy_trans (grow1 _ _) g) (by simp)
  have Yb6 : Hid (QBlk w6 (w.heap.size + 1) (.bool n2) (.string s2) (.bool d2) (.string t2)) := Yb5.out.kept (grownBy_trans (grow1 _ _) g) (by simp)
  have Zb6 : Hid (QBlk w6 (w.heap.size + 2) (.bool n3) (.string s3) (.bool d3) (.string t3)) := Zb5.out.kept (grownBy_trans (grow1 _ _) g) (by simp)
  have Ab6 : Hid (QBlk w6 w5.heap.size (.bool na) (.string sa) (.bool da) (.string ta)) := QBlk.kept (heap_alloc_new _ _) g (by simp)
  have HG6 : Hid (w.grownBy w6 none) := grownBy_trans HG5.out (grownBy_trans (grow1 _ _) g)
  clear g HG5 Xb5 Yb5 Zb5 yc0 yc1 yc2 yc3 yl xc0 xc1 xc2 xc3 xl
  have yc0 := Yb6.out.c0
  have yc1 := Yb6.out.c1
  have yc2 := Yb6.out.c2
  have yc3 := Yb6.out.c3
  have yl := Yb6.out.lt
  have zc0 := Zb6.out.c0
  have zc1 := Zb6.out.c1
  have zc2 := Zb6.out.c2
  have zc3 := Zb6.out.c3
  have zl := Zb6.out.lt
  go_wp2_with fail
  refine (H3.out _).mono ?_
  rintro e w7 ⟨rfl, g⟩
  have Xb7 : Hid (QBlk w7 w.heap.size (.bool n1) (.string s1) (.bool d1) (.string t1)) := Xb6.out.kept (grownBy_trans (grow1 _ _) g) (by simp)
  have Yb7 : Hid (QBlk w7 (w.heap.size + 1) (.bool n2) (.string s2) (.bool d2) (.string t2)) := Yb6.out.kept (grownBy_trans (grow1 _ _) g) (by simp)
  have Zb7 : Hid (QBlk w7 (w.heap.size + 2) (.bool n3) (.string s3) (.bool d3) (.string t3)) := Zb6.out.kept (grownBy_trans (grow1 _ _) g) (by simp)
  have Ab7 : Hid (QBlk w7 w5.heap.size (.bool na) (.string sa) (.bool da) (.string ta)) := Ab6.out.kept (grownBy_trans (grow1 _ _) g) (by simp)
  have Db7 : Hid (QBlk w7 w6.heap.size (.bool na) (.string sa) (.bool da) (.string ta)) := QBlk.kept (heap_alloc_new _ _) g (by simp)
  have HG7 : Hid (w.grownBy w7 none) := grownBy_trans HG6.out (grownBy_trans (grow1 _ _) g)
  clear g HG6 Xb6 Yb6 Zb6 Ab6 yc0 yc1 yc2 yc3 yl zc0 zc1 zc2 zc3 zl
  have ac0 := Ab7.out.c0
  have ac1 := Ab7.out.c1
  have ac2 := Ab7.out.c2
  have ac3 := Ab7.out.c3
  have al := Ab7.out.lt
  have zc0 := Zb7.out.c0
  have zc1 := Zb7.out.c1
  have zc2 := Zb7.out.c2
  have zc3 := Zb7.out.c3
  have zl := Zb7.out.lt
  go_wp2_with fail
  refine (H4.out _).mono ?_
  rintro e w8 ⟨rfl, g⟩
  have Xb8 : Hid (QBlk w8 w.heap.size (.bool n1) (.string s1) (.bool d1) (.string t1)) := Xb7.out.kept (grownBy_trans (grow1 _ _) g) (by simp)
  have Yb8 : Hid (QBlk w8 (w.heap.size + 1) (.bool n2) (.string s2) (.bool d2) (.string t2)) := Yb7.out.kept (grownBy_trans (grow1 _ _) g) (by simp)
  have Zb8 : Hid (QBlk w8 (w.heap.size + 2) (.bool n3) (.string s3) (.bool d3) (.string t3)) := Zb7.out.kept (grownBy_trans (grow1 _ _) g) (by simp)
  have Ab8 : Hid (QBlk w8 w5.heap.size (.bool na) (.string sa) (.bool da) (.string ta)) := Ab7.out.kept (grownBy_trans (grow1 _ _) g) (by simp)
  have Db8 : Hid (QBlk w8 w6.heap.size (.bool na) (.string sa) (.bool da) (.string ta)) := Db7.out.kept (grownBy_trans (grow1 _ _) g) (by simp)
  have Bb8 : Hid (QBlk w8 w7.heap.size (.bool nb) (.string sb) (.bool db) (.string tb)) := QBlk.kept (heap_alloc_new _ _) g (by simp)
  have HG8 : Hid (w.grownBy w8 none) := grownBy_trans HG7.out (grownBy_trans (grow1 _ _) g)
  clear g HG7 Xb7 Yb7 Zb7 Ab7 Db7 ac0 ac1 ac2 ac3 al zc0 zc1 zc2 zc3 zl
  have xc0 := Xb8.out.c0
  have xc1 := Xb8.out.c1
  have xc2 := Xb8.out.c2
  have xc3 := Xb8.out.c3
  have xl := Xb8.out.lt
  have bc0 := Bb8.out.c0
  have bc1 := Bb8.out.c1
  have bc2 := Bb8.out.c2
  have bc3 := Bb8.out.c3
  have bl := Bb8.out.lt
  go_wp2_with fail
  refine (H5.out _).mono ?_
  rintro e w9 ⟨rfl, g⟩
  have Xb9 : Hid (QBlk w9 w.heap.size (.bool n1) (.string s1) (.bool d1) (.string t1)) := Xb8.out.kept (grownBy_trans (grow1 _ _) g) (by simp)
  have Yb9 : Hid (QBlk w9 (w.heap.size + 1) (.bool n2) (.string s2) (.bool d2) (.string t2)) := Yb8.out.kept (grownBy_trans (grow1 _ _) g) (by simp)
  have Zb9 : Hid (QBlk w9 (w.heap.size + 2) (.bool n3) (.string s3) (.bool d3) (.string t3)) := Zb8.out.kept (grownBy_trans (grow1 _ _) g) (by simp)
  have Ab9 : Hid (QBlk w9 w5.heap.size (.bool na) (.string sa) (.bool da) (.string ta)) := Ab8.out.kept (grownBy_trans (grow1 _ _) g) (by simp)
  have Db9 : Hid (QBlk w9 w6.heap.size (.bool na) (.string sa) (.bool da) (.string ta)) := Db8.out.kept (grownBy_trans (grow1 _ _) g) (by simp)
  have Bb9 : Hid (QBlk w9 w7.heap.size (.bool nb) (.string sb) (.bool db) (.string tb)) := Bb8.out.kept (grownBy_trans (grow1 _ _) g) (by simp)
  have Cb9 : Hid (QBlk w9 w8.heap.size (.bool nc) (.string sc) (.bool dc) (.string tc)) := QBlk.kept (heap_alloc_new _ _) g (by simp)
  have HG9 : Hid (w.grownBy w9 none) := grownBy_trans HG8.out (grownBy_trans (grow1 _ _) g)
  clear g HG8 Xb8 Yb8 Zb8 Ab8 Db8 Bb8 xc0 xc1 xc2 xc3 xl bc0 bc1 bc2 bc3 bl
  have ac0 := Ab9.out.c0
  have ac1 := Ab9.out.c1
  have ac2 := Ab9.out.c2
  have ac3 := Ab9.out.c3
  have al := Ab9.out.lt
  have dc0 := Db9.out.c0
  have dc1 := Db9.out.c1
  have dc2 := Db9.out.c2
  have dc3 := Db9.out.c3
  have dl := Db9.out.lt
  have cc0 := Cb9.out.c0
  have cc1 := Cb9.out.c1
  have cc2 := Cb9.out.c2
  have cc3 := Cb9.out.c3
  have cl := Cb9.out.lt
  have xc0 := Xb9.out.c0
  have xc1 := Xb9.out.c1
  have xc2 := Xb9.out.c2
  have xc3 := Xb9.out.c3
  have xl := Xb9.out.lt
  have yc0 := Yb9.out.c0
  have yc1 := Yb9.out.c1
  have yc2 := Yb9.out.c2
  have yc3 := Yb9.out.c3
  have yl := Yb9.out.lt
  go_wp2_with fail
  refine (H6.out _).mono ?_
  rintro e w10 ⟨rfl, g⟩
  have Xb10 : Hid (QBlk w10 w.heap.size (.bool n1) (.string s1) (.bool d1) (.string t1)) := Xb9.out.kept (grownBy_trans (grow1 _ _) g) (by simp)
  have Yb10 : Hid (QBlk w10 (w.heap.size + 1) (.bool n2) (.string s2) (.bool d2) (.string t2)) := Yb9.out.kept (grownBy_trans (grow1 _ _) g) (by simp)
  have Zb10 : Hid (QBlk w10 (w.heap.size + 2) (.bool n3) (.string s3) (.bool d3) (.string t3)) := Zb9.out.kept (grownBy_trans (grow1 _ _) g) (by simp)
  have Ab10 : Hid (QBlk w10 w5.heap.size (.bool na) (.string sa) (.bool da) (.string ta)) := Ab9.out.kept (grownBy_trans (grow1 _ _) g) (by simp)
  have Db10 : Hid (QBlk w10 w6.heap.size (.bool na) (.string sa) (.bool da) (.string ta)) := Db9.out.kept (grownBy_trans (grow1 _ _) g) (by simp)
  have Bb10 : Hid (QBlk w10 w7.heap.size (.bool nb) (.string sb) (.bool db) (.string tb)) := Bb9.out.kept (grownBy_trans (grow1 _ _) g) (by simp)
  have Cb10 : Hid (QBlk w10 w8.heap.size (.bool nc) (.string sc) (.bool dc) (.string tc)) := Cb9.out.kept (grownBy_trans (grow1 _ _) g) (by simp)
  have Eb10 : Hid (QBlk w10 w9.heap.size (.bool nc) (.string sc) (.bool dc) (.string tc)) := QBlk.kept (heap_alloc_new _ _) g (by simp)
  have HG10 : Hid (w.grownBy w10 none) := grownBy_trans HG9.out (grownBy_trans (grow1 _ _) g)
  clear g HG9 Xb9 Yb9 Zb9 Ab9 Db9 Bb9 Cb9 ac0 ac1 ac2 ac3 al dc0 dc1 dc2 dc3 dl cc0 cc1 cc2 cc3 cl xc0 xc1 xc2 xc3 xl yc0 yc1 yc2 yc3 yl
  clear Eb10
  have xc0 := Xb10.out.c0
  have xc1 := Xb10.out.c1
  have xc2 := Xb10.out.c2
  have xc3 := Xb10.out.c3
  have xl := Xb10.out.lt
  have zc0 := Zb10.out.c0
  have zc1 := Zb10.out.c1
  have zc2 := Zb10.out.c2
  have zc3 := Zb10.out.c3
  have zl := Zb10.out.lt
  go_wp2_with fail
  refine (H7.out _).mono ?_
  rintro e w11 ⟨rfl, g⟩
  have Xb11 : Hid (QBlk w11 w.heap.size (.bool n1) (.string s1) (.bool d1) (.string t1)) := Xb10.out.kept (grownBy_trans (grow1 _ _) g) (by simp)
  have Yb11 : Hid (QBlk w11 (w.heap.size + 1) (.bool n2) (.string s2) (.bool d2) (.string t2)) := Yb10.out.kept (grownBy_trans (grow1 _ _) g) (by simp)
  have Zb11 : Hid (QBlk w11 (w.heap.size + 2) (.bool n3) (.string s3) (.bool d3) (.string t3)) := Zb10.out.kept (grownBy_trans (grow1 _ _) g) (by simp)
  have Ab11 : Hid (QBlk w11 w5.heap.size (.bool na) (.string sa) (.bool da) (.string ta)) := Ab10.out.kept (grownBy_trans (grow1 _ _) g) (by simp)
  have Db11 : Hid (QBlk w11 w6.heap.size (.bool na) (.string sa) (.bool da) (.string ta)) := Db10.out.kept (grownBy_trans (grow1 _ _) g) (by simp)
  have Bb11 : Hid (QBlk w11 w7.heap.size (.bool nb) (.string sb) (.bool db) (.string tb)) := Bb10.out.kept (grownBy_trans (grow1 _ _) g) (by simp)
  have Cb11 : Hid (QBlk w11 w8.heap.size (.bool nc) (.string sc) (.bool dc) (.string tc)) := Cb10.out.kept (grownBy_trans (grow1 _ _) g) (by simp)
  have Pb11 : Hid (QBlk w11 w10.heap.size (.bool np) (.string sp) (.bool dp) (.string tp)) := QBlk.kept (heap_alloc_new _ _) g (by simp)
  have HG11 : Hid (w.grownBy w11 none) := grownBy_trans HG10.out (grownBy_trans (grow1 _ _) g)
  clear g HG10 Xb10 Yb10 Zb10 Ab10 Db10 Bb10 Cb10 xc0 xc1 xc2 xc3 xl zc0 zc1 zc2 zc3 zl
  have xc0 := Xb11.out.c0
  have xc1 := Xb11.out.c1
  have xc2 := Xb11.out.c2
  have xc3 := Xb11.out.c3
  have xl := Xb11.out.lt
  have bc0 := Bb11.out.c0
  have bc1 := Bb11.out.c1
  have bc2 := Bb11.out.c2
  have bc3 := Bb11.out.c3
  have bl := Bb11.out.lt
  go_wp2_with fail
  refine (H8.out _).mono ?_
  rintro e w12 ⟨rfl, g⟩
  have Xb12 : Hid (QBlk w12 w.heap.size (.bool n1) (.string s1) (.bool d1) (.string t1)) := Xb11.out.kept (grownBy_trans (grow1 _ _) g) (by simp)
  have Yb12 : Hid (QBlk w12 (w.heap.size + 1) (.bool n2) (.string s2) (.bool d2) (.string t2)) := Yb11.out.kept (grownBy_trans (grow1 _ _) g) (by simp)
  have Zb12 : Hid (QBlk w12 (w.heap.size + 2) (.bool n3) (.string s3) (.bool d3) (.string t3)) := Zb11.out.kept (grownBy_trans (grow1 _ _) g) (by simp)
  have Ab12 : Hid (QBlk w12 w5.heap.size (.bool na) (.string sa) (.bool da) (.string ta)) := Ab11.out.kept (grownBy_trans (grow1 _ _) g) (by simp)
  have Db12 : Hid (QBlk w12 w6.heap.size (.bool na) (.string sa) (.bool da) (.string ta)) := Db11.out.kept (grownBy_trans (grow1 _ _) g) (by simp)
  have Bb12 : Hid (QBlk w12 w7.heap.size (.bool nb) (.string sb) (.bool db) (.string tb)) := Bb11.out.kept (grownBy_trans (grow1 _ _) g) (by simp)
  have Cb12 : Hid (QBlk w12 w8.heap.size (.bool nc) (.string sc) (.bool dc) (.string tc)) := Cb11.out.kept (grownBy_trans (grow1 _ _) g) (by simp)
  have Pb12 : Hid (QBlk w12 w10.heap.size (.bool np) (.string sp) (.bool dp) (.string tp)) := Pb11.out.kept (grownBy_trans (grow1 _ _) g) (by simp)
  have Qb12 : Hid (QBlk w12 w11.heap.size (.bool nq) (.string sq) (.bool dq) (.string tq)) := QBlk.kept (heap_alloc_new _ _) g (by simp)
  have HG12 : Hid (w.grownBy w12 none) := grownBy_trans HG11.out (grownBy_trans (grow1 _ _) g)
  clear g HG11 Xb11 Yb11 Zb11 Ab11 Db11 Bb11 Cb11 Pb11 xc0 xc1 xc2 xc3 xl bc0 bc1 bc2 bc3 bl
  have pc0 := Pb12.out.c0
  have pc1 := Pb12.out.c1
  have pc2 := Pb12.out.c2
  have pc3 := Pb12.out.c3
  have pl := Pb12.out.lt
  have qc0 := Qb12.out.c0
  have qc1 := Qb12.out.c1
  have qc2 := Qb12.out.c2
  have qc3 := Qb12.out.c3
  have ql := Qb12.out.lt
  go_wp2_with fail
  refine (H9.out _).mono ?_
  rintro e w13 ⟨rfl, g⟩
  have Xb13 : Hid (QBlk w13 w.heap.size (.bool n1) (.string s1) (.bool d1) (.string t1)) := Xb12.out.kept (grownBy_trans (grow1 _ _) g) (by simp)
  have Yb13 : Hid (QBlk w13 (w.heap.size + 1) (.bool n2) (.string s2) (.bool d2) (.string t2)) := Yb12.out.kept (grownBy_trans (grow1 _ _) g) (by simp)
  have Zb13 : Hid (QBlk w13 (w.heap.size + 2) (.bool n3) (.string s3) (.bool d3) (.string t3)) := Zb12.out.kept (grownBy_trans (grow1 _ _) g) (by simp)
  have Ab13 : Hid (QBlk w13 w5.heap.size (.bool na) (.string sa) (.bool da) (.string ta)) := Ab12.out.kept (grownBy_trans (grow1 _ _) g) (by simp)
  have Db13 : Hid (QBlk w13 w6.heap.size (.bool na) (.string sa) (.bool da) (.string ta)) := Db12.out.kept (grownBy_trans (grow1 _ _) g) (by simp)
  have Bb13 : Hid (QBlk w13 w7.heap.size (.bool nb) (.string sb) (.bool db) (.string tb)) := Bb12.out.kept (grownBy_trans (grow1 _ _) g) (by simp)
  have Cb13 : Hid (QBlk w13 w8.heap.size (.bool nc) (.string sc) (.bool dc) (.string tc)) := Cb12.out.kept (grownBy_trans (grow1 _ _) g) (by simp)
  have Pb13 : Hid (QBlk w13 w10.heap.size (.bool np) (.string sp) (.bool dp) (.string tp)) := Pb12.out.kept (grownBy_trans (grow1 _ _) g) (by simp)
  have Qb13 : Hid (QBlk w13 w11.heap.size (.bool nq) (.string sq) (.bool dq) (.string tq)) := Qb12.out.kept (grownBy_trans (grow1 _ _) g) (by simp)
  have Rb13 : Hid (QBlk w13 w12.heap.size (.bool nr) (.string sr) (.bool dr) (.string tr)) := QBlk.kept (heap_alloc_new _ _) g (by simp)
  have HG13 : Hid (w.grownBy w13 none) := grownBy_trans HG12.out (grownBy_trans (grow1 _ _) g)
  clear g HG12 Xb12 Yb12 Zb12 Ab12 Db12 Bb12 Cb12 Pb12 Qb12 pc0 pc1 pc2 pc3 pl qc0 qc1 qc2 qc3 ql
  have rc0 := Rb13.out.c0
  have rc1 := Rb13.out.c1
  have rc2 := Rb13.out.c2
  have rc3 := Rb13.out.c3
  have rl := Rb13.out.lt
  go_wp2_with fail
  refine (HS.out _).mono ?_
  rintro e w14 ⟨rfl, g⟩
  have Xb14 : Hid (QBlk w14 w.heap.size (.bool n1) (.string s1) (.bool d1) (.string t1)) := Xb13.out.kept (grownBy_trans (grow1 _ _) g) (by simp)
  have Yb14 : Hid (QBlk w14 (w.heap.size + 1) (.bool n2) (.string s2) (.bool d2) (.string t2)) := Yb13.out.kept (grownBy_trans (grow1 _ _) g) (by simp)
  have Zb14 : Hid (QBlk w14 (w.heap.size + 2) (.bool n3) (.string s3) (.bool d3) (.string t3)) := Zb13.out.kept (grownBy_trans (grow1 _ _) g) (by simp)
  have Ab14 : Hid (QBlk w14 w5.heap.size (.bool na) (.string sa) (.bool da) (.string ta)) := Ab13.out.kept (grownBy_trans (grow1 _ _) g) (by simp)
  have Db14 : Hid (QBlk w14 w6.heap.size (.bool na) (.string sa) (.bool da) (.string ta)) := Db13.out.kept (grownBy_trans (grow1 _ _) g) (by simp)
  have Bb14 : Hid (QBlk w14 w7.heap.size (.bool nb) (.string sb) (.bool db) (.string tb)) := Bb13.out.kept (grownBy_trans (grow1 _ _) g) (by simp)
  have Cb14 : Hid (QBlk w14 w8.heap.size (.bool nc) (.string sc) (.bool dc) (.string tc)) := Cb13.out.kept (grownBy_trans (grow1 _ _) g) (by simp)
  have Pb14 : Hid (QBlk w14 w10.heap.size (.bool np) (.string sp) (.bool dp) (.string tp)) := Pb13.out.kept (grownBy_trans (grow1 _ _) g) (by simp)
  have Qb14 : Hid (QBlk w14 w11.heap.size (.bool nq) (.string sq) (.bool dq) (.string tq)) := Qb13.out.kept (grownBy_trans (grow1 _ _) g) (by simp)
  have Rb14 : Hid (QBlk w14 w12.heap.size (.bool nr) (.string sr) (.bool dr) (.string tr)) := Rb13.out.kept (grownBy_trans (grow1 _ _) g) (by simp)
  have Sb14 : Hid (QBlk w14 w13.heap.size (.bool nr) (.string sr) (.bool dr) (.string tr)) := QBlk.kept (heap_alloc_new _ _) g (by simp)
  have HG14 : Hid (w.grownBy w14 none) := grownBy_trans HG13.out (grownBy_trans (grow1 _ _) g)
  clear g HG13 Xb13 Yb13 Zb13 Ab13 Db13 Bb13 Cb13 Pb13 Qb13 Rb13 rc0 rc1 rc2 rc3 rl
  clear Qb14 Rb14 Sb14
  have ac0 := Ab14.out.c0
  have ac1 := Ab14.out.c1
  have ac2 := Ab14.out.c2
  have ac3 := Ab14.out.c3
  have al := Ab14.out.lt
  have yc0 := Yb14.out.c0
  have yc1 := Yb14.out.c1
  have yc2 := Yb14.out.c2
  have yc3 := Yb14.out.c3
  have yl := Yb14.out.lt
  go_wp2_with fail
  refine (H10.out _).mono ?_
  rintro e w15 ⟨rfl, g⟩
  have Xb15 : Hid (QBlk w15 w.heap.size (.bool n1) (.string s1) (.bool d1) (.string t1)) := Xb14.out.kept g (by simp)
  have Yb15 : Hid (QBlk w15 (w.heap.size + 1) (.bool n2) (.string s2) (.bool d2) (.string t2)) := Yb14.out.kept g (by simp)
  have Zb15 : Hid (QBlk w15 (w.heap.size + 2) (.bool n3) (.string s3) (.bool d3) (.string t3)) := Zb14.out.kept g (by simp)
  have Ab15 : Hid (QBlk w15 w5.heap.size (.bool na) (.string sa) (.bool da) (.string ta)) := Ab14.out.kept g (by simp)
  have Db15 : Hid (QBlk w15 w6.heap.size (.bool na) (.string sa) (.bool da) (.string ta)) := Db14.out.kept g (by simp)
  have Bb15 : Hid (QBlk w15 w7.heap.size (.bool nb) (.string sb) (.bool db) (.string tb)) := Bb14.out.kept g (by simp)
  have Cb15 : Hid (QBlk w15 w8.heap.size (.bool nc) (.string sc) (.bool dc) (.string tc)) := Cb14.out.kept g (by simp)
  have Pb15 : Hid (QBlk w15 w10.heap.size (.bool np) (.string sp) (.bool dp) (.string tp)) := Pb14.out.kept g (by simp)
  have HG15 : Hid (w.grownBy w15 none) := grownBy_trans HG14.out g
  clear g HG14 Xb14 Yb14 Zb14 Ab14 Db14 Bb14 Cb14 Pb14 ac0 ac1 ac2 ac3 al yc0 yc1 yc2 yc3 yl
  have xc0 := Xb15.out.c0
  have xc1 := Xb15.out.c1
  have xc2 := Xb15.out.c2
  have xc3 := Xb15.out.c3
  have xl := Xb15.out.lt
  have yc0 := Yb15.out.c0
  have yc1 := Yb15.out.c1
  have yc2 := Yb15.out.c2
  have yc3 := Yb15.out.c3
  have yl := Yb15.out.lt
  go_wp2_with fail
  refine (H11.out _).mono ?_
  rintro e w16 ⟨rfl, g⟩
  have Xb16 : Hid (QBlk w16 w.heap.size (.bool n1) (.string s1) (.bool d1) (.string t1)) := Xb15.out.kept (grownBy_trans (grow1 _ _) g) (by simp)
  have Yb16 : Hid (QBlk w16 (w.heap.size + 1) (.bool n2) (.string s2) (.bool d2) (.string t2)) := Yb15.out.kept (grownBy_trans (grow1 _ _) g) (by simp)
  have Zb16 : Hid (QBlk w16 (w.heap.size + 2) (.bool n3) (.string s3) (.bool d3) (.string t3)) := Zb15.out.kept (grownBy_trans (grow1 _ _) g) (by simp)
  have Ab16 : Hid (QBlk w16 w5.heap.size (.bool na) (.string sa) (.bool da) (.string ta)) := Ab15.out.kept (grownBy_trans (grow1 _ _) g) (by simp)
  have Db16 : Hid (QBlk w16 w6.heap.size (.bool na) (.string sa) (.bool da) (.string ta)) := Db15.out.kept (grownBy_trans (grow1 _ _) g) (by simp)
  have Bb16 : Hid (QBlk w16 w7.heap.size (.bool nb) (.string sb) (.bool db) (.string tb)) := Bb15.out.kept (grownBy_trans (grow1 _ _) g) (by simp)
  have Cb16 : Hid (QBlk w16 w8.heap.size (.bool nc) (.string sc) (.bool dc) (.string tc)) := Cb15.out.kept (grownBy_trans (grow1 _ _) g) (by simp)
  have Pb16 : Hid (QBlk w16 w10.heap.size (.bool np) (.string sp) (.bool dp) (.string tp)) := Pb15.out.kept (grownBy_trans (grow1 _ _) g) (by simp)
  have Tb16 : Hid (QBlk w16 w15.heap.size (.bool n1) (.string s1) (.bool d1) (.string t1)) := QBlk.kept (heap_alloc_new _ _) g (by simp)
  have HG16 : Hid (w.grownBy w16 none) := grownBy_trans HG15.out (grownBy_trans (grow1 _ _) g)
  clear g HG15 Xb15 Yb15 Zb15 Ab15 Db15 Bb15 Cb15 Pb15 xc0 xc1 xc2 xc3 xl yc0 yc1 yc2 yc3 yl
  clear Ab16
  have xc0 := Xb16.out.c0
  have xc1 := Xb16.out.c1
  have xc2 := Xb16.out.c2
  have xc3 := Xb16.out.c3
  have xl := Xb16.out.lt
  have yc0 := Yb16.out.c0
  have yc1 := Yb16.out.c1
  have yc2 := Yb16.out.c2
  have yc3 := Yb16.out.c3
  have yl := Yb16.out.lt
  go_wp2_with fail
  refine (H13.out _).mono ?_
  rintro e w17 ⟨rfl, g⟩
  have Xb17 : Hid (QBlk w17 w.heap.size (.bool n1) (.string s1) (.bool d1) (.string t1)) := Xb16.out.kept g (by simp)
  have Yb17 : Hid (QBlk w17 (w.heap.size + 1) (.bool n2) (.string s2) (.bool d2) (.string t2)) := Yb16.out.kept g (by simp)
  have Zb17 : Hid (QBlk w17 (w.heap.size + 2) (.bool n3) (.string s3) (.bool d3) (.string t3)) := Zb16.out.kept g (by simp)
  have Db17 : Hid (QBlk w17 w6.heap.size (.bool na) (.string sa) (.bool da) (.string ta)) := Db16.out.kept g (by simp)
  have Bb17 : Hid (QBlk w17 w7.heap.size (.bool nb) (.string sb) (.bool db) (.string tb)) := Bb16.out.kept g (by simp)
  have Cb17 : Hid (QBlk w17 w8.heap.size (.bool nc) (.string sc) (.bool dc) (.string tc)) := Cb16.out.kept g (by simp)
  have Pb17 : Hid (QBlk w17 w10.heap.size (.bool np) (.string sp) (.bool dp) (.string tp)) := Pb16.out.kept g (by simp)
  have Tb17 : Hid (QBlk w17 w15.heap.size (.bool n1) (.string s1) (.bool d1) (.string t1)) := Tb16.out.kept g (by simp)
  have HG17 : Hid (w.grownBy w17 none) := grownBy_trans HG16.out g
  clear g HG16 Xb16 Yb16 Zb16 Db16 Bb16 Cb16 Pb16 Tb16 xc0 xc1 xc2 xc3 xl yc0 yc1 yc2 yc3 yl
  have cc0 := Cb17.out.c0
  have cc1 := Cb17.out.c1
  have cc2 := Cb17.out.c2
  have cc3 := Cb17.out.c3
  have cl := Cb17.out.lt
  have bc0 := Bb17.out.c0
  have bc1 := Bb17.out.c1
  have bc2 := Bb17.out.c2
  have bc3 := Bb17.out.c3
  have bl := Bb17.out.lt
  go_wp2_with fail
  refine (H14.out _).mono ?_
  rintro e w18 ⟨rfl, g⟩
  have Xb18 : Hid (QBlk w18 w.heap.size (.bool n1) (.string s1) (.bool d1) (.string t1)) := Xb17.out.kept g (by simp)
  have Yb18 : Hid (QBlk w18 (w.heap.size + 1) (.bool n2) (.string s2) (.bool d2) (.string t2)) := Yb17.out.kept g (by simp)
  have Zb18 : Hid (QBlk w18 (w.heap.size + 2) (.bool n3) (.string s3) (.bool d3) (.string t3)) := Zb17.out.kept g (by simp)
  have Db18 : Hid (QBlk w18 w6.heap.size (.bool na) (.string sa) (.bool da) (.string ta)) := Db17.out.kept g (by simp)
  have Bb18 : Hid (QBlk w18 w7.heap.size (.bool nb) (.string sb) (.bool db) (.string tb)) := Bb17.out.kept g (by simp)
  have Cb18 : Hid (QBlk w18 w8.heap.size (.bool nc) (.string sc) (.bool dc) (.string tc)) := Cb17.out.kept g (by simp)
  have Pb18 : Hid (QBlk w18 w10.heap.size (.bool np) (.string sp) (.bool dp) (.string tp)) := Pb17.out.kept g (by simp)
  have Tb18 : Hid (QBlk w18 w15.heap.size (.bool n1) (.string s1) (.bool d1) (.string t1)) := Tb17.out.kept g (by simp)
  have HG18 : Hid (w.grownBy w18 none) := grownBy_trans HG17.out g
  clear g HG17 Xb17 Yb17 Zb17 Db17 Bb17 Cb17 Pb17 Tb17 cc0 cc1 cc2 cc3 cl bc0 bc1 bc2 bc3 bl
  have dc0 := Db18.out.c0
  have dc1 := Db18.out.c1
  have dc2 := Db18.out.c2
  have dc3 := Db18.out.c3
  have dl := Db18.out.lt
  have bc0 := Bb18.out.c0
  have bc1 := Bb18.out.c1
  have bc2 := Bb18.out.c2
  have bc3 := Bb18.out.c3
  have bl := Bb18.out.lt
  go_wp2_with fail
  refine (H15.out _).mono ?_
  rintro e w19 ⟨rfl, g⟩
  have Xb19 : Hid (QBlk w19 w.heap.size (.bool n1) (.string s1) (.bool d1) (.string t1)) := Xb18.out.kept g (by simp)
  have Yb19 : Hid (QBlk w19 (w.heap.size + 1) (.bool n2) (.string s2) (.bool d2) (.string t2)) := Yb18.out.kept g (by simp)
  have Zb19 : Hid (QBlk w19 (w.heap.size + 2) (.bool n3) (.string s3) (.bool d3) (.string t3)) := Zb18.out.kept g (by simp)
  have Db19 : Hid (QBlk w19 w6.heap.size (.bool na) (.string sa) (.bool da) (.string ta)) := Db18.out.kept g (by simp)
  have Bb19 : Hid (QBlk w19 w7.heap.size (.bool nb) (.string sb) (.bool db) (.string tb)) := Bb18.out.kept g (by simp)
  have Cb19 : Hid (QBlk w19 w8.heap.size (.bool nc) (.string sc) (.bool dc) (.string tc)) := Cb18.out.kept g (by simp)
  have Pb19 : Hid (QBlk w19 w10.heap.size (.bool np) (.string sp) (.bool dp) (.string tp)) := Pb18.out.kept g (by simp)
  have Tb19 : Hid (QBlk w19 w15.heap.size (.bool n1) (.string s1) (.bool d1) (.string t1)) := Tb18.out.kept g (by simp)
  have HG19 : Hid (w.grownBy w19 none) := grownBy_trans HG18.out g
  clear g HG18 Xb18 Yb18 Zb18 Db18 Bb18 Cb18 Pb18 Tb18 dc0 dc1 dc2 dc3 dl bc0 bc1 bc2 bc3 bl
  have xc0 := Xb19.out.c0
  have xc1 := Xb19.out.c1
  have xc2 := Xb19.out.c2
  have xc3 := Xb19.out.c3
  have xl := Xb19.out.lt
  go_wp2_with fail
  refine (H16.out _).mono ?_
  rintro e w20 ⟨rfl, g⟩
  have Xb20 : Hid (QBlk w20 w.heap.size (.bool n1) (.string s1) (.bool d1) (.string t1)) := Xb19.out.kept g (by simp)
  have Yb20 : Hid (QBlk w20 (w.heap.size + 1) (.bool n2) (.string s2) (.bool d2) (.string t2)) := Yb19.out.kept g (by simp)
  have Zb20 : Hid (QBlk w20 (w.heap.size + 2) (.bool n3) (.string s3) (.bool d3) (.string t3)) := Zb19.out.kept g (by simp)
  have Db20 : Hid (QBlk w20 w6.heap.size (.bool na) (.string sa) (.bool da) (.string ta)) := Db19.out.kept g (by simp)
  have Bb20 : Hid (QBlk w20 w7.heap.size (.bool nb) (.string sb) (.bool db) (.string tb)) := Bb19.out.kept g (by simp)
  have Cb20 : Hid (QBlk w20 w8.heap.size (.bool nc) (.string sc) (.bool dc) (.string tc)) := Cb19.out.kept g (by simp)
  have Pb20 : Hid (QBlk w20 w10.heap.size (.bool np) (.string sp) (.bool dp) (.string tp)) := Pb19.out.kept g (by simp)
  have Tb20 : Hid (QBlk w20 w15.heap.size (.bool n1) (.string s1) (.bool d1) (.string t1)) := Tb19.out.kept g (by simp)
  have HG20 : Hid (w.grownBy w20 none) := grownBy_trans HG19.out g
  clear g HG19 Xb19 Yb19 Zb19 Db19 Bb19 Cb19 Pb19 Tb19 xc0 xc1 xc2 xc3 xl
  have xc0 := Xb20.out.c0
  have xc1 := Xb20.out.c1
  have xc2 := Xb20.out.c2
  have xc3 := Xb20.out.c3
  have xl := Xb20.out.lt
  have zc0 := Zb20.out.c0
  have zc1 := Zb20.out.c1
  have zc2 := Zb20.out.c2
  have zc3 := Zb20.out.c3
  have zl := Zb20.out.lt
  go_wp2_with fail
  refine (H17.out _).mono ?_
  rintro e w21 ⟨rfl, g⟩
  have Xb21 : Hid (QBlk w21 w.heap.size (.bool n1) (.string s1) (.bool d1) (.string t1)) := Xb20.out.kept g (by simp)
  have Yb21 : Hid (QBlk w21 (w.heap.size + 1) (.bool n2) (.string s2) (.bool d2) (.string t2)) := Yb20.out.kept g (by simp)
  have Zb21 : Hid (QBlk w21 (w.heap.size + 2) (.bool n3) (.string s3) (.bool d3) (.string t3)) := Zb20.out.kept g (by simp)
  have Db21 : Hid (QBlk w21 w6.heap.size (.bool na) (.string sa) (.bool da) (.string ta)) := Db20.out.kept g (by simp)
  have Bb21 : Hid (QBlk w21 w7.heap.size (.bool nb) (.string sb) (.bool db) (.string tb)) := Bb20.out.kept g (by simp)
  have Cb21 : Hid (QBlk w21 w8.heap.size (.bool nc) (.string sc) (.bool dc) (.string tc)) := Cb20.out.kept g (by simp)
  have Pb21 : Hid (QBlk w21 w10.heap.size (.bool np) (.string sp) (.bool dp) (.string tp)) := Pb20.out.kept g (by simp)
  have Tb21 : Hid (QBlk w21 w15.heap.size (.bool n1) (.string s1) (.bool d1) (.string t1)) := Tb20.out.kept g (by simp)
  have HG21 : Hid (w.grownBy w21 none) := grownBy_trans HG20.out g
  clear g HG20 Xb20 Yb20 Zb20 Db20 Bb20 Cb20 Pb20 Tb20 xc0 xc1 xc2 xc3 xl zc0 zc1 zc2 zc3 zl
  have yc0 := Yb21.out.c0
  have yc1 := Yb21.out.c1
  have yc2 := Yb21.out.c2
  have yc3 := Yb21.out.c3
  have yl := Yb21.out.lt
  have xc0 := Xb21.out.c0
  have xc1 := Xb21.out.c1
  have xc2 := Xb21.out.c2
  have xc3 := Xb21.out.c3
  have xl := Xb21.out.lt
  go_wp2_with fail
  refine (H18.out _).mono ?_
  rintro e w22 ⟨rfl, g⟩
  have Xb22 : Hid (QBlk w22 w.heap.size (.bool n1) (.string s1) (.bool d1) (.string t1)) := Xb21.out.kept g (by simp)
  have Yb22 : Hid (QBlk w22 (w.heap.size + 1) (.bool n2) (.string s2) (.bool d2) (.string t2)) := Yb21.out.kept g (by simp)
  have Zb22 : Hid (QBlk w22 (w.heap.size + 2) (.bool n3) (.string s3) (.bool d3) (.string t3)) := Zb21.out.kept g (by simp)
  have Db22 : Hid (QBlk w22 w6.heap.size (.bool na) (.string sa) (.bool da) (.string ta)) := Db21.out.kept g (by simp)
  have Bb22 : Hid (QBlk w22 w7.heap.size (.bool nb) (.string sb) (.bool db) (.string tb)) := Bb21.out.kept g (by simp)
  have Cb22 : Hid (QBlk w22 w8.heap.size (.bool nc) (.string sc) (.bool dc) (.string tc)) := Cb21.out.kept g (by simp)
  have Pb22 : Hid (QBlk w22 w10.heap.size (.bool np) (.string sp) (.bool dp) (.string tp)) := Pb21.out.kept g (by simp)
  have Tb22 : Hid (QBlk w22 w15.heap.size (.bool n1) (.string s1) (.bool d1) (.string t1)) := Tb21.out.kept g (by simp)
  have HG22 : Hid (w.grownBy w22 none) := grownBy_trans HG21.out g
  clear g HG21 Xb21 Yb21 Zb21 Db21 Bb21 Cb21 Pb21 Tb21 yc0 yc1 yc2 yc3 yl xc0 xc1 xc2 xc3 xl
  go_wp2_with fail
  refine (HK.out _ HG22.out).mono ?_
  rintro e w23 ⟨rfl, g⟩
  go_wp2_with fail
  go_ret
  exact ⟨rfl, grownBy_trans HG22.out g⟩
end Go.Proofs.YtgemkfiippooeaaGreatDoor

namespace Go.Proofs.YtgemkfiippooeaaGreatDoor
open Go.RowKit Go.Lib Go.Sort
set_option linter.unusedVariables false

set_option maxHeartbeats 12800000 in
set_option maxRecDepth 1000000 in
theorem rules_yes (n1 d1 n2 d2 n3 d3 na da nb db nc dc np dp nq dq nr dr : Bool) (s1 t1 s2 t2 s3 t3 sa ta sb tb sc tc sp tp sq tq sr tr : ByteArray) (gx gy my mz : Int) (hgy : ¬ gy = 0) (hm0 : -1 ≤ my) (hm1 : my ≤ 1) (w : World)
    (HL : Hid (∀ (W : World) (B : Nat), W.heap[B]? = some (.cells #[.bool n1, .string s1, .bool d1, .string t1, .bool n2, .string s2, .bool d2, .string t2, .bool n3, .string s3, .bool d3, .string t3] 25 (0, 0)) → Calls Tryz.prog 7 #[.int .i64 150, .slice (some ⟨B, 0, none⟩) 3 3] W fun e w' => e = .returned (.bool false) ∧ W.grownBy w' none))
    (HM0 : Hid (∀ w, Calls Tryz.prog 15 #[frac n1 s1 d1 t1] w fun e w' => e = .returned (.bool true) ∧ w.grownBy w' none))
    (HM1 : Hid (∀ w, Calls Tryz.prog 15 #[frac n2 s2 d2 t2] w fun e w' => e = .returned (.bool true) ∧ w.grownBy w' none))
    (HM2 : Hid (∀ w, Calls Tryz.prog 15 #[frac n3 s3 d3 t3] w fun e w' => e = .returned (.bool true) ∧ w.grownBy w' none))
    (H1 : Hid (∀ w, Calls Tryz.prog 10 #[frac n1 s1 d1 t1, frac n2 s2 d2 t2] w fun e w' => e = .returned (.tuple #[frac na sa da ta, .int .i64 0]) ∧ w.grownBy w' none))
    (H2 : Hid (∀ w, Calls Tryz.prog 10 #[frac n2 s2 d2 t2, frac n1 s1 d1 t1] w fun e w' => e = .returned (.tuple #[frac na sa da ta, .int .i64 0]) ∧ w.grownBy w' none))
    (H3 : Hid (∀ w, Calls Tryz.prog 10 #[frac n2 s2 d2 t2, frac n3 s3 d3 t3] w fun e w' => e = .returned (.tuple #[frac nb sb db tb, .int .i64 0]) ∧ w.grownBy w' none))
    (H4 : Hid (∀ w, Calls Tryz.prog 10 #[frac na sa da ta, frac n3 s3 d3 t3] w fun e w' => e = .returned (.tuple #[frac nc sc dc tc, .int .i64 0]) ∧ w.grownBy w' none))
    (H5 : Hid (∀ w, Calls Tryz.prog 10 #[frac n1 s1 d1 t1, frac nb sb db tb] w fun e w' => e = .returned (.tuple #[frac nc sc dc tc, .int .i64 0]) ∧ w.grownBy w' none))
    (H6 : Hid (∀ w, Calls Tryz.prog 12 #[frac n1 s1 d1 t1, frac n2 s2 d2 t2] w fun e w' => e = .returned (.tuple #[frac np sp dp tp, .int .i64 0]) ∧ w.grownBy w' none))
    (H7 : Hid (∀ w, Calls Tryz.prog 12 #[frac n1 s1 d1 t1, frac n3 s3 d3 t3] w fun e w' => e = .returned (.tuple #[frac nq sq dq tq, .int .i64 0]) ∧ w.grownBy w' none))
    (H8 : Hid (∀ w, Calls Tryz.prog 12 #[frac n1 s1 d1 t1, frac nb sb db tb] w fun e w' => e = .returned (.tuple #[frac nr sr dr tr, .int .i64 0]) ∧ w.grownBy w' none))
    (H9 : Hid (∀ w, Calls Tryz.prog 10 #[frac np sp dp tp, frac nq sq dq tq] w fun e w' => e = .returned (.tuple #[frac nr sr dr tr, .int .i64 0]) ∧ w.grownBy w' none))
    (HS : Hid (∀ w, Calls Tryz.prog 42 #[frac nr sr dr tr, .int .i64 0, frac nr sr dr tr, .int .i64 0] w fun e w' => e = .returned (.bool true) ∧ w.grownBy w' none))
    (H10 : Hid (∀ w, Calls Tryz.prog 11 #[frac na sa da ta, frac n2 s2 d2 t2] w fun e w' => e = .returned (.tuple #[frac n1 s1 d1 t1, .int .i64 0]) ∧ w.grownBy w' none))
    (H11 : Hid (∀ w, Calls Tryz.prog 32 #[frac n2 s2 d2 t2] w fun e w' => e = .returned (.int .i64 gy) ∧ w.grownBy w' none))
    (H12 : Hid (∀ w, Calls Tryz.prog 13 #[frac np sp dp tp, frac n2 s2 d2 t2] w fun e w' => e = .returned (.tuple #[frac n1 s1 d1 t1, .int .i64 0]) ∧ w.grownBy w' none))
    (H13 : Hid (∀ w, Calls Tryz.prog 14 #[frac n1 s1 d1 t1, frac n2 s2 d2 t2] w fun e w' => e = .returned (.tuple #[.int .i64 (-my), .int .i64 0]) ∧ w.grownBy w' none))
    (H14 : Hid (∀ w, Calls Tryz.prog 14 #[frac nc sc dc tc, frac nb sb db tb] w fun e w' => e = .returned (.tuple #[.int .i64 gx, .int .i64 0]) ∧ w.grownBy w' none))
    (H15 : Hid (∀ w, Calls Tryz.prog 14 #[frac na sa da ta, frac nb sb db tb] w fun e w' => e = .returned (.tuple #[.int .i64 mz, .int .i64 0]) ∧ w.grownBy w' none))
    (H16 : Hid (∀ w, Calls Tryz.prog 32 #[frac n1 s1 d1 t1] w fun e w' => e = .returned (.int .i64 gx) ∧ w.grownBy w' none))
    (H17 : Hid (∀ w, Calls Tryz.prog 43 #[frac n1 s1 d1 t1, frac n3 s3 d3 t3] w fun e w' => e = .returned (.int .i64 mz) ∧ w.grownBy w' none))
    (H18 : Hid (∀ w, Calls Tryz.prog 43 #[frac n2 s2 d2 t2, frac n1 s1 d1 t1] w fun e w' => e = .returned (.int .i64 my) ∧ w.grownBy w' none))
    (HK : Hid (∀ W, w.grownBy W none → Calls Tryz.prog 8 #[] W fun e w' => e = .returned (.bool true) ∧ W.grownBy w' none)) :
    Calls Tryz.prog 6 #[frac n1 s1 d1 t1, frac n2 s2 d2 t2, frac n3 s3 d3 t3] w fun e w' => e = .returned (.bool true) ∧ w.grownBy w' none := by
  go_enter Tryz.func6, Tryz.ntmps6
  go_wp2_with fail
  refine (HL.out _ _ ?hb).mono ?_
  case hb => first | exact at_alloc4 _ _ _ _ _ | (have := at_alloc4 w (qObj n1 s1 d1 t1) (qObj n2 s2 d2 t2) (qObj n3 s3 d3 t3) (.cells #[.bool n1, .string s1, .bool d1, .string t1, .bool n2, .string s2, .bool d2, .string t2, .bool n3, .string s3, .bool d3, .string t3] 25); simpa using this)
  rintro e w1 ⟨rfl, g⟩
  have Xb1 : Hid (QBlk w1 w.heap.size (.bool n1) (.string s1) (.bool d1) (.string t1)) := QBlk.kept (old_alloc _ _ (old_alloc _ _ (at_alloc1 _ _ _))) g (by simp)
  have Yb1 : Hid (QBlk w1 (w.heap.size + 1) (.bool n2) (.string s2) (.bool d2) (.string t2)) := QBlk.kept (old_alloc _ _ (at_alloc2 _ _ _ _)) g (by simp)
  have Zb1 : Hid (QBlk w1 (w.heap.size + 2) (.bool n3) (.string s3) (.bool d3) (.string t3)) := QBlk.kept (old_alloc _ _ (at_alloc3 _ _ _ _)) g (by simp)
  have HG1 : Hid (w.grownBy w1 none) := grownBy_trans (grownBy_trans (grow3 _ _ _ _) (grow1 _ _)) g
  clear g HL
  have xc0 := Xb1.out.c0
  have xc1 := Xb1.out.c1
  have xc2 := Xb1.out.c2
  have xc3 := Xb1.out.c3
  have xl := Xb1.out.lt
  go_wp2_with fail
  refine (HM0.out _).mono ?_
  rintro e w2 ⟨rfl, g⟩
  have Xb2 : Hid (QBlk w2 w.heap.size (.bool n1) (.string s1) (.bool d1) (.string t1)) := Xb1.out.kept g (by simp)
  have Yb2 : Hid (QBlk w2 (w.heap.size + 1) (.bool n2) (.string s2) (.bool d2) (.string t2)) := Yb1.out.kept g (by simp)
  have Zb2 : Hid (QBlk w2 (w.heap.size + 2) (.bool n3) (.string s3) (.bool d3) (.string t3)) := Zb1.out.kept g (by simp)
  have HG2 : Hid (w.grownBy w2 none) := grownBy_trans HG1.out g
  clear g HG1 Xb1 Yb1 Zb1 xc0 xc1 xc2 xc3 xl
  have yc0 := Yb2.out.c0
  have yc1 := Yb2.out.c1
  have yc2 := Yb2.out.c2
  have yc3 := Yb2.out.c3
  have yl := Yb2.out.lt
  go_wp2_with fail
  refine (HM1.out _).mono ?_
  rintro e w3 ⟨rfl, g⟩
  have Xb3 : Hid (QBlk w3 w.heap.size (.bool n1) (.string s1) (.bool d1) (.string t1)) := Xb2.out.kept g (by simp)
  have Yb3 : Hid (QBlk w3 (w.heap.size + 1) (.bool n2) (.string s2) (.bool d2) (.string t2)) := Yb2.out.kept g (by simp)
  have Zb3 : Hid (QBlk w3 (w.heap.size + 2) (.bool n3) (.string s3) (.bool d3) (.string t3)) := Zb2.out.kept g (by simp)
  have HG3 : Hid (w.grownBy w3 none) := grownBy_trans HG2.out g
  clear g HG2 Xb2 Yb2 Zb2 yc0 yc1 yc2 yc3 yl
  have zc0 := Zb3.out.c0
  have zc1 := Zb3.out.c1
  have zc2 := Zb3.out.c2
  have zc3 := Zb3.out.c3
  have zl := Zb3.out.lt
  go_wp2_with fail
  refine (HM2.out _).mono ?_
  rintro e w4 ⟨rfl, g⟩
  have Xb4 : Hid (QBlk w4 w.heap.size (.bool n1) (.string s1) (.bool d1) (.string t1)) := Xb3.out.kept g (by simp)
  have Yb4 : Hid (QBlk w4 (w.heap.size + 1) (.bool n2) (.string s2) (.bool d2) (.string t2)) := Yb3.out.kept g (by simp)
  have Zb4 : Hid (QBlk w4 (w.heap.size + 2) (.bool n3) (.string s3) (.bool d3) (.string t3)) := Zb3.out.kept g (by simp)
  have HG4 : Hid (w.grownBy w4 none) := grownBy_trans HG3.out g
  clear g HG3 Xb3 Yb3 Zb3 zc0 zc1 zc2 zc3 zl
  have xc0 := Xb4.out.c0
  have xc1 := Xb4.out.c1
  have xc2 := Xb4.out.c2
  have xc3 := Xb4.out.c3
  have xl := Xb4.out.lt
  have yc0 := Yb4.out.c0
  have yc1 := Yb4.out.c1
  have yc2 := Yb4.out.c2
  have yc3 := Yb4.out.c3
  have yl := Yb4.out.lt
  go_wp2_with fail
  refine (H1.out _).mono ?_
  rintro e w5 ⟨rfl, g⟩
  have Xb5 : Hid (QBlk w5 w.heap.size (.bool n1) (.string s1) (.bool d1) (.string t1)) := Xb4.out.kept g (by simp)
  have Yb5 : Hid (QBlk w5 (w.heap.size + 1) (.bool n2) (.string s2) (.bool d2) (.string t2)) := Yb4.out.kept g (by simp)
  have Zb5 : Hid (QBlk w5 (w.heap.size + 2) (.bool n3) (.string s3) (.bool d3) (.string t3)) := Zb4.out.kept g (by simp)
  have HG5 : Hid (w.grownBy w5 none) := grownBy_trans HG4.out g
  clear g HG4 Xb4 Yb4 Zb4 xc0 xc1 xc2 xc3 xl yc0 yc1 yc2 yc3 yl
  have yc0 := Yb5.out.c0
  have yc1 := Yb5.out.c1
  have yc2 := Yb5.out.c2
  have yc3 := Yb5.out.c3
  have yl := Yb5.out.lt
  have xc0 := Xb5.out.c0
  have xc1 := Xb5.out.c1
  have xc2 := Xb5.out.c2
  have xc3 := Xb5.out.c3
  have xl := Xb5.out.lt
  go_wp2_with fail
  refine (H2.out _).mono ?_
  rintro e w6 ⟨rfl, g⟩
  have Xb6 : Hid (QBlk w6 w.heap.size (.bool n1) (.string s1) (.bool d1) (.string t1)) := Xb5.out.kept (grownBy_trans (grow1 _ _) g) (by simp)
  have Yb6 : Hid (QBlk w6 (w.heap.size + 1) (.bool n2) (.string s2) (.bool d2) (.string t2)) := Yb5.out.kept (grownBy_trans (grow1 _ _) g) (by simp)
  have Zb6 : Hid (QBlk w6 (w.heap.size + 2) (.bool n3) (.string s3) (.bool d3) (.string t3)) := Zb5.out.kept (grownBy_trans (grow1 _ _) g) (by simp)
  have Ab6 : Hid (QBlk w6 w5.heap.size (.bool na) (.string sa) (.bool da) (.string ta)) := QBlk.kept (heap_alloc_new _ _) g (by simp)
  have HG6 : Hid (w.grownBy w6 none) := grownBy_trans HG5.out (grownBy_trans (grow1 _ _) g)
  clear g HG5 Xb5 Yb5 Zb5 yc0 yc1 yc2 yc3 yl xc0 xc1 xc2 xc3 xl
  have yc0 := Yb6.out.c0
  have yc1 := Yb6.out.c1
  have yc2 := Yb6.out.c2
  have yc3 := Yb6.out.c3
  have yl := Yb6.out.lt
  have zc0 := Zb6.out.c0
  have zc1 := Zb6.out.c1
  have zc2 := Zb6.out.c2
  have zc3 := Zb6.out.c3
  have zl := Zb6.out.lt
  go_wp2_with fail
  refine (H3.out _).mono ?_
  rintro e w7 ⟨rfl, g⟩
  have Xb7 : Hid (QBlk w7 w.heap.size (.bool n1) (.string s1) (.bool d1) (.string t1)) := Xb6.out.kept (grownBy_trans (grow1 _ _) g) (by simp)
  have Yb7 : Hid (QBlk w7 (w.heap.size + 1) (.bool n2) (.string s2) (.bool d2) (.string t2)) := Yb6.out.kept (grownBy_trans (grow1 _ _) g) (by simp)
  have Zb7 : Hid (QBlk w7 (w.heap.size + 2) (.bool n3) (.string s3) (.bool d3) (.string t3)) := Zb6.out.kept (grownBy_trans (grow1 _ _) g) (by simp)
  have Ab7 : Hid (QBlk w7 w5.heap.size (.bool na) (.string sa) (.bool da) (.string ta)) := Ab6.out.kept (grownBy_trans (grow1 _ _) g) (by simp)
  have Db7 : Hid (QBlk w7 w6.heap.size (.bool na) (.string sa) (.bool da) (.string ta)) := QBlk.kept (heap_alloc_new _ _) g (by simp)
  have HG7 : Hid (w.grownBy w7 none) := grownBy_trans HG6.out (grownBy_trans (grow1 _ _) g)
  clear g HG6 Xb6 Yb6 Zb6 Ab6 yc0 yc1 yc2 yc3 yl zc0 zc1 zc2 zc3 zl
  have ac0 := Ab7.out.c0
  have ac1 := Ab7.out.c1
  have ac2 := Ab7.out.c2
  have ac3 := Ab7.out.c3
  have al := Ab7.out.lt
  have zc0 := Zb7.out.c0
  have zc1 := Zb7.out.c1
  have zc2 := Zb7.out.c2
  have zc3 := Zb7.out.c3
  have zl := Zb7.out.lt
  go_wp2_with fail
  refine (H4.out _).mono ?_
  rintro e w8 ⟨rfl, g⟩
  have Xb8 : Hid (QBlk w8 w.heap.size (.bool n1) (.string s1) (.bool d1) (.string t1)) := Xb7.out.kept (grownBy_trans (grow1 _ _) g) (by simp)
  have Yb8 : Hid (QBlk w8 (w.heap.size + 1) (.bool n2) (.string s2) (.bool d2) (.string t2)) := Yb7.out.kept (grownBy_trans (grow1 _ _) g) (by simp)
  have Zb8 : Hid (QBlk w8 (w.heap.size + 2) (.bool n3) (.string s3) (.bool d3) (.string t3)) := Zb7.out.kept (grownBy_trans (grow1 _ _) g) (by simp)
  have Ab8 : Hid (QBlk w8 w5.heap.size (.bool na) (.string sa) (.bool da) (.string ta)) := Ab7.out.kept (grownBy_trans (grow1 _ _) g) (by simp)
  have Db8 : Hid (QBlk w8 w6.heap.size (.bool na) (.string sa) (.bool da) (.string ta)) := Db7.out.kept (grownBy_trans (grow1 _ _) g) (by simp)
  have Bb8 : Hid (QBlk w8 w7.heap.size (.bool nb) (.string sb) (.bool db) (.string tb)) := QBlk.kept (heap_alloc_new _ _) g (by simp)
  have HG8 : Hid (w.grownBy w8 none) := grownBy_trans HG7.out (grownBy_trans (grow1 _ _) g)
  clear g HG7 Xb7 Yb7 Zb7 Ab7 Db7 ac0 ac1 ac2 ac3 al zc0 zc1 zc2 zc3 zl
  have xc0 := Xb8.out.c0
  have xc1 := Xb8.out.c1
  have xc2 := Xb8.out.c2
  have xc3 := Xb8.out.c3
  have xl := Xb8.out.lt
  have bc0 := Bb8.out.c0
  have bc1 := Bb8.out.c1
  have bc2 := Bb8.out.c2
  have bc3 := Bb8.out.c3
  have bl := Bb8.out.lt
  go_wp2_with fail
  refine (H5.out _).mono ?_
  rintro e w9 ⟨rfl, g⟩
  have Xb9 : Hid (QBlk w9 w.heap.size (.bool n1) (.string s1) (.bool d1) (.string t1)) := Xb8.out.kept (grownBy_trans (grow1 _ _) g) (by simp)
  have Yb9 : Hid (QBlk w9 (w.heap.size + 1) (.bool n2) (.string s2) (.bool d2) (.string t2)) := Yb8.out.kept (grownBy_trans (grow1 _ _) g) (by simp)
  have Zb9 : Hid (QBlk w9 (w.heap.size + 2) (.bool n3) (.string s3) (.bool d3) (.string t3)) := Zb8.out.kept (grownBy_trans (grow1 _ _) g) (by simp)
  have Ab9 : Hid (QBlk w9 w5.heap.size (.bool na) (.string sa) (.bool da) (.string ta)) := Ab8.out.kept (grownBy_trans (grow1 _ _) g) (by simp)
  have Db9 : Hid (QBlk w9 w6.heap.size (.bool na) (.string sa) (.bool da) (.string ta)) := Db8.out.kept (grownBy_trans (grow1 _ _) g) (by simp)
  have Bb9 : Hid (QBlk w9 w7.heap.size (.bool nb) (.string sb) (.bool db) (.string tb)) := Bb8.out.kept (grownBy_trans (grow1 _ _) g) (by simp)
  have Cb9 : Hid (QBlk w9 w8.heap.size (.bool nc) (.string sc) (.bool dc) (.string tc)) := QBlk.kept (heap_alloc_new _ _) g (by simp)
  have HG9 : Hid (w.grownBy w9 none) := grownBy_trans HG8.out (grownBy_trans (grow1 _ _) g)
  clear g HG8 Xb8 Yb8 Zb8 Ab8 Db8 Bb8 xc0 xc1 xc2 xc3 xl bc0 bc1 bc2 bc3 bl
  have ac0 := Ab9.out.c0
  have ac1 := Ab9.out.c1
  have ac2 := Ab9.out.c2
  have ac3 := Ab9.out.c3
  have al := Ab9.out.lt
  have dc0 := Db9.out.c0
  have dc1 := Db9.out.c1
  have dc2 := Db9.out.c2
  have dc3 := Db9.out.c3
  have dl := Db9.out.lt
  have cc0 := Cb9.out.c0
  have cc1 := Cb9.out.c1
  have cc2 := Cb9.out.c2
  have cc3 := Cb9.out.c3
  have cl := Cb9.out.lt
  have xc0 := Xb9.out.c0
  have xc1 := Xb9.out.c1
  have xc2 := Xb9.out.c2
  have xc3 := Xb9.out.c3
  have xl := Xb9.out.lt
  have yc0 := Yb9.out.c0
  have yc1 := Yb9.out.c1
  have yc2 := Yb9.out.c2
  have yc3 := Yb9.out.c3
  have yl := Yb9.out.lt
  go_wp2_with fail
  refine (H6.out _).mono ?_
  rintro e w10 ⟨rfl, g⟩
  have Xb10 : Hid (QBlk w10 w.heap.size (.bool n1) (.string s1) (.bool d1) (.string t1)) := Xb9.out.kept (grownBy_trans (grow1 _ _) g) (by simp)
  have Yb10 : Hid (QBlk w10 (w.heap.size + 1) (.bool n2) (.string s2) (.bool d2) (.string t2)) := Yb9.out.kept (grownBy_trans (grow1 _ _) g) (by simp)
  have Zb10 : Hid (QBlk w10 (w.heap.size + 2) (.bool n3) (.string s3) (.bool d3) (.string t3)) := Zb9.out.kept (grownBy_trans (grow1 _ _) g) (by simp)
  have Ab10 : Hid (QBlk w10 w5.heap.size (.bool na) (.string sa) (.bool da) (.string ta)) := Ab9.out.kept (grownBy_trans (grow1 _ _) g) (by simp)
  have Db10 : Hid (QBlk w10 w6.heap.size (.bool na) (.string sa) (.bool da) (.string ta)) := Db9.out.kept (grownBy_trans (grow1 _ _) g) (by simp)
  have Bb10 : Hid (QBlk w10 w7.heap.size (.bool nb) (.string sb) (.bool db) (.string tb)) := Bb9.out.kept (grownBy_trans (grow1 _ _) g) (by simp)
  have Cb10 : Hid (QBlk w10 w8.heap.size (.bool nc) (.string sc) (.bool dc) (.string tc)) := Cb9.out.kept (grownBy_trans (grow1 _ _) g) (by simp)
  have Eb10 : Hid (QBlk w10 w9.heap.size (.bool nc) (.string sc) (.bool dc) (.string tc)) := QBlk.kept (heap_alloc_new _ _) g (by simp)
  have HG10 : Hid (w.grownBy w10 none) := grownBy_trans HG9.out (grownBy_trans (grow1 _ _) g)
  clear g HG9 Xb9 Yb9 Zb9 Ab9 Db9 Bb9 Cb9 ac0 ac1 ac2 ac3 al dc0 dc1 dc2 dc3 dl cc0 cc1 cc2 cc3 cl xc0 xc1 xc2 xc3 xl yc0 yc1 yc2 yc3 yl
  clear Eb10
  have xc0 := Xb10.out.c0
  have xc1 := Xb10.out.c1
  have xc2 := Xb10.out.c2
  have xc3 := Xb10.out.c3
  have xl := Xb10.out.lt
  have zc0 := Zb10.out.c0
  have zc1 := Zb10.out.c1
  have zc2 := Zb10.out.c2
  have zc3 := Zb10.out.c3
  have zl := Zb10.out.lt
  go_wp2_with fail
  refine (H7.out _).mono ?_
  rintro e w11 ⟨rfl, g⟩
  have Xb11 : Hid (QBlk w11 w.heap.size (.bool n1) (.string s1) (.bool d1) (.string t1)) := Xb10.out.kept (grownBy_trans (grow1 _ _) g) (by simp)
  have Yb11 : Hid (QBlk w11 (w.heap.size + 1) (.bool n2) (.string s2) (.bool d2) (.string t2)) := Yb10.out.kept (grownBy_trans (grow1 _ _) g) (by simp)
  have Zb11 : Hid (QBlk w11 (w.heap.size + 2) (.bool n3) (.string s3) (.bool d3) (.string t3)) := Zb10.out.kept (grownBy_trans (grow1 _ _) g) (by simp)
  have Ab11 : Hid (QBlk w11 w5.heap.size (.bool na) (.string sa) (.bool da) (.string ta)) := Ab10.out.kept (grownBy_trans (grow1 _ _) g) (by simp)
  have Db11 : Hid (QBlk w11 w6.heap.size (.bool na) (.string sa) (.bool da) (.string ta)) := Db10.out.kept (grownBy_trans (grow1 _ _) g) (by simp)
  have Bb11 : Hid (QBlk w11 w7.heap.size (.bool nb) (.string sb) (.bool db) (.string tb)) := Bb10.out.kept (grownBy_trans (grow1 _ _) g) (by simp)
  have Cb11 : Hid (QBlk w11 w8.heap.size (.bool nc) (.string sc) (.bool dc) (.string tc)) := Cb10.out.kept (grownBy_trans (grow1 _ _) g) (by simp)
  have Pb11 : Hid (QBlk w11 w10.heap.size (.bool np) (.string sp) (.bool dp) (.string tp)) := QBlk.kept (heap_alloc_new _ _) g (by simp)
  have HG11 : Hid (w.grownBy w11 none) := grownBy_trans HG10.out (grownBy_trans (grow1 _ _) g)
  clear g HG10 Xb10 Yb10 Zb10 Ab10 Db10 Bb10 Cb10 xc0 xc1 xc2 xc3 xl zc0 zc1 zc2 zc3 zl
  have xc0 := Xb11.out.c0
  have xc1 := Xb11.out.c1
  have xc2 := Xb11.out.c2
  have xc3 := Xb11.out.c3
  have xl := Xb11.out.lt
  have bc0 := Bb11.out.c0
  have bc1 := Bb11.out.c1
  have bc2 := Bb11.out.c2
  have bc3 := Bb11.out.c3
  have bl := Bb11.out.lt
  go_wp2_with fail
  refine (H8.out _).mono ?_
  rintro e w12 ⟨rfl, g⟩
  have Xb12 : Hid (QBlk w12 w.heap.size (.bool n1) (.string s1) (.bool d1) (.string t1)) := Xb11.out.kept (grownBy_trans (grow1 _ _) g) (by simp)
  have Yb12 : Hid (QBlk w12 (w.heap.size + 1) (.bool n2) (.string s2) (.bool d2) (.string t2)) := Yb11.out.kept (grownBy_trans (grow1 _ _) g) (by simp)
  have Zb12 : Hid (QBlk w12 (w.heap.size + 2) (.bool n3) (.string s3) (.bool d3) (.string t3)) := Zb11.out.kept (grownBy_trans (grow1 _ _) g) (by simp)
  have Ab12 : Hid (QBlk w12 w5.heap.size (.bool na) (.string sa) (.bool da) (.string ta)) := Ab11.out.kept (grownBy_trans (grow1 _ _) g) (by simp)
  have Db12 : Hid (QBlk w12 w6.heap.size (.bool na) (.string sa) (.bool da) (.string ta)) := Db11.out.kept (grownBy_trans (grow1 _ _) g) (by simp)
  have Bb12 : Hid (QBlk w12 w7.heap.size (.bool nb) (.string sb) (.bool db) (.string tb)) := Bb11.out.kept (grownBy_trans (grow1 _ _) g) (by simp)
  have Cb12 : Hid (QBlk w12 w8.heap.size (.bool nc) (.string sc) (.bool dc) (.string tc)) := Cb11.out.kept (grownBy_trans (grow1 _ _) g) (by simp)
  have Pb12 : Hid (QBlk w12 w10.heap.size (.bool np) (.string sp) (.bool dp) (.string tp)) := Pb11.out.kept (grownBy_trans (grow1 _ _) g) (by simp)
  have Qb12 : Hid (QBlk w12 w11.heap.size (.bool nq) (.string sq) (.bool dq) (.string tq)) := QBlk.kept (heap_alloc_new _ _) g (by simp)
  have HG12 : Hid (w.grownBy w12 none) := grownBy_trans HG11.out (grownBy_trans (grow1 _ _) g)
  clear g HG11 Xb11 Yb11 Zb11 Ab11 Db11 Bb11 Cb11 Pb11 xc0 xc1 xc2 xc3 xl bc0 bc1 bc2 bc3 bl
  have pc0 := Pb12.out.c0
  have pc1 := Pb12.out.c1
  have pc2 := Pb12.out.c2
  have pc3 := Pb12.out.c3
  have pl := Pb12.out.lt
  have qc0 := Qb12.out.c0
  have qc1 := Qb12.out.c1
  have qc2 := Qb12.out.c2
  have qc3 := Qb12.out.c3
  have ql := Qb12.out.lt
  go_wp2_with fail
  refine (H9.out _).mono ?_
  rintro e w13 ⟨rfl, g⟩
  have Xb13 : Hid (QBlk w13 w.heap.size (.bool n1) (.string s1) (.bool d1) (.string t1)) := Xb12.out.kept (grownBy_trans (grow1 _ _) g) (by simp)
  have Yb13 : Hid (QBlk w13 (w.heap.size + 1) (.bool n2) (.string s2) (.bool d2) (.string t2)) := Yb12.out.kept (grownBy_trans (grow1 _ _) g) (by simp)
  have Zb13 : Hid (QBlk w13 (w.heap.size + 2) (.bool n3) (.string s3) (.bool d3) (.string t3)) := Zb12.out.kept (grownBy_trans (grow1 _ _) g) (by simp)
  have Ab13 : Hid (QBlk w13 w5.heap.size (.bool na) (.string sa) (.bool da) (.string ta)) := Ab12.out.kept (grownBy_trans (grow1 _ _) g) (by simp)
  have Db13 : Hid (QBlk w13 w6.heap.size (.bool na) (.string sa) (.bool da) (.string ta)) := Db12.out.kept (grownBy_trans (grow1 _ _) g) (by simp)
  have Bb13 : Hid (QBlk w13 w7.heap.size (.bool nb) (.string sb) (.bool db) (.string tb)) := Bb12.out.kept (grownBy_trans (grow1 _ _) g) (by simp)
  have Cb13 : Hid (QBlk w13 w8.heap.size (.bool nc) (.string sc) (.bool dc) (.string tc)) := Cb12.out.kept (grownBy_trans (grow1 _ _) g) (by simp)
  have Pb13 : Hid (QBlk w13 w10.heap.size (.bool np) (.string sp) (.bool dp) (.string tp)) := Pb12.out.kept (grownBy_trans (grow1 _ _) g) (by simp)
  have Qb13 : Hid (QBlk w13 w11.heap.size (.bool nq) (.string sq) (.bool dq) (.string tq)) := Qb12.out.kept (grownBy_trans (grow1 _ _) g) (by simp)
  have Rb13 : Hid (QBlk w13 w12.heap.size (.bool nr) (.string sr) (.bool dr) (.string tr)) := QBlk.kept (heap_alloc_new _ _) g (by simp)
  have HG13 : Hid (w.grownBy w13 none) := grownBy_trans HG12.out (grownBy_trans (grow1 _ _) g)
  clear g HG12 Xb12 Yb12 Zb12 Ab12 Db12 Bb12 Cb12 Pb12 Qb12 pc0 pc1 pc2 pc3 pl qc0 qc1 qc2 qc3 ql
  have rc0 := Rb13.out.c0
  have rc1 := Rb13.out.c1
  have rc2 := Rb13.out.c2
  have rc3 := Rb13.out.c3
  have rl := Rb13.out.lt
  go_wp2_with fail
  refine (HS.out _).mono ?_
  rintro e w14 ⟨rfl, g⟩
  have Xb14 : Hid (QBlk w14 w.heap.size (.bool n1) (.string s1) (.bool d1) (.string t1)) := Xb13.out.kept (grownBy_trans (grow1 _ _) g) (by simp)
  have Yb14 : Hid (QBlk w14 (w.heap.size + 1) (.bool n2) (.string s2) (.bool d2) (.string t2)) := Yb13.out.kept (grownBy_trans (grow1 _ _) g) (by simp)
  have Zb14 : Hid (QBlk w14 (w.heap.size + 2) (.bool n3) (.string s3) (.bool d3) (.string t3)) := Zb13.out.kept (grownBy_trans (grow1 _ _) g) (by simp)
  have Ab14 : Hid (QBlk w14 w5.heap.size (.bool na) (.string sa) (.bool da) (.string ta)) := Ab13.out.kept (grownBy_trans (grow1 _ _) g) (by simp)
  have Db14 : Hid (QBlk w14 w6.heap.size (.bool na) (.string sa) (.bool da) (.string ta)) := Db13.out.kept (grownBy_trans (grow1 _ _) g) (by simp)
  have Bb14 : Hid (QBlk w14 w7.heap.size (.bool nb) (.string sb) (.bool db) (.string tb)) := Bb13.out.kept (grownBy_trans (grow1 _ _) g) (by simp)
  have Cb14 : Hid (QBlk w14 w8.heap.size (.bool nc) (.string sc) (.bool dc) (.string tc)) := Cb13.out.kept (grownBy_trans (grow1 _ _) g) (by simp)
  have Pb14 : Hid (QBlk w14 w10.heap.size (.bool np) (.string sp) (.bool dp) (.string tp)) := Pb13.out.kept (grownBy_trans (grow1 _ _) g) (by simp)
  have Qb14 : Hid (QBlk w14 w11.heap.size (.bool nq) (.string sq) (.bool dq) (.string tq)) := Qb13.out.kept (grownBy_trans (grow1 _ _) g) (by simp)
  have Rb14 : Hid (QBlk w14 w12.heap.size (.bool nr) (.string sr) (.bool dr) (.string tr)) := Rb13.out.kept (grownBy_trans (grow1 _ _) g) (by simp)
  have Sb14 : Hid (QBlk w14 w13.heap.size (.bool nr) (.string sr) (.bool dr) (.string tr)) := QBlk.kept (heap_alloc_new _ _) g (by simp)
  have HG14 : Hid (w.grownBy w14 none) := grownBy_trans HG13.out (grownBy_trans (grow1 _ _) g)
  clear g HG13 Xb13 Yb13 Zb13 Ab13 Db13 Bb13 Cb13 Pb13 Qb13 Rb13 rc0 rc1 rc2 rc3 rl
  clear Qb14 Rb14 Sb14
  have ac0 := Ab14.out.c0
  have ac1 := Ab14.out.c1
  have ac2 := Ab14.out.c2
  have ac3 := Ab14.out.c3
  have al := Ab14.out.lt
  have yc0 := Yb14.out.c0
  have yc1 := Yb14.out.c1
  have yc2 := Yb14.out.c2
  have yc3 := Yb14.out.c3
  have yl := Yb14.out.lt
  go_wp2_with fail
  refine (H10.out _).mono ?_
  rintro e w15 ⟨rfl, g⟩
  have Xb15 : Hid (QBlk w15 w.heap.size (.bool n1) (.string s1) (.bool d1) (.string t1)) := Xb14.out.kept g (by simp)
  have Yb15 : Hid (QBlk w15 (w.heap.size + 1) (.bool n2) (.string s2) (.bool d2) (.string t2)) := Yb14.out.kept g (by simp)
  have Zb15 : Hid (QBlk w15 (w.heap.size + 2) (.bool n3) (.string s3) (.bool d3) (.string t3)) := Zb14.out.kept g (by simp)
  have Ab15 : Hid (QBlk w15 w5.heap.size (.bool na) (.string sa) (.bool da) (.string ta)) := Ab14.out.kept g (by simp)
  have Db15 : Hid (QBlk w15 w6.heap.size (.bool na) (.string sa) (.bool da) (.string ta)) := Db14.out.kept g (by simp)
  have Bb15 : Hid (QBlk w15 w7.heap.size (.bool nb) (.string sb) (.bool db) (.string tb)) := Bb14.out.kept g (by simp)
  have Cb15 : Hid (QBlk w15 w8.heap.size (.bool nc) (.string sc) (.bool dc) (.string tc)) := Cb14.out.kept g (by simp)
  have Pb15 : Hid (QBlk w15 w10.heap.size (.bool np) (.string sp) (.bool dp) (.string tp)) := Pb14.out.kept g (by simp)
  have HG15 : Hid (w.grownBy w15 none) := grownBy_trans HG14.out g
  clear g HG14 Xb14 Yb14 Zb14 Ab14 Db14 Bb14 Cb14 Pb14 ac0 ac1 ac2 ac3 al yc0 yc1 yc2 yc3 yl
  have xc0 := Xb15.out.c0
  have xc1 := Xb15.out.c1
  have xc2 := Xb15.out.c2
  have xc3 := Xb15.out.c3
  have xl := Xb15.out.lt
  have yc0 := Yb15.out.c0
  have yc1 := Yb15.out.c1
  have yc2 := Yb15.out.c2
  have yc3 := Yb15.out.c3
  have yl := Yb15.out.lt
  go_wp2_with fail
  refine (H11.out _).mono ?_
  rintro e w16 ⟨rfl, g⟩
  have Xb16 : Hid (QBlk w16 w.heap.size (.bool n1) (.string s1) (.bool d1) (.string t1)) := Xb15.out.kept (grownBy_trans (grow1 _ _) g) (by simp)
  have Yb16 : Hid (QBlk w16 (w.heap.size + 1) (.bool n2) (.string s2) (.bool d2) (.string t2)) := Yb15.out.kept (grownBy_trans (grow1 _ _) g) (by simp)
  have Zb16 : Hid (QBlk w16 (w.heap.size + 2) (.bool n3) (.string s3) (.bool d3) (.string t3)) := Zb15.out.kept (grownBy_trans (grow1 _ _) g) (by simp)
  have Ab16 : Hid (QBlk w16 w5.heap.size (.bool na) (.string sa) (.bool da) (.string ta)) := Ab15.out.kept (grownBy_trans (grow1 _ _) g) (by simp)
  have Db16 : Hid (QBlk w16 w6.heap.size (.bool na) (.string sa) (.bool da) (.string ta)) := Db15.out.kept (grownBy_trans (grow1 _ _) g) (by simp)
  have Bb16 : Hid (QBlk w16 w7.heap.size (.bool nb) (.string sb) (.bool db) (.string tb)) := Bb15.out.kept (grownBy_trans (grow1 _ _) g) (by simp)
  have Cb16 : Hid (QBlk w16 w8.heap.size (.bool nc) (.string sc) (.bool dc) (.string tc)) := Cb15.out.kept (grownBy_trans (grow1 _ _) g) (by simp)
  have Pb16 : Hid (QBlk w16 w10.heap.size (.bool np) (.string sp) (.bool dp) (.string tp)) := Pb15.out.kept (grownBy_trans (grow1 _ _) g) (by simp)
  have Tb16 : Hid (QBlk w16 w15.heap.size (.bool n1) (.string s1) (.bool d1) (.string t1)) := QBlk.kept (heap_alloc_new _ _) g (by simp)
  have HG16 : Hid (w.grownBy w16 none) := grownBy_trans HG15.out (grownBy_trans (grow1 _ _) g)
  clear g HG15 Xb15 Yb15 Zb15 Ab15 Db15 Bb15 Cb15 Pb15 xc0 xc1 xc2 xc3 xl yc0 yc1 yc2 yc3 yl
  clear Ab16
  have pc0 := Pb16.out.c0
  have pc1 := Pb16.out.c1
  have pc2 := Pb16.out.c2
  have pc3 := Pb16.out.c3
  have pl := Pb16.out.lt
  have yc0 := Yb16.out.c0
  have yc1 := Yb16.out.c1
  have yc2 := Yb16.out.c2
  have yc3 := Yb16.out.c3
  have yl := Yb16.out.lt
  go_wp2_with fail
  refine (H12.out _).mono ?_
  rintro e w17 ⟨rfl, g⟩
  have Xb17 : Hid (QBlk w17 w.heap.size (.bool n1) (.string s1) (.bool d1) (.string t1)) := Xb16.out.kept g (by simp)
  have Yb17 : Hid (QBlk w17 (w.heap.size + 1) (.bool n2) (.string s2) (.bool d2) (.string t2)) := Yb16.out.kept g (by simp)
  have Zb17 : Hid (QBlk w17 (w.heap.size + 2) (.bool n3) (.string s3) (.bool d3) (.string t3)) := Zb16.out.kept g (by simp)
  have Db17 : Hid (QBlk w17 w6.heap.size (.bool na) (.string sa) (.bool da) (.string ta)) := Db16.out.kept g (by simp)
  have Bb17 : Hid (QBlk w17 w7.heap.size (.bool nb) (.string sb) (.bool db) (.string tb)) := Bb16.out.kept g (by simp)
  have Cb17 : Hid (QBlk w17 w8.heap.size (.bool nc) (.string sc) (.bool dc) (.string tc)) := Cb16.out.kept g (by simp)
  have Pb17 : Hid (QBlk w17 w10.heap.size (.bool np) (.string sp) (.bool dp) (.string tp)) := Pb16.out.kept g (by simp)
  have Tb17 : Hid (QBlk w17 w15.heap.size (.bool n1) (.string s1) (.bool d1) (.string t1)) := Tb16.out.kept g (by simp)
  have HG17 : Hid (w.grownBy w17 none) := grownBy_trans HG16.out g
  clear g HG16 Xb16 Yb16 Zb16 Db16 Bb16 Cb16 Pb16 Tb16 pc0 pc1 pc2 pc3 pl yc0 yc1 yc2 yc3 yl
  have xc0 := Xb17.out.c0
  have xc1 := Xb17.out.c1
  have xc2 := Xb17.out.c2
  have xc3 := Xb17.out.c3
  have xl := Xb17.out.lt
  have yc0 := Yb17.out.c0
  have yc1 := Yb17.out.c1
  have yc2 := Yb17.out.c2
  have yc3 := Yb17.out.c3
  have yl := Yb17.out.lt
  go_wp2_with fail
  refine (H13.out _).mono ?_
  rintro e w18 ⟨rfl, g⟩
  have Xb18 : Hid (QBlk w18 w.heap.size (.bool n1) (.string s1) (.bool d1) (.string t1)) := Xb17.out.kept (grownBy_trans (grow1 _ _) g) (by simp)
  have Yb18 : Hid (QBlk w18 (w.heap.size + 1) (.bool n2) (.string s2) (.bool d2) (.string t2)) := Yb17.out.kept (grownBy_trans (grow1 _ _) g) (by simp)
  have Zb18 : Hid (QBlk w18 (w.heap.size + 2) (.bool n3) (.string s3) (.bool d3) (.string t3)) := Zb17.out.kept (grownBy_trans (grow1 _ _) g) (by simp)
  have Db18 : Hid (QBlk w18 w6.heap.size (.bool na) (.string sa) (.bool da) (.string ta)) := Db17.out.kept (grownBy_trans (grow1 _ _) g) (by simp)
  have Bb18 : Hid (QBlk w18 w7.heap.size (.bool nb) (.string sb) (.bool db) (.string tb)) := Bb17.out.kept (grownBy_trans (grow1 _ _) g) (by simp)
  have Cb18 : Hid (QBlk w18 w8.heap.size (.bool nc) (.string sc) (.bool dc) (.string tc)) := Cb17.out.kept (grownBy_trans (grow1 _ _) g) (by simp)
  have Pb18 : Hid (QBlk w18 w10.heap.size (.bool np) (.string sp) (.bool dp) (.string tp)) := Pb17.out.kept (grownBy_trans (grow1 _ _) g) (by simp)
  have Tb18 : Hid (QBlk w18 w15.heap.size (.bool n1) (.string s1) (.bool d1) (.string t1)) := Tb17.out.kept (grownBy_trans (grow1 _ _) g) (by simp)
  have Ub18 : Hid (QBlk w18 w17.heap.size (.bool n1) (.string s1) (.bool d1) (.string t1)) := QBlk.kept (heap_alloc_new _ _) g (by simp)
  have HG18 : Hid (w.grownBy w18 none) := grownBy_trans HG17.out (grownBy_trans (grow1 _ _) g)
  clear g HG17 Xb17 Yb17 Zb17 Db17 Bb17 Cb17 Pb17 Tb17 xc0 xc1 xc2 xc3 xl yc0 yc1 yc2 yc3 yl
  have cc0 := Cb18.out.c0
  have cc1 := Cb18.out.c1
  have cc2 := Cb18.out.c2
  have cc3 := Cb18.out.c3
  have cl := Cb18.out.lt
  have bc0 := Bb18.out.c0
  have bc1 := Bb18.out.c1
  have bc2 := Bb18.out.c2
  have bc3 := Bb18.out.c3
  have bl := Bb18.out.lt
  go_wp2_with fail
  refine (H14.out _).mono ?_
  rintro e w19 ⟨rfl, g⟩
  have Xb19 : Hid (QBlk w19 w.heap.size (.bool n1) (.string s1) (.bool d1) (.string t1)) := Xb18.out.kept g (by simp)
  have Yb19 : Hid (QBlk w19 (w.heap.size + 1) (.bool n2) (.string s2) (.bool d2) (.string t2)) := Yb18.out.kept g (by simp)
  have Zb19 : Hid (QBlk w19 (w.heap.size + 2) (.bool n3) (.string s3) (.bool d3) (.string t3)) := Zb18.out.kept g (by simp)
  have Db19 : Hid (QBlk w19 w6.heap.size (.bool na) (.string sa) (.bool da) (.string ta)) := Db18.out.kept g (by simp)
  have Bb19 : Hid (QBlk w19 w7.heap.size (.bool nb) (.string sb) (.bool db) (.string tb)) := Bb18.out.kept g (by simp)
  have Cb19 : Hid (QBlk w19 w8.heap.size (.bool nc) (.string sc) (.bool dc) (.string tc)) := Cb18.out.kept g (by simp)
  have Pb19 : Hid (QBlk w19 w10.heap.size (.bool np) (.string sp) (.bool dp) (.string tp)) := Pb18.out.kept g (by simp)
  have Tb19 : Hid (QBlk w19 w15.heap.size (.bool n1) (.string s1) (.bool d1) (.string t1)) := Tb18.out.kept g (by simp)
  have Ub19 : Hid (QBlk w19 w17.heap.size (.bool n1) (.string s1) (.bool d1) (.string t1)) := Ub18.out.kept g (by simp)
  have HG19 : Hid (w.grownBy w19 none) := grownBy_trans HG18.out g
  clear g HG18 Xb18 Yb18 Zb18 Db18 Bb18 Cb18 Pb18 Tb18 Ub18 cc0 cc1 cc2 cc3 cl bc0 bc1 bc2 bc3 bl
  have dc0 := Db19.out.c0
  have dc1 := Db19.out.c1
  have dc2 := Db19.out.c2
  have dc3 := Db19.out.c3
  have dl := Db19.out.lt
  have bc0 := Bb19.out.c0
  have bc1 := Bb19.out.c1
  have bc2 := Bb19.out.c2
  have bc3 := Bb19.out.c3
  have bl := Bb19.out.lt
  go_wp2_with fail
  refine (H15.out _).mono ?_
  rintro e w20 ⟨rfl, g⟩
  have Xb20 : Hid (QBlk w20 w.heap.size (.bool n1) (.string s1) (.bool d1) (.string t1)) := Xb19.out.kept g (by simp)
  have Yb20 : Hid (QBlk w20 (w.heap.size + 1) (.bool n2) (.string s2) (.bool d2) (.string t2)) := Yb19.out.kept g (by simp)
  have Zb20 : Hid (QBlk w20 (w.heap.size + 2) (.bool n3) (.string s3) (.bool d3) (.string t3)) := Zb19.out.kept g (by simp)
  have Db20 : Hid (QBlk w20 w6.heap.size (.bool na) (.string sa) (.bool da) (.string ta)) := Db19.out.kept g (by simp)
  have Bb20 : Hid (QBlk w20 w7.heap.size (.bool nb) (.string sb) (.bool db) (.string tb)) := Bb19.out.kept g (by simp)
  have Cb20 : Hid (QBlk w20 w8.heap.size (.bool nc) (.string sc) (.bool dc) (.string tc)) := Cb19.out.kept g (by simp)
  have Pb20 : Hid (QBlk w20 w10.heap.size (.bool np) (.string sp) (.bool dp) (.string tp)) := Pb19.out.kept g (by simp)
  have Tb20 : Hid (QBlk w20 w15.heap.size (.bool n1) (.string s1) (.bool d1) (.string t1)) := Tb19.out.kept g (by simp)
  have Ub20 : Hid (QBlk w20 w17.heap.size (.bool n1) (.string s1) (.bool d1) (.string t1)) := Ub19.out.kept g (by simp)
  have HG20 : Hid (w.grownBy w20 none) := grownBy_trans HG19.out g
  clear g HG19 Xb19 Yb19 Zb19 Db19 Bb19 Cb19 Pb19 Tb19 Ub19 dc0 dc1 dc2 dc3 dl bc0 bc1 bc2 bc3 bl
  have xc0 := Xb20.out.c0
  have xc1 := Xb20.out.c1
  have xc2 := Xb20.out.c2
  have xc3 := Xb20.out.c3
  have xl := Xb20.out.lt
  go_wp2_with fail
  refine (H16.out _).mono ?_
  rintro e w21 ⟨rfl, g⟩
  have Xb21 : Hid (QBlk w21 w.heap.size (.bool n1) (.string s1) (.bool d1) (.string t1)) := Xb20.out.kept g (by simp)
  have Yb21 : Hid (QBlk w21 (w.heap.size + 1) (.bool n2) (.string s2) (.bool d2) (.string t2)) := Yb20.out.kept g (by simp)
  have Zb21 : Hid (QBlk w21 (w.heap.size + 2) (.bool n3) (.string s3) (.bool d3) (.string t3)) := Zb20.out.kept g (by simp)
  have Db21 : Hid (QBlk w21 w6.heap.size (.bool na) (.string sa) (.bool da) (.string ta)) := Db20.out.kept g (by simp)
  have Bb21 : Hid (QBlk w21 w7.heap.size (.bool nb) (.string sb) (.bool db) (.string tb)) := Bb20.out.kept g (by simp)
  have Cb21 : Hid (QBlk w21 w8.heap.size (.bool nc) (.string sc) (.bool dc) (.string tc)) := Cb20.out.kept g (by simp)
  have Pb21 : Hid (QBlk w21 w10.heap.size (.bool np) (.string sp) (.bool dp) (.string tp)) := Pb20.out.kept g (by simp)
  have Tb21 : Hid (QBlk w21 w15.heap.size (.bool n1) (.string s1) (.bool d1) (.string t1)) := Tb20.out.kept g (by simp)
  have Ub21 : Hid (QBlk w21 w17.heap.size (.bool n1) (.string s1) (.bool d1) (.string t1)) := Ub20.out.kept g (by simp)
  have HG21 : Hid (w.grownBy w21 none) := grownBy_trans HG20.out g
  clear g HG20 Xb20 Yb20 Zb20 Db20 Bb20 Cb20 Pb20 Tb20 Ub20 xc0 xc1 xc2 xc3 xl
  have xc0 := Xb21.out.c0
  have xc1 := Xb21.out.c1
  have xc2 := Xb21.out.c2
  have xc3 := Xb21.out.c3
  have xl := Xb21.out.lt
  have zc0 := Zb21.out.c0
  have zc1 := Zb21.out.c1
  have zc2 := Zb21.out.c2
  have zc3 := Zb21.out.c3
  have zl := Zb21.out.lt
  go_wp2_with fail
  refine (H17.out _).mono ?_
  rintro e w22 ⟨rfl, g⟩
  have Xb22 : Hid (QBlk w22 w.heap.size (.bool n1) (.string s1) (.bool d1) (.string t1)) := Xb21.out.kept g (by simp)
  have Yb22 : Hid (QBlk w22 (w.heap.size + 1) (.bool n2) (.string s2) (.bool d2) (.string t2)) := Yb21.out.kept g (by simp)
  have Zb22 : Hid (QBlk w22 (w.heap.size + 2) (.bool n3) (.string s3) (.bool d3) (.string t3)) := Zb21.out.kept g (by simp)
  have Db22 : Hid (QBlk w22 w6.heap.size (.bool na) (.string sa) (.bool da) (.string ta)) := Db21.out.kept g (by simp)
  have Bb22 : Hid (QBlk w22 w7.heap.size (.bool nb) (.string sb) (.bool db) (.string tb)) := Bb21.out.kept g (by simp)
  have Cb22 : Hid (QBlk w22 w8.heap.size (.bool nc) (.string sc) (.bool dc) (.string tc)) := Cb21.out.kept g (by simp)
  have Pb22 : Hid (QBlk w22 w10.heap.size (.bool np) (.string sp) (.bool dp) (.string tp)) := Pb21.out.kept g (by simp)
  have Tb22 : Hid (QBlk w22 w15.heap.size (.bool n1) (.string s1) (.bool d1) (.string t1)) := Tb21.out.kept g (by simp)
  have Ub22 : Hid (QBlk w22 w17.heap.size (.bool n1) (.string s1) (.bool d1) (.string t1)) := Ub21.out.kept g (by simp)
  have HG22 : Hid (w.grownBy w22 none) := grownBy_trans HG21.out g
  clear g HG21 Xb21 Yb21 Zb21 Db21 Bb21 Cb21 Pb21 Tb21 Ub21 xc0 xc1 xc2 xc3 xl zc0 zc1 zc2 zc3 zl
  have yc0 := Yb22.out.c0
  have yc1 := Yb22.out.c1
  have yc2 := Yb22.out.c2
  have yc3 := Yb22.out.c3
  have yl := Yb22.out.lt
  have xc0 := Xb22.out.c0
  have xc1 := Xb22.out.c1
  have xc2 := Xb22.out.c2
  have xc3 := Xb22.out.c3
  have xl := Xb22.out.lt
  go_wp2_with fail
  refine (H18.out _).mono ?_
  rintro e w23 ⟨rfl, g⟩
  have Xb23 : Hid (QBlk w23 w.heap.size (.bool n1) (.string s1) (.bool d1) (.string t1)) := Xb22.out.kept g (by simp)
  have Yb23 : Hid (QBlk w23 (w.heap.size + 1) (.bool n2) (.string s2) (.bool d2) (.string t2)) := Yb22.out.kept g (by simp)
  have Zb23 : Hid (QBlk w23 (w.heap.size + 2) (.bool n3) (.string s3) (.bool d3) (.string t3)) := Zb22.out.kept g (by simp)
  have Db23 : Hid (QBlk w23 w6.heap.size (.bool na) (.string sa) (.bool da) (.string ta)) := Db22.out.kept g (by simp)
  have Bb23 : Hid (QBlk w23 w7.heap.size (.bool nb) (.string sb) (.bool db) (.string tb)) := Bb22.out.kept g (by simp)
  have Cb23 : Hid (QBlk w23 w8.heap.size (.bool nc) (.string sc) (.bool dc) (.string tc)) := Cb22.out.kept g (by simp)
  have Pb23 : Hid (QBlk w23 w10.heap.size (.bool np) (.string sp) (.bool dp) (.string tp)) := Pb22.out.kept g (by simp)
  have Tb23 : Hid (QBlk w23 w15.heap.size (.bool n1) (.string s1) (.bool d1) (.string t1)) := Tb22.out.kept g (by simp)
  have Ub23 : Hid (QBlk w23 w17.heap.size (.bool n1) (.string s1) (.bool d1) (.string t1)) := Ub22.out.kept g (by simp)
  have HG23 : Hid (w.grownBy w23 none) := grownBy_trans HG22.out g
  clear g HG22 Xb22 Yb22 Zb22 Db22 Bb22 Cb22 Pb22 Tb22 Ub22 yc0 yc1 yc2 yc3 yl xc0 xc1 xc2 xc3 xl
  go_wp2_with fail
  refine (HK.out _ HG23.out).mono ?_
  rintro e w24 ⟨rfl, g⟩
  go_wp2_with fail
  go_ret
  exact ⟨rfl, grownBy_trans HG23.out g⟩
end Go.Proofs.YtgemkfiippooeaaGreatDoor
