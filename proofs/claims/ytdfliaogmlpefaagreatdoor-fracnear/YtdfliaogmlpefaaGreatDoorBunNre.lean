/-
  FracNear's ways that end early.
  FracNear: all ways together.
  FracNear, of any three.
-/
import Derived.Test.YtdfliaogmlpefaaGreatDoorBunFre
import Derived.Deep.RegionWith
import Derived.Deep.CutRange
import Derived.Test.YtdfliaogmlpefaaGreatDoorBunSmn
import Derived.Test.YtdfliaogmlpefaaGreatDoorBunSmr
import Derived.Test.YtdfliaogmlpefaaGreatDoorBunFrs
namespace Go.Proofs.YtdfliaogmlpefaaGreatDoor
open Go.RowKit Go.Lib Go.Sort
set_option linter.unusedVariables false
set_option maxHeartbeats 12800000
set_option maxRecDepth 1000000
theorem near_long (n d n2 d2 n3 d3 : Bool) (s t s2 t2 s3 t3 : ByteArray) (w : World)
    (HL : Hid (∀ (W : World) (B : Nat), W.heap[B]? = some (.cells #[.bool n, .string s, .bool d, .string t, .bool n2, .string s2, .bool d2, .string t2, .bool n3, .string s3, .bool d3, .string t3] 25 (0, 0)) → Calls Tryz.prog 9 #[.int .i64 60, .slice (some ⟨B, 0, none⟩) 3 3] W fun e w' => e = .returned (.bool true) ∧ W.grownBy w' none))
    (HK : Hid (∀ W, w.grownBy W none → Calls Tryz.prog 10 #[] W fun e w' => e = .returned (.bool true) ∧ W.grownBy w' none)) :
    Calls Tryz.prog 7 #[frac n s d t, frac n2 s2 d2 t2, frac n3 s3 d3 t3] w fun e w' => e = .returned (.bool true) ∧ w.grownBy w' none := by
  go_enter Tryz.func7, Tryz.ntmps7
  go_wp2_with fail
  refine (HL.out _ _ ?hb).mono ?_
  case hb => exact at_alloc4 _ _ _ _ _
  rintro e w1 ⟨rfl, g⟩
  have Xb1 : Hid (QBlk w1 w.heap.size (.bool n) (.string s) (.bool d) (.string t)) := QBlk.kept (old_alloc _ _ (old_alloc _ _ (old_alloc _ _ (heap_alloc_new _ _)))) g (by simp)
  have Yb1 : Hid (QBlk w1 (w.heap.size + 1) (.bool n2) (.string s2) (.bool d2) (.string t2)) := QBlk.kept (old_alloc _ _ (old_alloc _ _ (heap_alloc2_new _ _ _))) g (by simp)
  have Ob1 : Hid (QBlk w1 (w.heap.size + 1 + 1) (.bool n3) (.string s3) (.bool d3) (.string t3)) := QBlk.kept (old_alloc _ _ (at_alloc3 _ _ _ _)) g (by simp)
  have HG1 : Hid (w.grownBy w1 none) := grownBy_trans (grownBy_trans (grow3 _ _ _ _) (grow1 _ _)) g
  clear g HL
  go_wp2_with fail
  refine (HK.out _ HG1.out).mono ?_
  rintro e v9 ⟨rfl, g9⟩
  go_wp2_with fail
  go_ret
  exact ⟨rfl, grownBy_trans HG1.out g9⟩
theorem near_b1 (n d n2 d2 n3 d3 : Bool) (s t s2 t2 s3 t3 : ByteArray) (w : World)
    (HL : Hid (∀ (W : World) (B : Nat), W.heap[B]? = some (.cells #[.bool n, .string s, .bool d, .string t, .bool n2, .string s2, .bool d2, .string t2, .bool n3, .string s3, .bool d3, .string t3] 25 (0, 0)) → Calls Tryz.prog 9 #[.int .i64 60, .slice (some ⟨B, 0, none⟩) 3 3] W fun e w' => e = .returned (.bool false) ∧ W.grownBy w' none))
    (HM0 : Hid (∀ w, Calls Tryz.prog 40 #[frac n s d t] w fun e w' => e = .returned (.bool false) ∧ w.grownBy w' none))
    (HK : Hid (∀ W, w.grownBy W none → Calls Tryz.prog 10 #[] W fun e w' => e = .returned (.bool true) ∧ W.grownBy w' none)) :
    Calls Tryz.prog 7 #[frac n s d t, frac n2 s2 d2 t2, frac n3 s3 d3 t3] w fun e w' => e = .returned (.bool true) ∧ w.grownBy w' none := by
  go_enter Tryz.func7, Tryz.ntmps7
  go_wp2_with fail
  refine (HL.out _ _ ?hb).mono ?_
  case hb => exact at_alloc4 _ _ _ _ _
  rintro e w1 ⟨rfl, g⟩
  have Xb1 : Hid (QBlk w1 w.heap.size (.bool n) (.string s) (.bool d) (.string t)) := QBlk.kept (old_alloc _ _ (old_alloc _ _ (old_alloc _ _ (heap_alloc_new _ _)))) g (by simp)
  have Yb1 : Hid (QBlk w1 (w.heap.size + 1) (.bool n2) (.string s2) (.bool d2) (.string t2)) := QBlk.kept (old_alloc _ _ (old_alloc _ _ (heap_alloc2_new _ _ _))) g (by simp)
  have Ob1 : Hid (QBlk w1 (w.heap.size + 1 + 1) (.bool n3) (.string s3) (.bool d3) (.string t3)) := QBlk.kept (old_alloc _ _ (at_alloc3 _ _ _ _)) g (by simp)
  have HG1 : Hid (w.grownBy w1 none) := grownBy_trans (grownBy_trans (grow3 _ _ _ _) (grow1 _ _)) g
  clear g HL
  have xc0 := Xb1.out.c0
  have xc1 := Xb1.out.c1
  have xc2 := Xb1.out.c2
  have xc3 := Xb1.out.c3
  have xl := Xb1.out.lt
  go_wp2_with fail
  refine (HM0.out _).mono ?_
  rintro e w2 ⟨rfl, g⟩
  have Xb2 : Hid (QBlk w2 w.heap.size (.bool n) (.string s) (.bool d) (.string t)) := Xb1.out.kept g (by simp)
  have Yb2 : Hid (QBlk w2 (w.heap.size + 1) (.bool n2) (.string s2) (.bool d2) (.string t2)) := Yb1.out.kept g (by simp)
  have Ob2 : Hid (QBlk w2 (w.heap.size + 1 + 1) (.bool n3) (.string s3) (.bool d3) (.string t3)) := Ob1.out.kept g (by simp)
  have HG2 : Hid (w.grownBy w2 none) := grownBy_trans HG1.out g
  clear g HG1 Xb1 Yb1 Ob1 xc0 xc1 xc2 xc3 xl
  go_wp2_with fail
  refine (HK.out _ HG2.out).mono ?_
  rintro e v9 ⟨rfl, g9⟩
  go_wp2_with fail
  go_ret
  exact ⟨rfl, grownBy_trans HG2.out g9⟩
theorem near_b2 (n d n2 d2 n3 d3 : Bool) (s t s2 t2 s3 t3 : ByteArray) (w : World)
    (HL : Hid (∀ (W : World) (B : Nat), W.heap[B]? = some (.cells #[.bool n, .string s, .bool d, .string t, .bool n2, .string s2, .bool d2, .string t2, .bool n3, .string s3, .bool d3, .string t3] 25 (0, 0)) → Calls Tryz.prog 9 #[.int .i64 60, .slice (some ⟨B, 0, none⟩) 3 3] W fun e w' => e = .returned (.bool false) ∧ W.grownBy w' none))
    (HM0 : Hid (∀ w, Calls Tryz.prog 40 #[frac n s d t] w fun e w' => e = .returned (.bool true) ∧ w.grownBy w' none))
    (HM1 : Hid (∀ w, Calls Tryz.prog 40 #[frac n2 s2 d2 t2] w fun e w' => e = .returned (.bool false) ∧ w.grownBy w' none))
    (HK : Hid (∀ W, w.grownBy W none → Calls Tryz.prog 10 #[] W fun e w' => e = .returned (.bool true) ∧ W.grownBy w' none)) :
    Calls Tryz.prog 7 #[frac n s d t, frac n2 s2 d2 t2, frac n3 s3 d3 t3] w fun e w' => e = .returned (.bool true) ∧ w.grownBy w' none := by
  go_enter Tryz.func7, Tryz.ntmps7
  go_wp2_with fail
  refine (HL.out _ _ ?hb).mono ?_
  case hb => exact at_alloc4 _ _ _ _ _
  rintro e w1 ⟨rfl, g⟩
  have Xb1 : Hid (QBlk w1 w.heap.size (.bool n) (.string s) (.bool d) (.string t)) := QBlk.kept (old_alloc _ _ (old_alloc _ _ (old_alloc _ _ (heap_alloc_new _ _)))) g (by simp)
  have Yb1 : Hid (QBlk w1 (w.heap.size + 1) (.bool n2) (.string s2) (.bool d2) (.string t2)) := QBlk.kept (old_alloc _ _ (old_alloc _ _ (heap_alloc2_new _ _ _))) g (by simp)
  have Ob1 : Hid (QBlk w1 (w.heap.size + 1 + 1) (.bool n3) (.string s3) (.bool d3) (.string t3)) := QBlk.kept (old_alloc _ _ (at_alloc3 _ _ _ _)) g (by simp)
  have HG1 : Hid (w.grownBy w1 none) := grownBy_trans (grownBy_trans (grow3 _ _ _ _) (grow1 _ _)) g
  clear g HL
  have xc0 := Xb1.out.c0
  have xc1 := Xb1.out.c1
  have xc2 := Xb1.out.c2
  have xc3 := Xb1.out.c3
  have xl := Xb1.out.lt
  go_wp2_with fail
  refine (HM0.out _).mono ?_
  rintro e w2 ⟨rfl, g⟩
  have Xb2 : Hid (QBlk w2 w.heap.size (.bool n) (.string s) (.bool d) (.string t)) := Xb1.out.kept g (by simp)
  have Yb2 : Hid (QBlk w2 (w.heap.size + 1) (.bool n2) (.string s2) (.bool d2) (.string t2)) := Yb1.out.kept g (by simp)
  have Ob2 : Hid (QBlk w2 (w.heap.size + 1 + 1) (.bool n3) (.string s3) (.bool d3) (.string t3)) := Ob1.out.kept g (by simp)
  have HG2 : Hid (w.grownBy w2 none) := grownBy_trans HG1.out g
  clear g HG1 Xb1 Yb1 Ob1 xc0 xc1 xc2 xc3 xl
  have yc0 := Yb2.out.c0
  have yc1 := Yb2.out.c1
  have yc2 := Yb2.out.c2
  have yc3 := Yb2.out.c3
  have yl := Yb2.out.lt
  go_wp2_with fail
  refine (HM1.out _).mono ?_
  rintro e w3 ⟨rfl, g⟩
  have Xb3 : Hid (QBlk w3 w.heap.size (.bool n) (.string s) (.bool d) (.string t)) := Xb2.out.kept g (by simp)
  have Yb3 : Hid (QBlk w3 (w.heap.size + 1) (.bool n2) (.string s2) (.bool d2) (.string t2)) := Yb2.out.kept g (by simp)
  have Ob3 : Hid (QBlk w3 (w.heap.size + 1 + 1) (.bool n3) (.string s3) (.bool d3) (.string t3)) := Ob2.out.kept g (by simp)
  have HG3 : Hid (w.grownBy w3 none) := grownBy_trans HG2.out g
  clear g HG2 Xb2 Yb2 Ob2 yc0 yc1 yc2 yc3 yl
  go_wp2_with fail
  refine (HK.out _ HG3.out).mono ?_
  rintro e v9 ⟨rfl, g9⟩
  go_wp2_with fail
  go_ret
  exact ⟨rfl, grownBy_trans HG3.out g9⟩
theorem near_b3 (n d n2 d2 n3 d3 : Bool) (s t s2 t2 s3 t3 : ByteArray) (w : World)
    (HL : Hid (∀ (W : World) (B : Nat), W.heap[B]? = some (.cells #[.bool n, .string s, .bool d, .string t, .bool n2, .string s2, .bool d2, .string t2, .bool n3, .string s3, .bool d3, .string t3] 25 (0, 0)) → Calls Tryz.prog 9 #[.int .i64 60, .slice (some ⟨B, 0, none⟩) 3 3] W fun e w' => e = .returned (.bool false) ∧ W.grownBy w' none))
    (HM0 : Hid (∀ w, Calls Tryz.prog 40 #[frac n s d t] w fun e w' => e = .returned (.bool true) ∧ w.grownBy w' none))
    (HM1 : Hid (∀ w, Calls Tryz.prog 40 #[frac n2 s2 d2 t2] w fun e w' => e = .returned (.bool true) ∧ w.grownBy w' none))
    (HM2 : Hid (∀ w, Calls Tryz.prog 40 #[frac n3 s3 d3 t3] w fun e w' => e = .returned (.bool false) ∧ w.grownBy w' none))
    (HK : Hid (∀ W, w.grownBy W none → Calls Tryz.prog 10 #[] W fun e w' => e = .returned (.bool true) ∧ W.grownBy w' none)) :
    Calls Tryz.prog 7 #[frac n s d t, frac n2 s2 d2 t2, frac n3 s3 d3 t3] w fun e w' => e = .returned (.bool true) ∧ w.grownBy w' none := by
  go_enter Tryz.func7, Tryz.ntmps7
  go_wp2_with fail
  refine (HL.out _ _ ?hb).mono ?_
  case hb => exact at_alloc4 _ _ _ _ _
  rintro e w1 ⟨rfl, g⟩
  have Xb1 : Hid (QBlk w1 w.heap.size (.bool n) (.string s) (.bool d) (.string t)) := QBlk.kept (old_alloc _ _ (old_alloc _ _ (old_alloc _ _ (heap_alloc_new _ _)))) g (by simp)
  have Yb1 : Hid (QBlk w1 (w.heap.size + 1) (.bool n2) (.string s2) (.bool d2) (.string t2)) := QBlk.kept (old_alloc _ _ (old_alloc _ _ (heap_alloc2_new _ _ _))) g (by simp)
  have Ob1 : Hid (QBlk w1 (w.heap.size + 1 + 1) (.bool n3) (.string s3) (.bool d3) (.string t3)) := QBlk.kept (old_alloc _ _ (at_alloc3 _ _ _ _)) g (by simp)
  have HG1 : Hid (w.grownBy w1 none) := grownBy_trans (grownBy_trans (grow3 _ _ _ _) (grow1 _ _)) g
  clear g HL
  have xc0 := Xb1.out.c0
  have xc1 := Xb1.out.c1
  have xc2 := Xb1.out.c2
  have xc3 := Xb1.out.c3
  have xl := Xb1.out.lt
  go_wp2_with fail
  refine (HM0.out _).mono ?_
  rintro e w2 ⟨rfl, g⟩
  have Xb2 : Hid (QBlk w2 w.heap.size (.bool n) (.string s) (.bool d) (.string t)) := Xb1.out.kept g (by simp)
  have Yb2 : Hid (QBlk w2 (w.heap.size + 1) (.bool n2) (.string s2) (.bool d2) (.string t2)) := Yb1.out.kept g (by simp)
  have Ob2 : Hid (QBlk w2 (w.heap.size + 1 + 1) (.bool n3) (.string s3) (.bool d3) (.string t3)) := Ob1.out.kept g (by simp)
  have HG2 : Hid (w.grownBy w2 none) := grownBy_trans HG1.out g
  clear g HG1 Xb1 Yb1 Ob1 xc0 xc1 xc2 xc3 xl
  have yc0 := Yb2.out.c0
  have yc1 := Yb2.out.c1
  have yc2 := Yb2.out.c2
  have yc3 := Yb2.out.c3
  have yl := Yb2.out.lt
  go_wp2_with fail
  refine (HM1.out _).mono ?_
  rintro e w3 ⟨rfl, g⟩
  have Xb3 : Hid (QBlk w3 w.heap.size (.bool n) (.string s) (.bool d) (.string t)) := Xb2.out.kept g (by simp)
  have Yb3 : Hid (QBlk w3 (w.heap.size + 1) (.bool n2) (.string s2) (.bool d2) (.string t2)) := Yb2.out.kept g (by simp)
  have Ob3 : Hid (QBlk w3 (w.heap.size + 1 + 1) (.bool n3) (.string s3) (.bool d3) (.string t3)) := Ob2.out.kept g (by simp)
  have HG3 : Hid (w.grownBy w3 none) := grownBy_trans HG2.out g
  clear g HG2 Xb2 Yb2 Ob2 yc0 yc1 yc2 yc3 yl
  have oc0 := Ob3.out.c0
  have oc1 := Ob3.out.c1
  have oc2 := Ob3.out.c2
  have oc3 := Ob3.out.c3
  have ol := Ob3.out.lt
  go_wp2_with fail
  refine (HM2.out _).mono ?_
  rintro e w4 ⟨rfl, g⟩
  have Xb4 : Hid (QBlk w4 w.heap.size (.bool n) (.string s) (.bool d) (.string t)) := Xb3.out.kept g (by simp)
  have Yb4 : Hid (QBlk w4 (w.heap.size + 1) (.bool n2) (.string s2) (.bool d2) (.string t2)) := Yb3.out.kept g (by simp)
  have Ob4 : Hid (QBlk w4 (w.heap.size + 1 + 1) (.bool n3) (.string s3) (.bool d3) (.string t3)) := Ob3.out.kept g (by simp)
  have HG4 : Hid (w.grownBy w4 none) := grownBy_trans HG3.out g
  clear g HG3 Xb3 Yb3 Ob3 oc0 oc1 oc2 oc3 ol
  go_wp2_with fail
  refine (HK.out _ HG4.out).mono ?_
  rintro e v9 ⟨rfl, g9⟩
  go_wp2_with fail
  go_ret
  exact ⟨rfl, grownBy_trans HG4.out g9⟩
theorem isq_wz {a : Int} {n : Bool} {s : ByteArray} (h : Sz 1024 a n s) : IsQ a 1 n s false oneS := ⟨h, one_1024, by decide, by simp⟩
theorem of_wz {a : Int} {n : Bool} {s : ByteArray} (h : Sz 1024 a n s) (w : World) :
    Calls Tryz.prog 41 #[whole n s, whole false oneS] w fun e w' => e = .returned (.tuple #[frac n s false oneS, .int .i64 0]) ∧ w.grownBy w' none := by
  have := fof_any (k := 1024) (by decide) h one_1024 (by decide) (low_to (by decide) (isq_wz h) rfl) w
  rw [(told_fit (isq_wz h)).1, (told_fit (isq_wz h)).2] at this
  exact this
theorem lcmp_q {x y u v : Int} {n d n2 d2 : Bool} {s t s2 t2 : ByteArray} (h1 : IsQ x y n s d t) (h2 : IsQ u v n2 s2 d2 t2) (w : World) :
    Calls Tryz.prog 43 #[frac n s d t, frac n2 s2 d2 t2] w fun e w' => e = .returned (.int .i64 (cmpZ (x * v) (u * y))) ∧ w.grownBy w' none :=
  lcmp_by n d n2 d2 s t s2 t2 _ 0 (fun w => fcmp_any h1 h2 w) w
theorem cmpZ_zero {a b : Int} (h : cmpZ a b = 0) : a = b := by
  rcases Int.lt_trichotomy a b with h1 | h1 | h1
  · rw [cmpZ_lt h1] at h; omega
  · exact h1
  · rw [cmpZ_gt h1] at h; omega
theorem simpler_q {A B N D : Int} {n d n2 d2 : Bool} {s t s2 t2 : ByteArray} (h1 : IsQ A B n s d t) (h2 : IsQ N D n2 s2 d2 t2) (way : D < B ∨ (D = B ∧ (N.natAbs < A.natAbs ∨ A = N))) (w : World) :
    Calls Tryz.prog 46 #[frac n s d t, frac n2 s2 d2 t2] w fun e w' => e = .returned (.bool false) ∧ w.grownBy w' none := by
  refine simpler_no n d n2 d2 s t s2 t2 (cmpZ (B * 1) (D * 1)) (cmpZ ((A.natAbs : Int) * D) ((N.natAbs : Int) * B)) (sgn n s) ?_ w (fun w => fint_by 1 false oneS (fun w => of_is (by decide) (by decide) one_isz w) w) (fun a b w h => ?_) (fun w => lcmp_q (isq_wz h1.zd) (isq_wz h2.zd) w) (fun a b f g w h => ?_) (fun w => lcmp_q h1.abs h2.abs w) (fun hz a b f g w h => ?_)
  · rcases way with h | ⟨rfl, h | h⟩
    · exact .inl (cmpZ_gt (by omega))
    · refine .inr ⟨cmpZ_same _, .inl (cmpZ_gt ?_)⟩
      exact Int.mul_lt_mul_of_pos_right (by omega) h1.pos
    · refine .inr ⟨cmpZ_same _, .inr ?_⟩
      rw [h]
      exact cmpZ_same _
  · rcases h with ⟨rfl, rfl⟩ | ⟨rfl, rfl⟩
    · exact of_wz h1.zd w
    · exact of_wz h2.zd w
  · rcases h with ⟨rfl, rfl, rfl, rfl⟩ | ⟨rfl, rfl, rfl, rfl⟩
    · exact fabs_by _ _ _ _ (fun w => h1.call w) w
    · exact fabs_by _ _ _ _ (fun w => h2.call w) w
  · obtain ⟨e1, e2⟩ := low_one h1.abs.pos h2.abs.pos h1.abs.low h2.abs.low (cmpZ_zero hz)
    have hAN : A = N := by
      rcases way with h | ⟨h0, h | h⟩
      · omega
      · omega
      · exact h
    have es : sgn n s = sgn n2 s2 := by rw [sgn_of (by decide) h1.zn, sgn_of (by decide) h2.zn, hAN]
    rcases h with ⟨rfl, rfl, rfl, rfl⟩ | ⟨rfl, rfl, rfl, rfl⟩
    · exact fsign_any h1 w
    · rw [es]
      exact fsign_any h2 w
theorem lt_next {z k : Nat} (h : z ≤ 256 ^ k) : z < 256 ^ (k + 1) := by
  rw [Nat.pow_succ]
  have : 0 < 256 ^ k := Nat.pow_pos (by decide)
  omega
theorem near_off {x y : Int} (hy : 0 < y) : (2 * (nearZ x y * y - x)).natAbs ≤ y.natAbs ∧ (nearZ x y = x / y ∨ nearZ x y = x / y + 1) := by
  have h1 := Int.emod_nonneg x (Int.ne_of_gt hy)
  have h2 := Int.emod_lt_of_pos x hy
  have h3 := Int.emod_def x y
  have e : x / y * y = y * (x / y) := Int.mul_comm _ _
  have e2 : (x / y + 1) * y = y * (x / y) + y := by rw [Int.add_mul, e, Int.one_mul]
  unfold nearZ
  split
  · exact ⟨by rw [e]; omega, .inl rfl⟩
  · split
    · exact ⟨by rw [e2]; omega, .inr rfl⟩
    · split
      · exact ⟨by rw [e]; omega, .inl rfl⟩
      · exact ⟨by rw [e2]; omega, .inr rfl⟩
theorem fnear_good {x y u v A B : Int} {n d n2 d2 n3 d3 : Bool} {s t s2 t2 s3 t3 : ByteArray} (h1 : IsQ x y n s d t) (h2 : IsQ u v n2 s2 d2 t2) (h3 : IsQ A B n3 s3 d3 t3) (k : Nat) (hk : k ≤ 100) (bx : x.natAbs < 256 ^ k) (by_ : y.natAbs < 256 ^ k) (bu : u.natAbs < 256 ^ k) (bv : v.natAbs < 256 ^ k) (w : World)
    (HL : Hid (∀ (W : World) (B : Nat), W.heap[B]? = some (.cells #[.bool n, .string s, .bool d, .string t, .bool n2, .string s2, .bool d2, .string t2, .bool n3, .string s3, .bool d3, .string t3] 25 (0, 0)) → Calls Tryz.prog 9 #[.int .i64 60, .slice (some ⟨B, 0, none⟩) 3 3] W fun e w' => e = .returned (.bool false) ∧ W.grownBy w' none))
    (HK : Hid (∀ W, w.grownBy W none → Calls Tryz.prog 10 #[] W fun e w' => e = .returned (.bool true) ∧ W.grownBy w' none)) :
    Calls Tryz.prog 7 #[frac n s d t, frac n2 s2 d2 t2, frac n3 s3 d3 t3] w fun e w' => e = .returned (.bool true) ∧ w.grownBy w' none := by
  have hy := h1.pos
  have hv := h2.pos
  have up : ∀ z : Nat, z < 256 ^ k → z < 256 ^ 1024 := fun z h => pow_up (k := k) (l := 1024) (z := z) h (Nat.le_trans hk hk2)
  have up1 : ∀ z : Nat, z ≤ 256 ^ k → z < 256 ^ 1024 := fun z h => pow_up (k := k + 1) (l := 1024) (z := z) (lt_next h) (Nat.le_trans (Nat.succ_le_succ hk) (by decide))
  have ba : (x / y).natAbs ≤ x.natAbs := ediv_abs x y hy
  have za : Sz 1024 (x / y) (ez (x / y)).1 (ez (x / y)).2 := ⟨ez_is _, up _ (Nat.lt_of_le_of_lt ba bx)⟩
  have zb : Sz 1024 (x / y + 1) (ez (x / y + 1)).1 (ez (x / y + 1)).2 := ⟨ez_is _, up1 _ (by omega)⟩
  obtain ⟨no1, no2⟩ := near_off (x := x) hy
  have zm : Sz 1024 (nearZ x y) (ez (nearZ x y)).1 (ez (nearZ x y)).2 := ⟨ez_is _, up1 _ (by omega)⟩
  have zero := Int.emod_nonneg x (Int.ne_of_gt hy)
  have lessy := Int.emod_lt_of_pos x hy
  have hdef := Int.emod_def x y
  have qe : IsQ (nearZ x y * y - x) y (ez (nearZ x y * y - x)).1 (ez (nearZ x y * y - x)).2 d t := ⟨⟨ez_is _, up _ (by omega)⟩, h1.zd, hy, by
    have g := h1.low
    rw [show nearZ x y * y - x = -x + nearZ x y * y by omega, Int.gcd_comm, Int.gcd_add_mul_right_right, Int.gcd_neg, Int.gcd_comm]
    exact g⟩
  obtain ⟨TN, TD, tn, ts, td, tt, qt, -, -, et⟩ := low_v (k := k) (Nat.le_trans hk hk2) (x := 2 * (nearZ x y * y - x)) (Int.ne_of_gt hy) (by omega) by_
  generalize hem : nearZ x y * y - x = em at *
  have eT : TN * (y * y) = (em * y + em * y) * TD := by
    rw [← Int.mul_assoc, et, ← Int.two_mul, ← Int.mul_assoc, Int.mul_right_comm]
  have tle : (TN.natAbs : Int) * 1 ≤ 1 * TD := by
    have p := qt.pos
    have q1 : TN.natAbs * y.natAbs = (2 * em).natAbs * TD.natAbs := by rw [← Int.natAbs_mul, ← Int.natAbs_mul, et]
    have q2 : TN.natAbs * y.natAbs ≤ TD.natAbs * y.natAbs := by
      rw [q1, Nat.mul_comm TD.natAbs]
      exact Nat.mul_le_mul_right _ no1
    have q3 := Nat.le_of_mul_le_mul_right q2 (show 0 < y.natAbs by omega)
    omega
  have UP := fun w => fadd_any (isq_wz za) isq_11 (low_to (by decide) (isq_wz zb) (by omega)) w
  rw [(told_fit (isq_wz zb)).1, (told_fit (isq_wz zb)).2] at UP
  have SU := fun w => fsub_any (isq_wz zm) h1 (low_to (show (1 : Int) * y ≠ 0 by omega) qe (by rw [Int.one_mul, Int.mul_one, hem])) w
  rw [(told_fit qe).1, (told_fit qe).2] at SU
  have TW := fun w => fadd_any qe qe (low_to (mul_ne hy hy) qt eT) w
  rw [(told_fit qt).1, (told_fit qt).2] at TW
  have C1 : cmpZ (x / y * y) (x * 1) ≤ 0 := cmpZ_le (by rw [Int.mul_comm]; omega)
  have C2 : cmpZ ((x / y + 1) * y) (x * 1) = 1 := cmpZ_gt (by rw [Int.add_mul, Int.mul_comm (x / y), Int.one_mul]; omega)
  have HC2 := fun w => lcmp_q (isq_wz zb) h1 w
  rw [C2] at HC2
  -- both, the lesser first
  obtain ⟨a, b, c, f, pn, ps, pd, pt, qn, qs, qd, qt', g1, g2, hcq, hsw⟩ : ∃ (a b c f : Int) (pn : Bool) (ps : ByteArray) (pd : Bool) (pt : ByteArray) (qn : Bool) (qs : ByteArray) (qd : Bool) (qt : ByteArray), (IsQ a b pn ps pd pt ∧ a.natAbs < 256 ^ k ∧ b.natAbs < 256 ^ k) ∧ (IsQ c f qn qs qd qt ∧ c.natAbs < 256 ^ k ∧ f.natAbs < 256 ^ k) ∧ a * f ≤ c * b ∧ ((cmpZ (x * v) (u * y) ≤ 0 ∧ pn = n ∧ ps = s ∧ pd = d ∧ pt = t ∧ qn = n2 ∧ qs = s2 ∧ qd = d2 ∧ qt = t2) ∨ (cmpZ (x * v) (u * y) = 1 ∧ pn = n2 ∧ ps = s2 ∧ pd = d2 ∧ pt = t2 ∧ qn = n ∧ qs = s ∧ qd = d ∧ qt = t)) := by
    by_cases hle : x * v ≤ u * y
    · exact ⟨x, y, u, v, n, s, d, t, n2, s2, d2, t2, ⟨h1, bx, by_⟩, ⟨h2, bu, bv⟩, hle, .inl ⟨cmpZ_le hle, rfl, rfl, rfl, rfl, rfl, rfl, rfl, rfl⟩⟩
    · exact ⟨u, v, x, y, n2, s2, d2, t2, n, s, d, t, ⟨h2, bu, bv⟩, ⟨h1, bx, by_⟩, by omega, .inr ⟨cmpZ_gt (by omega), rfl, rfl, rfl, rfl, rfl, rfl, rfl, rfl⟩⟩
  obtain ⟨ZN, ZD, zn, zs, zd, zt, qz, SI, LE⟩ := simboth_l g1.1 g2.1 k hk g1.2.1 g1.2.2 g2.2.1 g2.2.2 hcq
  have HIN : cmpZ (A * b) (a * B) = -1 ∨ (0 ≤ cmpZ (A * b) (a * B) ∧ cmpZ (A * f) (c * B) = 1) ∨ (0 ≤ cmpZ (A * b) (a * B) ∧ cmpZ (A * f) (c * B) ≤ 0 ∧ Hid (∀ w, Calls Tryz.prog 46 #[frac n3 s3 d3 t3, frac zn zs zd zt] w fun e w' => e = .returned (.bool false) ∧ w.grownBy w' none)) := by
    by_cases i1 : a * B ≤ A * b
    · by_cases i2 : A * f ≤ c * B
      · exact .inr (.inr ⟨cmpZ_ge i1, cmpZ_le i2, fun w => simpler_q h3 qz (LE.least A B h3.pos i1 i2) w⟩)
      · exact .inr (.inl ⟨cmpZ_ge i1, cmpZ_gt (by omega)⟩)
    · exact .inl (cmpZ_lt (by omega))
  have HMay : Hid (∀ a b c f (w : World), (a = n ∧ b = s ∧ c = d ∧ f = t) ∨ (a = n2 ∧ b = s2 ∧ c = d2 ∧ f = t2) ∨ (a = n3 ∧ b = s3 ∧ c = d3 ∧ f = t3) → Calls Tryz.prog 40 #[frac a b c f] w fun e w' => e = .returned (.bool true) ∧ w.grownBy w' none) := fun a b c f w h => by
    rcases h with ⟨rfl, rfl, rfl, rfl⟩ | ⟨rfl, rfl, rfl, rfl⟩ | ⟨rfl, rfl, rfl, rfl⟩
    · exact h1.call w
    · exact h2.call w
    · exact h3.call w
  have FIN : ∀ (er sr : Int) (rn rd : Bool) (rs rt : ByteArray), 0 ≤ sr → (Hid (∀ w, Calls Tryz.prog 16 #[frac n s d t] w fun e w' => e = .returned (.tuple #[frac rn rs rd rt, .int .i64 er]) ∧ w.grownBy w' none)) → (er = 7 ∨ (er = 0 ∧ Hid (∀ w, Calls Tryz.prog 45 #[frac rn rs rd rt, frac rn rs rd rt] w fun e w' => e = .returned (.tuple #[frac n s d t, .int .i64 0]) ∧ w.grownBy w' none) ∧ Hid (∀ w, Calls Tryz.prog 22 #[frac rn rs rd rt] w fun e w' => e = .returned (.int .i64 sr) ∧ w.grownBy w' none))) → Calls Tryz.prog 7 #[frac n s d t, frac n2 s2 d2 t2, frac n3 s3 d3 t3] w fun e w' => e = .returned (.bool true) ∧ w.grownBy w' none := fun er sr rn rd rs rt hsr HSq hr =>
    near_walk n d n2 d2 n3 d3 (ez (x / y)).1 (ez (x / y + 1)).1 (ez (nearZ x y)).1 (ez em).1 d tn td rn rd zn zd pn pd qn qd s t s2 t2 s3 t3 (ez (x / y)).2 (ez (x / y + 1)).2 (ez (nearZ x y)).2 (ez em).2 t ts tt rs rt zs zt ps pt qs qt'
      (cmpZ (x / y * y) (x * 1)) (cmpZ ((TN.natAbs : Int) * 1) (1 * TD)) er sr (cmpZ (x * v) (u * y)) (cmpZ (ZN * b) (a * ZD)) (cmpZ (ZN * f) (c * ZD)) (cmpZ (A * b) (a * B)) (cmpZ (A * f) (c * B)) C1 (cmpZ_le tle) hsr (cmpZ_ge LE.lo) (cmpZ_le LE.hi) w HL HMay
      (fun w => fint_by 1 false oneS (fun w => of_is (by decide) (by decide) one_isz w) w) (fun w => floor_any h1 (ez_is _) w) (fun w => of_wz za w) (fun w => UP w) (fun w => lcmp_q (isq_wz za) h1 w) (fun w => HC2 w) (fun w => near_any h1 (ez_is _) w) (fun w => of_wz zm w) (fun w => SU w) (fun w => TW w) (fun w => fabs_by _ _ _ _ (fun w => qt.call w) w) (fun w => lcmp_q qt.abs isq_11 w) HSq hr (fun w => lcmp_q h1 h2 w) hsw (fun w => SI w) (fun w => lcmp_q qz g1.1 w) (fun w => lcmp_q qz g2.1 w) (fun w => lcmp_q h3 g1.1 w) (fun w => lcmp_q h3 g2.1 w) HIN HK
  rcases sqrt_val h1 with ⟨RN, RD, rn, rs, rd, rt, qr, r0, rx, ry, SQ⟩ | SQ
  · refine FIN 0 (sgn rn rs) rn rd rs rt (by rw [sgn_of (by decide) qr.zn]; exact cmpZ_ge r0) (fun w => SQ w) (.inr ⟨rfl, fun w => ?_, fun w => fsign_any qr w⟩)
    have := fmul_any qr qr (low_to (mul_ne qr.pos qr.pos) h1 (by rw [rx, ry])) w
    rw [(told_fit h1).1, (told_fit h1).2] at this
    exact this
  · exact FIN 7 0 false false eS eS (Int.le_refl _) (fun w => SQ w) (.inl rfl)
theorem fnear_any (n d n2 d2 n3 d3 : Bool) (s t s2 t2 s3 t3 : ByteArray) (z1 : s.size ≤ maxLen) (z2 : t.size ≤ maxLen) (z3 : s2.size ≤ maxLen) (z4 : t2.size ≤ maxLen) (z5 : s3.size ≤ maxLen) (z6 : t3.size ≤ maxLen) (w : World) (htab : Lib.TabIs Tryz.prog w "internal/strconv.uint64pow10" .u64 Lib.pow10Tab) :
    Calls Tryz.prog 7 #[frac n s d t, frac n2 s2 d2 t2, frac n3 s3 d3 t3] w fun e w' => e = .returned (.bool true) ∧ w.grownBy w' none := by
  have HK := known_in htab
  have hsz : ∀ p ∈ [(n, s, d, t), (n2, s2, d2, t2), (n3, s3, d3, t3)], p.2.1.size ≤ maxLen ∧ p.2.2.2.size ≤ maxLen := by
    intro p hp
    simp at hp
    rcases hp with rfl | rfl | rfl
    · exact ⟨z1, z2⟩
    · exact ⟨z3, z4⟩
    · exact ⟨z5, z6⟩
  by_cases hl : (s.size ≤ 60 ∧ t.size ≤ 60) ∧ (s2.size ≤ 60 ∧ t2.size ≤ 60) ∧ (s3.size ≤ 60 ∧ t3.size ≤ 60)
  · have HL : Hid (∀ (W : World) (B : Nat), W.heap[B]? = some (.cells #[.bool n, .string s, .bool d, .string t, .bool n2, .string s2, .bool d2, .string t2, .bool n3, .string s3, .bool d3, .string t3] 25 (0, 0)) → Calls Tryz.prog 9 #[.int .i64 60, .slice (some ⟨B, 0, none⟩) 3 3] W fun e w' => e = .returned (.bool false) ∧ W.grownBy w' none) := fun W B hB => by
      refine longq_no 60 (by decide) W _ _ (dq_three hB) (by simp) ?_
      intro p hp
      simp at hp
      rcases hp with rfl | rfl | rfl
      · exact ⟨by show (s.size : Int) ≤ 60; omega, by show (t.size : Int) ≤ 60; omega⟩
      · exact ⟨by show (s2.size : Int) ≤ 60; omega, by show (t2.size : Int) ≤ 60; omega⟩
      · exact ⟨by show (s3.size : Int) ≤ 60; omega, by show (t3.size : Int) ≤ 60; omega⟩
    cases hx : mayQ n s d t
    · exact near_b1 n d n2 d2 n3 d3 s t s2 t2 s3 t3 w HL (may_q z1 z2 hx).1 HK
    · cases hy : mayQ n2 s2 d2 t2
      · exact near_b2 n d n2 d2 n3 d3 s t s2 t2 s3 t3 w HL (may_q z1 z2 hx).1 (may_q z3 z4 hy).1 HK
      · cases hz : mayQ n3 s3 d3 t3
        · exact near_b3 n d n2 d2 n3 d3 s t s2 t2 s3 t3 w HL (may_q z1 z2 hx).1 (may_q z3 z4 hy).1 (may_q z5 z6 hz).1 HK
        · have h1 := mayQ_is hx
          have h2 := mayQ_is hy
          have h3 := mayQ_is hz
          exact fnear_good h1 h2 h3 60 (by decide) (may_sz (h1.zn.may (by decide)) hl.1.1).2 (may_sz (h1.zd.may (by decide)) hl.1.2).2 (may_sz (h2.zn.may (by decide)) hl.2.1.1).2 (may_sz (h2.zd.may (by decide)) hl.2.1.2).2 w HL HK
  · refine near_long n d n2 d2 n3 d3 s t s2 t2 s3 t3 w (fun W B hB => longq_yes 60 (by decide) W _ _ (dq_three hB) (by simp) hsz ?_) HK
    by_cases h1 : s.size ≤ 60 ∧ t.size ≤ 60
    · by_cases h2 : s2.size ≤ 60 ∧ t2.size ≤ 60
      · exact ⟨(n3, s3, d3, t3), by simp, by show (60 : Int) < (s3.size : Int) ∨ (60 : Int) < (t3.size : Int); omega⟩
      · exact ⟨(n2, s2, d2, t2), by simp, by show (60 : Int) < (s2.size : Int) ∨ (60 : Int) < (t2.size : Int); omega⟩
    · exact ⟨(n, s, d, t), by simp, by show (60 : Int) < (s.size : Int) ∨ (60 : Int) < (t.size : Int); omega⟩
end Go.Proofs.YtdfliaogmlpefaaGreatDoor
