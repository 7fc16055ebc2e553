/-
  The law's walk.
-/
import Derived.Test.YtlpdmbidjjaeoabFcn
namespace Go.Proofs.Ytlpdmbidjjaeoab
open Go.RowKit Go.Lib Go.Sort Ieee
attribute [local go_sem] run_store_float run_store_complex
set_option linter.unusedVariables false

theorem run_equalIn_float (w : World) (d : Nat) (a b : Nat) : (Op.equalIn (d + 1) 25 (.float .f64 a) (.float .f64 b)).run Try.prog w = .ok (FloatKind.f64.format.order a b == some .eq) w := by
  simp [Op.equalIn, run_underlying Try.underlying25, Op.floatEq]
theorem run_equalIn_complex (w : World) (d : Nat) (a b c e : Nat) : (Op.equalIn (d + 1) 24 (.complex .f64 a b) (.complex .f64 c e)).run Try.prog w = .ok ((FloatKind.f64.format.order a c == some .eq) && (FloatKind.f64.format.order b e == some .eq)) w := by
  simp [Op.equalIn, run_underlying Try.underlying24, Op.floatEq]
attribute [local go_sem] run_equalIn_float run_equalIn_complex
/-- What the law answers. -/
def Yes (w : World) (e : Ending) (w' : World) : Prop := e = .returned (.bool true) ∧ w.grownBy w' none
abbrev six (a b c d e f : Int) : Value := .agg #[.int .i64 a, .int .i64 b, .int .i64 c, .int .i64 d, .int .i64 e, .int .i64 f]

set_option maxHeartbeats 6400000 in
set_option maxRecDepth 1000000 in
theorem law_zero {a b c d e f a' b' c' d' e' f' : Int} {p1 p2 q1 q2 r1 r2 : Nat} (s1 : Gives 4 #[.int .i64 a, .int .i64 1024] (.int .i64 a')) (s2 : Gives 4 #[.int .i64 b, .int .i64 1024] (.int .i64 b')) (s3 : Gives 4 #[.int .i64 c, .int .i64 1024] (.int .i64 c')) (s4 : Gives 4 #[.int .i64 d, .int .i64 1024] (.int .i64 d')) (s5 : Gives 4 #[.int .i64 e, .int .i64 1024] (.int .i64 e')) (s6 : Gives 4 #[.int .i64 f, .int .i64 1024] (.int .i64 f'))
    (k1 : floatOfInt .f64 a' = p1) (k2 : floatOfInt .f64 b' = p2) (k3 : floatOfInt .f64 c' = q1) (k4 : floatOfInt .f64 d' = q2) (k5 : floatOfInt .f64 e' = r1) (k6 : floatOfInt .f64 f' = r2)
    (ht : ∀ w, Calls Try.prog 5 #[.complex .f64 p1 p2, .complex .f64 q1 q2, .complex .f64 r1 r2] w fun e w' => e = .returned (.tuple #[fcirc 0 0 0 0, .int .i64 5]) ∧ w.grownBy w' none) (w : World) :
    Calls Try.prog 3 #[six a b c d e f] w (Yes w) := by
  have q : (FloatKind.f64.format.order 0 0 == some .eq) = true := by kernel_rfl
  have Ht : Hid (∀ w, Calls Try.prog 5 #[.complex .f64 p1 p2, .complex .f64 q1 q2, .complex .f64 r1 r2] w fun e w' => e = .returned (.tuple #[fcirc 0 0 0 0, .int .i64 5]) ∧ w.grownBy w' none) := ht
  clear ht
  go_enter Try.func3, Try.ntmps3
  go_wp2_with fail
  go_region_held3 (fun w' => w'.cell? ⟨w.heap.size, 0, none⟩ = some (Value.int .i64 a) ∧ w'.cell? ⟨w.heap.size, 1, none⟩ = some (Value.int .i64 b))
    (first | (go_keep; done) | fail)
    (first
      | (go_at_call_of 4 a; refine (s1 _).mono ?_; rintro e w' ⟨rfl, rfl⟩)
      | (go_at_call_of 4 b; refine (s2 _).mono ?_; rintro e w' ⟨rfl, rfl⟩)
      | fail)
  clear s1 s2 k1 k2
  go_wp2_with fail
  go_region_held3 (fun w' => w'.cell? ⟨w.heap.size, 2, none⟩ = some (Value.int .i64 c) ∧ w'.cell? ⟨w.heap.size, 3, none⟩ = some (Value.int .i64 d))
    (first | (go_keep; done) | fail)
    (first
      | (go_at_call_of 4 c; refine (s3 _).mono ?_; rintro e w' ⟨rfl, rfl⟩)
      | (go_at_call_of 4 d; refine (s4 _).mono ?_; rintro e w' ⟨rfl, rfl⟩)
      | fail)
  clear s3 s4 k3 k4
  go_wp2_with fail
  go_region_held3 (fun w' => w'.cell? ⟨w.heap.size, 4, none⟩ = some (Value.int .i64 e) ∧ w'.cell? ⟨w.heap.size, 5, none⟩ = some (Value.int .i64 f))
    (first | (go_keep; done) | fail)
    (first
      | (go_at_call_of 4 e; refine (s5 _).mono ?_; rintro e w' ⟨rfl, rfl⟩)
      | (go_at_call_of 4 f; refine (s6 _).mono ?_; rintro e w' ⟨rfl, rfl⟩)
      | fail)
  clear s5 s6 k5 k6
  have HG : Hid (w.grownBy (w.alloc (.cells #[.int .i64 a, .int .i64 b, .int .i64 c, .int .i64 d, .int .i64 e, .int .i64 f] 23)).drew.drew.drew none) := grow_drew (grow_drew (grow_drew (grow1 _ _)))
  generalize (w.alloc (.cells #[.int .i64 a, .int .i64 b, .int .i64 c, .int .i64 d, .int .i64 e, .int .i64 f] 23)).drew.drew.drew = V at *
  go_wp2_with fail
  refine (Ht.out _).mono ?_
  rintro e w1 ⟨rfl, g1⟩
  have HG1 : Hid (w.grownBy (w1.alloc (fObj 0 0 0 0)) none) := grownBy_trans HG.out (grownBy_trans g1 (grow1 _ _))
  clear g1 HG Ht
  go_wp2_with fail
  refine (known_any _).mono ?_
  rintro e w2 ⟨rfl, g2⟩
  have HG2 : Hid (w.grownBy w2 none) := grownBy_trans HG1.out g2
  clear g2 HG1
  go_wp2_with fail
  go_ret
  exact ⟨rfl, HG2.out⟩

set_option maxHeartbeats 6400000 in
set_option maxRecDepth 1000000 in
theorem law_ok {a b c d e f a' b' c' d' e' f' : Int} {p1 p2 q1 q2 r1 r2 A B1 B2 C v1 v2 v3 X i1 i2 Y : Nat} (s1 : Gives 4 #[.int .i64 a, .int .i64 1024] (.int .i64 a')) (s2 : Gives 4 #[.int .i64 b, .int .i64 1024] (.int .i64 b')) (s3 : Gives 4 #[.int .i64 c, .int .i64 1024] (.int .i64 c')) (s4 : Gives 4 #[.int .i64 d, .int .i64 1024] (.int .i64 d')) (s5 : Gives 4 #[.int .i64 e, .int .i64 1024] (.int .i64 e')) (s6 : Gives 4 #[.int .i64 f, .int .i64 1024] (.int .i64 f'))
    (k1 : floatOfInt .f64 a' = p1) (k2 : floatOfInt .f64 b' = p2) (k3 : floatOfInt .f64 c' = q1) (k4 : floatOfInt .f64 d' = q2) (k5 : floatOfInt .f64 e' = r1) (k6 : floatOfInt .f64 f' = r2)
    (ht : ∀ w, Calls Try.prog 5 #[.complex .f64 p1 p2, .complex .f64 q1 q2, .complex .f64 r1 r2] w fun e w' => e = .returned (.tuple #[fcirc A B1 B2 C, .int .i64 0]) ∧ w.grownBy w' none)
    (hv1 : ∀ w, Calls Try.prog 7 #[fcirc A B1 B2 C, .complex .f64 p1 p2] w fun e w' => e = .returned (.float .f64 v1) ∧ w.grownBy w' none)
    (hv2 : ∀ w, Calls Try.prog 7 #[fcirc A B1 B2 C, .complex .f64 q1 q2] w fun e w' => e = .returned (.float .f64 v2) ∧ w.grownBy w' none)
    (hv3 : ∀ w, Calls Try.prog 7 #[fcirc A B1 B2 C, .complex .f64 r1 r2] w fun e w' => e = .returned (.float .f64 v3) ∧ w.grownBy w' none)
    (hi : ∀ w, Calls Try.prog 8 #[fmap 4607182418800017408 0 0 0 0 0 4607182418800017408 0, fcirc A B1 B2 C] w fun e w' => e = .returned (fcirc X i1 i2 Y) ∧ w.grownBy w' none)
    (yv1 : (FloatKind.f64.format.order v1 0 != some .eq) = false) (yv2 : (FloatKind.f64.format.order v2 0 != some .eq) = false) (yv3 : (FloatKind.f64.format.order v3 0 != some .eq) = false) (y0 : (FloatKind.f64.format.order X A == some .eq) = true) (y1 : (FloatKind.f64.format.order i1 B1 == some .eq) = true) (y2 : (FloatKind.f64.format.order i2 B2 == some .eq) = true) (y3 : (FloatKind.f64.format.order Y C == some .eq) = true) (w : World) :
    Calls Try.prog 3 #[six a b c d e f] w (Yes w) := by
  have Ht : Hid (∀ w, Calls Try.prog 5 #[.complex .f64 p1 p2, .complex .f64 q1 q2, .complex .f64 r1 r2] w fun e w' => e = .returned (.tuple #[fcirc A B1 B2 C, .int .i64 0]) ∧ w.grownBy w' none) := ht
  clear ht
  have Hv1 : Hid (∀ w, Calls Try.prog 7 #[fcirc A B1 B2 C, .complex .f64 p1 p2] w fun e w' => e = .returned (.float .f64 v1) ∧ w.grownBy w' none) := hv1
  clear hv1
  have Hv2 : Hid (∀ w, Calls Try.prog 7 #[fcirc A B1 B2 C, .complex .f64 q1 q2] w fun e w' => e = .returned (.float .f64 v2) ∧ w.grownBy w' none) := hv2
  clear hv2
  have Hv3 : Hid (∀ w, Calls Try.prog 7 #[fcirc A B1 B2 C, .complex .f64 r1 r2] w fun e w' => e = .returned (.float .f64 v3) ∧ w.grownBy w' none) := hv3
  clear hv3
  have Him : Hid (∀ w, Calls Try.prog 8 #[fmap 4607182418800017408 0 0 0 0 0 4607182418800017408 0, fcirc A B1 B2 C] w fun e w' => e = .returned (fcirc X i1 i2 Y) ∧ w.grownBy w' none) := hi
  clear hi
  go_enter Try.func3, Try.ntmps3
  go_wp2_with fail
  go_region_held3 (fun w' => w'.cell? ⟨w.heap.size, 0, none⟩ = some (Value.int .i64 a) ∧ w'.cell? ⟨w.heap.size, 1, none⟩ = some (Value.int .i64 b))
    (first | (go_keep; done) | fail)
    (first
      | (go_at_call_of 4 a; refine (s1 _).mono ?_; rintro e w' ⟨rfl, rfl⟩)
      | (go_at_call_of 4 b; refine (s2 _).mono ?_; rintro e w' ⟨rfl, rfl⟩)
      | fail)
  clear s1 s2 k1 k2
  go_wp2_with fail
  go_region_held3 (fun w' => w'.cell? ⟨w.heap.size, 2, none⟩ = some (Value.int .i64 c) ∧ w'.cell? ⟨w.heap.size, 3, none⟩ = some (Value.int .i64 d))
    (first | (go_keep; done) | fail)
    (first
      | (go_at_call_of 4 c; refine (s3 _).mono ?_; rintro e w' ⟨rfl, rfl⟩)
      | (go_at_call_of 4 d; refine (s4 _).mono ?_; rintro e w' ⟨rfl, rfl⟩)
      | fail)
  clear s3 s4 k3 k4
  go_wp2_with fail
  go_region_held3 (fun w' => w'.cell? ⟨w.heap.size, 4, none⟩ = some (Value.int .i64 e) ∧ w'.cell? ⟨w.heap.size, 5, none⟩ = some (Value.int .i64 f))
    (first | (go_keep; done) | fail)
    (first
      | (go_at_call_of 4 e; refine (s5 _).mono ?_; rintro e w' ⟨rfl, rfl⟩)
      | (go_at_call_of 4 f; refine (s6 _).mono ?_; rintro e w' ⟨rfl, rfl⟩)
      | fail)
  clear s5 s6 k5 k6
  have HG : Hid (w.grownBy (w.alloc (.cells #[.int .i64 a, .int .i64 b, .int .i64 c, .int .i64 d, .int .i64 e, .int .i64 f] 23)).drew.drew.drew none) := grow_drew (grow_drew (grow_drew (grow1 _ _)))
  generalize (w.alloc (.cells #[.int .i64 a, .int .i64 b, .int .i64 c, .int .i64 d, .int .i64 e, .int .i64 f] 23)).drew.drew.drew = V at *
  go_wp2_with fail
  refine (Ht.out _).mono ?_
  rintro e w1 ⟨rfl, g1⟩
  have HB : Hid (FBlk (w1.alloc (fObj A B1 B2 C)) w1.heap.size (.float .f64 A) (.complex .f64 B1 B2) (.float .f64 C) ∧ w.grownBy (w1.alloc (fObj A B1 B2 C)) none) := ⟨heap_alloc_new _ _, grownBy_trans HG.out (grownBy_trans g1 (grow1 _ _))⟩
  clear g1 HG Ht
  go_upto_region 7 with fail
  simp only [fObj] at HB
  generalize w1.alloc (.cells #[.float .f64 A, .complex .f64 B1 B2, .float .f64 C] 28) = U at *
  generalize w1.heap.size = N at *
  have f0 := HB.out.1.c0
  have f1 := HB.out.1.c1
  have f2 := HB.out.1.c2
  go_wp2_with fail
  refine (Hv1.out _).mono ?_
  rintro e u1 ⟨rfl, g1⟩
  have HB1 : Hid (FBlk u1 N (.float .f64 A) (.complex .f64 B1 B2) (.float .f64 C) ∧ w.grownBy u1 none) := ⟨HB.out.1.kept g1 (by simp), grownBy_trans HB.out.2 g1⟩
  clear g1 f0 f1 f2 HB Hv1
  have f0 := HB1.out.1.c0
  have f1 := HB1.out.1.c1
  have f2 := HB1.out.1.c2
  go_wp2_with fail
  refine (Hv2.out _).mono ?_
  rintro e u2 ⟨rfl, g1⟩
  have HB2 : Hid (FBlk u2 N (.float .f64 A) (.complex .f64 B1 B2) (.float .f64 C) ∧ w.grownBy u2 none) := ⟨HB1.out.1.kept g1 (by simp), grownBy_trans HB1.out.2 g1⟩
  clear g1 f0 f1 f2 HB1 Hv2
  have f0 := HB2.out.1.c0
  have f1 := HB2.out.1.c1
  have f2 := HB2.out.1.c2
  go_wp2_with fail
  refine (Hv3.out _).mono ?_
  rintro e u3 ⟨rfl, g1⟩
  have HB3 : Hid (FBlk u3 N (.float .f64 A) (.complex .f64 B1 B2) (.float .f64 C) ∧ w.grownBy u3 none) := ⟨HB2.out.1.kept g1 (by simp), grownBy_trans HB2.out.2 g1⟩
  clear g1 f0 f1 f2 HB2 Hv3
  have f0 := HB3.out.1.c0
  have f1 := HB3.out.1.c1
  have f2 := HB3.out.1.c2
  have HK : Hid (∀ w', u3.grownBy w' none → w'.cell? ⟨N, 0, none⟩ = some (Value.float .f64 A) ∧ w'.cell? ⟨N, 1, none⟩ = some (Value.complex .f64 B1 B2) ∧ w'.cell? ⟨N, 2, none⟩ = some (Value.float .f64 C)) := fun w' g => ⟨grownBy_cell g HB3.out.1.c0, grownBy_cell g HB3.out.1.c1, grownBy_cell g HB3.out.1.c2⟩
  go_wp2_with fail
  go_region_held3 (fun w' => w'.cell? ⟨N, 0, none⟩ = some (Value.float .f64 A) ∧ w'.cell? ⟨N, 1, none⟩ = some (Value.complex .f64 B1 B2) ∧ w'.cell? ⟨N, 2, none⟩ = some (Value.float .f64 C))
    (first | exact HK.out _ G5 | exact HK.out _ G4 | exact HK.out _ (grow_drew (grow0 _)) | (go_keep; done) | fail)
    (first
      | (go_at_call 8; refine (Him.out _).mono ?_; rintro e u4 ⟨rfl, g4⟩; have G4 : u3.grownBy u4 none := grownBy_undrew g4)
      | (go_at_call 6; refine (known_any _).mono ?_; rintro e u5 ⟨rfl, g5⟩; have G5 : u3.grownBy u5 none := grownBy_trans G4 g5)
      | fail)
  all_goals
    go_wp2_with fail
    go_ret
    exact ⟨rfl, grownBy_trans HB3.out.2 G5⟩
end Go.Proofs.Ytlpdmbidjjaeoab
