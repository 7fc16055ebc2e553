/-
  The law's 'known'.
-/
import Derived.Test.YtlpdmbidjjaeoabFcj
namespace Go.Proofs.Ytlpdmbidjjaeoab
open Go.RowKit Go.Lib Go.Sort Ieee
attribute [local go_sem] run_store_float run_store_complex
set_option linter.unusedVariables false

set_option maxHeartbeats 1600000 in
set_option maxRecDepth 1000000 in
theorem power_op {A b1 b2 C u m r : Nat} (h1 : Gives 15 #[.complex .f64 b1 b2] (.float .f64 u)) (h2 : Gives 14 #[.float .f64 A, .float .f64 C] (.float .f64 m)) (h3 : double.sub u m = some r) (w : World) :
    Calls Try.prog 27 #[fcirc A b1 b2 C] w fun e w' => e = .returned (.float .f64 r) ∧ w.grownBy w' none := by
  have o1 := sub_run h3
  clear h3
  go_enter Try.func27, Try.ntmps27
  go_wp2_with fail
  go_region_held3 (fun w' => w'.cell? ⟨w.heap.size, 0, none⟩ = some (Value.float .f64 A) ∧ w'.cell? ⟨w.heap.size, 1, none⟩ = some (Value.complex .f64 b1 b2) ∧ w'.cell? ⟨w.heap.size, 2, none⟩ = some (Value.float .f64 C))
    (first | (go_keep; done) | fail)
    (first
      | (go_at_call 15; refine (h1 _).mono ?_; rintro e w' ⟨rfl, rfl⟩)
      | (go_at_call 14; refine (h2 _).mono ?_; rintro e w' ⟨rfl, rfl⟩)
      | fail)
  go_wp2_with fail
  go_ret
  exact ⟨rfl, grow_drew (grow1 _ _)⟩
theorem abs2_00 : Gives 15 #[.complex .f64 0 0] (.float .f64 0) := abs2_op (dot_op (p := 0) (q := 0) (by kernel_rfl) (by kernel_rfl) (by kernel_rfl))
theorem times_11 : Gives 14 #[.float .f64 4607182418800017408, .float .f64 13830554455654793216] (.float .f64 13830554455654793216) := times_op (by kernel_rfl)
theorem power_1 (w : World) : Calls Try.prog 27 #[fcirc 4607182418800017408 0 0 13830554455654793216] w fun e w' => e = .returned (.float .f64 4607182418800017408) ∧ w.grownBy w' none :=
  power_op abs2_00 times_11 (by kernel_rfl) w
theorem value_2 (w : World) : Calls Try.prog 7 #[fcirc 4607182418800017408 0 0 13830554455654793216, .complex .f64 4611686018427387904 0] w fun e w' => e = .returned (.float .f64 4613937818241073152) ∧ w.grownBy w' none :=
  value_op (u := 4616189618054758400) (m := 4616189618054758400) (v1 := 0) (v2 := 0) (v := 0) (s := 4616189618054758400)
    (abs2_op (dot_op (p := 4616189618054758400) (q := 0) (by kernel_rfl) (by kernel_rfl) (by kernel_rfl))) (times_op (by kernel_rfl))
    (mulZ_op (p1 := 0) (p2 := 0) (p3 := 0) (p4 := 0) (by kernel_rfl) (by kernel_rfl) (by kernel_rfl) (by kernel_rfl) (by kernel_rfl) (by kernel_rfl)) (twice_op (by kernel_rfl)) (by kernel_rfl) (by kernel_rfl) w
theorem value_h (w : World) : Calls Try.prog 7 #[fcirc 4607182418800017408 0 0 13830554455654793216, .complex .f64 4602678819172646912 0] w fun e w' => e = .returned (.float .f64 13828302655841107968) ∧ w.grownBy w' none :=
  value_op (u := 4598175219545276416) (m := 4598175219545276416) (v1 := 0) (v2 := 0) (v := 0) (s := 4598175219545276416)
    (abs2_op (dot_op (p := 4598175219545276416) (q := 0) (by kernel_rfl) (by kernel_rfl) (by kernel_rfl))) (times_op (by kernel_rfl))
    (mulZ_op (p1 := 0) (p2 := 0) (p3 := 0) (p4 := 0) (by kernel_rfl) (by kernel_rfl) (by kernel_rfl) (by kernel_rfl) (by kernel_rfl) (by kernel_rfl)) (twice_op (by kernel_rfl)) (by kernel_rfl) (by kernel_rfl) w
theorem fin_00 : Gives 24 #[.complex .f64 0 0] (.bool true) := finite_e (s := 0) ⟨e_zero, e_zero⟩ (by decide)
theorem fin_10 : Gives 24 #[.complex .f64 4607182418800017408 0] (.bool true) := finite_e (s := 0) (k := 1) ⟨e_one, e_zero.wide (by decide)⟩ (by decide)
theorem fin_11 : Gives 24 #[.complex .f64 4607182418800017408 13830554455654793216] (.bool true) := by
  have h : E 0 13830554455654793216 (-1) 1 := (by
    have h := e_one.neg
    rwa [show flip 4607182418800017408 = 13830554455654793216 by decide] at h)
  exact finite_e (s := 0) (k := 1) ⟨e_one, h⟩ (by decide)

set_option maxHeartbeats 1600000 in
set_option maxRecDepth 1000000 in
theorem side_h (w : World) : Calls Try.prog 12 #[fcirc 4607182418800017408 0 0 13830554455654793216, .complex .f64 4602678819172646912 0] w fun e w' => e = .returned (.tuple #[.int .i64 (-1), .int .i64 0]) ∧ w.grownBy w' none := by
  have q : (FloatKind.f64.format.order 13828302655841107968 0 == some .lt) = true := by kernel_rfl
  go_enter Try.func12, Try.ntmps12
  go_wp2_with fail
  refine (value_h _).mono ?_
  rintro e w1 ⟨rfl, hg⟩
  have HG : Hid (w.grownBy w1 none) := grownBy_trans (grow1 _ _) hg
  clear hg
  go_wp2_with fail
  go_ret2
  exact ⟨rfl, HG.out⟩
set_option maxHeartbeats 1600000 in
set_option maxRecDepth 1000000 in
theorem centre_0 (w : World) : Calls Try.prog 13 #[fcirc 0 4607182418800017408 0 0] w fun e w' => e = .returned (.tuple #[.complex .f64 0 0, .int .i64 5]) ∧ w.grownBy w' none := by
  have q : (FloatKind.f64.format.order 0 0 == some .eq) = true := by kernel_rfl
  go_enter Try.func13, Try.ntmps13
  go_wp2_with fail
  refine (of_any 0 0 _).mono ?_
  rintro e w1 ⟨rfl, rfl⟩
  go_wp2_with fail
  refine (fin_00 _).mono ?_
  rintro e w1 ⟨rfl, rfl⟩
  go_wp2_with fail
  refine (fin_10 _).mono ?_
  rintro e w1 ⟨rfl, rfl⟩
  go_wp2_with fail
  go_ret2
  exact ⟨rfl, grow1 _ _⟩
set_option maxHeartbeats 1600000 in
set_option maxRecDepth 1000000 in
theorem radius_1 (w : World) : Calls Try.prog 11 #[fcirc 4607182418800017408 0 0 13830554455654793216] w fun e w' => e = .returned (.tuple #[.float .f64 4607182418800017408, .int .i64 0]) ∧ w.grownBy w' none := by
  have q1 : (FloatKind.f64.format.order 4607182418800017408 0 == some .eq) = false := by kernel_rfl
  have q2 : (FloatKind.f64.format.order 4607182418800017408 0 == some .lt) = false := by kernel_rfl
  have o1 : ∀ t w, (binOp .quo t (.float .f64 4607182418800017408) (.float .f64 4607182418800017408)).run Try.prog w = .ok (.float .f64 4607182418800017408) w := fun t w => run_float_arith w .quo t .f64 _ _ _ (by kernel_rfl)
  go_enter Try.func11, Try.ntmps11
  go_wp2_with fail
  refine (power_1 _).mono ?_
  rintro e w1 ⟨rfl, hg⟩
  have HB : Hid (FBlk w1 w.heap.size (.float .f64 4607182418800017408) (.complex .f64 0 0) (.float .f64 13830554455654793216)) := FBlk.kept (heap_alloc_new _ _) hg (by simp)
  have HG : Hid (w.grownBy w1 none) := grownBy_trans (grow1 _ _) hg
  clear hg
  have f0 := HB.out.c0
  have f1 := HB.out.c1
  have f2 := HB.out.c2
  go_wp2_with fail
  refine (of_any 4607182418800017408 13830554455654793216 _).mono ?_
  rintro e w2 ⟨rfl, rfl⟩
  go_wp2_with fail
  refine (fin_11 _).mono ?_
  rintro e w3 ⟨rfl, rfl⟩
  go_wp2_with fail
  refine (fin_00 _).mono ?_
  rintro e w4 ⟨rfl, rfl⟩
  go_wp2_with fail
  go_region_held3 (fun w' => w'.cell? ⟨w.heap.size, 0, none⟩ = some (Value.float .f64 4607182418800017408))
    (first | (go_keep; done) | fail)
    (first
      | (go_at_call 29; refine (sqrtm_any 4607182418800017408 4607182418800017408 (by kernel_rfl) _).mono ?_; rintro e w' ⟨rfl, rfl⟩)
      | (go_at_call 30; refine (abs_any 4607182418800017408 (by decide) _).mono ?_; rintro e w' ⟨rfl, rfl⟩)
      | fail)
  go_wp2_with fail
  go_ret2
  exact ⟨rfl, grow_drew HG.out⟩
end Go.Proofs.Ytlpdmbidjjaeoab
