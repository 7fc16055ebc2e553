/-
  The law's 'known' and 'small'.
-/
import Derived.Test.YtlpdmbidjjaeoabFck
namespace Go.Proofs.Ytlpdmbidjjaeoab
open Go.RowKit Go.Lib Go.Sort Ieee
attribute [local go_sem] run_store_float run_store_complex
set_option linter.unusedVariables false

set_option maxHeartbeats 3200000 in
set_option maxRecDepth 1000000 in
theorem known_any (w : World) : Calls Try.prog 6 #[] w fun e w' => e = .returned (.bool true) ∧ w.grownBy w' none := by
  have q1 : (FloatKind.f64.format.order 4613937818241073152 4613937818241073152 == some .eq) = true := by kernel_rfl
  have q2 : (FloatKind.f64.format.order 4607182418800017408 4607182418800017408 == some .eq) = true := by kernel_rfl
  go_enter Try.func6, Try.ntmps6
  go_wp2_with fail
  refine (radius_1 _).mono ?_
  rintro e w1 ⟨rfl, hg⟩
  have HB : Hid (FBlk w1 w.heap.size (.float .f64 4607182418800017408) (.complex .f64 0 0) (.float .f64 13830554455654793216)) := FBlk.kept (heap_alloc_new _ _) hg (by simp)
  have HG : Hid (w.grownBy w1 none) := grownBy_trans (grow1 _ _) hg
  clear hg
  have f0 := HB.out.c0
  have f1 := HB.out.c1
  have f2 := HB.out.c2
  go_wp2_with fail
  refine (side_h _).mono ?_
  rintro e w2 ⟨rfl, hg⟩
  have HB2 : Hid (FBlk w2 w.heap.size (.float .f64 4607182418800017408) (.complex .f64 0 0) (.float .f64 13830554455654793216)) := HB.out.kept hg (by simp)
  have HG2 : Hid (w.grownBy w2 none) := grownBy_trans HG.out hg
  clear hg HB HG f0 f1 f2
  go_wp2_with fail
  refine (centre_0 _).mono ?_
  rintro e w3 ⟨rfl, hg⟩
  have HB3 : Hid (FBlk w3 w.heap.size (.float .f64 4607182418800017408) (.complex .f64 0 0) (.float .f64 13830554455654793216)) := HB2.out.kept hg (by simp)
  have HG3 : Hid (w.grownBy w3 none) := grownBy_trans HG2.out hg
  clear hg HB2 HG2
  have f0 := HB3.out.c0
  have f1 := HB3.out.c1
  have f2 := HB3.out.c2
  go_wp2_with fail
  refine (value_2 _).mono ?_
  rintro e w4 ⟨rfl, hg⟩
  have HG4 : Hid (w.grownBy w4 none) := grownBy_trans HG3.out hg
  clear hg HB3 HG3 f0 f1 f2
  go_wp2_with fail
  go_ret
  exact ⟨rfl, HG4.out⟩
theorem small_any (n : Int) : Gives 4 #[.int .i64 n, .int .i64 1024] (.int .i64 (Int.tmod n 1025)) := by
  intro w
  go_enter Try.func4, Try.ntmps4
  go_wp2
  go_ret
  exact ⟨rfl, rfl⟩
end Go.Proofs.Ytlpdmbidjjaeoab
