/-
  The circle through three points, as the program reckons it.
-/
import Derived.Test.YtlpdmbidjjaeoabFbk
namespace Go.Proofs.Ytlpdmbidjjaeoab
open Go.RowKit Go.Lib Go.Sort Ieee
attribute [local go_sem] run_store_float run_store_complex
set_option linter.unusedVariables false

abbrev three (p1 p2 q1 q2 r1 r2 : Nat) : Value := .agg #[.complex .f64 p1 p2, .complex .f64 q1 q2, .complex .f64 r1 r2]

set_option maxHeartbeats 1600000 in
set_option maxRecDepth 1000000 in
theorem circle_op {p1 p2 q1 q2 r1 r2 a1 a2 b1 b2 A e1 e2 s1 s2 B1 B2 np m v1 v2 v C : Nat} (hp : p2 < 2 ^ 64)
    (h1 : Gives 26 #[.complex .f64 q1 q2, .complex .f64 p1 p2] (.complex .f64 a1 a2)) (h2 : Gives 26 #[.complex .f64 r1 r2, .complex .f64 p1 p2] (.complex .f64 b1 b2))
    (h3 : Gives 25 #[.complex .f64 a1 a2, .complex .f64 b1 b2] (.tuple #[.float .f64 A, .complex .f64 e1 e2])) (h4 : Gives 23 #[.complex .f64 p1 (flip p2), .float .f64 A] (.complex .f64 s1 s2))
    (h5 : Gives 26 #[.complex .f64 e1 e2, .complex .f64 s1 s2] (.complex .f64 B1 B2)) (h6 : Gives 15 #[.complex .f64 p1 p2] (.float .f64 np)) (h7 : Gives 14 #[.float .f64 A, .float .f64 np] (.float .f64 m))
    (h8 : Gives 17 #[.complex .f64 e1 e2, .complex .f64 p1 p2] (.complex .f64 v1 v2)) (h9 : Gives 16 #[.complex .f64 v1 v2] (.float .f64 v)) (h10 : double.sub m v = some C) (w : World) :
    Calls Try.prog 10 #[three p1 p2 q1 q2 r1 r2] w fun e w' => e = .returned (fcirc A B1 B2 C) ∧ w.grownBy w' none := by
  have o1 := sub_run h10
  clear h10
  go_enter Try.func10, Try.ntmps10
  go_wp2_with fail
  go_region_held3 (fun w' => w'.cell? ⟨w.heap.size, 0, none⟩ = some (Value.complex .f64 p1 p2) ∧ w'.cell? ⟨w.heap.size, 1, none⟩ = some (Value.complex .f64 q1 q2) ∧ w'.cell? ⟨w.heap.size, 2, none⟩ = some (Value.complex .f64 r1 r2))
    (first | (go_keep; done) | fail)
    (first
      | (go_at_call_of 26 q1; refine (h1 _).mono ?_; rintro e w' ⟨rfl, rfl⟩)
      | (go_at_call_of 26 r1; refine (h2 _).mono ?_; rintro e w' ⟨rfl, rfl⟩)
      | (go_at_call 25; refine (h3 _).mono ?_; rintro e w' ⟨rfl, rfl⟩)
      | fail)
  have HB : Hid (FBlk ((w.alloc (.cells #[.complex .f64 p1 p2, .complex .f64 q1 q2, .complex .f64 r1 r2] 39)).alloc (fObj 0 0 0 0)).drew (w.heap.size + 1) (.float .f64 0) (.complex .f64 0 0) (.float .f64 0)) := (heap_alloc2_new _ _ _ : FBlk ((w.alloc (.cells #[.complex .f64 p1 p2, .complex .f64 q1 q2, .complex .f64 r1 r2] 39)).alloc (fObj 0 0 0 0)) (w.heap.size + 1) (.float .f64 0) (.complex .f64 0 0) (.float .f64 0))
  have HG : Hid (w.grownBy ((w.alloc (.cells #[.complex .f64 p1 p2, .complex .f64 q1 q2, .complex .f64 r1 r2] 39)).alloc (fObj 0 0 0 0)).drew none) := grow_drew (grow2 _ _ _)
  clear h1 h2 h3
  generalize ((w.alloc (.cells #[.complex .f64 p1 p2, .complex .f64 q1 q2, .complex .f64 r1 r2] 39)).alloc (fObj 0 0 0 0)).drew = V at *
  go_wp2_with fail
  refine (conj_any p1 p2 hp _).mono ?_
  rintro e w1 ⟨rfl, rfl⟩
  go_wp2_with fail
  refine (h4 _).mono ?_
  rintro e w2 ⟨rfl, rfl⟩
  go_wp2_with fail
  refine (h5 _).mono ?_
  rintro e w3 ⟨rfl, rfl⟩
  go_wp2_with fail
  refine (h6 _).mono ?_
  rintro e w4 ⟨rfl, rfl⟩
  go_wp2_with fail
  refine (h7 _).mono ?_
  rintro e w5 ⟨rfl, rfl⟩
  go_wp2_with fail
  refine (h8 _).mono ?_
  rintro e w6 ⟨rfl, rfl⟩
  go_wp2_with fail
  refine (h9 _).mono ?_
  rintro e w7 ⟨rfl, rfl⟩
  have f0 := HB.out.c0
  have f1 := HB.out.c1
  have f2 := HB.out.c2
  have g0 := HB.out.fr 0
  have g1 := HB.out.fr 1
  have g2 := HB.out.fr 2
  go_wp2_with fail
  exact bodyPost_ret (res_cellF rfl _ _ (w.heap.size + 1) _ _ _ _ _ rfl (HB.out.put _ _ _)) rfl ⟨rfl, grown_put3 HG.out (by omega)⟩
end Go.Proofs.Ytlpdmbidjjaeoab
