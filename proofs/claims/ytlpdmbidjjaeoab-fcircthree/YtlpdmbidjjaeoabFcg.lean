/-
  Image's closure, and Image.
-/
import Derived.Test.YtlpdmbidjjaeoabFct
namespace Go.Proofs.Ytlpdmbidjjaeoab
open Go.RowKit Go.Lib Go.Sort Ieee
attribute [local go_sem] run_store_float run_store_complex
set_option linter.unusedVariables false

set_option maxHeartbeats 1600000 in
set_option maxRecDepth 1000000 in
theorem outer_op {Bf Bb A b1 b2 C x1 x2 y1 y2 u m u' m' s v1 v2 v r : Nat} (h1 : Gives 15 #[.complex .f64 x1 x2] (.float .f64 u)) (h2 : Gives 14 #[.float .f64 A, .float .f64 u] (.float .f64 m))
    (h3 : Gives 15 #[.complex .f64 y1 y2] (.float .f64 u')) (h4 : Gives 14 #[.float .f64 C, .float .f64 u'] (.float .f64 m')) (h5 : double.add m m' = some s)
    (h6 : Gives 21 #[.complex .f64 b1 b2, .complex .f64 x1 x2, .complex .f64 y1 y2] (.complex .f64 v1 v2)) (h7 : Gives 16 #[.complex .f64 v1 v2] (.float .f64 v)) (h8 : double.add s v = some r) (w : World)
    (c0 : w.cell? ⟨Bf, 0, none⟩ = some (.float .f64 A)) (c2 : w.cell? ⟨Bf, 2, none⟩ = some (.float .f64 C)) (cb : w.cell? ⟨Bb, 0, none⟩ = some (.complex .f64 b1 b2)) :
    Calls Try.prog 20 #[.complex .f64 x1 x2, .complex .f64 y1 y2, .pointer (some ⟨Bf, 0, none⟩), .pointer (some ⟨Bb, 0, none⟩)] w fun e w' => e = .returned (.float .f64 r) ∧ w.grownBy w' none := by
  have o1 := add_run h5
  have o2 := add_run h8
  clear h5 h8
  go_enter Try.func20, Try.ntmps20
  go_wp2_with fail
  go_region_held3 (fun w' => w'.cell? ⟨Bf, 0, none⟩ = some (Value.float .f64 A) ∧ w'.cell? ⟨Bf, 2, none⟩ = some (Value.float .f64 C))
    (first | (go_keep; done) | fail)
    (first
      | (go_at_call_of 15 x1; refine (h1 _).mono ?_; rintro e w' ⟨rfl, rfl⟩)
      | (go_at_call_of 14 A; refine (h2 _).mono ?_; rintro e w' ⟨rfl, rfl⟩)
      | (go_at_call_of 15 y1; refine (h3 _).mono ?_; rintro e w' ⟨rfl, rfl⟩)
      | (go_at_call_of 14 C; refine (h4 _).mono ?_; rintro e w' ⟨rfl, rfl⟩)
      | fail)
  have HG : Hid (w.grownBy w.drew none) := grow_drew (grow0 w)
  have cb' : w.drew.cell? ⟨Bb, 0, none⟩ = some (.complex .f64 b1 b2) := cb
  clear c0 c2 cb
  generalize w.drew = V at *
  go_wp2_with fail
  refine (h6 _).mono ?_
  rintro e w2 ⟨rfl, rfl⟩
  go_wp2_with fail
  refine (h7 _).mono ?_
  rintro e w3 ⟨rfl, rfl⟩
  go_wp2_with fail
  go_ret
  exact ⟨rfl, HG.out⟩
end Go.Proofs.Ytlpdmbidjjaeoab
