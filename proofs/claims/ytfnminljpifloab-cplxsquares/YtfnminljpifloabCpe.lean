/-
  The program's Sqrt.
-/
import Derived.Test.YtfnminljpifloabCpd
namespace Go.Proofs.Ytfnminljpifloab
open Go.RowKit Go.Lib Ieee

set_option maxHeartbeats 3200000 in
set_option maxRecDepth 1000000 in
theorem sqrtZ_pos {x y r p1 p2 s t t2 i : Nat} {a b : Rat} (hx : VV x a) (hy : VV y b) (ha : Mid a) (hb : Mid b) (h0 : 0 ≤ a) (hn : a ≠ 0 ∨ b ≠ 0)
    (hr : Gives 7 #[.complex .f64 x y] (.float .f64 r)) (h1 : double.mul 4602678819172646912 r = some p1) (h2 : double.mul 4602678819172646912 x = some p2) (h3 : double.add p1 p2 = some s)
    (h4 : double.sqrt s = some t) (h5 : double.mul 4611686018427387904 t = some t2) (h6 : double.div y t2 = some i) :
    Gives 5 #[.complex .f64 x y] (.tuple #[.complex .f64 t i, .int .i64 0]) := by
  intro w
  have HV : Hid (VV x a ∧ VV y b ∧ Mid a ∧ Mid b) := ⟨hx, hy, ha, hb⟩
  have o1 : ∀ t w, (binOp .mul t (.float .f64 4602678819172646912) (.float .f64 r)).run Try.prog w = .ok (.float .f64 p1) w := fun t w => run_float_arith w .mul t .f64 _ _ _ h1
  have o2 : ∀ t w, (binOp .mul t (.float .f64 4602678819172646912) (.float .f64 x)).run Try.prog w = .ok (.float .f64 p2) w := fun t w => run_float_arith w .mul t .f64 _ _ _ h2
  have o3 : ∀ t w, (binOp .add t (.float .f64 p1) (.float .f64 p2)).run Try.prog w = .ok (.float .f64 s) w := fun t w => run_float_arith w .add t .f64 _ _ _ h3
  have o5 : ∀ u w, (binOp .mul u (.float .f64 4611686018427387904) (.float .f64 t)).run Try.prog w = .ok (.float .f64 t2) w := fun u w => run_float_arith w .mul u .f64 _ _ _ h5
  have o6 : ∀ u w, (binOp .quo u (.float .f64 y) (.float .f64 t2)).run Try.prog w = .ok (.float .f64 i) w := fun u w => run_float_arith w .quo u .f64 _ _ _ h6
  clear h1 h2 h3 h5 h6
  by_cases h00 : a = 0
  · have q1 : (FloatKind.f64.format.order x 0 == some .eq) = true := (ord_eq hx vv_zero).trans (decide_eq_true h00)
    have q2 : (FloatKind.f64.format.order y 0 == some .eq) = false := (ord_eq hy vv_zero).trans (decide_eq_false (by grind))
    have q3 : (FloatKind.f64.format.order x 0 == some .gt) = false := (ord_gt hx vv_zero).trans (decide_eq_false (by grind))
    clear hx hy ha hb h0 h00 hn
    go_enter Try.func5, Try.ntmps5
    go_wp2_with (first | (go_at_call 13; refine (finiteZ_any HV.out.1 HV.out.2.1 HV.out.2.2.1 HV.out.2.2.2 _).mono ?_; rintro e w' ⟨rfl, rfl⟩) | (go_at_call 7; refine (hr _).mono ?_; rintro e w' ⟨rfl, rfl⟩) | (go_at_call 14; refine (sqrtm_any _ _ h4 _).mono ?_; rintro e w' ⟨rfl, rfl⟩) | fail)
    go_ret2
    exact ⟨rfl, rfl⟩
  · have q1 : (FloatKind.f64.format.order x 0 == some .eq) = false := (ord_eq hx vv_zero).trans (decide_eq_false h00)
    have q3 : (FloatKind.f64.format.order x 0 == some .gt) = true := (ord_gt hx vv_zero).trans (decide_eq_true (by grind))
    clear hx hy ha hb h0 h00 hn
    go_enter Try.func5, Try.ntmps5
    go_wp2_with (first | (go_at_call 13; refine (finiteZ_any HV.out.1 HV.out.2.1 HV.out.2.2.1 HV.out.2.2.2 _).mono ?_; rintro e w' ⟨rfl, rfl⟩) | (go_at_call 7; refine (hr _).mono ?_; rintro e w' ⟨rfl, rfl⟩) | (go_at_call 14; refine (sqrtm_any _ _ h4 _).mono ?_; rintro e w' ⟨rfl, rfl⟩) | fail)
    go_ret2
    exact ⟨rfl, rfl⟩
set_option maxHeartbeats 3200000 in
set_option maxRecDepth 1000000 in
theorem sqrtZ_neg {x y r p1 p2 s t t2 i : Nat} {a b : Rat} (hx : VV x a) (hy : VV y b) (ha : Mid a) (hb : Mid b) (h0 : a < 0) (ht : t < 2 ^ 64)
    (hr : Gives 7 #[.complex .f64 x y] (.float .f64 r)) (h1 : double.mul 4602678819172646912 r = some p1) (h2 : double.mul 4602678819172646912 x = some p2) (h3 : double.sub p1 p2 = some s)
    (h4 : double.sqrt s = some t) (h5 : double.mul 4611686018427387904 t = some t2) (h6 : double.div (y % 2 ^ 63) t2 = some i) :
    Gives 5 #[.complex .f64 x y] (.tuple #[.complex .f64 i (t % 2 ^ 63 + y / 2 ^ 63 * 2 ^ 63), .int .i64 0]) := by
  intro w
  have HV : Hid (VV x a ∧ VV y b ∧ Mid a ∧ Mid b) := ⟨hx, hy, ha, hb⟩
  have q1 : (FloatKind.f64.format.order x 0 == some .eq) = false := (ord_eq hx vv_zero).trans (decide_eq_false (by grind))
  have q2 : (FloatKind.f64.format.order x 0 == some .gt) = false := (ord_gt hx vv_zero).trans (decide_eq_false (by grind))
  have o1 : ∀ t w, (binOp .mul t (.float .f64 4602678819172646912) (.float .f64 r)).run Try.prog w = .ok (.float .f64 p1) w := fun t w => run_float_arith w .mul t .f64 _ _ _ h1
  have o2 : ∀ t w, (binOp .mul t (.float .f64 4602678819172646912) (.float .f64 x)).run Try.prog w = .ok (.float .f64 p2) w := fun t w => run_float_arith w .mul t .f64 _ _ _ h2
  have o3 : ∀ t w, (binOp .sub t (.float .f64 p1) (.float .f64 p2)).run Try.prog w = .ok (.float .f64 s) w := fun t w => run_float_arith w .sub t .f64 _ _ _ h3
  have o5 : ∀ u w, (binOp .mul u (.float .f64 4611686018427387904) (.float .f64 t)).run Try.prog w = .ok (.float .f64 t2) w := fun u w => run_float_arith w .mul u .f64 _ _ _ h5
  have hy0 := hy.2
  clear h1 h2 h3 h5 hx hy ha hb h0
  generalize hY : y % 2 ^ 63 = Y at *
  generalize hC : t % 2 ^ 63 + y / 2 ^ 63 * 2 ^ 63 = C at *
  have o6 : ∀ u w, (binOp .quo u (.float .f64 Y) (.float .f64 t2)).run Try.prog w = .ok (.float .f64 i) w := fun u w => run_float_arith w .quo u .f64 _ _ _ h6
  have HA : Hid (Gives 15 #[.float .f64 y] (.float .f64 Y)) := fun w => by rw [← hY]; exact abs_any y hy0 w
  have HC : Hid (Gives 16 #[.float .f64 t, .float .f64 y] (.float .f64 C)) := fun w => by rw [← hC]; exact copysign_any t y ht hy0 w
  clear hY hC h6
  go_enter Try.func5, Try.ntmps5
  go_wp2_with (first | (go_at_call 13; refine (finiteZ_any HV.out.1 HV.out.2.1 HV.out.2.2.1 HV.out.2.2.2 _).mono ?_; rintro e w' ⟨rfl, rfl⟩) | (go_at_call 7; refine (hr _).mono ?_; rintro e w' ⟨rfl, rfl⟩) | (go_at_call 14; refine (sqrtm_any _ _ h4 _).mono ?_; rintro e w' ⟨rfl, rfl⟩) | (go_at_call 15; refine (HA.out _).mono ?_; rintro e w' ⟨rfl, rfl⟩) | (go_at_call 16; refine (HC.out _).mono ?_; rintro e w' ⟨rfl, rfl⟩) | fail)
  go_ret2
  exact ⟨rfl, rfl⟩
end Go.Proofs.Ytfnminljpifloab
