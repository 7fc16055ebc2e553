/-
  The program's Abs, Mul, Sub, Finite.
-/
import Derived.Test.YtfnminljpifloabCpc
namespace Go.Proofs.Ytfnminljpifloab
open Go.RowKit Go.Lib Ieee

theorem vv_max : VV 9218868437227405311 (((2 ^ 53 - 1 : Nat) : Rat) * p2 971) := vv_lit _ false (2 ^ 53 - 1) 971 _ (by rfl) (by rw [sg_f, Rat.one_mul]) (by decide)
theorem vv_zero : VV 0 0 := vv_lit _ false 0 (-1074) 0 (by rfl) (by rw [show ((0 : Nat) : Rat) = 0 by rfl, Rat.zero_mul, Rat.mul_zero]) (by decide)
theorem max_gt {T : Int} (hT : T ≤ 1000) : p2 T < ((2 ^ 53 - 1 : Nat) : Rat) * p2 971 := by
  have h1 := p2_le (show T ≤ 52 + 971 by omega)
  rw [p2_add, show (52 : Int) = ((52 : Nat) : Int) by rfl, p2_nat] at h1
  have h2 : ((2 ^ 52 : Nat) : Rat) < ((2 ^ 53 - 1 : Nat) : Rat) := Rat.natCast_lt_natCast.2 (by decide)
  have h3 := Rat.mul_lt_mul_of_pos_right h2 (p2_pos 971)
  grind

theorem ab_le {v B : Rat} (h1 : v ≤ B) (h2 : -v ≤ B) : ab v ≤ B := by unfold ab; grind

/-- The six tests of two numbers. -/
theorem ord_lt {x y : Nat} {a b : Rat} (hx : VV x a) (hy : VV y b) : (double.order x y == some .lt) = decide (a < b) := by
  obtain ⟨o, ho, h1, _, _⟩ := order_v hx.1 hy.1
  rw [ho]
  by_cases k : a < b
  · rw [decide_eq_true k, h1.2 k]; rfl
  · rw [decide_eq_false k]
    have : o ≠ .lt := fun e => k (h1.1 e)
    cases o <;> first | rfl | exact absurd rfl this
theorem ord_eq {x y : Nat} {a b : Rat} (hx : VV x a) (hy : VV y b) : (double.order x y == some .eq) = decide (a = b) := by
  obtain ⟨o, ho, _, h1, _⟩ := order_v hx.1 hy.1
  rw [ho]
  by_cases k : a = b
  · rw [decide_eq_true k, h1.2 k]; rfl
  · rw [decide_eq_false k]
    have : o ≠ .eq := fun e => k (h1.1 e)
    cases o <;> first | rfl | exact absurd rfl this
theorem ord_gt {x y : Nat} {a b : Rat} (hx : VV x a) (hy : VV y b) : (double.order x y == some .gt) = decide (b < a) := by
  obtain ⟨o, ho, _, _, h1⟩ := order_v hx.1 hy.1
  rw [ho]
  by_cases k : b < a
  · rw [decide_eq_true k, h1.2 k]; rfl
  · rw [decide_eq_false k]
    have : o ≠ .gt := fun e => k (h1.1 e)
    cases o <;> first | rfl | exact absurd rfl this

/-- Great numbers apart. -/
def Mid (v : Rat) : Prop := v ≤ p2 100 ∧ -v ≤ p2 100

set_option maxHeartbeats 1600000 in
theorem infinite_any {x : Nat} {v : Rat} (hx : VV x v) (hm : Mid v) (w : World) :
    Calls Try.prog 17 #[.float .f64 x] w fun e w' => e = .returned (.bool false) ∧ w' = w := by
  have hf : (FloatKind.f64.format.order (x % 2 ^ 63) 9218868437227405311 == some .gt) = false := by
    refine (ord_gt (vv_abs hx) vv_max).trans (decide_eq_false ?_)
    have := ab_le hm.1 hm.2
    have := max_gt (T := 100) (by omega)
    grind
  have hlt := hx.2
  clear hx hm
  go_enter Try.func17, Try.ntmps17
  go_wp2_with (go_at_call 15; refine (abs_any _ hlt _).mono ?_; rintro e w' ⟨rfl, rfl⟩)
  go_ret
  exact ⟨rfl, rfl⟩
set_option maxHeartbeats 1600000 in
theorem finite_any {x : Nat} {v : Rat} (hx : VV x v) (hm : Mid v) (w : World) :
    Calls Try.prog 27 #[.float .f64 x] w fun e w' => e = .returned (.bool true) ∧ w' = w := by
  have hf : (FloatKind.f64.format.order (x % 2 ^ 63) 9218868437227405311 == some .lt) = true := by
    refine (ord_lt (vv_abs hx) vv_max).trans (decide_eq_true ?_)
    have := ab_le hm.1 hm.2
    have := max_gt (T := 100) (by omega)
    grind
  have hlt := hx.2
  clear hx hm
  go_enter Try.func27, Try.ntmps27
  go_wp2_with (go_at_call 15; refine (abs_any _ hlt _).mono ?_; rintro e w' ⟨rfl, rfl⟩)
  go_ret
  exact ⟨rfl, rfl⟩
theorem isNaN_no {x : Nat} {v : Rat} (hx : VV x v) (w : World) :
    Calls Try.prog 19 #[.float .f64 x] w fun e w' => e = .returned (.bool false) ∧ w' = w := by
  refine (isNaN_any x w).mono ?_
  rintro e w' ⟨rfl, rfl⟩
  refine ⟨?_, rfl⟩
  have := ord_eq hx hx
  rw [decide_eq_true rfl] at this
  rw [bne, this]; rfl
set_option maxHeartbeats 1600000 in
theorem finiteZ_any {x y : Nat} {a b : Rat} (hx : VV x a) (hy : VV y b) (ha : Mid a) (hb : Mid b) (w : World) :
    Calls Try.prog 13 #[.complex .f64 x y] w fun e w' => e = .returned (.bool true) ∧ w' = w := by
  go_enter Try.func13, Try.ntmps13
  go_wp2_with (go_at_call 27; first | (refine (finite_any hx ha _).mono ?_; rintro e w' ⟨rfl, rfl⟩) | (refine (finite_any hy hb _).mono ?_; rintro e w' ⟨rfl, rfl⟩))
  all_goals (go_ret; exact ⟨rfl, rfl⟩)

/-- What Abs answers. -/
def AbS (a b v : Rat) : Prop := (a = 0 ∧ b = 0 ∧ v = 0) ∨ (b ≤ a ∧ 0 < a ∧ LgS a b v) ∨ (a < b ∧ LgS b a v)

theorem mid_ab {a : Rat} (ha : Mid a) : Mid (ab a) := ⟨ab_le ha.1 ha.2, by have := ab_nonneg a; have := p2_pos 100; grind⟩

set_option maxHeartbeats 3200000 in
set_option maxRecDepth 1000000 in
theorem absZ_lt {x y r : Nat} {a b : Rat} (hx : VV x a) (hy : VV y b) (ha : Mid a) (hb : Mid b) (h : ab a < ab b) (hl : Gives 21 #[.float .f64 (y % 2 ^ 63), .float .f64 (x % 2 ^ 63)] (.float .f64 r)) :
    Gives 7 #[.complex .f64 x y] (.float .f64 r) := by
  intro w
  have HV : Hid (VV (x % 2 ^ 63) (ab a) ∧ VV (y % 2 ^ 63) (ab b) ∧ Mid (ab a) ∧ Mid (ab b)) := ⟨vv_abs hx, vv_abs hy, mid_ab ha, mid_ab hb⟩
  have h0x := hx.2
  have h0y := hy.2
  have na := ab_nonneg a
  have nb := ab_nonneg b
  have q1 : (FloatKind.f64.format.order (x % 2 ^ 63) 0 == some .eq) = decide (ab a = 0) := ord_eq HV.out.1 vv_zero
  have q2 : (FloatKind.f64.format.order (y % 2 ^ 63) 0 == some .eq) = decide (ab b = 0) := ord_eq HV.out.2.1 vv_zero
  have q3 : (FloatKind.f64.format.order (x % 2 ^ 63) (y % 2 ^ 63) == some .lt) = decide (ab a < ab b) := ord_lt HV.out.1 HV.out.2.1
  rw [decide_eq_false (show ¬ ab b = 0 by grind)] at q2
  rw [decide_eq_true h] at q3
  clear h
  clear hx hy ha hb na nb
  generalize hX : x % 2 ^ 63 = X at *
  generalize hY : y % 2 ^ 63 = Y at *
  by_cases hA0 : ab a = 0
  · rw [decide_eq_true hA0] at q1
    clear hA0
    go_enter Try.func7, Try.ntmps7
    go_wp2_with (first | (go_at_call 15; first | (refine (abs_any _ h0x _).mono ?_; rintro e w' ⟨rfl, rfl⟩) | (refine (abs_any _ h0y _).mono ?_; rintro e w' ⟨rfl, rfl⟩)) | (go_at_call 17; first | (refine (infinite_any HV.out.1 HV.out.2.2.1 _).mono ?_; rintro e w' ⟨rfl, rfl⟩) | (refine (infinite_any HV.out.2.1 HV.out.2.2.2 _).mono ?_; rintro e w' ⟨rfl, rfl⟩)) | (go_at_call 19; first | (refine (isNaN_no HV.out.1 _).mono ?_; rintro e w' ⟨rfl, rfl⟩) | (refine (isNaN_no HV.out.2.1 _).mono ?_; rintro e w' ⟨rfl, rfl⟩)) | (go_at_call 21; refine (hl _).mono ?_; rintro e w' ⟨rfl, rfl⟩) | fail)
    go_ret
    exact ⟨rfl, rfl⟩
  · rw [decide_eq_false hA0] at q1
    clear hA0
    go_enter Try.func7, Try.ntmps7
    go_wp2_with (first | (go_at_call 15; first | (refine (abs_any _ h0x _).mono ?_; rintro e w' ⟨rfl, rfl⟩) | (refine (abs_any _ h0y _).mono ?_; rintro e w' ⟨rfl, rfl⟩)) | (go_at_call 17; first | (refine (infinite_any HV.out.1 HV.out.2.2.1 _).mono ?_; rintro e w' ⟨rfl, rfl⟩) | (refine (infinite_any HV.out.2.1 HV.out.2.2.2 _).mono ?_; rintro e w' ⟨rfl, rfl⟩)) | (go_at_call 19; first | (refine (isNaN_no HV.out.1 _).mono ?_; rintro e w' ⟨rfl, rfl⟩) | (refine (isNaN_no HV.out.2.1 _).mono ?_; rintro e w' ⟨rfl, rfl⟩)) | (go_at_call 21; refine (hl _).mono ?_; rintro e w' ⟨rfl, rfl⟩) | fail)
    go_ret
    exact ⟨rfl, rfl⟩

set_option maxHeartbeats 3200000 in
set_option maxRecDepth 1000000 in
theorem absZ_ge {x y r : Nat} {a b : Rat} (hx : VV x a) (hy : VV y b) (ha : Mid a) (hb : Mid b) (h : ab b ≤ ab a) (h0 : ab a ≠ 0) (hl : Gives 21 #[.float .f64 (x % 2 ^ 63), .float .f64 (y % 2 ^ 63)] (.float .f64 r)) :
    Gives 7 #[.complex .f64 x y] (.float .f64 r) := by
  intro w
  have HV : Hid (VV (x % 2 ^ 63) (ab a) ∧ VV (y % 2 ^ 63) (ab b) ∧ Mid (ab a) ∧ Mid (ab b)) := ⟨vv_abs hx, vv_abs hy, mid_ab ha, mid_ab hb⟩
  have h0x := hx.2
  have h0y := hy.2
  have na := ab_nonneg a
  have nb := ab_nonneg b
  have q1 : (FloatKind.f64.format.order (x % 2 ^ 63) 0 == some .eq) = decide (ab a = 0) := ord_eq HV.out.1 vv_zero
  have q2 : (FloatKind.f64.format.order (y % 2 ^ 63) 0 == some .eq) = decide (ab b = 0) := ord_eq HV.out.2.1 vv_zero
  have q3 : (FloatKind.f64.format.order (x % 2 ^ 63) (y % 2 ^ 63) == some .lt) = decide (ab a < ab b) := ord_lt HV.out.1 HV.out.2.1
  rw [decide_eq_false h0] at q1
  rw [decide_eq_false (Rat.not_lt.2 h)] at q3
  clear h h0
  clear hx hy ha hb na nb
  generalize hX : x % 2 ^ 63 = X at *
  generalize hY : y % 2 ^ 63 = Y at *
  go_enter Try.func7, Try.ntmps7
  go_wp2_with (first | (go_at_call 15; first | (refine (abs_any _ h0x _).mono ?_; rintro e w' ⟨rfl, rfl⟩) | (refine (abs_any _ h0y _).mono ?_; rintro e w' ⟨rfl, rfl⟩)) | (go_at_call 17; first | (refine (infinite_any HV.out.1 HV.out.2.2.1 _).mono ?_; rintro e w' ⟨rfl, rfl⟩) | (refine (infinite_any HV.out.2.1 HV.out.2.2.2 _).mono ?_; rintro e w' ⟨rfl, rfl⟩)) | (go_at_call 19; first | (refine (isNaN_no HV.out.1 _).mono ?_; rintro e w' ⟨rfl, rfl⟩) | (refine (isNaN_no HV.out.2.1 _).mono ?_; rintro e w' ⟨rfl, rfl⟩)) | (go_at_call 21; refine (hl _).mono ?_; rintro e w' ⟨rfl, rfl⟩) | fail)
  go_ret
  exact ⟨rfl, rfl⟩

set_option maxHeartbeats 3200000 in
set_option maxRecDepth 1000000 in
theorem absZ_zero {x y : Nat} {a b : Rat} (hx : VV x a) (hy : VV y b) (ha : Mid a) (hb : Mid b) (h : ab a = 0) (h0 : ab b = 0) :
    Gives 7 #[.complex .f64 x y] (.float .f64 0) := by
  intro w
  have HV : Hid (VV (x % 2 ^ 63) (ab a) ∧ VV (y % 2 ^ 63) (ab b) ∧ Mid (ab a) ∧ Mid (ab b)) := ⟨vv_abs hx, vv_abs hy, mid_ab ha, mid_ab hb⟩
  have h0x := hx.2
  have h0y := hy.2
  have na := ab_nonneg a
  have nb := ab_nonneg b
  have q1 : (FloatKind.f64.format.order (x % 2 ^ 63) 0 == some .eq) = decide (ab a = 0) := ord_eq HV.out.1 vv_zero
  have q2 : (FloatKind.f64.format.order (y % 2 ^ 63) 0 == some .eq) = decide (ab b = 0) := ord_eq HV.out.2.1 vv_zero
  have q3 : (FloatKind.f64.format.order (x % 2 ^ 63) (y % 2 ^ 63) == some .lt) = decide (ab a < ab b) := ord_lt HV.out.1 HV.out.2.1
  rw [decide_eq_true h] at q1
  rw [decide_eq_true h0] at q2
  clear h h0
  clear hx hy ha hb na nb
  generalize hX : x % 2 ^ 63 = X at *
  generalize hY : y % 2 ^ 63 = Y at *
  go_enter Try.func7, Try.ntmps7
  go_wp2_with (first | (go_at_call 15; first | (refine (abs_any _ h0x _).mono ?_; rintro e w' ⟨rfl, rfl⟩) | (refine (abs_any _ h0y _).mono ?_; rintro e w' ⟨rfl, rfl⟩)) | (go_at_call 17; first | (refine (infinite_any HV.out.1 HV.out.2.2.1 _).mono ?_; rintro e w' ⟨rfl, rfl⟩) | (refine (infinite_any HV.out.2.1 HV.out.2.2.2 _).mono ?_; rintro e w' ⟨rfl, rfl⟩)) | (go_at_call 19; first | (refine (isNaN_no HV.out.1 _).mono ?_; rintro e w' ⟨rfl, rfl⟩) | (refine (isNaN_no HV.out.2.1 _).mono ?_; rintro e w' ⟨rfl, rfl⟩)) | fail)
  go_ret
  exact ⟨rfl, rfl⟩

theorem absZ_any {x y : Nat} {a b : Rat} (hx : VV x a) (hy : VV y b) (ha : Mid a) (hb : Mid b) :
    ∃ r v, Gives 7 #[.complex .f64 x y] (.float .f64 r) ∧ VV r v ∧ AbS (ab a) (ab b) v := by
  have na := ab_nonneg a
  have nb := ab_nonneg b
  by_cases h : ab a < ab b
  · obtain ⟨r, v, g, hv, hl⟩ := longer_any (vv_abs hy) (vv_abs hx) na (Rat.le_of_lt h) (by grind) (mid_ab hb).1
    exact ⟨r, v, absZ_lt hx hy ha hb h g, hv, .inr (.inr ⟨h, hl⟩)⟩
  · by_cases h0 : ab a = 0
    · exact ⟨0, 0, absZ_zero hx hy ha hb h0 (by grind), vv_zero, .inl ⟨h0, by grind, rfl⟩⟩
    · obtain ⟨r, v, g, hv, hl⟩ := longer_any (vv_abs hx) (vv_abs hy) nb (Rat.not_lt.1 h) (by grind) (mid_ab ha).1
      exact ⟨r, v, absZ_ge hx hy ha hb (Rat.not_lt.1 h) h0 g, hv, .inr (.inl ⟨Rat.not_lt.1 h, by grind, hl⟩)⟩

set_option maxHeartbeats 1600000 in
set_option maxRecDepth 1000000 in
theorem mulZ_op {x y c d p1 p2 p3 p4 r1 r2 : Nat} (h1 : double.mul x c = some p1) (h2 : double.mul y d = some p2) (h3 : double.sub p1 p2 = some r1) (h4 : double.mul x d = some p3) (h5 : double.mul y c = some p4) (h6 : double.add p3 p4 = some r2) :
    Gives 6 #[.complex .f64 x y, .complex .f64 c d] (.complex .f64 r1 r2) := by
  intro w
  have o1 : ∀ t w, (binOp .mul t (.float .f64 x) (.float .f64 c)).run Try.prog w = .ok (.float .f64 p1) w := fun t w => run_float_arith w .mul t .f64 _ _ _ h1
  have o2 : ∀ t w, (binOp .mul t (.float .f64 y) (.float .f64 d)).run Try.prog w = .ok (.float .f64 p2) w := fun t w => run_float_arith w .mul t .f64 _ _ _ h2
  have o3 : ∀ t w, (binOp .sub t (.float .f64 p1) (.float .f64 p2)).run Try.prog w = .ok (.float .f64 r1) w := fun t w => run_float_arith w .sub t .f64 _ _ _ h3
  have o4 : ∀ t w, (binOp .mul t (.float .f64 x) (.float .f64 d)).run Try.prog w = .ok (.float .f64 p3) w := fun t w => run_float_arith w .mul t .f64 _ _ _ h4
  have o5 : ∀ t w, (binOp .mul t (.float .f64 y) (.float .f64 c)).run Try.prog w = .ok (.float .f64 p4) w := fun t w => run_float_arith w .mul t .f64 _ _ _ h5
  have o6 : ∀ t w, (binOp .add t (.float .f64 p3) (.float .f64 p4)).run Try.prog w = .ok (.float .f64 r2) w := fun t w => run_float_arith w .add t .f64 _ _ _ h6
  clear h1 h2 h3 h4 h5 h6
  go_enter Try.func6, Try.ntmps6
  go_wp2_with fail
  go_ret
  exact ⟨rfl, rfl⟩
set_option maxHeartbeats 1600000 in
set_option maxRecDepth 1000000 in
theorem subZ_op {x y c d r1 r2 : Nat} (h1 : double.sub x c = some r1) (h2 : double.sub y d = some r2) :
    Gives 8 #[.complex .f64 x y, .complex .f64 c d] (.complex .f64 r1 r2) := by
  intro w
  have o1 : ∀ t w, (binOp .sub t (.float .f64 x) (.float .f64 c)).run Try.prog w = .ok (.float .f64 r1) w := fun t w => run_float_arith w .sub t .f64 _ _ _ h1
  have o2 : ∀ t w, (binOp .sub t (.float .f64 y) (.float .f64 d)).run Try.prog w = .ok (.float .f64 r2) w := fun t w => run_float_arith w .sub t .f64 _ _ _ h2
  clear h1 h2
  go_enter Try.func8, Try.ntmps8
  go_wp2_with fail
  go_ret
  exact ⟨rfl, rfl⟩
end Go.Proofs.Ytfnminljpifloab
