/-
  The law's walk.
-/
import Derived.Test.YtfnminljpifloabCqc
import Derived.Test.YtfnminljpifloabCpu
namespace Go.Proofs.Ytfnminljpifloab
open Go.RowKit Go.Lib Go.Sort Ieee

/-- What the law answers. -/
def Yes (w : World) (e : Ending) (w' : World) : Prop := e = .returned (.bool true) ∧ w.grownBy w' none

theorem lit_le {a : Int} (ha : a.natAbs < 2 ^ 53) {x : Nat} {v : Rat} (hx : VV x v) : (FloatKind.f64.format.order (FloatKind.f64.nearest a) x == some .lt) = decide ((a : Rat) < v) ∧ (FloatKind.f64.format.order (FloatKind.f64.nearest a) x == some .eq) = decide ((a : Rat) = v) ∧ (FloatKind.f64.format.order (FloatKind.f64.nearest a) x == some .gt) = decide (v < (a : Rat)) :=
  ⟨ord_lt (int_v a ha) hx, ord_eq (int_v a ha) hx, ord_gt (int_v a ha) hx⟩
theorem vv_20 : VV 4697254411347427328 1048576 := vv_lit _ false 4503599627370496 (-32) _ (by kernel_rfl) (by
  have h := p2_inv 32
  rw [show ((2 ^ 32 : Nat) : Rat) = 4294967296 by rfl] at h
  change p2 (-32) * 4294967296 = 1 at h
  rw [sg_f, Rat.one_mul, show ((4503599627370496 : Nat) : Rat) = 4503599627370496 by rfl]
  grind) (by decide)
theorem vv_m20 : VV 13920626448202203136 (-1048576) := vv_lit _ true 4503599627370496 (-32) _ (by kernel_rfl) (by
  have h := p2_inv 32
  rw [show ((2 ^ 32 : Nat) : Rat) = 4294967296 by rfl] at h
  change p2 (-32) * 4294967296 = 1 at h
  rw [sg_t, show ((4503599627370496 : Nat) : Rat) = 4503599627370496 by rfl]
  grind) (by decide)

theorem cmp_int {a c : Int} {x y : Nat} (hx : VV x (a : Rat)) (hy : VV y (c : Rat)) : (FloatKind.f64.format.order x y == some .lt) = decide (a < c) ∧ (FloatKind.f64.format.order x y == some .eq) = decide (a = c) ∧ (FloatKind.f64.format.order x y == some .gt) = decide (c < a) := by
  refine ⟨(ord_lt hx hy).trans ?_, (ord_eq hx hy).trans ?_, (ord_gt hx hy).trans ?_⟩
  · exact decide_eq_decide.2 Rat.intCast_lt_intCast
  · exact decide_eq_decide.2 Rat.intCast_inj
  · exact decide_eq_decide.2 Rat.intCast_lt_intCast

set_option maxHeartbeats 1600000 in
set_option maxRecDepth 1000000 in
theorem law_in (a b : Int) (ha0 : 0 < a) (ha : a < 1048576) (hb1 : -1048576 < b) (hb2 : b < 1048576) (w : World) : Calls Try.prog 3 #[.int .i32 a, .int .i32 b] w (Yes w) := by
  obtain ⟨p, q, t, i, dx, dy, d, m, k, g1, g2, g3, g4, g5, g6, g7⟩ := squares_any a b ha0 ha hb1 hb2
  have vx := int_v a (by omega)
  have vy := int_v b (by omega)
  obtain ⟨x, hx⟩ : ∃ x, FloatKind.f64.nearest a = x := ⟨_, rfl⟩
  obtain ⟨y, hy⟩ : ∃ y, FloatKind.f64.nearest b = y := ⟨_, rfl⟩
  rw [hx] at vx
  rw [hy] at vy
  rw [hx, hy] at g1 g3 g5
  have hx' : floatOfInt .f64 a = x := hx
  have hy' : floatOfInt .f64 b = y := hy
  clear hx hy
  have c1 := cmp_int vx (c := 0) vv_zero
  have c2 := cmp_int vx (c := 1048576) vv_20
  have c3 := cmp_int vy (c := -1048576) vv_m20
  have c4 := cmp_int vy (c := 1048576) vv_20
  rw [decide_eq_false (by omega), decide_eq_false (by omega)] at c1
  rw [decide_eq_false (show ¬ a = 1048576 by omega), decide_eq_false (show ¬ 1048576 < a by omega)] at c2
  rw [decide_eq_false (show ¬ b < -1048576 by omega), decide_eq_false (show ¬ b = -1048576 by omega)] at c3
  rw [decide_eq_false (show ¬ b = 1048576 by omega), decide_eq_false (show ¬ 1048576 < b by omega)] at c4
  obtain ⟨c11, c12, -⟩ := c1
  obtain ⟨-, c21, c22⟩ := c2
  obtain ⟨c31, c32, -⟩ := c3
  obtain ⟨-, c41, c42⟩ := c4
  have o1 : ∀ t w, (binOp .quo t (.float .f64 m) (.float .f64 4818851601286430720)).run Try.prog w = .ok (.float .f64 k) w := fun t w => run_float_arith w .quo t .f64 _ _ _ g6
  have HD : Hid ((FloatKind.f64.format.order d k == some .lt) = true ∨ (FloatKind.f64.format.order d k == some .eq) = true) := g7
  clear g6 g7 vx vy ha0 ha hb1 hb2
  go_enter Try.func3, Try.ntmps3
  go_wp2_with fail
  refine (g1 _).mono ?_
  rintro e w1 ⟨rfl, rfl⟩
  go_wp2_with fail
  refine (g2 _).mono ?_
  rintro e w1 ⟨rfl, rfl⟩
  go_wp2_with fail
  refine (g3 _).mono ?_
  rintro e w1 ⟨rfl, rfl⟩
  go_wp2_with fail
  refine (g4 _).mono ?_
  rintro e w1 ⟨rfl, rfl⟩
  go_wp2_with fail
  refine (g5 _).mono ?_
  rintro e w1 ⟨rfl, rfl⟩
  go_wp2_with fail
  refine (num_any 0 _).mono ?_
  rintro e w1 ⟨rfl, rfl⟩
  rcases HD.out with hd | hd
  · go_wp2_with fail
    refine (works_any _).mono ?_
    rintro e w2 ⟨rfl, hg⟩
    have HG : Hid (w1.grownBy w2 none) := hg
    clear hg
    go_wp2_with fail
    go_ret
    exact ⟨rfl, HG.out⟩
  · go_wp2_with fail
    all_goals
      refine (works_any _).mono ?_
      rintro e w2 ⟨rfl, hg⟩
      have HG : Hid (w1.grownBy w2 none) := hg
      clear hg
      go_wp2_with fail
      go_ret
      exact ⟨rfl, HG.out⟩

set_option maxHeartbeats 1600000 in
set_option maxRecDepth 1000000 in
theorem law_a0 (a b : Int) (ha : a.natAbs < 2 ^ 32) (hb : b.natAbs < 2 ^ 32) (h : a < 0) (w : World) : Calls Try.prog 3 #[.int .i32 a, .int .i32 b] w (Yes w) := by
  have vx := int_v a (by omega)
  have vy := int_v b (by omega)
  obtain ⟨x, hx⟩ : ∃ x, FloatKind.f64.nearest a = x := ⟨_, rfl⟩
  obtain ⟨y, hy⟩ : ∃ y, FloatKind.f64.nearest b = y := ⟨_, rfl⟩
  rw [hx] at vx
  rw [hy] at vy
  have hx' : floatOfInt .f64 a = x := hx
  have hy' : floatOfInt .f64 b = y := hy
  clear hx hy
  obtain ⟨c11, c12, -⟩ := cmp_int vx (c := 0) vv_zero
  obtain ⟨-, c21, c22⟩ := cmp_int vx (c := 1048576) vv_20
  obtain ⟨c31, c32, -⟩ := cmp_int vy (c := -1048576) vv_m20
  obtain ⟨-, c41, c42⟩ := cmp_int vy (c := 1048576) vv_20
  rw [decide_eq_true (show a < 0 by omega)] at c11
  clear c12 c21 c22 c31 c32 c41 c42
  clear vx vy ha hb
  go_enter Try.func3, Try.ntmps3
  go_wp2_with fail
  all_goals
    refine (works_any _).mono ?_
    rintro e w2 ⟨rfl, hg⟩
    have HG : Hid (w.grownBy w2 none) := hg
    clear hg
    go_wp2_with fail
    go_ret
    exact ⟨rfl, HG.out⟩

set_option maxHeartbeats 1600000 in
set_option maxRecDepth 1000000 in
theorem law_a00 (a b : Int) (ha : a.natAbs < 2 ^ 32) (hb : b.natAbs < 2 ^ 32) (h : a = 0) (w : World) : Calls Try.prog 3 #[.int .i32 a, .int .i32 b] w (Yes w) := by
  have vx := int_v a (by omega)
  have vy := int_v b (by omega)
  obtain ⟨x, hx⟩ : ∃ x, FloatKind.f64.nearest a = x := ⟨_, rfl⟩
  obtain ⟨y, hy⟩ : ∃ y, FloatKind.f64.nearest b = y := ⟨_, rfl⟩
  rw [hx] at vx
  rw [hy] at vy
  have hx' : floatOfInt .f64 a = x := hx
  have hy' : floatOfInt .f64 b = y := hy
  clear hx hy
  obtain ⟨c11, c12, -⟩ := cmp_int vx (c := 0) vv_zero
  obtain ⟨-, c21, c22⟩ := cmp_int vx (c := 1048576) vv_20
  obtain ⟨c31, c32, -⟩ := cmp_int vy (c := -1048576) vv_m20
  obtain ⟨-, c41, c42⟩ := cmp_int vy (c := 1048576) vv_20
  rw [decide_eq_false (show ¬ a < 0 by omega)] at c11
  rw [decide_eq_true (show a = 0 by omega)] at c12
  clear c21 c22 c31 c32 c41 c42
  clear vx vy ha hb
  go_enter Try.func3, Try.ntmps3
  go_wp2_with fail
  all_goals
    refine (works_any _).mono ?_
    rintro e w2 ⟨rfl, hg⟩
    have HG : Hid (w.grownBy w2 none) := hg
    clear hg
    go_wp2_with fail
    go_ret
    exact ⟨rfl, HG.out⟩

set_option maxHeartbeats 1600000 in
set_option maxRecDepth 1000000 in
theorem law_a1 (a b : Int) (ha : a.natAbs < 2 ^ 32) (hb : b.natAbs < 2 ^ 32) (h : 1048576 < a) (w : World) : Calls Try.prog 3 #[.int .i32 a, .int .i32 b] w (Yes w) := by
  have vx := int_v a (by omega)
  have vy := int_v b (by omega)
  obtain ⟨x, hx⟩ : ∃ x, FloatKind.f64.nearest a = x := ⟨_, rfl⟩
  obtain ⟨y, hy⟩ : ∃ y, FloatKind.f64.nearest b = y := ⟨_, rfl⟩
  rw [hx] at vx
  rw [hy] at vy
  have hx' : floatOfInt .f64 a = x := hx
  have hy' : floatOfInt .f64 b = y := hy
  clear hx hy
  obtain ⟨c11, c12, -⟩ := cmp_int vx (c := 0) vv_zero
  obtain ⟨-, c21, c22⟩ := cmp_int vx (c := 1048576) vv_20
  obtain ⟨c31, c32, -⟩ := cmp_int vy (c := -1048576) vv_m20
  obtain ⟨-, c41, c42⟩ := cmp_int vy (c := 1048576) vv_20
  rw [decide_eq_false (show ¬ a < 0 by omega)] at c11
  rw [decide_eq_false (show ¬ a = 0 by omega)] at c12
  rw [decide_eq_true (show 1048576 < a by omega)] at c22
  clear c21 c31 c32 c41 c42
  clear vx vy ha hb
  go_enter Try.func3, Try.ntmps3
  go_wp2_with fail
  all_goals
    refine (works_any _).mono ?_
    rintro e w2 ⟨rfl, hg⟩
    have HG : Hid (w.grownBy w2 none) := hg
    clear hg
    go_wp2_with fail
    go_ret
    exact ⟨rfl, HG.out⟩

set_option maxHeartbeats 1600000 in
set_option maxRecDepth 1000000 in
theorem law_a11 (a b : Int) (ha : a.natAbs < 2 ^ 32) (hb : b.natAbs < 2 ^ 32) (h : a = 1048576) (w : World) : Calls Try.prog 3 #[.int .i32 a, .int .i32 b] w (Yes w) := by
  have vx := int_v a (by omega)
  have vy := int_v b (by omega)
  obtain ⟨x, hx⟩ : ∃ x, FloatKind.f64.nearest a = x := ⟨_, rfl⟩
  obtain ⟨y, hy⟩ : ∃ y, FloatKind.f64.nearest b = y := ⟨_, rfl⟩
  rw [hx] at vx
  rw [hy] at vy
  have hx' : floatOfInt .f64 a = x := hx
  have hy' : floatOfInt .f64 b = y := hy
  clear hx hy
  obtain ⟨c11, c12, -⟩ := cmp_int vx (c := 0) vv_zero
  obtain ⟨-, c21, c22⟩ := cmp_int vx (c := 1048576) vv_20
  obtain ⟨c31, c32, -⟩ := cmp_int vy (c := -1048576) vv_m20
  obtain ⟨-, c41, c42⟩ := cmp_int vy (c := 1048576) vv_20
  rw [decide_eq_false (show ¬ a < 0 by omega)] at c11
  rw [decide_eq_false (show ¬ a = 0 by omega)] at c12
  rw [decide_eq_false (show ¬ 1048576 < a by omega)] at c22
  rw [decide_eq_true (show a = 1048576 by omega)] at c21
  clear c31 c32 c41 c42
  clear vx vy ha hb
  go_enter Try.func3, Try.ntmps3
  go_wp2_with fail
  all_goals
    refine (works_any _).mono ?_
    rintro e w2 ⟨rfl, hg⟩
    have HG : Hid (w.grownBy w2 none) := hg
    clear hg
    go_wp2_with fail
    go_ret
    exact ⟨rfl, HG.out⟩

set_option maxHeartbeats 1600000 in
set_option maxRecDepth 1000000 in
theorem law_b0 (a b : Int) (ha : a.natAbs < 2 ^ 32) (hb : b.natAbs < 2 ^ 32) (h0 : 0 < a) (h1 : a < 1048576) (h : b < -1048576) (w : World) : Calls Try.prog 3 #[.int .i32 a, .int .i32 b] w (Yes w) := by
  have vx := int_v a (by omega)
  have vy := int_v b (by omega)
  obtain ⟨x, hx⟩ : ∃ x, FloatKind.f64.nearest a = x := ⟨_, rfl⟩
  obtain ⟨y, hy⟩ : ∃ y, FloatKind.f64.nearest b = y := ⟨_, rfl⟩
  rw [hx] at vx
  rw [hy] at vy
  have hx' : floatOfInt .f64 a = x := hx
  have hy' : floatOfInt .f64 b = y := hy
  clear hx hy
  obtain ⟨c11, c12, -⟩ := cmp_int vx (c := 0) vv_zero
  obtain ⟨-, c21, c22⟩ := cmp_int vx (c := 1048576) vv_20
  obtain ⟨c31, c32, -⟩ := cmp_int vy (c := -1048576) vv_m20
  obtain ⟨-, c41, c42⟩ := cmp_int vy (c := 1048576) vv_20
  rw [decide_eq_false (show ¬ a < 0 by omega)] at c11
  rw [decide_eq_false (show ¬ a = 0 by omega)] at c12
  rw [decide_eq_false (show ¬ 1048576 < a by omega)] at c22
  rw [decide_eq_false (show ¬ a = 1048576 by omega)] at c21
  rw [decide_eq_true (show b < -1048576 by omega)] at c31
  clear c32 c41 c42
  clear vx vy ha hb
  go_enter Try.func3, Try.ntmps3
  go_wp2_with fail
  all_goals
    refine (works_any _).mono ?_
    rintro e w2 ⟨rfl, hg⟩
    have HG : Hid (w.grownBy w2 none) := hg
    clear hg
    go_wp2_with fail
    go_ret
    exact ⟨rfl, HG.out⟩

set_option maxHeartbeats 1600000 in
set_option maxRecDepth 1000000 in
theorem law_b00 (a b : Int) (ha : a.natAbs < 2 ^ 32) (hb : b.natAbs < 2 ^ 32) (h0 : 0 < a) (h1 : a < 1048576) (h : b = -1048576) (w : World) : Calls Try.prog 3 #[.int .i32 a, .int .i32 b] w (Yes w) := by
  have vx := int_v a (by omega)
  have vy := int_v b (by omega)
  obtain ⟨x, hx⟩ : ∃ x, FloatKind.f64.nearest a = x := ⟨_, rfl⟩
  obtain ⟨y, hy⟩ : ∃ y, FloatKind.f64.nearest b = y := ⟨_, rfl⟩
  rw [hx] at vx
  rw [hy] at vy
  have hx' : floatOfInt .f64 a = x := hx
  have hy' : floatOfInt .f64 b = y := hy
  clear hx hy
  obtain ⟨c11, c12, -⟩ := cmp_int vx (c := 0) vv_zero
  obtain ⟨-, c21, c22⟩ := cmp_int vx (c := 1048576) vv_20
  obtain ⟨c31, c32, -⟩ := cmp_int vy (c := -1048576) vv_m20
  obtain ⟨-, c41, c42⟩ := cmp_int vy (c := 1048576) vv_20
  rw [decide_eq_false (show ¬ a < 0 by omega)] at c11
  rw [decide_eq_false (show ¬ a = 0 by omega)] at c12
  rw [decide_eq_false (show ¬ 1048576 < a by omega)] at c22
  rw [decide_eq_false (show ¬ a = 1048576 by omega)] at c21
  rw [decide_eq_false (show ¬ b < -1048576 by omega)] at c31
  rw [decide_eq_true (show b = -1048576 by omega)] at c32
  clear c41 c42
  clear vx vy ha hb
  go_enter Try.func3, Try.ntmps3
  go_wp2_with fail
  all_goals
    refine (works_any _).mono ?_
    rintro e w2 ⟨rfl, hg⟩
    have HG : Hid (w.grownBy w2 none) := hg
    clear hg
    go_wp2_with fail
    go_ret
    exact ⟨rfl, HG.out⟩

set_option maxHeartbeats 1600000 in
set_option maxRecDepth 1000000 in
theorem law_b1 (a b : Int) (ha : a.natAbs < 2 ^ 32) (hb : b.natAbs < 2 ^ 32) (h0 : 0 < a) (h1 : a < 1048576) (h : 1048576 < b) (w : World) : Calls Try.prog 3 #[.int .i32 a, .int .i32 b] w (Yes w) := by
  have vx := int_v a (by omega)
  have vy := int_v b (by omega)
  obtain ⟨x, hx⟩ : ∃ x, FloatKind.f64.nearest a = x := ⟨_, rfl⟩
  obtain ⟨y, hy⟩ : ∃ y, FloatKind.f64.nearest b = y := ⟨_, rfl⟩
  rw [hx] at vx
  rw [hy] at vy
  have hx' : floatOfInt .f64 a = x := hx
  have hy' : floatOfInt .f64 b = y := hy
  clear hx hy
  obtain ⟨c11, c12, -⟩ := cmp_int vx (c := 0) vv_zero
  obtain ⟨-, c21, c22⟩ := cmp_int vx (c := 1048576) vv_20
  obtain ⟨c31, c32, -⟩ := cmp_int vy (c := -1048576) vv_m20
  obtain ⟨-, c41, c42⟩ := cmp_int vy (c := 1048576) vv_20
  rw [decide_eq_false (show ¬ a < 0 by omega)] at c11
  rw [decide_eq_false (show ¬ a = 0 by omega)] at c12
  rw [decide_eq_false (show ¬ 1048576 < a by omega)] at c22
  rw [decide_eq_false (show ¬ a = 1048576 by omega)] at c21
  rw [decide_eq_false (show ¬ b < -1048576 by omega)] at c31
  rw [decide_eq_false (show ¬ b = -1048576 by omega)] at c32
  rw [decide_eq_true (show 1048576 < b by omega)] at c42
  clear c41
  clear vx vy ha hb
  go_enter Try.func3, Try.ntmps3
  go_wp2_with fail
  all_goals
    refine (works_any _).mono ?_
    rintro e w2 ⟨rfl, hg⟩
    have HG : Hid (w.grownBy w2 none) := hg
    clear hg
    go_wp2_with fail
    go_ret
    exact ⟨rfl, HG.out⟩

set_option maxHeartbeats 1600000 in
set_option maxRecDepth 1000000 in
theorem law_b11 (a b : Int) (ha : a.natAbs < 2 ^ 32) (hb : b.natAbs < 2 ^ 32) (h0 : 0 < a) (h1 : a < 1048576) (h : b = 1048576) (w : World) : Calls Try.prog 3 #[.int .i32 a, .int .i32 b] w (Yes w) := by
  have vx := int_v a (by omega)
  have vy := int_v b (by omega)
  obtain ⟨x, hx⟩ : ∃ x, FloatKind.f64.nearest a = x := ⟨_, rfl⟩
  obtain ⟨y, hy⟩ : ∃ y, FloatKind.f64.nearest b = y := ⟨_, rfl⟩
  rw [hx] at vx
  rw [hy] at vy
  have hx' : floatOfInt .f64 a = x := hx
  have hy' : floatOfInt .f64 b = y := hy
  clear hx hy
  obtain ⟨c11, c12, -⟩ := cmp_int vx (c := 0) vv_zero
  obtain ⟨-, c21, c22⟩ := cmp_int vx (c := 1048576) vv_20
  obtain ⟨c31, c32, -⟩ := cmp_int vy (c := -1048576) vv_m20
  obtain ⟨-, c41, c42⟩ := cmp_int vy (c := 1048576) vv_20
  rw [decide_eq_false (show ¬ a < 0 by omega)] at c11
  rw [decide_eq_false (show ¬ a = 0 by omega)] at c12
  rw [decide_eq_false (show ¬ 1048576 < a by omega)] at c22
  rw [decide_eq_false (show ¬ a = 1048576 by omega)] at c21
  rw [decide_eq_false (show ¬ b < -1048576 by omega)] at c31
  rw [decide_eq_false (show ¬ b = -1048576 by omega)] at c32
  rw [decide_eq_false (show ¬ 1048576 < b by omega)] at c42
  rw [decide_eq_true (show b = 1048576 by omega)] at c41
  clear vx vy ha hb
  go_enter Try.func3, Try.ntmps3
  go_wp2_with fail
  all_goals
    refine (works_any _).mono ?_
    rintro e w2 ⟨rfl, hg⟩
    have HG : Hid (w.grownBy w2 none) := hg
    clear hg
    go_wp2_with fail
    go_ret
    exact ⟨rfl, HG.out⟩

theorem law_any (a b : Int) (ha : a.natAbs < 2 ^ 32) (hb : b.natAbs < 2 ^ 32) (w : World) : Calls Try.prog 3 #[.int .i32 a, .int .i32 b] w (Yes w) := by
  rcases Int.lt_trichotomy a 0 with h | h | h
  · exact law_a0 a b ha hb h w
  · exact law_a00 a b ha hb h w
  · rcases Int.lt_trichotomy a 1048576 with h1 | h1 | h1
    · rcases Int.lt_trichotomy b (-1048576) with h2 | h2 | h2
      · exact law_b0 a b ha hb h h1 h2 w
      · exact law_b00 a b ha hb h h1 h2 w
      · rcases Int.lt_trichotomy b 1048576 with h3 | h3 | h3
        · exact law_in a b h h1 h2 h3 w
        · exact law_b11 a b ha hb h h1 h3 w
        · exact law_b1 a b ha hb h h1 h3 w
    · exact law_a11 a b ha hb h1 w
    · exact law_a1 a b ha hb h1 w
end Go.Proofs.Ytfnminljpifloab
