/-
  The law's 'works'.
-/
import Derived.Test.YtfnminljpifloabCqb
namespace Go.Proofs.Ytfnminljpifloab
open Go.RowKit Go.Lib Go.Sort Ieee

theorem vv_3 : VV 4613937818241073152 3 := vv_lit _ false 6755399441055744 (-51) 3 (by kernel_rfl) (by
  have h := p2_inv 51
  rw [show ((2 ^ 51 : Nat) : Rat) = 2251799813685248 by rfl] at h
  change p2 (-51) * 2251799813685248 = 1 at h
  rw [sg_f, Rat.one_mul, show ((6755399441055744 : Nat) : Rat) = 6755399441055744 by rfl]
  grind) (by decide)
theorem vv_4 : VV 4616189618054758400 4 := vv_lit _ false 4503599627370496 (-50) 4 (by kernel_rfl) (by
  have h := p2_inv 50
  rw [show ((2 ^ 50 : Nat) : Rat) = 1125899906842624 by rfl] at h
  change p2 (-50) * 1125899906842624 = 1 at h
  rw [sg_f, Rat.one_mul, show ((4503599627370496 : Nat) : Rat) = 4503599627370496 by rfl]
  grind) (by decide)
theorem vv_m4 : VV 13839561654909534208 (-4) := vv_lit _ true 4503599627370496 (-50) (-4) (by kernel_rfl) (by
  have h := p2_inv 50
  rw [show ((2 ^ 50 : Nat) : Rat) = 1125899906842624 by rfl] at h
  change p2 (-50) * 1125899906842624 = 1 at h
  rw [sg_t, show ((4503599627370496 : Nat) : Rat) = 4503599627370496 by rfl]
  grind) (by decide)
theorem longer_43 : Gives 21 #[.float .f64 4616189618054758400, .float .f64 4613937818241073152] (.float .f64 4617315517961601024) :=
  longer_op (q := 4604930618986332160) (q2 := 4603241769126068224) (s := 4609715693590413312) (t := 4608308318706860032) (by kernel_rfl) (by kernel_rfl) (by kernel_rfl) (by kernel_rfl) (by kernel_rfl)
theorem ab_3 : ab 3 = 3 := by unfold ab; grind
theorem ab_4 : ab 4 = 4 := by unfold ab; grind
theorem ab_m4 : ab (-4) = 4 := by unfold ab; grind
theorem mid_lit {v : Rat} (h1 : v ≤ 8) (h2 : -v ≤ 8) : Mid v := by
  have b3 : p2 3 = 8 := p2_nat 3
  have := p2_le (show (3 : Int) ≤ 100 by omega)
  exact ⟨by grind, by grind⟩
theorem mid_3 : Mid 3 := mid_lit (by grind) (by grind)
theorem mid_4 : Mid 4 := mid_lit (by grind) (by grind)
theorem mid_m4 : Mid (-4) := mid_lit (by grind) (by grind)
theorem abs_34 : Gives 7 #[.complex .f64 4613937818241073152 4616189618054758400] (.float .f64 4617315517961601024) :=
  absZ_lt vv_3 vv_4 mid_3 mid_4 (by rw [ab_3, ab_4]; grind) longer_43
theorem abs_3m4 : Gives 7 #[.complex .f64 4613937818241073152 13839561654909534208] (.float .f64 4617315517961601024) :=
  absZ_lt vv_3 vv_m4 mid_3 mid_m4 (by rw [ab_3, ab_m4]; grind) longer_43
theorem sqrt_34 : Gives 5 #[.complex .f64 4613937818241073152 4616189618054758400] (.tuple #[.complex .f64 4611686018427387904 4607182418800017408, .int .i64 0]) :=
  sqrtZ_pos vv_3 vv_4 mid_3 mid_4 (by grind) (.inl (by grind)) abs_34 (p1 := 4612811918334230528) (p2 := 4609434218613702656) (s := 4616189618054758400) (t2 := 4616189618054758400) (by kernel_rfl) (by kernel_rfl) (by kernel_rfl) (by kernel_rfl) (by kernel_rfl) (by kernel_rfl)
theorem mul_w : Gives 6 #[.complex .f64 4607182418800017408 4611686018427387904, .complex .f64 4613937818241073152 13830554455654793216] (.complex .f64 4617315517961601024 4617315517961601024) :=
  mulZ_op (p1 := 4613937818241073152) (p2 := 13835058055282163712) (p3 := 13830554455654793216) (p4 := 4618441417868443648) (by kernel_rfl) (by kernel_rfl) (by kernel_rfl) (by kernel_rfl) (by kernel_rfl) (by kernel_rfl)

set_option maxHeartbeats 1600000 in
set_option maxRecDepth 1000000 in
theorem works_any (w : World) : Calls Try.prog 4 #[] w fun e w' => e = .returned (.bool true) ∧ w.grownBy w' none := by
  go_enter Try.func4, Try.ntmps4
  go_wp2_with fail
  refine (sqrt_34 _).mono ?_
  rintro e w1 ⟨rfl, rfl⟩
  go_wp2_with fail
  refine (readZ_tx _).mono ?_
  rintro e w2 ⟨rfl, hg⟩
  have HG : Hid (w1.grownBy w2 none) := hg
  clear hg
  go_wp2_with fail
  refine (mul_w _).mono ?_
  rintro e w3 ⟨rfl, rfl⟩
  go_wp2_with fail
  refine (is_any 4617315517961601024 4617315517961601024 (by kernel_rfl) (by kernel_rfl) _).mono ?_
  rintro e w4 ⟨rfl, hg⟩
  have HG4 : Hid (w1.grownBy w4 none) := grownBy_trans HG.out hg
  clear hg HG
  go_wp2_with fail
  refine (num_any 0 _).mono ?_
  rintro e w5 ⟨rfl, rfl⟩
  go_wp2_with fail
  refine (is_any 4611686018427387904 4607182418800017408 (by kernel_rfl) (by kernel_rfl) _).mono ?_
  rintro e w6 ⟨rfl, hg⟩
  have HG6 : Hid (w1.grownBy w6 none) := grownBy_trans HG4.out hg
  clear hg HG4
  go_wp2_with fail
  refine (num_any 0 _).mono ?_
  rintro e w7 ⟨rfl, rfl⟩
  go_wp2_with fail
  refine (textZ_tx _).mono ?_
  rintro e w8 ⟨rfl, hg⟩
  have HG8 : Hid (w1.grownBy w8 none) := grownBy_trans HG6.out hg
  clear hg HG6
  go_wp2_with fail
  refine (abs_3m4 _).mono ?_
  rintro e w9 ⟨rfl, rfl⟩
  have h55 : (FloatKind.f64.format.order 4617315517961601024 4617315517961601024 == some .eq) = true := by kernel_rfl
  go_wp2_with fail
  go_ret
  exact ⟨rfl, HG8.out⟩
end Go.Proofs.Ytfnminljpifloab
