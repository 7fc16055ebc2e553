/-
  Finite numbers; the three points of Through.
-/
import Derived.Test.YtlpdmbidjjaeoabFci
import Derived.LoopN
namespace Go.Proofs.Ytlpdmbidjjaeoab
open Go.RowKit Go.Lib Go.Sort Ieee
attribute [local go_sem] run_store_float run_store_complex
set_option linter.unusedVariables false

theorem vv_max : VV 9218868437227405311 (((2 ^ 53 - 1 : Nat) : Rat) * p2 971) := vv_lit _ false (2 ^ 53 - 1) 971 _ (by rfl) (by rw [sg_f, Rat.one_mul]) (by decide)
theorem max_gt {T : Int} (hT : T ≤ 1000) : p2 T < ((2 ^ 53 - 1 : Nat) : Rat) * p2 971 := by
  have h1 := p2_le (show T ≤ 52 + 971 by omega)
  rw [p2_add, show (52 : Int) = ((52 : Nat) : Int) by rfl, p2_nat] at h1
  have h2 : ((2 ^ 52 : Nat) : Rat) < ((2 ^ 53 - 1 : Nat) : Rat) := Rat.natCast_lt_natCast.2 (by decide)
  have h3 := Rat.mul_lt_mul_of_pos_right h2 (p2_pos 971)
  grind

theorem ab_le {v B : Rat} (h1 : v ≤ B) (h2 : -v ≤ B) : ab v ≤ B := by unfold ab; grind

theorem ord_lt {x y : Nat} {a b : Rat} (hx : VV x a) (hy : VV y b) : (double.order x y == some .lt) = decide (a < b) := by
  obtain ⟨o, ho, h1, _, _⟩ := order_v hx.1 hy.1
  rw [ho]
  by_cases k : a < b
  · rw [decide_eq_true k, h1.2 k]; rfl
  · rw [decide_eq_false k]
    have : o ≠ .lt := fun e => k (h1.1 e)
    cases o <;> first | rfl | exact absurd rfl this
theorem ord_eq {x y : Nat} {a b : Rat} (hx : VV x a) (hy : VV y b) : (double.order x y == some .eq) = decide (a = b) := by
  obtain ⟨o, ho, _, h1, _⟩ := order_v hx.1 hy.1
  rw [ho]
  by_cases k : a = b
  · rw [decide_eq_true k, h1.2 k]; rfl
  · rw [decide_eq_false k]
    have : o ≠ .eq := fun e => k (h1.1 e)
    cases o <;> first | rfl | exact absurd rfl this
/-- Great numbers apart. -/
def Mid (v : Rat) : Prop := v ≤ p2 100 ∧ -v ≤ p2 100
set_option maxHeartbeats 1600000 in
theorem finite_any {x : Nat} {v : Rat} (hx : VV x v) (hm : Mid v) (w : World) :
    Calls Try.prog 34 #[.float .f64 x] w fun e w' => e = .returned (.bool true) ∧ w' = w := by
  have hf : (FloatKind.f64.format.order (x % 2 ^ 63) 9218868437227405311 == some .lt) = true := by
    refine (ord_lt (vv_abs hx) vv_max).trans (decide_eq_true ?_)
    have := ab_le hm.1 hm.2
    have := max_gt (T := 100) (by omega)
    grind
  have hlt := hx.2
  clear hx hm
  go_enter Try.func34, Try.ntmps34
  go_wp2_with (go_at_call 30; refine (abs_any _ hlt _).mono ?_; rintro e w' ⟨rfl, rfl⟩)
  go_ret
  exact ⟨rfl, rfl⟩
set_option maxHeartbeats 1600000 in
theorem finiteZ_any {x y : Nat} {a b : Rat} (hx : VV x a) (hy : VV y b) (ha : Mid a) (hb : Mid b) (w : World) :
    Calls Try.prog 24 #[.complex .f64 x y] w fun e w' => e = .returned (.bool true) ∧ w' = w := by
  go_enter Try.func24, Try.ntmps24
  go_wp2_with (go_at_call 34; first | (refine (finite_any hx ha _).mono ?_; rintro e w' ⟨rfl, rfl⟩) | (refine (finite_any hy hb _).mono ?_; rintro e w' ⟨rfl, rfl⟩))
  all_goals (go_ret; exact ⟨rfl, rfl⟩)

theorem E.mid {s x k : Nat} {n : Int} (h : E s x n k) (hk : k < 2 ^ 53) : Mid ((n : Rat) * p2 (-(s : Int))) := by
  obtain ⟨a, b⟩ := ex_le (s := s) (show n.natAbs < 2 ^ 53 by have := h.2; omega)
  have c := p2_le (show (53 : Int) ≤ 100 by omega)
  exact ⟨Rat.le_trans a c, Rat.le_trans b c⟩
theorem finite_e {s x y k : Nat} {a b : Int} (h : Z s x y a b k) (hk : k < 2 ^ 53) : Gives 24 #[.complex .f64 x y] (.bool true) := fun w => finiteZ_any h.1.1 h.2.1 (h.1.mid hk) (h.2.mid hk) w

set_option maxHeartbeats 1600000 in
set_option maxRecDepth 1000000 in
theorem finite3_op {p1 p2 q1 q2 r1 r2 : Nat} (h1 : Gives 24 #[.complex .f64 p1 p2] (.bool true)) (h2 : Gives 24 #[.complex .f64 q1 q2] (.bool true)) (h3 : Gives 24 #[.complex .f64 r1 r2] (.bool true)) (w : World) :
    Calls Try.prog 9 #[three p1 p2 q1 q2 r1 r2] w fun e w' => e = .returned (.bool true) ∧ w.grownBy w' none := by
  have x0 : ∀ w : World, (Instr.index 39 (.agg #[.complex .f64 p1 p2, .complex .f64 q1 q2, .complex .f64 r1 r2]) (.int .i64 0)).run Try.prog w = .ok (.complex .f64 p1 p2) w := fun _ => by kernel_rfl
  have x1 : ∀ w : World, (Instr.index 39 (.agg #[.complex .f64 p1 p2, .complex .f64 q1 q2, .complex .f64 r1 r2]) (.int .i64 1)).run Try.prog w = .ok (.complex .f64 q1 q2) w := fun _ => by kernel_rfl
  have x2 : ∀ w : World, (Instr.index 39 (.agg #[.complex .f64 p1 p2, .complex .f64 q1 q2, .complex .f64 r1 r2]) (.int .i64 2)).run Try.prog w = .ok (.complex .f64 r1 r2) w := fun _ => by kernel_rfl
  go_enter Try.func9, Try.ntmps9
  go_wp2_with fail
  refine wp_loop_rounds 4 ?_
  rw [rounds_succ]
  go_wp2_with fail
  refine (h1 _).mono ?_
  rintro e w1 ⟨rfl, rfl⟩
  go_wp2_with fail
  rw [rounds_succ]
  go_wp2_with fail
  refine (h2 _).mono ?_
  rintro e w2 ⟨rfl, rfl⟩
  go_wp2_with fail
  rw [rounds_succ]
  go_wp2_with fail
  refine (h3 _).mono ?_
  rintro e w3 ⟨rfl, rfl⟩
  go_wp2_with fail
  rw [rounds_succ]
  go_wp2_with fail
  go_ret
  exact ⟨rfl, grow1 _ _⟩
end Go.Proofs.Ytlpdmbidjjaeoab
