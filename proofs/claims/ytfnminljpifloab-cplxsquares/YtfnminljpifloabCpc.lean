/-
  The longer side's formula: that each of its steps is a number, and the program's text of it.
-/
import Derived.Test.YtfnminljpifloabCpb
namespace Go.Proofs.Ytfnminljpifloab
open Go.RowKit Go.Lib Ieee

theorem sq_mono {a b : Rat} (h0 : 0 ≤ a) (h : a ≤ b) : a * a ≤ b * b := by
  have h1 := Rat.mul_le_mul_of_nonneg_left h h0
  have h2 := Rat.mul_le_mul_of_nonneg_right h (Rat.le_trans h0 h)
  grind
theorem sq_inv {a c : Rat} (hc : 0 ≤ c) (h : a * a ≤ c * c) : a ≤ c := by
  rcases Rat.le_total (a := a) (b := c) with k | k
  · exact k
  · have h1 := Rat.mul_le_mul_of_nonneg_left k hc
    rcases Rat.le_iff_lt_or_eq.1 k with k2 | k2
    · have h2 := Rat.mul_lt_mul_of_pos_right k2 (show 0 < a by grind)
      grind
    · rw [k2]; exact Rat.le_refl

/-- A rounded number that is not below 0, by one bound. -/
theorem rn_le {v X B : Rat} (h : Rn v X) (h0 : 0 ≤ X) (hX : X ≤ B) (hB : 1 / 1000000 ≤ B) : 0 ≤ v ∧ v ≤ B + B / 1000000000000000 := by
  obtain ⟨e53, _, _, e75, _⟩ := eps
  obtain ⟨k0, k1, _⟩ := rn_up h h0
  rw [e53] at k1
  refine ⟨k0, ?_⟩
  grind
theorem rn_ge {v X B : Rat} (h : Rn v X) (hX : B ≤ X) (hB : 1 / 1000000 ≤ B) (h0 : 0 ≤ B) : B - B / 500000000000000 ≤ v := by
  obtain ⟨e53, _, _, e75, _⟩ := eps
  obtain ⟨k0, _, k1⟩ := rn_up h (Rat.le_trans h0 hX)
  rw [e53] at k1
  grind

theorem qo_le {Q a b B : Rat} (h : Qo Q a b) (hb : 0 < b) (ha : 0 ≤ a) (hB : a ≤ B * b) : 0 ≤ Q ∧ Q ≤ B + B / 10000000000000000 := by
  obtain ⟨_, e54, _, _, _⟩ := eps
  obtain ⟨k0, k1, _⟩ := h.1 ha
  rw [e54] at k1
  refine ⟨k0, Rat.le_of_mul_le_mul_right (c := b) ?_ hb⟩
  grind

/-- The longer side, step by step. -/
theorem longer_v {x y : Nat} {M N : Rat} (hx : VV x M) (hy : VV y N) (h0 : 0 ≤ N) (h1 : N ≤ M) (hM : 0 < M) (hT : M ≤ p2 100) :
    ∃ q q2 s t r v, double.div y x = some q ∧ double.mul q q = some q2 ∧ double.add 4607182418800017408 q2 = some s ∧ double.sqrt s = some t ∧ double.mul x t = some r ∧ VV r v ∧ LgS M N v := by
  have hp1 : p2 1 = 2 := p2_one
  have hp2 : p2 2 = 4 := p2_nat 2
  have hp3 : p2 3 = 8 := p2_nat 3
  obtain ⟨q, k, Q, dq, vq, rq, qo⟩ := vv_div hy hx hM (T := 1) (by omega) (by rw [hp1]; grind) (by rw [hp1]; grind)
  obtain ⟨Q0, Q1⟩ := qo_le qo hM h0 (B := 1) (by grind)
  obtain ⟨K0, K1⟩ := rn_le rq Q0 (B := 1 + 1 / 1000000000000000) (by grind) (by grind)
  have K2 : k ≤ 5 / 4 := by grind
  have KK := sq_mono K0 K2
  have KK0 := Rat.mul_nonneg K0 K0
  obtain ⟨q2, s1, dq2, vq2, rq2⟩ := vv_mul vq vq (T := 1) (by omega) (by rw [hp1]; grind) (by rw [hp1]; grind)
  obtain ⟨S0, S1⟩ := rn_le rq2 KK0 (B := 25 / 16) (by grind) (by grind)
  obtain ⟨s, s2, ds, vs, rs⟩ := vv_add vv_one vq2 (T := 2) (by omega) (by rw [hp2]; grind) (by rw [hp2]; grind)
  obtain ⟨T0, T1⟩ := rn_le rs (show 0 ≤ 1 + s1 by grind) (B := 3) (by grind) (by grind)
  have T2 := rn_ge rs (B := 1) (by grind) (by grind) (by grind)
  obtain ⟨t, s3, W, dt, vt, rt, ro⟩ := vv_sqrt vs (show 0 < s2 by grind) (T := 2) (by omega) (by omega) (by rw [hp2]; grind)
  have hW : W ≤ 3 := sq_inv (by grind) (by
    obtain ⟨_, r2, _⟩ := ro
    obtain ⟨_, _, e52, _, _⟩ := eps
    rw [e52] at r2
    grind)
  obtain ⟨U0, U1⟩ := rn_le rt (Rat.le_of_lt ro.1) (B := 3) hW (by grind)
  have MU0 := Rat.mul_nonneg (Rat.le_of_lt hM) U0
  have MU := Rat.mul_le_mul_of_nonneg_left (show s3 ≤ 4 by grind) (Rat.le_of_lt hM)
  obtain ⟨r, v, dr, vr, rr⟩ := vv_mul hx vt (T := 2 + 100) (by omega) (by rw [p2_add, hp2]; grind) (by rw [p2_add, hp2]; have := p2_pos 100; grind)
  exact ⟨q, q2, s, t, r, v, dq, dq2, ds, dt, dr, vr, k, Q, s1, s2, W, s3, rq, qo, rq2, rs, ro, rt, rr⟩

/-- A call that answers one value and leaves the world as it is. -/
abbrev Gives (f : Nat) (args : Array Value) (v : Value) : Prop := ∀ w, Calls Try.prog f args w fun e w' => e = .returned v ∧ w' = w

set_option maxHeartbeats 1600000 in
set_option maxRecDepth 1000000 in
theorem longer_op {x y q q2 s t r : Nat} (dq : double.div y x = some q) (dq2 : double.mul q q = some q2) (ds : double.add 4607182418800017408 q2 = some s) (dt : double.sqrt s = some t) (dr : double.mul x t = some r) :
    Gives 21 #[.float .f64 x, .float .f64 y] (.float .f64 r) := by
  intro w
  have o1 : ∀ t w, (binOp .quo t (.float .f64 y) (.float .f64 x)).run Try.prog w = .ok (.float .f64 q) w := fun t w => run_float_arith w .quo t .f64 _ _ _ dq
  have o2 : ∀ t w, (binOp .mul t (.float .f64 q) (.float .f64 q)).run Try.prog w = .ok (.float .f64 q2) w := fun t w => run_float_arith w .mul t .f64 _ _ _ dq2
  have o3 : ∀ t w, (binOp .add t (.float .f64 4607182418800017408) (.float .f64 q2)).run Try.prog w = .ok (.float .f64 s) w := fun t w => run_float_arith w .add t .f64 _ _ _ ds
  have o4 : ∀ u w, (binOp .mul u (.float .f64 x) (.float .f64 t)).run Try.prog w = .ok (.float .f64 r) w := fun u w => run_float_arith w .mul u .f64 _ _ _ dr
  clear dq dq2 ds dr
  go_enter Try.func21, Try.ntmps21
  go_wp2_with (go_at_call 14; refine (sqrtm_any _ _ dt _).mono ?_; rintro e w' ⟨rfl, rfl⟩)
  go_ret
  exact ⟨rfl, rfl⟩
theorem longer_any {x y : Nat} {M N : Rat} (hx : VV x M) (hy : VV y N) (h0 : 0 ≤ N) (h1 : N ≤ M) (hM : 0 < M) (hT : M ≤ p2 100) :
    ∃ r v, Gives 21 #[.float .f64 x, .float .f64 y] (.float .f64 r) ∧ VV r v ∧ LgS M N v := by
  obtain ⟨q, q2, s, t, r, v, dq, dq2, ds, dt, dr, vr, lg⟩ := longer_v hx hy h0 h1 hM hT
  exact ⟨r, v, longer_op dq dq2 ds dt dr, vr, lg⟩
end Go.Proofs.Ytfnminljpifloab
