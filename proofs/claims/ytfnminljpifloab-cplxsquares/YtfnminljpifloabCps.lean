/-
  The root of a whole number's square.
-/
import Derived.Test.YtfnminljpifloabCpn
import Derived.Test.YtfnminljpifloabCpe
namespace Go.Proofs.Ytfnminljpifloab
open Go.RowKit Go.Lib Ieee

theorem rn_int {v : Rat} {z : Int} (h : Rn v (z : Rat)) (hz : z.natAbs < 2 ^ 53) : v = (z : Rat) := by
  refine h.2.2 z.natAbs 0 hz (by omega) ?_
  rw [p2_zero, Rat.mul_one, ← Rat.intCast_natCast]
  rcases Int.lt_or_le z 0 with k | k
  · right; rw [show ((z.natAbs : Nat) : Int) = -z by omega, Rat.intCast_neg, Rat.neg_neg]
  · left; rw [show ((z.natAbs : Nat) : Int) = z by omega]
theorem int_le {z : Int} (hz : z.natAbs < 2 ^ 53) : (z : Rat) ≤ p2 53 ∧ -(z : Rat) ≤ p2 53 := by
  have e : p2 53 = (((2 ^ 53 : Nat) : Int) : Rat) := (p2_nat 53).trans (Rat.intCast_natCast _).symm
  rw [e, ← Rat.intCast_neg]
  exact ⟨Rat.intCast_le_intCast.2 (by omega), Rat.intCast_le_intCast.2 (by omega)⟩
theorem int_v (n : Int) (h : n.natAbs < 2 ^ 53) : VV (FloatKind.f64.nearest n) (n : Rat) := by
  obtain ⟨l1, l2⟩ := int_le h
  have e : sg (decide (n < 0)) * ((n.natAbs : Rat) * p2 0) = (n : Rat) := by
    have := int_val n (decide (n < 0))
    rw [p2_zero, Rat.mul_one]
    by_cases k : n = 0
    · rw [if_pos k] at this; exact this
    · rw [if_neg k] at this; exact this
  obtain ⟨v, hv, hn⟩ := write_v (decide (n < 0)) n.natAbs 0 n e (T := 53) (by omega) l1 l2
  rw [rn_int hn h] at hv
  have hl : double.write (.number (decide (n < 0)) n.natAbs 0) < 2 ^ 64 := double.write_lt _
  exact ⟨hv, hl⟩
theorem iv_mul {x y : Nat} {a b : Int} (hx : VV x (a : Rat)) (hy : VV y (b : Rat)) (h : (a * b).natAbs < 2 ^ 53) : ∃ r, double.mul x y = some r ∧ VV r ((a * b : Int) : Rat) := by
  obtain ⟨l1, l2⟩ := int_le h
  rw [Rat.intCast_mul] at l1 l2
  obtain ⟨r, v, e, hv, hn⟩ := vv_mul hx hy (T := 53) (by omega) l1 l2
  rw [← Rat.intCast_mul] at hn
  rw [rn_int hn h] at hv
  exact ⟨r, e, hv⟩
theorem iv_add {x y : Nat} {a b : Int} (hx : VV x (a : Rat)) (hy : VV y (b : Rat)) (h : (a + b).natAbs < 2 ^ 53) : ∃ r, double.add x y = some r ∧ VV r ((a + b : Int) : Rat) := by
  obtain ⟨l1, l2⟩ := int_le h
  rw [Rat.intCast_add] at l1 l2
  obtain ⟨r, v, e, hv, hn⟩ := vv_add hx hy (T := 53) (by omega) l1 l2
  rw [← Rat.intCast_add] at hn
  rw [rn_int hn h] at hv
  exact ⟨r, e, hv⟩
theorem iv_sub {x y : Nat} {a b : Int} (hx : VV x (a : Rat)) (hy : VV y (b : Rat)) (h : (a - b).natAbs < 2 ^ 53) : ∃ r, double.sub x y = some r ∧ VV r ((a - b : Int) : Rat) := by
  obtain ⟨l1, l2⟩ := int_le h
  rw [Rat.intCast_sub] at l1 l2
  obtain ⟨r, v, e, hv, hn⟩ := vv_sub hx hy (T := 53) (by omega) l1 l2
  rw [← Rat.intCast_sub] at hn
  rw [rn_int hn h] at hv
  exact ⟨r, e, hv⟩

/-- The square of a whole number is exact. -/
theorem square_any {x y : Nat} {a b : Int} (hx : VV x (a : Rat)) (hy : VV y (b : Rat)) (ha : a.natAbs < 2 ^ 20) (hb : b.natAbs < 2 ^ 20) :
    ∃ p q, Gives 6 #[.complex .f64 x y, .complex .f64 x y] (.complex .f64 p q) ∧ VV p ((a * a - b * b : Int) : Rat) ∧ VV q ((2 * (a * b) : Int) : Rat) := by
  have m : ∀ u v : Int, u.natAbs < 2 ^ 20 → v.natAbs < 2 ^ 20 → (u * v).natAbs < 2 ^ 40 := fun u v hu hv => by
    rw [Int.natAbs_mul]
    have := Nat.mul_le_mul (show u.natAbs ≤ 2 ^ 20 - 1 by omega) (show v.natAbs ≤ 2 ^ 20 - 1 by omega)
    have e : (2 ^ 20 - 1) * (2 ^ 20 - 1) < 2 ^ 40 := by decide
    omega
  have m1 := m a a ha ha
  have m2 := m b b hb hb
  have m3 := m a b ha hb
  have m4 := m b a hb ha
  obtain ⟨p1, e1, v1⟩ := iv_mul hx hx (by omega)
  obtain ⟨p2, e2, v2⟩ := iv_mul hy hy (by omega)
  obtain ⟨r1, e3, v3⟩ := iv_sub v1 v2 (by omega)
  obtain ⟨p3, e4, v4⟩ := iv_mul hx hy (by omega)
  obtain ⟨p4, e5, v5⟩ := iv_mul hy hx (by omega)
  obtain ⟨r2, e6, v6⟩ := iv_add v4 v5 (by omega)
  refine ⟨r1, r2, mulZ_op e1 e2 e3 e4 e5 e6, v3, ?_⟩
  rw [show 2 * (a * b) = a * b + b * a by rw [Int.mul_comm b a]; omega]
  exact v6

theorem ab_int (z : Int) : ab (z : Rat) = ((z.natAbs : Int) : Rat) := by
  unfold ab
  rcases Int.lt_or_le z 0 with k | k
  · rw [if_pos (Rat.intCast_neg_iff.2 k), show ((z.natAbs : Nat) : Int) = -z by omega, Rat.intCast_neg]
  · rw [if_neg (Rat.not_lt.2 (Rat.intCast_nonneg.2 k)), show ((z.natAbs : Nat) : Int) = z by omega]
theorem ab_sq (v : Rat) : ab v * ab v = v * v := by unfold ab; grind
theorem int_one {z : Int} (h : (0 : Rat) < (z : Rat)) : (1 : Rat) ≤ (z : Rat) := by
  have h1 : 0 < z := Rat.intCast_pos.1 h
  have : ((1 : Int) : Rat) ≤ (z : Rat) := Rat.intCast_le_intCast.2 (by omega)
  exact this

/-- The magnitude of a number of whole parts. -/
theorem absI_near {p q : Int} {R v : Rat} (hR : 0 < R) (hR2 : R * R = (p : Rat) * p + (q : Rat) * q) (h : AbS (ab (p : Rat)) (ab (q : Rat)) v) : v ≤ R + 9 * ε * R ∧ R ≤ v + 9 * ε * R := by
  have n1 := ab_nonneg (p : Rat)
  have n2 := ab_nonneg (q : Rat)
  have s1 := ab_sq (p : Rat)
  have s2 := ab_sq (q : Rat)
  rcases h with ⟨h1, h2, _⟩ | ⟨h1, h2, h3⟩ | ⟨h1, h3⟩
  · exfalso
    rw [h1] at s1
    rw [h2] at s2
    have := Rat.mul_pos hR hR
    grind
  · exact lg_near (by rw [ab_int] at h2 ⊢; exact int_one h2) n2 h1 hR (by grind) h3
  · have h4 : 0 < ab (q : Rat) := by grind
    exact lg_near (by rw [ab_int] at h4 ⊢; exact int_one h4) n1 (Rat.le_of_lt h1) hR (by grind) h3

theorem qo_neg {Q a b : Rat} (h : Qo Q a b) : Qo (-Q) (-a) b := by
  obtain ⟨h1, h2⟩ := h
  refine ⟨fun k => ?_, fun k => ?_⟩
  · have := h2 (by grind); grind
  · have := h1 (by grind); grind

/-- Near a number z, by a share of S. -/
def Nr (v z S : Rat) : Prop := v ≤ z + (15 * ε * S + 1 / 1208925819614629174706176) ∧ z ≤ v + (15 * ε * S + 1 / 1208925819614629174706176)

/-- The parts of a root whose greater side is T, the other one S. -/
theorem root_steps {x r y : Nat} {T S R rv P q : Rat} (hT : 1 ≤ T) (hT2 : T ≤ 1048576) (hS0 : 0 ≤ S) (hS : S ≤ T) (hR : R = T * T + S * S) (hP : P = T * T - S * S)
    (vr : VV r rv) (r1 : rv ≤ R + 9 * ε * R) (r2 : R ≤ rv + 9 * ε * R) (vy : VV y q) (hq : q = 2 * (T * S) ∨ q = -(2 * (T * S))) :
    (VV x P → ∃ p1 p2 s t t2 i tv iv, double.mul 4602678819172646912 r = some p1 ∧ double.mul 4602678819172646912 x = some p2 ∧ double.add p1 p2 = some s ∧ double.sqrt s = some t ∧ double.mul 4611686018427387904 t = some t2 ∧ double.div y t2 = some i ∧ VV t tv ∧ VV i iv ∧ Nr tv T T ∧ 0 < tv ∧ (0 ≤ q → Nr iv S S) ∧ (q ≤ 0 → Nr iv (-S) S)) ∧
    (VV x (-P) → ∃ p1 p2 s t t2 i tv iv, double.mul 4602678819172646912 r = some p1 ∧ double.mul 4602678819172646912 x = some p2 ∧ double.sub p1 p2 = some s ∧ double.sqrt s = some t ∧ double.mul 4611686018427387904 t = some t2 ∧ double.div y t2 = some i ∧ VV t tv ∧ VV i iv ∧ Nr tv T T ∧ 0 < tv ∧ (0 ≤ q → Nr iv S S) ∧ (q ≤ 0 → Nr iv (-S) S)) := by
  have hT0 : 0 < T := by grind
  have tt1 : 1 ≤ T * T := by have := sq_mono (show (0 : Rat) ≤ 1 by grind) hT; grind
  have tt2 := sq_mono (Rat.le_of_lt hT0) hT2
  have ss := sq_mono hS0 hS
  have ss0 := Rat.mul_nonneg hS0 hS0
  have ts0 := Rat.mul_nonneg (Rat.le_of_lt hT0) hS0
  have ts1 : T * S ≤ T * T := Rat.mul_le_mul_of_nonneg_left hS (Rat.le_of_lt hT0)
  have b50 : p2 50 = 1125899906842624 := p2_nat 50
  have b60 : p2 60 = 1152921504606846976 := p2_nat 60
  -- what follows behind the sum
  have rest : ∀ (p1v p2v sv : Rat) (s : Nat), Rn p1v (1 / 2 * rv) → Rn p2v (1 / 2 * P) → Rn sv (p1v + p2v) → VV s sv →
      ∃ t t2 i tv iv, double.sqrt s = some t ∧ double.mul 4611686018427387904 t = some t2 ∧ double.div y t2 = some i ∧ VV t tv ∧ VV i iv ∧ Nr tv T T ∧ 0 < tv ∧ (0 ≤ q → Nr iv S S) ∧ (q ≤ 0 → Nr iv (-S) S) := by
    intro p1v p2v sv s n1 n2 n3 vs
    obtain ⟨a0, a1, a2⟩ := rn_near n1 (by grind)
    obtain ⟨c0, c1, c2⟩ := rn_near n2 (by grind)
    obtain ⟨d0, d1, d2⟩ := rn_near n3 (by grind)
    have sp : 0 < sv := by grind
    have su : sv ≤ p2 50 := by rw [b50]; grind
    obtain ⟨t, tv, W, dt, vt, n4, hW⟩ := vv_sqrt vs sp (by omega) (by omega) su
    obtain ⟨W0, _, _⟩ := ro_near hW
    obtain ⟨W1, W2⟩ : W ≤ 1073741824 ∧ 0 ≤ W := ⟨sq_inv (by grind) (by have := (ro_near hW).2.1; rw [b50] at su; grind), Rat.le_of_lt W0⟩
    obtain ⟨t0, t1, t3⟩ := rn_near n4 W2
    obtain ⟨t2, t2v, dt2, vt2, n5⟩ := vv_mul vv_two vt (T := 50) (by omega) (by rw [b50]; grind) (by rw [b50]; grind)
    rw [hP] at n2
    obtain ⟨k1, k2, k3, k4, k5⟩ := root_core hT hS0 hS hR r1 r2 (by grind) n1 n2 n3 hW n4 n5
    have tl : 1 ≤ t2v := by grind
    have tl2 := Rat.mul_le_mul_of_nonneg_left tl (show (0 : Rat) ≤ 1152921504606846976 by grind)
    obtain ⟨i, iv, Q, di, vi, n6, hQ⟩ := vv_div vy vt2 k3 (T := 60) (by omega) (by rw [b60]; grind) (by rw [b60]; grind)
    refine ⟨t, t2, i, tv, iv, dt, dt2, di, vt, vi, ⟨by grind, by grind⟩, by grind, fun hq0 => ?_, fun hq0 => ?_⟩
    · obtain rfl : q = 2 * (T * S) := by grind
      exact ⟨by have := (quo_core hT hS0 k4 k5 hQ n6).1; grind, by have := (quo_core hT hS0 k4 k5 hQ n6).2; grind⟩
    · have hq1 : -q = 2 * (T * S) := by grind
      have hQ' := qo_neg hQ
      rw [hq1] at hQ'
      have := quo_core hT hS0 k4 k5 hQ' (rn_neg n6)
      exact ⟨by grind, by grind⟩
  obtain ⟨p1, p1v, e1, v1, n1⟩ := vv_mul vv_half vr (T := 50) (by omega) (by rw [b50]; grind) (by rw [b50]; grind)
  obtain ⟨a0, a1, a2⟩ := rn_near n1 (by grind)
  constructor
  · intro vx
    obtain ⟨p2, p2v, e2, v2, n2⟩ := vv_mul vv_half vx (T := 50) (by omega) (by rw [b50]; grind) (by rw [b50]; grind)
    obtain ⟨c0, c1, c2⟩ := rn_near n2 (by grind)
    obtain ⟨s, sv, e3, v3, n3⟩ := vv_add v1 v2 (T := 50) (by omega) (by rw [b50]; grind) (by rw [b50]; grind)
    obtain ⟨t, t2, i, tv, iv, h⟩ := rest p1v p2v sv s n1 n2 n3 v3
    exact ⟨p1, p2, s, t, t2, i, tv, iv, e1, e2, e3, h⟩
  · intro vx
    obtain ⟨p2, p2v, e2, v2, n2⟩ := vv_mul vv_half vx (T := 50) (by omega) (by rw [b50]; grind) (by rw [b50]; grind)
    have n2' := rn_neg n2
    rw [show -(1 / 2 * -P) = 1 / 2 * P by grind] at n2'
    obtain ⟨c0, c1, c2⟩ := rn_near n2' (by grind)
    obtain ⟨s, sv, e3, v3, n3⟩ := vv_sub v1 v2 (T := 50) (by omega) (by rw [b50]; grind) (by rw [b50]; grind)
    rw [show p1v - p2v = p1v + -p2v by grind] at n3
    obtain ⟨t, t2, i, tv, iv, h⟩ := rest p1v (-p2v) sv s n1 n2' n3 v3
    exact ⟨p1, p2, s, t, t2, i, tv, iv, e1, e2, e3, h⟩

end Go.Proofs.Ytfnminljpifloab
