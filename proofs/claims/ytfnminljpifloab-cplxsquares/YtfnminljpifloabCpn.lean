/-
  How near the formulas come.
-/
import Derived.Test.YtfnminljpifloabCpc
namespace Go.Proofs.Ytfnminljpifloab
open Go.RowKit Go.Lib Ieee

/-- 2 to the power -52. -/
abbrev ε : Rat := 1 / 4503599627370496

/-- A rounded number that is not below 0. -/
theorem rn_near {v X : Rat} (h : Rn v X) (h0 : 0 ≤ X) : 0 ≤ v ∧ v ≤ X + 1 / 9007199254740992 * X + 1 / 1208925819614629174706176 ∧ X ≤ v + 1 / 9007199254740992 * X + 1 / 1208925819614629174706176 := by
  obtain ⟨e53, _, _, e75, _⟩ := eps
  obtain ⟨k0, k1, k2⟩ := rn_up h h0
  rw [e53] at k1 k2
  exact ⟨k0, by grind, by grind⟩
theorem ro_near {W a : Rat} (h : Ro W a) : 0 < W ∧ W * W ≤ a + ε * a ∧ a ≤ W * W + ε * a := by
  obtain ⟨_, _, e52, _, _⟩ := eps
  obtain ⟨k0, k1, k2⟩ := h
  rw [e52] at k1 k2
  exact ⟨k0, k1, k2⟩
theorem qo_near {Q a b : Rat} (h : Qo Q a b) (ha : 0 ≤ a) : 0 ≤ Q ∧ Q * b ≤ a + 1 / 18014398509481984 * a ∧ a ≤ Q * b + 1 / 18014398509481984 * a := by
  obtain ⟨_, e54, _, _, _⟩ := eps
  obtain ⟨k0, k1, k2⟩ := h.1 ha
  rw [e54] at k1 k2
  exact ⟨k0, k1, k2⟩

/-- Two squares that are near have near roots. -/
theorem sq_near {a c D : Rat} (ha : 0 ≤ a) (hc : 0 < c) (h1 : a * a ≤ c * c + D * (c * c)) (h2 : c * c ≤ a * a + D * (c * c)) (hD : 0 ≤ D) : a ≤ c + D * c ∧ c ≤ a + D * c := by
  have hDc := Rat.mul_nonneg hD (Rat.le_of_lt hc)
  constructor
  · refine sq_inv (by grind) ?_
    have := Rat.mul_nonneg hDc hDc
    have := Rat.mul_nonneg hDc (Rat.le_of_lt hc)
    grind
  · rcases Rat.le_total (a := c) (b := a) with k | k
    · grind
    · have k1 := Rat.mul_le_mul_of_nonneg_left k ha
      -- c c - a a = (c - a) (c + a) >= (c - a) c
      have k2 : (c - a) * c ≤ (D * c) * c := by
        have := Rat.mul_nonneg (show 0 ≤ c - a by grind) ha
        grind
      have := Rat.le_of_mul_le_mul_right k2 hc
      grind

/-- The longer side's formula, first half: what lies under the root. -/
theorem lg_under {M N k Q s1 s2 ρ : Rat} (hM : 0 < M) (hN0 : 0 ≤ N) (hN : N ≤ M) (hρ : ρ * M = N) (hQ : Qo Q N M) (hk : Rn k Q) (h1 : Rn s1 (k * k)) (h2 : Rn s2 (1 + s1)) :
    0 ≤ ρ ∧ ρ ≤ 1 ∧ 1 - 1 / 4503599627370496 ≤ s2 ∧ s2 ≤ 1 + ρ * ρ + 4 * ε ∧ 1 + ρ * ρ ≤ s2 + 4 * ε := by
  obtain ⟨q0, q1, q2⟩ := qo_near hQ hN0
  have r0 : 0 ≤ ρ := by
    rcases Rat.le_total (a := 0) (b := ρ) with j | j
    · exact j
    · have := Rat.mul_le_mul_of_nonneg_right j (Rat.le_of_lt hM)
      have e : ρ * M = 0 := by grind
      rcases Rat.mul_eq_zero.1 e with j2 | j2 <;> grind
  have r1 : ρ ≤ 1 := Rat.le_of_mul_le_mul_right (c := M) (by grind) hM
  have a1 : Q ≤ ρ + 1 / 18014398509481984 * ρ := Rat.le_of_mul_le_mul_right (c := M) (by grind) hM
  have a2 : ρ ≤ Q + 1 / 18014398509481984 * ρ := Rat.le_of_mul_le_mul_right (c := M) (by grind) hM
  obtain ⟨k0, k1, k2⟩ := rn_near hk q0
  have b1 : k ≤ ρ + ε := by grind
  have b2 : ρ ≤ k + ε := by grind
  have c0 := Rat.mul_nonneg k0 k0
  have c1 : k * k ≤ ρ * ρ + 201 / 100 * ε := by
    have j1 := sq_mono k0 b1
    grind
  have c2 : ρ * ρ ≤ k * k + 201 / 100 * ε := by
    have j1 := sq_mono r0 b2
    grind
  have c3 := sq_mono r0 r1
  obtain ⟨s0, s3, s4⟩ := rn_near h1 c0
  obtain ⟨t0, t1, t2⟩ := rn_near h2 (show 0 ≤ 1 + s1 by grind)
  have r2 := Rat.mul_nonneg r0 r0
  refine ⟨r0, r1, ?_, ?_, ?_⟩ <;> grind

/-- The longer side's formula, of whole sides: near the exact one R. -/
theorem lg_near {M N R v : Rat} (hM : 1 ≤ M) (hN0 : 0 ≤ N) (hN : N ≤ M) (hR : 0 < R) (hR2 : R * R = M * M + N * N) (h : LgS M N v) : v ≤ R + 9 * ε * R ∧ R ≤ v + 9 * ε * R := by
  obtain ⟨k, Q, s1, s2, W, s3, hk, hQ, h1, h2, hW, h3, hv⟩ := h
  have hM0 : 0 < M := by grind
  have hMn : M ≠ 0 := by grind
  obtain ⟨ρ, hρ⟩ : ∃ ρ, ρ * M = N := ⟨N / M, Rat.div_mul_cancel hMn⟩
  obtain ⟨c, hc⟩ : ∃ c, c * M = R := ⟨R / M, Rat.div_mul_cancel hMn⟩
  obtain ⟨r0, r1, u0, u1, u2⟩ := lg_under hM0 hN0 hN hρ hQ hk h1 h2
  have hcc : c * c = 1 + ρ * ρ := by
    have e : (c * c) * (M * M) = (1 + ρ * ρ) * (M * M) := by
      have : (c * M) * (c * M) = M * M + (ρ * M) * (ρ * M) := by rw [hc, hρ]; exact hR2
      grind
    have hMM : M * M ≠ 0 := by
      have := Rat.mul_pos hM0 hM0
      grind
    have e2 : (c * c - (1 + ρ * ρ)) * (M * M) = 0 := by grind
    rcases Rat.mul_eq_zero.1 e2 with j | j
    · grind
    · exact absurd j hMM
  have hcp : 0 < c := by
    rcases Rat.le_total (a := c) (b := 0) with j | j
    · have := Rat.mul_le_mul_of_nonneg_right j (Rat.le_of_lt hM0)
      grind
    · rcases Rat.le_iff_lt_or_eq.1 j with j2 | j2
      · exact j2
      · rw [← j2] at hc; grind
  have rr := Rat.mul_nonneg r0 r0
  have rr1 := sq_mono r0 r1
  have hc1 : 1 ≤ c := sq_inv (by grind) (by grind)
  have hc2 : c ≤ 3 / 2 := sq_inv (by grind) (by grind)
  obtain ⟨W0, W1, W2⟩ := ro_near hW
  obtain ⟨n1, n2⟩ := sq_near (a := W) (c := c) (D := 7 * ε) (Rat.le_of_lt W0) hcp (by grind) (by grind) (by grind)
  obtain ⟨t0, t1, t2⟩ := rn_near h3 (Rat.le_of_lt W0)
  have w1 : s3 ≤ c + 31 / 4 * ε * c := by grind
  have w2 : c ≤ s3 + 31 / 4 * ε * c := by grind
  have m1 := Rat.mul_le_mul_of_nonneg_left w1 (Rat.le_of_lt hM0)
  have m2 := Rat.mul_le_mul_of_nonneg_left w2 (Rat.le_of_lt hM0)
  obtain ⟨v0, v1, v2⟩ := rn_near hv (Rat.mul_nonneg (Rat.le_of_lt hM0) t0)
  have hMR : M ≤ R := by
    have := Rat.mul_le_mul_of_nonneg_right hc1 (Rat.le_of_lt hM0)
    grind
  constructor <;> grind

/-- The same of any sides, from above. -/
theorem lg_up {M N v : Rat} (hM0 : 0 < M) (hN0 : 0 ≤ N) (hN : N ≤ M) (h : LgS M N v) : v ≤ 3 / 2 * M + 1 / 1208925819614629174706176 := by
  obtain ⟨k, Q, s1, s2, W, s3, hk, hQ, h1, h2, hW, h3, hv⟩ := h
  have hMn : M ≠ 0 := by grind
  obtain ⟨ρ, hρ⟩ : ∃ ρ, ρ * M = N := ⟨N / M, Rat.div_mul_cancel hMn⟩
  obtain ⟨r0, r1, u0, u1, u2⟩ := lg_under hM0 hN0 hN hρ hQ hk h1 h2
  have rr1 := sq_mono r0 r1
  obtain ⟨W0, W1, W2⟩ := ro_near hW
  have hW1 : W ≤ 142 / 100 := sq_inv (by grind) (by grind)
  obtain ⟨t0, t1, t2⟩ := rn_near h3 (Rat.le_of_lt W0)
  have m1 := Rat.mul_le_mul_of_nonneg_left (show s3 ≤ 143 / 100 by grind) (Rat.le_of_lt hM0)
  obtain ⟨v0, v1, v2⟩ := rn_near hv (Rat.mul_nonneg (Rat.le_of_lt hM0) t0)
  grind

/-- The same of a side that is 1 at least, from below. -/
theorem lg_low {M N v : Rat} (hM : 1 ≤ M) (hN0 : 0 ≤ N) (hN : N ≤ M) (h : LgS M N v) : M ≤ v + 4 * ε * M := by
  obtain ⟨k, Q, s1, s2, W, s3, hk, hQ, h1, h2, hW, h3, hv⟩ := h
  have hM0 : 0 < M := by grind
  have hMn : M ≠ 0 := by grind
  obtain ⟨ρ, hρ⟩ : ∃ ρ, ρ * M = N := ⟨N / M, Rat.div_mul_cancel hMn⟩
  obtain ⟨r0, r1, u0, u1, u2⟩ := lg_under hM0 hN0 hN hρ hQ hk h1 h2
  obtain ⟨W0, W1, W2⟩ := ro_near hW
  have hW1 : 1 - 5 / 2 * ε ≤ W := sq_inv (Rat.le_of_lt W0) (by grind)
  obtain ⟨t0, t1, t2⟩ := rn_near h3 (Rat.le_of_lt W0)
  have m1 := Rat.mul_le_mul_of_nonneg_left (show 1 - 13 / 4 * ε ≤ s3 by grind) (Rat.le_of_lt hM0)
  obtain ⟨v0, v1, v2⟩ := rn_near hv (Rat.mul_nonneg (Rat.le_of_lt hM0) t0)
  grind

/-- A root of near a square, and what is divided by twice it. T is the root's side, S the other one, not below 0. -/
theorem root_core {T S R r h1 h2 s t W t2 : Rat} (hT : 1 ≤ T) (hS0 : 0 ≤ S) (hS : S ≤ T) (hR : R = T * T + S * S) (r1 : r ≤ R + 9 * ε * R) (r2 : R ≤ r + 9 * ε * R) (r0 : 0 ≤ r)
    (n1 : Rn h1 (1 / 2 * r)) (n2 : Rn h2 (1 / 2 * (T * T - S * S))) (n3 : Rn s (h1 + h2)) (hW : Ro W s) (n4 : Rn t W) (n5 : Rn t2 (2 * t)) :
    t ≤ T + 13 * ε * T ∧ T ≤ t + 13 * ε * T ∧ 0 < t2 ∧ t2 ≤ 2 * T + 27 * ε * T ∧ 2 * T ≤ t2 + 27 * ε * T := by
  have hT0 : 0 < T := by grind
  have tt1 : 1 ≤ T * T := by have := sq_mono (show (0 : Rat) ≤ 1 by grind) hT; grind
  have ss := sq_mono hS0 hS
  have ss0 := Rat.mul_nonneg hS0 hS0
  generalize hTT : T * T = TT at *
  generalize hSS : S * S = SS at *
  obtain ⟨a0, a1, a2⟩ := rn_near n1 (by grind)
  obtain ⟨b0, b1, b2⟩ := rn_near n2 (by grind)
  obtain ⟨c0, c1, c2⟩ := rn_near n3 (by grind)
  have s1 : s ≤ TT + 21 / 2 * ε * TT := by grind
  have s2 : TT ≤ s + 21 / 2 * ε * TT := by grind
  obtain ⟨W0, W1, W2⟩ := ro_near hW
  obtain ⟨k1, k2⟩ := sq_near (a := W) (c := T) (D := 12 * ε) (Rat.le_of_lt W0) hT0 (by rw [hTT]; grind) (by rw [hTT]; grind) (by grind)
  obtain ⟨d0, d1, d2⟩ := rn_near n4 (Rat.le_of_lt W0)
  have t1 : t ≤ T + 13 * ε * T := by grind
  have t3 : T ≤ t + 13 * ε * T := by grind
  obtain ⟨e0, e1, e2⟩ := rn_near n5 (by grind)
  refine ⟨t1, t3, ?_, ?_, ?_⟩ <;> grind

theorem quo_core {T S t2 Q i : Rat} (hT : 1 ≤ T) (hS0 : 0 ≤ S) (p1 : t2 ≤ 2 * T + 27 * ε * T) (p2 : 2 * T ≤ t2 + 27 * ε * T) (hQ : Qo Q (2 * (T * S)) t2) (n : Rn i Q) :
    i ≤ S + 15 * ε * S + 1 / 1208925819614629174706176 ∧ S ≤ i + 15 * ε * S + 1 / 1208925819614629174706176 := by
  have hT0 : 0 < T := by grind
  have ts := Rat.mul_nonneg (Rat.le_of_lt hT0) hS0
  obtain ⟨q0, q1, q2⟩ := qo_near hQ (by grind)
  have m1 := Rat.mul_le_mul_of_nonneg_left p1 q0
  have m2 := Rat.mul_le_mul_of_nonneg_left p2 q0
  have u1 : Q ≤ S + 14 * ε * S := by
    refine Rat.le_of_mul_le_mul_right (c := (2 - 27 * ε) * T) ?_ (Rat.mul_pos (by grind) hT0)
    grind
  have u2 : S ≤ Q + 14 * ε * S := by
    refine Rat.le_of_mul_le_mul_right (c := (2 + 27 * ε) * T) ?_ (Rat.mul_pos (by grind) hT0)
    grind
  obtain ⟨v0, v1, v2⟩ := rn_near n q0
  constructor <;> grind

end Go.Proofs.Ytfnminljpifloab
