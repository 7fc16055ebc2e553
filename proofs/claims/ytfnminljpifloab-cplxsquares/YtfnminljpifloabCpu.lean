/-
  Of a whole number: its square, the square's root, how far that is off, how great the number is.
-/
import Derived.Test.YtfnminljpifloabCpt
namespace Go.Proofs.Ytfnminljpifloab
open Go.RowKit Go.Lib Ieee

theorem squares_any (a b : Int) (ha0 : 0 < a) (ha : a < 1048576) (hb1 : -1048576 < b) (hb2 : b < 1048576) :
    ∃ p q t i dx dy d m k, Gives 6 #[.complex .f64 (FloatKind.f64.nearest a) (FloatKind.f64.nearest b), .complex .f64 (FloatKind.f64.nearest a) (FloatKind.f64.nearest b)] (.complex .f64 p q) ∧
      Gives 5 #[.complex .f64 p q] (.tuple #[.complex .f64 t i, .int .i64 0]) ∧
      Gives 8 #[.complex .f64 t i, .complex .f64 (FloatKind.f64.nearest a) (FloatKind.f64.nearest b)] (.complex .f64 dx dy) ∧ Gives 7 #[.complex .f64 dx dy] (.float .f64 d) ∧
      Gives 7 #[.complex .f64 (FloatKind.f64.nearest a) (FloatKind.f64.nearest b)] (.float .f64 m) ∧ double.div m 4818851601286430720 = some k ∧ ((double.order d k == some .lt) = true ∨ (double.order d k == some .eq) = true) := by
  have vx := int_v a (by omega)
  have vy := int_v b (by omega)
  generalize FloatKind.f64.nearest a = x at *
  generalize FloatKind.f64.nearest b = y at *
  obtain ⟨p, q, gm, vp, vq⟩ := square_any vx vy (by omega) (by omega)
  rw [Rat.intCast_sub, Rat.intCast_mul, Rat.intCast_mul] at vp
  rw [Rat.intCast_mul, Rat.intCast_mul, show ((2 : Int) : Rat) = 2 by rfl] at vq
  have hA1 : (1 : Rat) ≤ (a : Rat) := int_one (Rat.intCast_pos.2 ha0)
  have hA2 : (a : Rat) ≤ 1048576 := Rat.intCast_le_intCast.2 (show a ≤ (1048576 : Int) by omega)
  have hB1 : -(1048576 : Rat) ≤ (b : Rat) := Rat.intCast_le_intCast.2 (show (-1048576 : Int) ≤ b by omega)
  have hB2 : (b : Rat) ≤ 1048576 := Rat.intCast_le_intCast.2 (show b ≤ (1048576 : Int) by omega)
  have habs : ∀ rv, AbS (ab ((a : Rat) * a - (b : Rat) * b)) (ab (2 * ((a : Rat) * b))) rv → rv ≤ ((a : Rat) * a + (b : Rat) * b) + 9 * ε * ((a : Rat) * a + (b : Rat) * b) ∧ ((a : Rat) * a + (b : Rat) * b) ≤ rv + 9 * ε * ((a : Rat) * a + (b : Rat) * b) := fun rv h => by
    have e1 : (a : Rat) * a - (b : Rat) * b = ((a * a - b * b : Int) : Rat) := by rw [Rat.intCast_sub, Rat.intCast_mul, Rat.intCast_mul]
    have e2 : 2 * ((a : Rat) * b) = ((2 * (a * b) : Int) : Rat) := by rw [Rat.intCast_mul, Rat.intCast_mul]; rfl
    have s1 := Rat.mul_pos (show (0 : Rat) < (a : Rat) by grind) (show (0 : Rat) < (a : Rat) by grind)
    have s2 : 0 ≤ (b : Rat) * b := by
      rcases Rat.le_total (a := 0) (b := (b : Rat)) with k | k
      · exact Rat.mul_nonneg k k
      · have := Rat.mul_nonneg (show 0 ≤ -(b : Rat) by grind) (show 0 ≤ -(b : Rat) by grind); grind
    rw [e1, e2] at h
    exact absI_near (by grind) (by rw [← e1, ← e2]; grind) h
  generalize (a : Rat) = A at *
  generalize (b : Rat) = B at *
  have nB := ab_nonneg B
  have sB := ab_sq B
  have aA : ab A = A := by unfold ab; grind
  have uB : ab B ≤ 1048576 := by unfold ab; grind
  have AA := sq_mono (show 0 ≤ A by grind) hA2
  have AA1 := sq_mono (show (0 : Rat) ≤ 1 by grind) hA1
  have BB := sq_mono nB uB
  have BB0 := Rat.mul_nonneg nB nB
  have AB0 := Rat.mul_nonneg (show 0 ≤ A by grind) nB
  have AB1 : A * ab B ≤ 1048576 * 1048576 := by
    have h1 := Rat.mul_le_mul_of_nonneg_left uB (show 0 ≤ A by grind)
    grind
  have hAB : (0 ≤ B ∧ ab B = B ∧ A * ab B = A * B) ∨ (B < 0 ∧ ab B = -B ∧ A * ab B = -(A * B)) := by
    by_cases k : B < 0
    · right; have e : ab B = -B := by unfold ab; grind
      exact ⟨k, e, by rw [e]; grind⟩
    · left; have e : ab B = B := by unfold ab; grind
      exact ⟨by grind, e, by rw [e]⟩
  have mp : Mid (A * A - B * B) := mid_of (B := 1125899906842624) (by grind) (by grind) Rat.le_refl
  have mq : Mid (2 * (A * B)) := mid_of (B := 1125899906842624) (by grind) (by grind) Rat.le_refl
  obtain ⟨r, rv, gr, vr, sr⟩ := absZ_any vp vq mp mq
  obtain ⟨r1, r2⟩ := habs rv sr
  by_cases hc : ab B ≤ A
  · obtain ⟨p1, p2, s, t, t2, i, tv, iv, e1, e2, e3, e4, e5, e6, vt, vi, nt, t0, n1, n2⟩ := (root_steps (x := p) hA1 hA2 nB hc (R := A * A + B * B) (P := A * A - B * B) (by rw [sB]) (by rw [sB]) vr r1 r2 vq (by grind)).1 vp
    have hpos : 0 ≤ A * A - B * B := by
      have := sq_mono nB hc
      grind
    have hsq := sqrtZ_pos vp vq mp mq hpos (by
      by_cases k : A * A - B * B = 0
      · right
        intro e
        have e2 : A * B = 0 := by grind
        rcases Rat.mul_eq_zero.1 e2 with j | j
        · grind
        · subst j; grind
      · left; exact k) gr e1 e2 e3 e4 e5 e6
    have ni : Nr iv B (ab B) := by
      rcases hAB with ⟨k1, k2, k3⟩ | ⟨k1, k2, k3⟩
      · have := n1 (by grind); rw [k2] at this ⊢; exact this
      · have := n2 (by grind); rw [k2] at this ⊢; rw [show - -B = B by grind] at this; exact this
    obtain ⟨dx, dy, d, m, k, g1, g2, g3, g4, g5⟩ := off_steps vt vi vx vy (by rw [aA]; exact nt) ni (by rw [aA]; exact hA1) (by rw [aA]; exact hA2) uB
    exact ⟨p, q, t, i, dx, dy, d, m, k, gm, hsq, g1, g2, g3, g4, g5⟩
  · have hc' : A ≤ ab B := by grind
    have vp' : VV p (-(ab B * ab B - A * A)) := by rw [show -(ab B * ab B - A * A) = A * A - B * B by grind]; exact vp
    have eq : ab (2 * (A * B)) = 2 * (ab B * A) := by
      rcases hAB with ⟨k1, k2, k3⟩ | ⟨k1, k2, k3⟩
      · unfold ab; grind
      · rw [ab]; grind
    have vq' := vv_abs vq
    rw [eq] at vq'
    obtain ⟨p1, p2, s, t, t2, i, tv, iv, e1, e2, e3, e4, e5, e6, vt, vi, nt, t0, n1, n2⟩ := (root_steps (x := p) (T := ab B) (S := A) (by grind) uB (by grind) hc' (R := A * A + B * B) (P := ab B * ab B - A * A) (by grind) rfl vr r1 r2 vq' (.inl rfl)).2 vp'
    have hneg : A * A - B * B < 0 := by
      have h1 := Rat.mul_lt_mul_of_pos_left (show A < ab B by grind) (show 0 < A by grind)
      have h2 := Rat.mul_le_mul_of_nonneg_right hc' nB
      grind
    have hq0 : 2 * (A * B) ≠ 0 := by
      have := Rat.mul_pos (show 0 < A by grind) (show 0 < ab B by grind)
      grind
    have hsq := sqrtZ_neg vp vq mp mq hneg vt.2 gr e1 e2 e3 e4 e5 e6
    have vc := vv_copysign vt (Rat.le_of_lt t0) vq hq0
    have n1' := n1 (by grind)
    have ni : Nr (if 2 * (A * B) < 0 then -tv else tv) B (ab B) := by
      obtain ⟨w1, w2⟩ := nt
      rcases hAB with ⟨k1, k2, k3⟩ | ⟨k1, k2, k3⟩
      · rw [if_neg (by grind)]; exact ⟨by grind, by grind⟩
      · rw [if_pos (by grind)]; exact ⟨by grind, by grind⟩
    obtain ⟨dx, dy, d, m, k, g1, g2, g3, g4, g5⟩ := off_steps vi vc vx vy (by rw [aA]; exact n1') ni (by rw [aA]; exact hA1) (by rw [aA]; exact hA2) uB
    exact ⟨p, q, i, _, dx, dy, d, m, k, gm, hsq, g1, g2, g3, g4, g5⟩

end Go.Proofs.Ytfnminljpifloab
