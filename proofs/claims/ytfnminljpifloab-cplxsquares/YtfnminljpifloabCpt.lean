/-
  The root of a whole number's square is near it.
-/
import Derived.Test.YtfnminljpifloabCps
namespace Go.Proofs.Ytfnminljpifloab
open Go.RowKit Go.Lib Ieee

theorem read_sign {y : Nat} {s : Bool} {m : Nat} {e : Int} (hr : double.read y = .number s m e) : s = (y / 2 ^ 63 % 2 == 1) := by
  have e1 : double.signWeight = 2 ^ 63 := by decide
  simp only [Format.read, e1] at hr
  split at hr
  · injection hr with h1 _ _; exact h1.symm
  · split at hr
    · injection hr with h1 _ _; exact h1.symm
    · split at hr <;> cases hr
theorem read_high {r : Nat} {m : Nat} {e : Int} (h : r < 2 ^ 63) (hr : double.read r = .number false m e) : double.read (r + 2 ^ 63) = .number true m e := by
  have e1 : double.signWeight = 2 ^ 63 := by decide
  have a1 : (r + 2 ^ 63) / 2 ^ 63 % 2 = 1 := by omega
  have a2 : (r + 2 ^ 63) % 2 ^ 63 = r := by omega
  have a3 : r % 2 ^ 63 = r := by omega
  simp only [Format.read, e1] at hr ⊢
  rw [a1, a2]
  rw [a3] at hr
  split at hr
  · rename_i k; rw [if_pos k]; obtain ⟨_, h2, h3⟩ := Datum.number.inj hr; rw [h2, h3]; rfl
  · rename_i k
    rw [if_neg k]
    split at hr
    · rename_i k2; rw [if_pos k2]; obtain ⟨_, h2, h3⟩ := Datum.number.inj hr; rw [h2, h3]; rfl
    · split at hr <;> cases hr

theorem vv_copysign {t y : Nat} {tv q : Rat} (ht : VV t tv) (h0 : 0 ≤ tv) (hy : VV y q) (hq : q ≠ 0) : VV (t % 2 ^ 63 + y / 2 ^ 63 * 2 ^ 63) (if q < 0 then -tv else tv) := by
  have ha := vv_abs ht
  rw [show ab tv = tv by unfold ab; grind] at ha
  obtain ⟨⟨s, m, e, hr, hv⟩, hl⟩ := hy
  have hs := read_sign hr
  have hmn := mag_nonneg m e
  have hk : y / 2 ^ 63 = 0 ∨ y / 2 ^ 63 = 1 := by omega
  rcases hk with k | k
  · rw [k] at hs ⊢
    have hs' : s = false := hs
    rw [hs', sg_f] at hv
    rw [if_neg (by grind), Nat.zero_mul, Nat.add_zero]
    exact ha
  · rw [k] at hs ⊢
    have hs' : s = true := hs
    rw [hs', sg_t] at hv
    rw [if_pos (by grind), Nat.one_mul]
    obtain ⟨⟨s', m', e', hr', hv'⟩, hl'⟩ := ha
    have h63 : t % 2 ^ 63 < 2 ^ 63 := Nat.mod_lt _ (by decide)
    have hs2 := read_sign hr'
    rw [show t % 2 ^ 63 / 2 ^ 63 = 0 by omega] at hs2
    have hs3 : s' = false := hs2
    subst hs3
    refine ⟨⟨true, m', e', read_high h63 hr', ?_⟩, by omega⟩
    rw [hv', sg_f, sg_t]
    grind

/-- A word of 2 to the power 47. -/
theorem vv_47 : VV 4818851601286430720 140737488355328 := vv_lit _ false (2 ^ 52) (-5) _ (by rfl) (by
  rw [sg_f, Rat.one_mul]
  have h := p2_inv 5
  have e : ((2 ^ 5 : Nat) : Rat) = 32 := rfl
  have e2 : ((2 ^ 52 : Nat) : Rat) = 4503599627370496 := rfl
  rw [e] at h
  rw [e2]
  change p2 (-5) * 32 = 1 at h
  grind) (by decide)

theorem mid_of {v B : Rat} (h1 : v ≤ B) (h2 : -v ≤ B) (hB : B ≤ 1125899906842624) : Mid v := by
  have b50 : p2 50 = 1125899906842624 := p2_nat 50
  have := p2_le (show (50 : Int) ≤ 100 by omega)
  exact ⟨by grind, by grind⟩

/-- Behind the root: how far it is off, and how great the number is. -/
theorem off_steps {t i x y : Nat} {tv iv X Y : Rat} (vt : VV t tv) (vi : VV i iv) (vx : VV x X) (vy : VV y Y) (nt : Nr tv X (ab X)) (ni : Nr iv Y (ab Y)) (hX : 1 ≤ ab X) (hX2 : ab X ≤ 1048576) (hY2 : ab Y ≤ 1048576) :
    ∃ dx dy d m k, Gives 8 #[.complex .f64 t i, .complex .f64 x y] (.complex .f64 dx dy) ∧ Gives 7 #[.complex .f64 dx dy] (.float .f64 d) ∧ Gives 7 #[.complex .f64 x y] (.float .f64 m) ∧ double.div m 4818851601286430720 = some k ∧ ((double.order d k == some .lt) = true ∨ (double.order d k == some .eq) = true) := by
  have nX := ab_nonneg X
  have nY := ab_nonneg Y
  have b50 : p2 50 = 1125899906842624 := p2_nat 50
  obtain ⟨t1, t2⟩ := nt
  obtain ⟨i1, i2⟩ := ni
  obtain ⟨dx, dxv, e1, v1, n1⟩ := vv_sub vt vx (T := 50) (by omega) (by rw [b50]; grind) (by rw [b50]; grind)
  obtain ⟨dy, dyv, e2, v2, n2⟩ := vv_sub vi vy (T := 50) (by omega) (by rw [b50]; grind) (by rw [b50]; grind)
  have bnd : ∀ {v z B : Rat}, Rn v z → z ≤ B → -z ≤ B → 0 ≤ B → ab v ≤ B + 1 / 9007199254740992 * B + 1 / 1208925819614629174706176 := by
    intro v z B hn h1 h2 h3
    refine ab_le ?_ ?_
    · rcases Rat.le_total (a := 0) (b := z) with k | k
      · have := rn_near hn k; grind
      · have := rn_near (rn_neg hn) (show 0 ≤ -z by grind); grind
    · rcases Rat.le_total (a := 0) (b := z) with k | k
      · have := rn_near hn k; grind
      · have := rn_near (rn_neg hn) (show 0 ≤ -z by grind); grind
  have c1 := bnd n1 (B := 15 * ε * ab X + 1 / 1208925819614629174706176) (by grind) (by grind) (by grind)
  have c2 := bnd n2 (B := 15 * ε * ab Y + 1 / 1208925819614629174706176) (by grind) (by grind) (by grind)
  have m1 : Mid dxv := by
    have h := ab_nonneg dxv
    refine mid_of (B := ab dxv) ?_ ?_ (by grind) <;> (unfold ab; grind)
  have m2 : Mid dyv := by
    have h := ab_nonneg dyv
    refine mid_of (B := ab dyv) ?_ ?_ (by grind) <;> (unfold ab; grind)
  have m3 : Mid X := by refine mid_of (B := ab X) ?_ ?_ (by grind) <;> (unfold ab; grind)
  have m4 : Mid Y := by refine mid_of (B := ab Y) ?_ ?_ (by grind) <;> (unfold ab; grind)
  obtain ⟨d, dv, gd, vd, sd⟩ := absZ_any v1 v2 m1 m2
  obtain ⟨m, mv, gm, vm, sm⟩ := absZ_any vx vy m3 m4
  -- the greater side
  obtain ⟨G, hG1, hG2, hG3⟩ : ∃ G, ab X ≤ G ∧ ab Y ≤ G ∧ (G = ab X ∨ G = ab Y) := by
    rcases Rat.le_total (a := ab X) (b := ab Y) with k | k
    · exact ⟨ab Y, k, Rat.le_refl, .inr rfl⟩
    · exact ⟨ab X, Rat.le_refl, k, .inl rfl⟩
  have nx := ab_nonneg dxv
  have ny := ab_nonneg dyv
  have ud : dv ≤ 23 * ε * G := by
    rcases sd with ⟨_, _, h⟩ | ⟨h1, h2, h3⟩ | ⟨h1, h3⟩
    · grind
    · have := lg_up h2 ny h1 h3; grind
    · have := lg_up (by grind) nx (Rat.le_of_lt h1) h3; grind
  have um : G ≤ mv + 4 * ε * G := by
    rcases sm with ⟨h1, _, _⟩ | ⟨h1, h2, h3⟩ | ⟨h1, h3⟩
    · grind
    · have := lg_low hX nY h1 h3; grind
    · have := lg_low (by grind) nX (Rat.le_of_lt h1) h3; grind
  have um2 : mv ≤ 2097152 := by
    rcases sm with ⟨_, _, h⟩ | ⟨h1, h2, h3⟩ | ⟨h1, h3⟩
    · grind
    · have := lg_up h2 nY h1 h3; grind
    · have := lg_up (by grind) nX (Rat.le_of_lt h1) h3; grind
  obtain ⟨k, kv, Q, e3, vk, n3, qo⟩ := vv_div vm vv_47 (by grind) (T := 50) (by omega) (by rw [b50]; grind) (by rw [b50]; grind)
  obtain ⟨q0, q1, q2⟩ := qo_near qo (by grind)
  obtain ⟨k0, k1, k2⟩ := rn_near n3 q0
  refine ⟨dx, dy, d, m, k, subZ_op e1 e2, gd, gm, e3, .inl ?_⟩
  rw [ord_lt vd vk]
  refine decide_eq_true ?_
  grind

end Go.Proofs.Ytfnminljpifloab
