/-
  The simplest by quotients lies between, and no fraction between is simpler, over Int.
  frac.Simplest: its answer lies between, and nothing between is simpler.
  frac.Sqrt by what its answer is worth.
-/
import Derived.Test.YtdfliaogmlpefaaGreatDoorBunSiw
import Derived.Test.YtdfliaogmlpefaaGreatDoorBunOnc
namespace Go.Proofs.YtdfliaogmlpefaaGreatDoor
set_option linter.unusedVariables false
structure SmM (N1 D1 N2 D2 p q : Int) : Prop where
  lo : N1 * q ≤ p * D1
  hi : p * D2 ≤ N2 * q
  least : ∀ P Q : Int, 0 < Q → N1 * Q ≤ P * D1 → P * D2 ≤ N2 * Q → p ≤ P ∧ q ≤ Q
theorem le_mul_one {a Q : Int} (ha : 0 ≤ a) (hQ : 0 < Q) : a ≤ a * Q := by
  have := Int.mul_le_mul_of_nonneg_left (show (1 : Int) ≤ Q by omega) ha
  omega
theorem sm_least : ∀ (f : Nat) (N1 D1 N2 D2 : Int), 0 < N1 → 0 < D1 → 0 < N2 → 0 < D2 → N1 * D2 ≤ N2 * D1 → (D1.toNat ≤ f ∨ D2.toNat ≤ f) → SmM N1 D1 N2 D2 (fo (sm f N1 D1 N2 D2)).1 (fo (sm f N1 D1 N2 D2)).2
  | 0, N1, D1, N2, D2, a1, a2, a3, a4, hle, hf => by omega
  | f + 1, N1, D1, N2, D2, a1, a2, a3, a4, hle, hf => by
    obtain ⟨e0, e1, e2, e3, e4⟩ := div_le_self N1 D1 (by omega) a2
    obtain ⟨c0, c1, c2, c3, c4⟩ := div_le_self N2 D2 (by omega) a4
    have hac : N1 / D1 ≤ N2 / D2 := by
      refine (Int.le_ediv_iff_mul_le a4).2 ?_
      have h1 : N1 / D1 * D2 * D1 ≤ N2 * D1 := by
        refine Int.le_trans ?_ hle
        have h2 : N1 / D1 * D1 ≤ N1 := by rw [Int.mul_comm]; omega
        have h3 := Int.mul_le_mul_of_nonneg_right h2 (Int.le_of_lt a4)
        rw [Int.mul_right_comm]
        exact h3
      exact Int.le_of_mul_le_mul_right h1 a2
    have hac2 : N1 / D1 * D2 ≤ N2 := (Int.le_ediv_iff_mul_le a4).1 hac
    by_cases hr : N1 % D1 = 0
    · have hs : sm (f + 1) N1 D1 N2 D2 = [N1 / D1] := by unfold sm; rw [if_pos ⟨hac, hr⟩]
      rw [hs, fo_one]
      rw [hr, Int.add_zero] at e2
      generalize N1 / D1 = a at *
      refine ⟨by rw [← e2]; show D1 * a * 1 ≤ a * D1; rw [Int.mul_one, Int.mul_comm]; exact Int.le_refl _, by show a * D2 ≤ N2 * 1; omega, fun P Q hQ h1 h2 => ⟨?_, by show (1 : Int) ≤ Q; omega⟩⟩
      have h3 : a * Q * D1 ≤ P * D1 := by
        rw [show a * Q * D1 = D1 * a * Q by rw [Int.mul_comm D1 a, Int.mul_right_comm], e2]
        exact h1
      exact Int.le_trans (le_mul_one e0 hQ) (Int.le_of_mul_le_mul_right h3 a2)
    · have hr0 : 0 < N1 % D1 := by omega
      have big : ∀ P Q : Int, 0 < Q → N1 * Q ≤ P * D1 → N1 / D1 * Q < P := by
        intro P Q hQ h1
        have h2 : N1 * Q = N1 / D1 * Q * D1 + N1 % D1 * Q := by
          conv => lhs; rw [← e2]
          rw [Int.add_mul, Int.mul_comm D1, Int.mul_right_comm]
        have h3 := Int.mul_pos hr0 hQ
        exact Int.lt_of_mul_lt_mul_right (show N1 / D1 * Q * D1 < P * D1 by omega) (Int.le_of_lt a2)
      by_cases hlt : N1 / D1 < N2 / D2
      · have hs : sm (f + 1) N1 D1 N2 D2 = [N1 / D1 + 1] := by
          unfold sm
          rw [if_neg (fun h => hr h.2), if_neg (fun h => by omega), if_pos hlt]
        rw [hs, fo_one]
        have h5 : (N1 / D1 + 1) * D2 ≤ N2 := (Int.le_ediv_iff_mul_le a4).1 (by omega)
        refine ⟨?_, by show (N1 / D1 + 1) * D2 ≤ N2 * 1; omega, fun P Q hQ h1 h2 => ⟨?_, by show (1 : Int) ≤ Q; omega⟩⟩
        · show N1 * 1 ≤ (N1 / D1 + 1) * D1
          rw [Int.add_mul, Int.mul_comm (N1 / D1)]
          omega
        · have h3 := big P Q hQ h1
          have h4 := le_mul_one e0 hQ
          show N1 / D1 + 1 ≤ P
          omega
      · have hab : N1 / D1 = N2 / D2 := by omega
        have hr2 : 0 < N2 % D2 := by
          rcases Int.lt_or_eq_of_le c3 with h | h
          · exact h
          · exfalso
            rw [← h, Int.add_zero, ← hab] at c2
            have h1 := big N2 D2 a4 hle
            rw [Int.mul_comm] at h1
            omega
        have hs : sm (f + 1) N1 D1 N2 D2 = N1 / D1 :: sm f D2 (N2 % D2) D1 (N1 % D1) := by
          rw [sm_comm f]
          conv => lhs; unfold sm
          rw [if_neg (fun h => hr h.2), if_neg (fun h => by omega), if_neg (by omega), if_neg (by omega)]
        have split1 : ∀ Q : Int, N1 * Q = N1 / D1 * Q * D1 + Q * (N1 % D1) := by
          intro Q
          conv => lhs; rw [← e2]
          rw [Int.add_mul, Int.mul_comm D1, Int.mul_right_comm, Int.mul_comm (N1 % D1)]
        have split2 : ∀ Q : Int, N2 * Q = N1 / D1 * Q * D2 + Q * (N2 % D2) := by
          intro Q
          conv => lhs; rw [← c2, ← hab]
          rw [Int.add_mul, Int.mul_comm D2, Int.mul_right_comm, Int.mul_comm (N2 % D2)]
        have hle2 : D2 * (N1 % D1) ≤ D1 * (N2 % D2) := by
          have h1 := split1 D2
          have h2 := split2 D1
          rw [Int.mul_right_comm] at h2
          omega
        have ih := sm_least f D2 (N2 % D2) D1 (N1 % D1) a4 hr2 a2 hr0 hle2 (by omega)
        rw [hs]
        have hfo : fo (N1 / D1 :: sm f D2 (N2 % D2) D1 (N1 % D1)) = (N1 / D1 * (fo (sm f D2 (N2 % D2) D1 (N1 % D1))).1 + (fo (sm f D2 (N2 % D2) D1 (N1 % D1))).2, (fo (sm f D2 (N2 % D2) D1 (N1 % D1))).1) := rfl
        rw [hfo]
        generalize fo (sm f D2 (N2 % D2) D1 (N1 % D1)) = pq at *
        obtain ⟨p, q⟩ := pq
        obtain ⟨lo, hi, mn⟩ := ih
        simp only at *
        refine ⟨?_, ?_, fun P Q hQ h1 h2 => ?_⟩
        · rw [split1 p, Int.add_mul, Int.mul_comm q D1]
          omega
        · rw [split2 p, Int.add_mul, Int.mul_comm q D2]
          omega
        · have hb := big P Q hQ h1
          have m1 := split1 Q
          have m2 := split2 Q
          have u1 : (P - N1 / D1 * Q) * D1 = P * D1 - N1 / D1 * Q * D1 := Int.sub_mul ..
          have u2 : (P - N1 / D1 * Q) * D2 = P * D2 - N1 / D1 * Q * D2 := Int.sub_mul ..
          rw [Int.mul_comm _ D1] at u1
          rw [Int.mul_comm _ D2] at u2
          obtain ⟨t1, t2⟩ := mn Q (P - N1 / D1 * Q) (by omega) (by omega) (by omega)
          refine ⟨?_, t1⟩
          have := Int.mul_le_mul_of_nonneg_left t1 e0
          omega
end Go.Proofs.YtdfliaogmlpefaaGreatDoor
namespace Go.Proofs.YtdfliaogmlpefaaGreatDoor
open Go.RowKit Go.Lib Go.Sort
set_option linter.unusedVariables false
structure Least (x y u v N D : Int) : Prop where
  lo : x * D ≤ N * y
  hi : N * v ≤ u * D
  least : ∀ A B : Int, 0 < B → x * B ≤ A * y → A * v ≤ u * B → D < B ∨ (D = B ∧ (N.natAbs < A.natAbs ∨ A = N))
theorem simpos_l {x y u v : Int} {n d n2 d2 : Bool} {s t s2 t2 : ByteArray} (h1 : IsQ x y n s d t) (h2 : IsQ u v n2 s2 d2 t2) (k : Nat) (hk : k ≤ 100) (bx : x.natAbs < 256 ^ k) (by_ : y.natAbs < 256 ^ k) (bu : u.natAbs < 256 ^ k) (bv : v.natAbs < 256 ^ k) (hx : 0 < x) (hu : 0 < u) (hc : x * v ≤ u * y) :
    ∃ N D rn rs rd rt, IsQ N D rn rs rd rt ∧ (∀ w, Calls Tryz.prog 74 #[frac n s d t, frac n2 s2 d2 t2] w fun e w' => e = .returned (.tuple #[frac rn rs rd rt, .int .i64 0]) ∧ w.grownBy w' none) ∧ Least x y u v N D := by
  obtain ⟨rfl, rfl⟩ := ez_one h1.zn.1
  obtain ⟨rfl, rfl⟩ := ez_one h1.zd.1
  obtain ⟨rfl, rfl⟩ := ez_one h2.zn.1
  obtain ⟨rfl, rfl⟩ := ez_one h2.zd.1
  have p1 := h1.pos
  have p2 := h2.pos
  have hB : ∀ z : Int, 0 ≤ z → z < ((256 ^ k : Nat) : Int) → z.natAbs < 256 ^ 1024 := fun z z0 z1 => pow_up (k := k) (l := 1024) (z := z.natAbs) (int_lt z0 z1) (Nat.le_trans hk hk2)
  have hB2 : ∀ z : Int, 0 ≤ z → z < ((256 ^ k : Nat) : Int) → Sz 1024 z (ez z).1 (ez z).2 := fun z z0 z1 => ⟨ez_is z, hB z z0 z1⟩
  have b1 : x < ((256 ^ k : Nat) : Int) := by omega
  have b2 : y < ((256 ^ k : Nat) : Int) := by omega
  have b3 : u < ((256 ^ k : Nat) : Int) := by omega
  have b4 : v < ((256 ^ k : Nat) : Int) := by omega
  have hy : y.natAbs < 256 ^ 100 := pow_up by_ hk
  generalize ((256 ^ k : Nat) : Int) = B at *
  have hb := sm_bounds y.toNat x y u v B hx p1 hu p2 (Nat.le_refl _) b1 b2 b3 b4
  have hl := hb.le
  have hp := hb.p
  have hm := sm_least y.toNat x y u v hx p1 hu p2 hc (.inl (Nat.le_refl _))
  refine ⟨_, _, _, _, _, _, isq_ez hp.2 (fo_gcd _) (hB _ (by omega) (by omega)) (hB _ (by omega) (by omega)), fun w => simplest_ok x y u v B y.toNat hB2 ⟨hx, b1⟩ ⟨p1, b2⟩ ⟨hu, b3⟩ ⟨p2, b4⟩ h1.low h2.low hy (Nat.le_refl _) w, hm.lo, hm.hi, fun A C hC l1 l2 => ?_⟩
  obtain ⟨m1, m2⟩ := hm.least A C hC l1 l2
  omega
theorem simboth_l {x y u v : Int} {n d n2 d2 : Bool} {s t s2 t2 : ByteArray} (h1 : IsQ x y n s d t) (h2 : IsQ u v n2 s2 d2 t2) (k : Nat) (hk : k ≤ 100) (bx : x.natAbs < 256 ^ k) (by_ : y.natAbs < 256 ^ k) (bu : u.natAbs < 256 ^ k) (bv : v.natAbs < 256 ^ k) (hc : x * v ≤ u * y) :
    ∃ N D rn rs rd rt, IsQ N D rn rs rd rt ∧ (∀ w, Calls Tryz.prog 29 #[frac n s d t, frac n2 s2 d2 t2] w fun e w' => e = .returned (.tuple #[frac rn rs rd rt, .int .i64 0]) ∧ w.grownBy w' none) ∧ Least x y u v N D := by
  have p1 := h1.pos
  have p2 := h2.pos
  have HC : Hid (∀ w, Calls Tryz.prog 73 #[frac n s d t, frac n2 s2 d2 t2] w fun e w' => e = .returned (.tuple #[.int .i64 (cmpZ (x * v) (u * y)), .int .i64 0]) ∧ w.grownBy w' none) := fun w => fcmp_any h1 h2 w
  have c1 := sgn_of (by decide) h1.zn
  have c2 := sgn_of (by decide) h2.zn
  have f1 := fun w => fsign_any h1 w
  have f2 := fun w => fsign_any h2 w
  rw [c1] at f1
  rw [c2] at f2
  by_cases hx : 0 < x
  · have hu : 0 < u := by
      have h3 : 0 < u * y := Int.lt_of_lt_of_le (Int.mul_pos hx p2) hc
      exact Int.pos_of_mul_pos_left h3 p1
    obtain ⟨N, D, rn, rs, rd, rt, hq, A, R⟩ := simpos_l h1 h2 k hk bx by_ bu bv hx hu hc
    exact ⟨N, D, rn, rs, rd, rt, hq, fun w => sim_pos n d n2 d2 rn rd s t s2 t2 rs rt _ _ (cmpZ_two hc) (cmpZ_gt hx) w HC (fun w => f1 w) (fun w => A w), R⟩
  · by_cases hu : 0 ≤ u
    · refine ⟨0, 1, false, eS, false, oneS, isq_01, fun w => sim_zero n d n2 d2 s t s2 t2 _ _ _ (cmpZ_two hc) (cmpZ_le (show x ≤ 0 by omega)) (cmpZ_ge hu) w HC (fun a b f g z w h => ?_) (fun w => fint_by 0 false eS (fun w => of_is (by decide) (by decide) zero_z w) w), by omega, by omega, fun A B hB _ _ => by omega⟩
      rcases h with ⟨rfl, rfl, rfl, rfl, rfl⟩ | ⟨rfl, rfl, rfl, rfl, rfl⟩
      · exact f1 w
      · exact f2 w
    · have hx0 : x < 0 := by
        rcases Int.lt_or_eq_of_le (show x ≤ 0 by omega) with h | h
        · exact h
        · subst h
          rw [Int.zero_mul] at hc
          have := Int.mul_neg_of_neg_of_pos (show u < 0 by omega) p1
          omega
      obtain ⟨N, D, rn, rs, rd, rt, hq, A, R⟩ := simpos_l h2.neg h1.neg k hk (by rw [Int.natAbs_neg]; exact bu) bv (by rw [Int.natAbs_neg]; exact bx) by_ (by omega) (by omega) (by rw [Int.neg_mul, Int.neg_mul]; omega)
      rw [cmpZ_lt (show u < 0 by omega)] at f2
      rw [cmpZ_lt hx0] at f1
      refine ⟨-N, D, ngs rn rs, rs, rd, rt, hq.neg, fun w => sim_neg n d n2 d2 rn rd s t s2 t2 rs rt _ (-1) (cmpZ_two hc) (by decide) (h1.zn.may (by decide)) (h2.zn.may (by decide)) (hq.zn.may (by decide)) w HC (fun a b f g z w h => ?_) (fun w => A w), ?_, ?_, fun A B hB l1 l2 => ?_⟩
      · rcases h with ⟨rfl, rfl, rfl, rfl, rfl⟩ | ⟨rfl, rfl, rfl, rfl, rfl⟩
        · exact f1 w
        · exact f2 w
      · have := R.hi
        rw [Int.neg_mul] at this ⊢
        omega
      · have := R.lo
        rw [Int.neg_mul] at this ⊢
        omega
      · have := R.least (-A) B hB (by rw [Int.neg_mul, Int.neg_mul]; omega) (by rw [Int.neg_mul, Int.neg_mul]; omega)
        omega
theorem sqrt_val {x y : Int} {n d : Bool} {s t : ByteArray} (h : IsQ x y n s d t) :
    (∃ N D n' s' d' t', IsQ N D n' s' d' t' ∧ 0 ≤ N ∧ N * N = x ∧ D * D = y ∧ ∀ w, Calls Tryz.prog 16 #[frac n s d t] w fun e w' => e = .returned (.tuple #[frac n' s' d' t', .int .i64 0]) ∧ w.grownBy w' none) ∨
    (∀ w, Calls Tryz.prog 16 #[frac n s d t] w fun e w' => e = .returned (.tuple #[frac false eS false eS, .int .i64 7]) ∧ w.grownBy w' none) := by
  obtain ⟨v1, l1⟩ := sz_val (by decide) h.zn
  obtain ⟨v2, l2⟩ := sz_val (by decide) h.zd
  have hm1 := h.zn.may (by decide)
  have hm2 := h.zd.may (by decide)
  have hd : d = false := by rw [h.zd.1.1]; exact decide_eq_false (by have := h.pos; omega)
  subst hd
  obtain ⟨r2, p1, p2⟩ := rtx_ex (val (bN t))
  obtain ⟨b2, c2, e2, f2, S2⟩ := square_of hm2 p1 p2 l2
  cases n
  · obtain ⟨r1, q1, q2⟩ := rtx_ex (val (bN s))
    obtain ⟨b1, c1, e1, f1, S1⟩ := square_of hm1 q1 q2 l1
    have hx0 : 0 ≤ x := by
      have := h.zn.1.1
      have h2 := of_decide_eq_false this.symm
      omega
    by_cases z1 : val (bN s) - r1 * r1 = 0
    · by_cases z2 : val (bN t) - r2 * r2 = 0
      · obtain rfl := e1.2 z1
        obtain rfl := e2.2 z2
        obtain rfl := f1 rfl
        obtain rfl := f2 rfl
        have k1 : r1 < 256 ^ 1024 := Nat.lt_of_le_of_lt (Nat.le_trans (le_sq r1) q1) l1
        have k2 : r2 < 256 ^ 1024 := Nat.lt_of_le_of_lt (Nat.le_trans (le_sq r2) p1) l2
        have hp2 : 0 < r2 := Nat.pos_of_ne_zero fun e => by
          subst e
          have := h.pos
          omega
        have hq : IsQ ((r1 : Nat) : Int) ((r2 : Nat) : Int) false (strOf (ints (magN r1))) false (strOf (ints (magN r2))) :=
          ⟨⟨str_isz r1, by rw [Int.natAbs_natCast]; exact k1⟩, ⟨str_isz r2, by rw [Int.natAbs_natCast]; exact k2⟩, by omega, by
            rw [Int.gcd_natCast_natCast]
            refine gcd_roots (x := val (bN s)) (y := val (bN t)) (by omega) (by omega) ?_
            have := h.low
            unfold Int.gcd at this
            rw [← v1, ← v2] at this
            exact this⟩
        refine .inl ⟨_, _, _, _, _, _, hq, by omega, ?_, ?_, fun w => ?_⟩
        · rw [← Int.natCast_mul]; omega
        · have := h.pos
          rw [← Int.natCast_mul]; omega
        refine fsqrt_by false false _ _ s t _ _ _ w (fun W B h2' hB => ?_)
        refine reckoned_yes 60 _ eg_sqrt1 W _ _ (dq_one hB) (by simp) (one_may h) false false (strOf (ints (magN r1))) (strOf (ints (magN r2))) _ _ _ _ _ (fun w1 g => sqrt1_yes w1 _ false false s t (h2'.kept g (by simp)) false false _ _ S1 S2) (fun w1 => ?_)
        have e0 := rnd_low hq.pos hq.low
        have := lowest_any (k := 1024) (by decide) hq.zn hq.zd (by omega) ⟨e0.1.symm ▸ hq.zn.1, e0.2.symm ▸ hq.zd.1⟩ w1
        rw [(told_fit hq).1, (told_fit hq).2] at this
        exact this
      · have hc : (c1 && c2) = false := by
          have : ¬ c2 = true := fun e => z2 (e2.1 e)
          simp at this
          rw [this, Bool.and_false]
        exact .inr (fun w => fsqrt_not h hc S1 S2 w)
    · have hc : (c1 && c2) = false := by
        have : ¬ c1 = true := fun e => z1 (e1.1 e)
        simp at this
        rw [this, Bool.false_and]
      exact .inr (fun w => fsqrt_not h hc S1 S2 w)
  · have S1 := fun w => square_err7 true s (fun w => root_neg s hm1 w) w
    exact .inr (fun w => fsqrt_not h rfl S1 S2 w)
end Go.Proofs.YtdfliaogmlpefaaGreatDoor
