/-
  The document's Simplest of two fractions above 0: the simplest by quotients.
  FracSimple's walks.
  FracSimple: all ways together.
-/
import Derived.Test.YtdfliaogmlpefaaGreatDoorSiu
import Derived.Test.YtdfliaogmlpefaaGreatDoorSim
import Derived.Test.YtdfliaogmlpefaaGreatDoorBunOnh
import Derived.Test.YtdfliaogmlpefaaGreatDoorBunFre
import Derived.Deep.RegionWith
import Derived.Deep.CutRange
import Derived.Test.YtdfliaogmlpefaaGreatDoorOph
namespace Go.Proofs.YtdfliaogmlpefaaGreatDoor
open Go.RowKit Go.Lib Go.Sort
set_option linter.unusedVariables false
set_option maxHeartbeats 6400000
set_option maxRecDepth 1000000
theorem sm_comm : ∀ (f : Nat) (N1 D1 N2 D2 : Int), sm f N1 D1 N2 D2 = sm f N2 D2 N1 D1
  | 0, _, _, _, _ => rfl
  | f + 1, N1, D1, N2, D2 => by
    have ih := sm_comm f D1 (N1 % D1) D2 (N2 % D2)
    unfold sm
    generalize N1 / D1 = a at *
    generalize N2 / D2 = c at *
    generalize N1 % D1 = r at *
    generalize N2 % D2 = s at *
    by_cases h1 : a ≤ c ∧ r = 0
    · by_cases h2 : c ≤ a ∧ s = 0
      · rw [if_pos h1, if_pos h2, show a = c by omega]
      · rw [if_pos h1, if_neg h2, if_pos h1]
    · by_cases h2 : c ≤ a ∧ s = 0
      · rw [if_neg h1, if_pos h2, if_pos h2]
      · rw [if_neg h1, if_neg h2, if_neg h2, if_neg h1]
        by_cases h3 : a < c
        · rw [if_pos h3, if_neg (show ¬ c < a by omega), if_pos h3]
        · by_cases h4 : c < a
          · rw [if_neg h3, if_pos h4, if_pos h4]
          · rw [if_neg h3, if_neg h4, if_neg h4, if_neg h3, ih, show a = c by omega]
theorem SmB.swap {B N1 D1 N2 D2 : Int} {l : List Int} (h : SmB B N1 D1 N2 D2 l) : SmB B N2 D2 N1 D1 l := ⟨h.ne, h.p, h.le.symm, h.q, h.tails⟩
theorem sm_bound2 (f : Nat) (N1 D1 N2 D2 B : Int) (a1 : 0 < N1) (a2 : 0 < D1) (a3 : 0 < N2) (a4 : 0 < D2) (hf : D1.toNat ≤ f ∨ D2.toNat ≤ f) (b1 : N1 < B) (b2 : D1 < B) (b3 : N2 < B) (b4 : D2 < B) : SmB B N1 D1 N2 D2 (sm f N1 D1 N2 D2) := by
  rcases hf with hf | hf
  · exact sm_bounds f N1 D1 N2 D2 B a1 a2 a3 a4 hf b1 b2 b3 b4
  · rw [sm_comm]
    exact (sm_bounds f N2 D2 N1 D1 B a3 a4 a1 a2 hf b3 b4 b1 b2).swap
theorem isq_ez {N D : Int} (hD : 0 < D) (hg : Int.gcd N D = 1) (bn : N.natAbs < 256 ^ 1024) (bd : D.natAbs < 256 ^ 1024) : IsQ N D (ez N).1 (ez N).2 (ez D).1 (ez D).2 := ⟨⟨ez_is N, bn⟩, ⟨ez_is D, bd⟩, hD, hg⟩
theorem ez1 : (ez 1).1 = false ∧ (ez 1).2 = oneS := ⟨(ez_one one_isz).1.symm, (ez_one one_isz).2.symm⟩
theorem isq_w {a : Int} (bn : a.natAbs < 256 ^ 1024) : IsQ a 1 (ez a).1 (ez a).2 false oneS := ⟨⟨ez_is a, bn⟩, one_1024, by decide, by simp⟩
theorem isq_11 : IsQ 1 1 false oneS false oneS := ⟨one_1024, one_1024, by decide, by decide⟩
theorem sgn_pos {z : Int} (hz : 0 < z) (b : z.natAbs < 256 ^ 1024) : sgn (ez z).1 (ez z).2 = 1 := by
  rw [sgn_of (k := 1024) (by decide) ⟨ez_is z, b⟩]
  exact cmpZ_gt hz
theorem cmpZ_le {a b : Int} (h : a ≤ b) : cmpZ a b ≤ 0 := by
  rcases Int.lt_or_eq_of_le h with h | h
  · rw [cmpZ_lt h]; decide
  · rw [h, cmpZ_same]; decide
theorem emod_gcd1 (N D : Int) : Int.gcd (N % D) D = Int.gcd N D := by
  rw [Int.emod_def, Int.gcd_comm, Int.mul_comm, Int.gcd_sub_mul_right_right, Int.gcd_comm]
theorem fo_one (a : Int) : fo [a] = (a, 1) := by simp [fo]
theorem rsim_ok (B : Int) (hB : ∀ z : Int, 0 ≤ z → z < B → z.natAbs < 256 ^ 1024) : ∀ (f : Nat) (N1 D1 N2 D2 : Int), 0 < N1 → 0 < D1 → 0 < N2 → 0 < D2 → Int.gcd N1 D1 = 1 → Int.gcd N2 D2 = 1 → N1 * D2 ≤ N2 * D1 → (D1.toNat ≤ f ∨ D2.toNat ≤ f) → N1 < B → D1 < B → N2 < B → D2 < B → ∀ w, Calls Tryz.prog 31 #[frac (ez N1).1 (ez N1).2 (ez D1).1 (ez D1).2, frac (ez N2).1 (ez N2).2 (ez D2).1 (ez D2).2] w fun e w' => e = .returned (frac (ez (fo (sm f N1 D1 N2 D2)).1).1 (ez (fo (sm f N1 D1 N2 D2)).1).2 (ez (fo (sm f N1 D1 N2 D2)).2).1 (ez (fo (sm f N1 D1 N2 D2)).2).2) ∧ w.grownBy w' none
  | 0, N1, D1, N2, D2, a1, a2, a3, a4, g1, g2, hle, hf, b1, b2, b3, b4, w => by omega
  | f + 1, N1, D1, N2, D2, a1, a2, a3, a4, g1, g2, hle, hf, b1, b2, b3, b4, w => by
    obtain ⟨e0, e1, e2, e3, e4⟩ := div_le_self N1 D1 (by omega) a2
    obtain ⟨c0, c1, c2, c3, c4⟩ := div_le_self N2 D2 (by omega) a4
    have gr1 : Int.gcd D1 (N1 % D1) = 1 := by rw [Int.gcd_comm, emod_gcd1, g1]
    have gr2 : Int.gcd D2 (N2 % D2) = 1 := by rw [Int.gcd_comm, emod_gcd1, g2]
    have gs1 : Int.gcd (N1 % D1) D1 = 1 := by rw [emod_gcd1, g1]
    have gs2 : Int.gcd (N2 % D2) D2 = 1 := by rw [emod_gcd1, g2]
    have q1 := isq_ez a2 g1 (hB _ (by omega) b1) (hB _ (by omega) b2)
    have q2 := isq_ez a4 g2 (hB _ (by omega) b3) (hB _ (by omega) b4)
    have HX : Hid (∀ a b f g (w : World), (a = (ez N1).1 ∧ b = (ez N1).2 ∧ f = (ez D1).1 ∧ g = (ez D1).2) ∨ (a = (ez N2).1 ∧ b = (ez N2).2 ∧ f = (ez D2).1 ∧ g = (ez D2).2) → Calls Tryz.prog 28 #[frac a b f g] w fun e w' => e = .returned (.int .i64 1) ∧ w.grownBy w' none) := fun a b f g w h => by
      rcases h with ⟨rfl, rfl, rfl, rfl⟩ | ⟨rfl, rfl, rfl, rfl⟩
      · have := rsignq_any (ez N1).1 (ez D1).1 (ez N1).2 (ez D1).2 w
        rw [sgn_pos a1 (hB _ (by omega) b1)] at this
        exact this
      · have := rsignq_any (ez N2).1 (ez D2).1 (ez N2).2 (ez D2).2 w
        rw [sgn_pos a3 (hB _ (by omega) b3)] at this
        exact this
    have hac : N1 / D1 ≤ N2 / D2 := by
      refine (Int.le_ediv_iff_mul_le a4).2 ?_
      have h1 : N1 / D1 * D2 * D1 ≤ N2 * D1 := by
        refine Int.le_trans ?_ hle
        have h2 : N1 / D1 * D1 ≤ N1 := by rw [Int.mul_comm]; omega
        have h3 := Int.mul_le_mul_of_nonneg_right h2 (Int.le_of_lt a4)
        rw [Int.mul_right_comm]
        exact h3
      exact Int.le_of_mul_le_mul_right h1 a2
    have HFl : Hid (∀ w, Calls Tryz.prog 26 #[frac (ez N1).1 (ez N1).2 (ez D1).1 (ez D1).2] w fun e w' => e = .returned (whole (ez (N1 / D1)).1 (ez (N1 / D1)).2) ∧ w.grownBy w' none) := fun w => rfloor_any q1 (ez_is _) w
    have HWh : Hid (∀ w, Calls Tryz.prog 71 #[whole (ez (N1 / D1)).1 (ez (N1 / D1)).2] w fun e w' => e = .returned (frac (ez (N1 / D1)).1 (ez (N1 / D1)).2 false oneS) ∧ w.grownBy w' none) := fun w => rwholeq_by _ _ (fun w => rof_one w) w
    have HO : Hid (∀ w, Calls Tryz.prog 20 #[.int .i64 1] w fun e w' => e = .returned (frac false oneS false oneS) ∧ w.grownBy w' none) := fun w => rint_by 1 false oneS (fun w => rof_one w) (fun w => rof_one w) w
    have qa := isq_w (a := N1 / D1) (hB _ e0 (by omega))
    by_cases hr : N1 % D1 = 0
    · have hs : sm (f + 1) N1 D1 N2 D2 = [N1 / D1] := by unfold sm; rw [if_pos ⟨hac, hr⟩]
      rw [hs, fo_one]
      show Calls _ _ _ _ fun e w' => e = .returned (frac (ez (N1 / D1)).1 (ez (N1 / D1)).2 (ez 1).1 (ez 1).2) ∧ _
      rw [ez1.1, ez1.2]
      refine rsim_a _ _ _ _ _ _ _ _ _ _ w HX HFl HWh (fun w => ?_)
      have := rcmpq_any qa q1 w
      rw [show N1 / D1 * D1 = N1 * 1 by rw [Int.mul_comm]; omega, cmpZ_same] at this
      exact this
    · have hr0 : 0 < N1 % D1 := by omega
      have HC1 : Hid (∀ w, Calls Tryz.prog 30 #[frac (ez (N1 / D1)).1 (ez (N1 / D1)).2 false oneS, frac (ez N1).1 (ez N1).2 (ez D1).1 (ez D1).2] w fun e w' => e = .returned (.int .i64 (-1)) ∧ w.grownBy w' none) := fun w => by
        have := rcmpq_any qa q1 w
        rw [cmpZ_lt (show N1 / D1 * D1 < N1 * 1 by rw [Int.mul_comm]; omega)] at this
        exact this
      have hxB : N1 / D1 + 1 ≤ N1 := by
        have h2 : (2 : Int) ≤ D1 := by omega
        have h3 := Int.mul_le_mul_of_nonneg_right h2 e0
        omega
      have qx := isq_w (a := N1 / D1 + 1) (hB _ (by omega) (by omega))
      have HPl : Hid (∀ w, Calls Tryz.prog 77 #[frac (ez (N1 / D1)).1 (ez (N1 / D1)).2 false oneS, frac false oneS false oneS] w fun e w' => e = .returned (frac (ez (N1 / D1 + 1)).1 (ez (N1 / D1 + 1)).2 false oneS) ∧ w.grownBy w' none) := fun w => rplusq_any qa isq_11 (low_to (by decide) qx (by omega)) w
      by_cases hlt : N1 / D1 < N2 / D2
      · have hs : sm (f + 1) N1 D1 N2 D2 = [N1 / D1 + 1] := by
          unfold sm
          rw [if_neg (fun h => hr h.2), if_neg (fun h => by omega), if_pos hlt]
        rw [hs, fo_one]
        show Calls _ _ _ _ fun e w' => e = .returned (frac (ez (N1 / D1 + 1)).1 (ez (N1 / D1 + 1)).2 (ez 1).1 (ez 1).2) ∧ _
        rw [ez1.1, ez1.2]
        have hc : (N1 / D1 + 1) * D2 ≤ N2 * 1 := by
          rw [Int.mul_one]
          exact (Int.le_ediv_iff_mul_le a4).1 (by omega)
        exact rsim_b _ _ _ _ _ _ _ _ _ _ _ _ _ (cmpZ_le hc) w HX HFl HWh HC1 HO HPl (fun w => rcmpq_any qx q2 w)
      · have hab : N1 / D1 = N2 / D2 := by omega
        have hr2 : 0 < N2 % D2 := by
          rcases Int.lt_or_eq_of_le c3 with h | h
          · exact h
          · exfalso
            rw [← h, Int.add_zero, ← hab] at c2
            have h1 : N1 * D2 ≤ N1 / D1 * D1 * D2 := by
              rw [← c2] at hle
              rw [show N1 / D1 * D1 * D2 = D2 * (N1 / D1) * D1 by rw [Int.mul_right_comm, Int.mul_comm (N1 / D1) D2]]
              exact hle
            have h2 := Int.le_of_mul_le_mul_right h1 a4
            rw [Int.mul_comm] at h2
            omega
        have hs : sm (f + 1) N1 D1 N2 D2 = N1 / D1 :: sm f D2 (N2 % D2) D1 (N1 % D1) := by
          rw [sm_comm f]
          conv => lhs; unfold sm
          rw [if_neg (fun h => hr h.2), if_neg (fun h => by omega), if_neg (by omega), if_neg (by omega)]
        have hle2 : D2 * (N1 % D1) ≤ D1 * (N2 % D2) := by
          have h1 : N1 * D2 = D1 * (N1 / D1) * D2 + D2 * (N1 % D1) := by
            conv => lhs; rw [← e2]
            rw [Int.add_mul, Int.mul_comm (N1 % D1) D2]
          have h2 : N2 * D1 = D1 * (N1 / D1) * D2 + D1 * (N2 % D2) := by
            conv => lhs; rw [← c2, ← hab]
            rw [Int.add_mul, Int.mul_comm (N2 % D2) D1]
            congr 1
            rw [Int.mul_comm D2, Int.mul_right_comm, Int.mul_comm (N1 / D1) D1]
          omega
        have hf2 : (N2 % D2).toNat ≤ f ∨ (N1 % D1).toNat ≤ f := by omega
        have hb := sm_bound2 f D2 (N2 % D2) D1 (N1 % D1) B a4 hr2 a2 hr0 hf2 b4 (by omega) b2 (by omega)
        have ih := rsim_ok B hB f D2 (N2 % D2) D1 (N1 % D1) a4 hr2 a2 hr0 gr2 gr1 hle2 hf2 b4 (by omega) b2 (by omega)
        have hwb := (sm_bound2 (f + 1) N1 D1 N2 D2 B a1 a2 a3 a4 hf b1 b2 b3 b4)
        rw [hs] at hwb ⊢
        have hfg := fo_gcd (sm f D2 (N2 % D2) D1 (N1 % D1))
        have hwg := fo_gcd (N1 / D1 :: sm f D2 (N2 % D2) D1 (N1 % D1))
        have hfo : fo (N1 / D1 :: sm f D2 (N2 % D2) D1 (N1 % D1)) = (N1 / D1 * (fo (sm f D2 (N2 % D2) D1 (N1 % D1))).1 + (fo (sm f D2 (N2 % D2) D1 (N1 % D1))).2, (fo (sm f D2 (N2 % D2) D1 (N1 % D1))).1) := rfl
        have hp := hb.p
        have hl := hb.le
        have hwp := hwb.p
        have hwl := hwb.le
        rw [hfo] at hwp hwl hwg ⊢
        generalize fo (sm f D2 (N2 % D2) D1 (N1 % D1)) = pq at *
        obtain ⟨p, q⟩ := pq
        simp only at *
        have hpB : p < B := by omega
        have hqB : q < B := by omega
        have q3 := isq_ez (N := N2 % D2) a4 gs2 (hB _ (by omega) (by omega)) (hB _ (by omega) b4)
        have q4 := isq_ez (N := D2) hr2 gr2 (hB _ (by omega) b4) (hB _ (by omega) (by omega))
        have q5 := isq_ez (N := N1 % D1) a2 gs1 (hB _ (by omega) (by omega)) (hB _ (by omega) b2)
        have q6 := isq_ez (N := D1) hr0 gr1 (hB _ (by omega) b2) (hB _ (by omega) (by omega))
        have q7 := isq_ez hp.2 hfg (hB _ (by omega) hpB) (hB _ (by omega) hqB)
        have q8 := isq_ez (N := q) hp.1 (by rw [Int.gcd_comm]; exact hfg) (hB _ (by omega) hqB) (hB _ (by omega) hpB)
        have q9 := isq_ez hp.1 hwg (hB _ (by omega) (by omega)) (hB _ (by omega) hpB)
        have hgt : N2 * 1 < (N1 / D1 + 1) * D2 := by
          rw [Int.mul_one, hab, Int.add_mul, Int.one_mul, Int.mul_comm]
          omega
        refine rsim_c _ _ _ _ _ (ez (N1 / D1 + 1)).1 (ez (N2 % D2)).1 (ez D2).1 (ez D2).1 (ez (N2 % D2)).1 (ez (N1 % D1)).1 (ez D1).1 (ez D1).1 (ez (N1 % D1)).1 (ez p).1 (ez q).1 (ez q).1 (ez p).1 _ _ _ _ _ _ _ (ez (N1 / D1 + 1)).2 (ez (N2 % D2)).2 (ez D2).2 (ez D2).2 (ez (N2 % D2)).2 (ez (N1 % D1)).2 (ez D1).2 (ez D1).2 (ez (N1 % D1)).2 (ez p).2 (ez q).2 (ez q).2 (ez p).2 _ _ w HX HFl HWh HC1 HO HPl (fun w => ?_) (fun w => ?_) (fun w => ?_) (fun w => ?_) (fun w => ?_) (fun w => ih w) (fun w => ?_) (fun w => ?_)
        · have := rcmpq_any qx q2 w
          rw [cmpZ_gt hgt] at this
          exact this
        · refine rminusq_any q2 qa (low_to (by omega) q3 ?_) w
          rw [Int.mul_one, Int.mul_one, hab, Int.mul_comm (N2 / D2) D2]
          congr 1
          omega
        · refine roverq_any isq_11 q3 (by omega) (low_to (by omega) q4 ?_) w
          rw [Int.one_mul, Int.one_mul]
        · refine rminusq_any q1 qa (low_to (by omega) q5 ?_) w
          rw [Int.mul_one, Int.mul_one, Int.mul_comm (N1 / D1) D1]
          congr 1
          omega
        · refine roverq_any isq_11 q5 (by omega) (low_to (by omega) q6 ?_) w
          rw [Int.one_mul, Int.one_mul]
        · refine roverq_any isq_11 q7 (by omega) (low_to (by omega) q8 ?_) w
          rw [Int.one_mul, Int.one_mul]
        · refine rplusq_any qa q8 (low_to (by omega) q9 ?_) w
          rw [Int.one_mul, Int.mul_one]
theorem fsimple_long (n d n2 d2 : Bool) (s t s2 t2 : ByteArray) (w : World)
    (HL : Hid (∀ (W : World) (B : Nat), W.heap[B]? = some (.cells #[.bool n, .string s, .bool d, .string t, .bool n2, .string s2, .bool d2, .string t2] 25 (0, 0)) → Calls Tryz.prog 9 #[.int .i64 60, .slice (some ⟨B, 0, none⟩) 2 2] W fun e w' => e = .returned (.bool true) ∧ W.grownBy w' none))
    (HK : Hid (∀ W, w.grownBy W none → Calls Tryz.prog 10 #[] W fun e w' => e = .returned (.bool true) ∧ W.grownBy w' none)) :
    Calls Tryz.prog 4 #[frac n s d t, frac n2 s2 d2 t2] w fun e w' => e = .returned (.bool true) ∧ w.grownBy w' none := by
  go_enter Tryz.func4, Tryz.ntmps4
  go_wp2_with fail
  refine (HL.out _ _ ?hb).mono ?_
  case hb => first | exact at_alloc3 _ _ _ _ | (have := at_alloc3 w (qObj n s d t) (qObj n2 s2 d2 t2) (.cells #[.bool n, .string s, .bool d, .string t, .bool n2, .string s2, .bool d2, .string t2] 25); simpa using this)
  rintro e w1 ⟨rfl, g1⟩
  have G1 : w.grownBy w1 none := grownBy_trans (grow3 _ _ _ _) g1
  clear g1
  go_wp2_with fail
  refine (HK.out _ G1).mono ?_
  rintro e w2 ⟨rfl, g2⟩
  go_wp2_with fail
  go_ret
  exact ⟨rfl, grownBy_trans G1 g2⟩
theorem fsimple_b1 (n d n2 d2 q : Bool) (s t s2 t2 : ByteArray) (w : World)
    (HL : Hid (∀ (W : World) (B : Nat), W.heap[B]? = some (.cells #[.bool n, .string s, .bool d, .string t, .bool n2, .string s2, .bool d2, .string t2] 25 (0, 0)) → Calls Tryz.prog 9 #[.int .i64 60, .slice (some ⟨B, 0, none⟩) 2 2] W fun e w' => e = .returned (.bool false) ∧ W.grownBy w' none))
    (HM : Hid (∀ a b c f r (w : World), (a = n ∧ b = s ∧ c = d ∧ f = t ∧ r = false) ∨ (a = n2 ∧ b = s2 ∧ c = d2 ∧ f = t2 ∧ r = q) → Calls Tryz.prog 11 #[frac a b c f] w fun e w' => e = .returned (.bool r) ∧ w.grownBy w' none))
    (HS : Hid (∀ w, Calls Tryz.prog 29 #[frac n s d t, frac n2 s2 d2 t2] w fun e w' => e = .returned (.tuple #[frac false eS false eS, .int .i64 2]) ∧ w.grownBy w' none))
    (HK : Hid (∀ W, w.grownBy W none → Calls Tryz.prog 10 #[] W fun e w' => e = .returned (.bool true) ∧ W.grownBy w' none)) :
    Calls Tryz.prog 4 #[frac n s d t, frac n2 s2 d2 t2] w fun e w' => e = .returned (.bool true) ∧ w.grownBy w' none := by
  go_enter Tryz.func4, Tryz.ntmps4
  go_wp2_with fail
  refine (HL.out _ _ ?hb).mono ?_
  case hb => first | exact at_alloc3 _ _ _ _ | (have := at_alloc3 w (qObj n s d t) (qObj n2 s2 d2 t2) (.cells #[.bool n, .string s, .bool d, .string t, .bool n2, .string s2, .bool d2, .string t2] 25); simpa using this)
  rintro e w1 ⟨rfl, g1⟩
  have X1 : Hid (Two w1 w.heap.size (w.heap.size + 1) n d n2 d2 s t s2 t2) := Two.kept ⟨old_alloc _ _ (at_alloc1 _ _ _), at_alloc2 _ _ _ _⟩ g1
  have HG1 : Hid (w.grownBy w1 none) := grownBy_trans (grow3 _ _ _ _) g1
  clear g1 HL
  obtain ⟨x0, x1, x2, x3, y0, y1, y2, y3⟩ := X1.out.cells
  have xl := X1.out.1.lt
  have yl := X1.out.2.lt
  go_wp2_with fail
  refine (HS.out _).mono ?_
  rintro e w2 ⟨rfl, g2⟩
  have X2 : Hid (Two (w2.alloc (qObj false eS false eS)) w.heap.size (w.heap.size + 1) n d n2 d2 s t s2 t2) := X1.out.kept (grownBy_trans g2 (grow1 _ _))
  have HG2 : Hid (w.grownBy (w2.alloc (qObj false eS false eS)) none) := grownBy_trans HG1.out (grownBy_trans g2 (grow1 _ _))
  have HR2 : Hid (QBlk (w2.alloc (qObj false eS false eS)) w2.heap.size (.bool false) (.string eS) (.bool false) (.string eS)) := heap_alloc_new _ _
  clear g2 X1 HG1 HS
  clear x0 x1 x2 x3 y0 y1 y2 y3 xl yl
  go_upto_region 4 with fail
  generalize w2.alloc (qObj false eS false eS) = W2 at *
  generalize w2.heap.size = RB at *
  obtain ⟨x0, x1, x2, x3, y0, y1, y2, y3⟩ := X2.out.cells
  have xl := X2.out.1.lt
  have yl := X2.out.2.lt
  go_wp2_with fail
  refine (HM.out _ _ _ _ _ _ (by exact .inl ⟨rfl, rfl, rfl, rfl, rfl⟩)).mono ?_
  rintro e w3 ⟨rfl, g⟩
  have X3 : Hid (Two w3 w.heap.size (w.heap.size + 1) n d n2 d2 s t s2 t2) := X2.out.kept g
  have HG3 : Hid (w.grownBy w3 none) := grownBy_trans HG2.out g
  have HR3 : Hid (QBlk w3 RB (.bool false) (.string eS) (.bool false) (.string eS)) := HR2.out.kept g (by simp)
  clear g X2 HG2 HR2
  clear x0 x1 x2 x3 y0 y1 y2 y3 xl yl
  obtain ⟨x0, x1, x2, x3, y0, y1, y2, y3⟩ := X3.out.cells
  have xl := X3.out.1.lt
  have yl := X3.out.2.lt
  have r0 := HR3.out.c0
  have r1 := HR3.out.c1
  have r2 := HR3.out.c2
  have r3 := HR3.out.c3
  go_wp2_with fail
  refine (HK.out _ HG3.out).mono ?_
  rintro e w9 ⟨rfl, g9⟩
  go_wp2_with fail
  go_ret
  exact ⟨rfl, grownBy_trans HG3.out g9⟩
theorem fsimple_b2 (n d n2 d2 : Bool) (s t s2 t2 : ByteArray) (w : World)
    (HL : Hid (∀ (W : World) (B : Nat), W.heap[B]? = some (.cells #[.bool n, .string s, .bool d, .string t, .bool n2, .string s2, .bool d2, .string t2] 25 (0, 0)) → Calls Tryz.prog 9 #[.int .i64 60, .slice (some ⟨B, 0, none⟩) 2 2] W fun e w' => e = .returned (.bool false) ∧ W.grownBy w' none))
    (HM : Hid (∀ a b c f r (w : World), (a = n ∧ b = s ∧ c = d ∧ f = t ∧ r = true) ∨ (a = n2 ∧ b = s2 ∧ c = d2 ∧ f = t2 ∧ r = false) → Calls Tryz.prog 11 #[frac a b c f] w fun e w' => e = .returned (.bool r) ∧ w.grownBy w' none))
    (HS : Hid (∀ w, Calls Tryz.prog 29 #[frac n s d t, frac n2 s2 d2 t2] w fun e w' => e = .returned (.tuple #[frac false eS false eS, .int .i64 2]) ∧ w.grownBy w' none))
    (HK : Hid (∀ W, w.grownBy W none → Calls Tryz.prog 10 #[] W fun e w' => e = .returned (.bool true) ∧ W.grownBy w' none)) :
    Calls Tryz.prog 4 #[frac n s d t, frac n2 s2 d2 t2] w fun e w' => e = .returned (.bool true) ∧ w.grownBy w' none := by
  go_enter Tryz.func4, Tryz.ntmps4
  go_wp2_with fail
  refine (HL.out _ _ ?hb).mono ?_
  case hb => first | exact at_alloc3 _ _ _ _ | (have := at_alloc3 w (qObj n s d t) (qObj n2 s2 d2 t2) (.cells #[.bool n, .string s, .bool d, .string t, .bool n2, .string s2, .bool d2, .string t2] 25); simpa using this)
  rintro e w1 ⟨rfl, g1⟩
  have X1 : Hid (Two w1 w.heap.size (w.heap.size + 1) n d n2 d2 s t s2 t2) := Two.kept ⟨old_alloc _ _ (at_alloc1 _ _ _), at_alloc2 _ _ _ _⟩ g1
  have HG1 : Hid (w.grownBy w1 none) := grownBy_trans (grow3 _ _ _ _) g1
  clear g1 HL
  obtain ⟨x0, x1, x2, x3, y0, y1, y2, y3⟩ := X1.out.cells
  have xl := X1.out.1.lt
  have yl := X1.out.2.lt
  go_wp2_with fail
  refine (HS.out _).mono ?_
  rintro e w2 ⟨rfl, g2⟩
  have X2 : Hid (Two (w2.alloc (qObj false eS false eS)) w.heap.size (w.heap.size + 1) n d n2 d2 s t s2 t2) := X1.out.kept (grownBy_trans g2 (grow1 _ _))
  have HG2 : Hid (w.grownBy (w2.alloc (qObj false eS false eS)) none) := grownBy_trans HG1.out (grownBy_trans g2 (grow1 _ _))
  have HR2 : Hid (QBlk (w2.alloc (qObj false eS false eS)) w2.heap.size (.bool false) (.string eS) (.bool false) (.string eS)) := heap_alloc_new _ _
  clear g2 X1 HG1 HS
  clear x0 x1 x2 x3 y0 y1 y2 y3 xl yl
  go_upto_region 4 with fail
  generalize w2.alloc (qObj false eS false eS) = W2 at *
  generalize w2.heap.size = RB at *
  obtain ⟨x0, x1, x2, x3, y0, y1, y2, y3⟩ := X2.out.cells
  have xl := X2.out.1.lt
  have yl := X2.out.2.lt
  go_wp2_with fail
  refine (HM.out _ _ _ _ _ _ (by exact .inl ⟨rfl, rfl, rfl, rfl, rfl⟩)).mono ?_
  rintro e w3 ⟨rfl, g⟩
  have X3 : Hid (Two w3 w.heap.size (w.heap.size + 1) n d n2 d2 s t s2 t2) := X2.out.kept g
  have HG3 : Hid (w.grownBy w3 none) := grownBy_trans HG2.out g
  have HR3 : Hid (QBlk w3 RB (.bool false) (.string eS) (.bool false) (.string eS)) := HR2.out.kept g (by simp)
  clear g X2 HG2 HR2
  clear x0 x1 x2 x3 y0 y1 y2 y3 xl yl
  obtain ⟨x0, x1, x2, x3, y0, y1, y2, y3⟩ := X3.out.cells
  have xl := X3.out.1.lt
  have yl := X3.out.2.lt
  go_wp2_with fail
  refine (HM.out _ _ _ _ _ _ (by exact .inr ⟨rfl, rfl, rfl, rfl, rfl⟩)).mono ?_
  rintro e w4 ⟨rfl, g⟩
  have X4 : Hid (Two w4 w.heap.size (w.heap.size + 1) n d n2 d2 s t s2 t2) := X3.out.kept g
  have HG4 : Hid (w.grownBy w4 none) := grownBy_trans HG3.out g
  have HR4 : Hid (QBlk w4 RB (.bool false) (.string eS) (.bool false) (.string eS)) := HR3.out.kept g (by simp)
  clear g X3 HG3 HR3
  clear x0 x1 x2 x3 y0 y1 y2 y3 xl yl
  obtain ⟨x0, x1, x2, x3, y0, y1, y2, y3⟩ := X4.out.cells
  have xl := X4.out.1.lt
  have yl := X4.out.2.lt
  have r0 := HR4.out.c0
  have r1 := HR4.out.c1
  have r2 := HR4.out.c2
  have r3 := HR4.out.c3
  go_wp2_with fail
  refine (HK.out _ HG4.out).mono ?_
  rintro e w9 ⟨rfl, g9⟩
  go_wp2_with fail
  go_ret
  exact ⟨rfl, grownBy_trans HG4.out g9⟩
theorem fsimple_b3 (n d n2 d2 : Bool) (s t s2 t2 : ByteArray) (w : World)
    (HL : Hid (∀ (W : World) (B : Nat), W.heap[B]? = some (.cells #[.bool n, .string s, .bool d, .string t, .bool n2, .string s2, .bool d2, .string t2] 25 (0, 0)) → Calls Tryz.prog 9 #[.int .i64 60, .slice (some ⟨B, 0, none⟩) 2 2] W fun e w' => e = .returned (.bool false) ∧ W.grownBy w' none))
    (HM : Hid (∀ a b c f r (w : World), (a = n ∧ b = s ∧ c = d ∧ f = t ∧ r = true) ∨ (a = n2 ∧ b = s2 ∧ c = d2 ∧ f = t2 ∧ r = true) → Calls Tryz.prog 11 #[frac a b c f] w fun e w' => e = .returned (.bool r) ∧ w.grownBy w' none))
    (HS : Hid (∀ w, Calls Tryz.prog 29 #[frac n s d t, frac n2 s2 d2 t2] w fun e w' => e = .returned (.tuple #[frac false eS false eS, .int .i64 2]) ∧ w.grownBy w' none))
    (HC : Hid (∀ w, Calls Tryz.prog 30 #[frac n s d t, frac n2 s2 d2 t2] w fun e w' => e = .returned (.int .i64 1) ∧ w.grownBy w' none))
    (HK : Hid (∀ W, w.grownBy W none → Calls Tryz.prog 10 #[] W fun e w' => e = .returned (.bool true) ∧ W.grownBy w' none)) :
    Calls Tryz.prog 4 #[frac n s d t, frac n2 s2 d2 t2] w fun e w' => e = .returned (.bool true) ∧ w.grownBy w' none := by
  go_enter Tryz.func4, Tryz.ntmps4
  go_wp2_with fail
  refine (HL.out _ _ ?hb).mono ?_
  case hb => first | exact at_alloc3 _ _ _ _ | (have := at_alloc3 w (qObj n s d t) (qObj n2 s2 d2 t2) (.cells #[.bool n, .string s, .bool d, .string t, .bool n2, .string s2, .bool d2, .string t2] 25); simpa using this)
  rintro e w1 ⟨rfl, g1⟩
  have X1 : Hid (Two w1 w.heap.size (w.heap.size + 1) n d n2 d2 s t s2 t2) := Two.kept ⟨old_alloc _ _ (at_alloc1 _ _ _), at_alloc2 _ _ _ _⟩ g1
  have HG1 : Hid (w.grownBy w1 none) := grownBy_trans (grow3 _ _ _ _) g1
  clear g1 HL
  obtain ⟨x0, x1, x2, x3, y0, y1, y2, y3⟩ := X1.out.cells
  have xl := X1.out.1.lt
  have yl := X1.out.2.lt
  go_wp2_with fail
  refine (HS.out _).mono ?_
  rintro e w2 ⟨rfl, g2⟩
  have X2 : Hid (Two (w2.alloc (qObj false eS false eS)) w.heap.size (w.heap.size + 1) n d n2 d2 s t s2 t2) := X1.out.kept (grownBy_trans g2 (grow1 _ _))
  have HG2 : Hid (w.grownBy (w2.alloc (qObj false eS false eS)) none) := grownBy_trans HG1.out (grownBy_trans g2 (grow1 _ _))
  have HR2 : Hid (QBlk (w2.alloc (qObj false eS false eS)) w2.heap.size (.bool false) (.string eS) (.bool false) (.string eS)) := heap_alloc_new _ _
  clear g2 X1 HG1 HS
  clear x0 x1 x2 x3 y0 y1 y2 y3 xl yl
  go_upto_region 4 with fail
  generalize w2.alloc (qObj false eS false eS) = W2 at *
  generalize w2.heap.size = RB at *
  obtain ⟨x0, x1, x2, x3, y0, y1, y2, y3⟩ := X2.out.cells
  have xl := X2.out.1.lt
  have yl := X2.out.2.lt
  go_wp2_with fail
  refine (HM.out _ _ _ _ _ _ (by exact .inl ⟨rfl, rfl, rfl, rfl, rfl⟩)).mono ?_
  rintro e w3 ⟨rfl, g⟩
  have X3 : Hid (Two w3 w.heap.size (w.heap.size + 1) n d n2 d2 s t s2 t2) := X2.out.kept g
  have HG3 : Hid (w.grownBy w3 none) := grownBy_trans HG2.out g
  have HR3 : Hid (QBlk w3 RB (.bool false) (.string eS) (.bool false) (.string eS)) := HR2.out.kept g (by simp)
  clear g X2 HG2 HR2
  clear x0 x1 x2 x3 y0 y1 y2 y3 xl yl
  obtain ⟨x0, x1, x2, x3, y0, y1, y2, y3⟩ := X3.out.cells
  have xl := X3.out.1.lt
  have yl := X3.out.2.lt
  go_wp2_with fail
  refine (HM.out _ _ _ _ _ _ (by exact .inr ⟨rfl, rfl, rfl, rfl, rfl⟩)).mono ?_
  rintro e w4 ⟨rfl, g⟩
  have X4 : Hid (Two w4 w.heap.size (w.heap.size + 1) n d n2 d2 s t s2 t2) := X3.out.kept g
  have HG4 : Hid (w.grownBy w4 none) := grownBy_trans HG3.out g
  have HR4 : Hid (QBlk w4 RB (.bool false) (.string eS) (.bool false) (.string eS)) := HR3.out.kept g (by simp)
  clear g X3 HG3 HR3
  clear x0 x1 x2 x3 y0 y1 y2 y3 xl yl
  obtain ⟨x0, x1, x2, x3, y0, y1, y2, y3⟩ := X4.out.cells
  have xl := X4.out.1.lt
  have yl := X4.out.2.lt
  go_wp2_with fail
  refine (HC.out _).mono ?_
  rintro e w5 ⟨rfl, g⟩
  have X5 : Hid (Two w5 w.heap.size (w.heap.size + 1) n d n2 d2 s t s2 t2) := X4.out.kept g
  have HG5 : Hid (w.grownBy w5 none) := grownBy_trans HG4.out g
  have HR5 : Hid (QBlk w5 RB (.bool false) (.string eS) (.bool false) (.string eS)) := HR4.out.kept g (by simp)
  clear g X4 HG4 HR4
  clear x0 x1 x2 x3 y0 y1 y2 y3 xl yl
  obtain ⟨x0, x1, x2, x3, y0, y1, y2, y3⟩ := X5.out.cells
  have xl := X5.out.1.lt
  have yl := X5.out.2.lt
  have r0 := HR5.out.c0
  have r1 := HR5.out.c1
  have r2 := HR5.out.c2
  have r3 := HR5.out.c3
  go_wp2_with fail
  refine (HK.out _ HG5.out).mono ?_
  rintro e w9 ⟨rfl, g9⟩
  go_wp2_with fail
  go_ret
  exact ⟨rfl, grownBy_trans HG5.out g9⟩
theorem fsimple_yes (n d n2 d2 rn rd : Bool) (s t s2 t2 rs rt : ByteArray) (c : Int) (hc : c ≤ 0) (w : World)
    (HL : Hid (∀ (W : World) (B : Nat), W.heap[B]? = some (.cells #[.bool n, .string s, .bool d, .string t, .bool n2, .string s2, .bool d2, .string t2] 25 (0, 0)) → Calls Tryz.prog 9 #[.int .i64 60, .slice (some ⟨B, 0, none⟩) 2 2] W fun e w' => e = .returned (.bool false) ∧ W.grownBy w' none))
    (HM : Hid (∀ a b c f r (w : World), (a = n ∧ b = s ∧ c = d ∧ f = t ∧ r = true) ∨ (a = n2 ∧ b = s2 ∧ c = d2 ∧ f = t2 ∧ r = true) → Calls Tryz.prog 11 #[frac a b c f] w fun e w' => e = .returned (.bool r) ∧ w.grownBy w' none))
    (HS : Hid (∀ w, Calls Tryz.prog 29 #[frac n s d t, frac n2 s2 d2 t2] w fun e w' => e = .returned (.tuple #[frac rn rs rd rt, .int .i64 0]) ∧ w.grownBy w' none))
    (HC : Hid (∀ w, Calls Tryz.prog 30 #[frac n s d t, frac n2 s2 d2 t2] w fun e w' => e = .returned (.int .i64 c) ∧ w.grownBy w' none))
    (HF : Hid (∀ w, Calls Tryz.prog 31 #[frac n s d t, frac n2 s2 d2 t2] w fun e w' => e = .returned (frac rn rs rd rt) ∧ w.grownBy w' none))
    (HT : Hid (∀ w, Calls Tryz.prog 21 #[frac rn rs rd rt, .int .i64 0, frac rn rs rd rt, .bool true] w fun e w' => e = .returned (.bool true) ∧ w.grownBy w' none))
    (HK : Hid (∀ W, w.grownBy W none → Calls Tryz.prog 10 #[] W fun e w' => e = .returned (.bool true) ∧ W.grownBy w' none)) :
    Calls Tryz.prog 4 #[frac n s d t, frac n2 s2 d2 t2] w fun e w' => e = .returned (.bool true) ∧ w.grownBy w' none := by
  go_enter Tryz.func4, Tryz.ntmps4
  go_wp2_with fail
  refine (HL.out _ _ ?hb).mono ?_
  case hb => first | exact at_alloc3 _ _ _ _ | (have := at_alloc3 w (qObj n s d t) (qObj n2 s2 d2 t2) (.cells #[.bool n, .string s, .bool d, .string t, .bool n2, .string s2, .bool d2, .string t2] 25); simpa using this)
  rintro e w1 ⟨rfl, g1⟩
  have X1 : Hid (Two w1 w.heap.size (w.heap.size + 1) n d n2 d2 s t s2 t2) := Two.kept ⟨old_alloc _ _ (at_alloc1 _ _ _), at_alloc2 _ _ _ _⟩ g1
  have HG1 : Hid (w.grownBy w1 none) := grownBy_trans (grow3 _ _ _ _) g1
  clear g1 HL
  obtain ⟨x0, x1, x2, x3, y0, y1, y2, y3⟩ := X1.out.cells
  have xl := X1.out.1.lt
  have yl := X1.out.2.lt
  go_wp2_with fail
  refine (HS.out _).mono ?_
  rintro e w2 ⟨rfl, g2⟩
  have X2 : Hid (Two (w2.alloc (qObj rn rs rd rt)) w.heap.size (w.heap.size + 1) n d n2 d2 s t s2 t2) := X1.out.kept (grownBy_trans g2 (grow1 _ _))
  have HG2 : Hid (w.grownBy (w2.alloc (qObj rn rs rd rt)) none) := grownBy_trans HG1.out (grownBy_trans g2 (grow1 _ _))
  have HR2 : Hid (QBlk (w2.alloc (qObj rn rs rd rt)) w2.heap.size (.bool rn) (.string rs) (.bool rd) (.string rt)) := heap_alloc_new _ _
  clear g2 X1 HG1 HS
  clear x0 x1 x2 x3 y0 y1 y2 y3 xl yl
  go_upto_region 4 with fail
  generalize w2.alloc (qObj rn rs rd rt) = W2 at *
  generalize w2.heap.size = RB at *
  obtain ⟨x0, x1, x2, x3, y0, y1, y2, y3⟩ := X2.out.cells
  have xl := X2.out.1.lt
  have yl := X2.out.2.lt
  go_wp2_with fail
  refine (HM.out _ _ _ _ _ _ (by exact .inl ⟨rfl, rfl, rfl, rfl, rfl⟩)).mono ?_
  rintro e w3 ⟨rfl, g⟩
  have X3 : Hid (Two w3 w.heap.size (w.heap.size + 1) n d n2 d2 s t s2 t2) := X2.out.kept g
  have HG3 : Hid (w.grownBy w3 none) := grownBy_trans HG2.out g
  have HR3 : Hid (QBlk w3 RB (.bool rn) (.string rs) (.bool rd) (.string rt)) := HR2.out.kept g (by simp)
  clear g X2 HG2 HR2
  clear x0 x1 x2 x3 y0 y1 y2 y3 xl yl
  obtain ⟨x0, x1, x2, x3, y0, y1, y2, y3⟩ := X3.out.cells
  have xl := X3.out.1.lt
  have yl := X3.out.2.lt
  go_wp2_with fail
  refine (HM.out _ _ _ _ _ _ (by exact .inr ⟨rfl, rfl, rfl, rfl, rfl⟩)).mono ?_
  rintro e w4 ⟨rfl, g⟩
  have X4 : Hid (Two w4 w.heap.size (w.heap.size + 1) n d n2 d2 s t s2 t2) := X3.out.kept g
  have HG4 : Hid (w.grownBy w4 none) := grownBy_trans HG3.out g
  have HR4 : Hid (QBlk w4 RB (.bool rn) (.string rs) (.bool rd) (.string rt)) := HR3.out.kept g (by simp)
  clear g X3 HG3 HR3
  clear x0 x1 x2 x3 y0 y1 y2 y3 xl yl
  obtain ⟨x0, x1, x2, x3, y0, y1, y2, y3⟩ := X4.out.cells
  have xl := X4.out.1.lt
  have yl := X4.out.2.lt
  go_wp2_with fail
  refine (HC.out _).mono ?_
  rintro e w5 ⟨rfl, g⟩
  have X5 : Hid (Two w5 w.heap.size (w.heap.size + 1) n d n2 d2 s t s2 t2) := X4.out.kept g
  have HG5 : Hid (w.grownBy w5 none) := grownBy_trans HG4.out g
  have HR5 : Hid (QBlk w5 RB (.bool rn) (.string rs) (.bool rd) (.string rt)) := HR4.out.kept g (by simp)
  clear g X4 HG4 HR4
  clear x0 x1 x2 x3 y0 y1 y2 y3 xl yl
  obtain ⟨x0, x1, x2, x3, y0, y1, y2, y3⟩ := X5.out.cells
  have xl := X5.out.1.lt
  have yl := X5.out.2.lt
  clear x0 x1 x2 x3 y0 y1 y2 y3 xl yl
  go_upto_region 6 with fail
  have HZ : Hid (∀ w', w5.grownBy w' none → w'.cell? ⟨w.heap.size, 0, none⟩ = some (.bool n) ∧ w'.cell? ⟨w.heap.size, 1, none⟩ = some (.string s) ∧ w'.cell? ⟨w.heap.size, 2, none⟩ = some (.bool d) ∧ w'.cell? ⟨w.heap.size, 3, none⟩ = some (.string t) ∧ w'.cell? ⟨w.heap.size + 1, 0, none⟩ = some (.bool n2) ∧ w'.cell? ⟨w.heap.size + 1, 1, none⟩ = some (.string s2) ∧ w'.cell? ⟨w.heap.size + 1, 2, none⟩ = some (.bool d2) ∧ w'.cell? ⟨w.heap.size + 1, 3, none⟩ = some (.string t2) ∧ w'.cell? ⟨RB, 0, none⟩ = some (.bool rn) ∧ w'.cell? ⟨RB, 1, none⟩ = some (.string rs) ∧ w'.cell? ⟨RB, 2, none⟩ = some (.bool rd) ∧ w'.cell? ⟨RB, 3, none⟩ = some (.string rt)) := fun w' hg => by
    have h := X5.out.kept hg
    have h2 := HR5.out.kept hg (by simp)
    obtain ⟨a0, a1, a2, a3, a4, a5, a6, a7⟩ := h.cells
    exact ⟨a0, a1, a2, a3, a4, a5, a6, a7, h2.c0, h2.c1, h2.c2, h2.c3⟩
  obtain ⟨k0, k1, k2, k3, k4, k5, k6, k7, k8, k9, ka, kb⟩ := HZ.out _ (World.grownBy.refl _ _)
  go_region_held3 (fun w' => w'.cell? ⟨w.heap.size, 0, none⟩ = some (.bool n) ∧ w'.cell? ⟨w.heap.size, 1, none⟩ = some (.string s) ∧ w'.cell? ⟨w.heap.size, 2, none⟩ = some (.bool d) ∧ w'.cell? ⟨w.heap.size, 3, none⟩ = some (.string t) ∧ w'.cell? ⟨w.heap.size + 1, 0, none⟩ = some (.bool n2) ∧ w'.cell? ⟨w.heap.size + 1, 1, none⟩ = some (.string s2) ∧ w'.cell? ⟨w.heap.size + 1, 2, none⟩ = some (.bool d2) ∧ w'.cell? ⟨w.heap.size + 1, 3, none⟩ = some (.string t2) ∧ w'.cell? ⟨RB, 0, none⟩ = some (.bool rn) ∧ w'.cell? ⟨RB, 1, none⟩ = some (.string rs) ∧ w'.cell? ⟨RB, 2, none⟩ = some (.bool rd) ∧ w'.cell? ⟨RB, 3, none⟩ = some (.string rt))
    (first | with_reducible exact HZ.out _ (by assumption) | with_reducible exact HZ.out _ (grow_drew (World.grownBy.refl _ _)) | (go_keep; done) | fail)
    (first
      | (go_at_call 31; refine (HF.out _).mono ?_; rintro e wA ⟨rfl, gA⟩; have GA : w5.grownBy wA none := (by first | exact grownBy_undrew gA | exact gA))
      | (go_at_call 21; refine (HT.out _).mono ?_; rintro e wB ⟨rfl, gB⟩; have GB : w5.grownBy wB none := grownBy_trans GA gB)
      | (go_at_call 10; refine (HK.out _ (grownBy_trans HG5.out GB)).mono ?_; rintro e wC ⟨rfl, gC⟩; have GC : w5.grownBy wC none := grownBy_trans GB gC)
      | fail)
  all_goals (
    go_wp2_with fail
    go_ret
    exact ⟨rfl, grownBy_trans HG5.out GC⟩)
theorem int_lt {z : Int} {m : Nat} (h0 : 0 ≤ z) (h1 : z < (m : Int)) : z.natAbs < m := by omega
theorem zero_k (k : Nat) : Sz k 0 false eS := ⟨zero_z, by show (0 : Nat) < 256 ^ k; exact Nat.pow_pos (by decide)⟩
theorem hk2 : 100 ≤ 1024 := by decide
theorem simpos_ok {x y u v : Int} {n d n2 d2 : Bool} {s t s2 t2 : ByteArray} (h1 : IsQ x y n s d t) (h2 : IsQ u v n2 s2 d2 t2) (k : Nat) (hk : k ≤ 100) (bx : x.natAbs < 256 ^ k) (by_ : y.natAbs < 256 ^ k) (bu : u.natAbs < 256 ^ k) (bv : v.natAbs < 256 ^ k) (hx : 0 < x) (hu : 0 < u) (hc : x * v ≤ u * y) :
    ∃ N D rn rs rd rt, IsQ N D rn rs rd rt ∧ (∀ w, Calls Tryz.prog 74 #[frac n s d t, frac n2 s2 d2 t2] w fun e w' => e = .returned (.tuple #[frac rn rs rd rt, .int .i64 0]) ∧ w.grownBy w' none) ∧
      ∀ w, Calls Tryz.prog 31 #[frac n s d t, frac n2 s2 d2 t2] w fun e w' => e = .returned (frac rn rs rd rt) ∧ w.grownBy w' none := by
  obtain ⟨rfl, rfl⟩ := ez_one h1.zn.1
  obtain ⟨rfl, rfl⟩ := ez_one h1.zd.1
  obtain ⟨rfl, rfl⟩ := ez_one h2.zn.1
  obtain ⟨rfl, rfl⟩ := ez_one h2.zd.1
  have p1 := h1.pos
  have p2 := h2.pos
  have hB : ∀ z : Int, 0 ≤ z → z < ((256 ^ k : Nat) : Int) → z.natAbs < 256 ^ 1024 := fun z z0 z1 => pow_up (k := k) (l := 1024) (z := z.natAbs) (int_lt z0 z1) (Nat.le_trans hk hk2)
  have hB2 : ∀ z : Int, 0 ≤ z → z < ((256 ^ k : Nat) : Int) → Sz 1024 z (ez z).1 (ez z).2 := fun z z0 z1 => ⟨ez_is z, hB z z0 z1⟩
  have b1 : x < ((256 ^ k : Nat) : Int) := by omega
  have b2 : y < ((256 ^ k : Nat) : Int) := by omega
  have b3 : u < ((256 ^ k : Nat) : Int) := by omega
  have b4 : v < ((256 ^ k : Nat) : Int) := by omega
  have hy : y.natAbs < 256 ^ 100 := pow_up by_ hk
  generalize ((256 ^ k : Nat) : Int) = B at *
  have hb := sm_bounds y.toNat x y u v B hx p1 hu p2 (Nat.le_refl _) b1 b2 b3 b4
  have hl := hb.le
  have hp := hb.p
  refine ⟨_, _, _, _, _, _, isq_ez hp.2 (fo_gcd _) (hB _ (by omega) (by omega)) (hB _ (by omega) (by omega)), fun w => simplest_ok x y u v B y.toNat hB2 ⟨hx, b1⟩ ⟨p1, b2⟩ ⟨hu, b3⟩ ⟨p2, b4⟩ h1.low h2.low hy (Nat.le_refl _) w, fun w => rsim_ok B hB y.toNat x y u v hx p1 hu p2 h1.low h2.low hc (.inl (Nat.le_refl _)) b1 b2 b3 b4 w⟩
theorem cmpZ_ge {a b : Int} (h : b ≤ a) : 0 ≤ cmpZ a b := by
  rcases Int.lt_or_eq_of_le h with h | h
  · rw [cmpZ_gt h]; decide
  · rw [h, cmpZ_same]; decide
theorem cmpZ_two {a b : Int} (h : a ≤ b) : cmpZ a b = -1 ∨ cmpZ a b = 0 := by
  rcases Int.lt_or_eq_of_le h with h | h
  · exact .inl (cmpZ_lt h)
  · exact .inr (by rw [h, cmpZ_same])
theorem isq_01 : IsQ 0 1 false eS false oneS := ⟨zero_k 1024, one_1024, by decide, by decide⟩
theorem simboth_ok {x y u v : Int} {n d n2 d2 : Bool} {s t s2 t2 : ByteArray} (h1 : IsQ x y n s d t) (h2 : IsQ u v n2 s2 d2 t2) (k : Nat) (hk : k ≤ 100) (bx : x.natAbs < 256 ^ k) (by_ : y.natAbs < 256 ^ k) (bu : u.natAbs < 256 ^ k) (bv : v.natAbs < 256 ^ k) (hc : x * v ≤ u * y) :
    ∃ N D rn rs rd rt, IsQ N D rn rs rd rt ∧ (∀ w, Calls Tryz.prog 29 #[frac n s d t, frac n2 s2 d2 t2] w fun e w' => e = .returned (.tuple #[frac rn rs rd rt, .int .i64 0]) ∧ w.grownBy w' none) ∧
      ∀ w, Calls Tryz.prog 31 #[frac n s d t, frac n2 s2 d2 t2] w fun e w' => e = .returned (frac rn rs rd rt) ∧ w.grownBy w' none := by
  have p1 := h1.pos
  have p2 := h2.pos
  have HC : Hid (∀ w, Calls Tryz.prog 73 #[frac n s d t, frac n2 s2 d2 t2] w fun e w' => e = .returned (.tuple #[.int .i64 (cmpZ (x * v) (u * y)), .int .i64 0]) ∧ w.grownBy w' none) := fun w => fcmp_any h1 h2 w
  have c1 := sgn_of (by decide) h1.zn
  have c2 := sgn_of (by decide) h2.zn
  have f1 := fun w => fsign_any h1 w
  have f2 := fun w => fsign_any h2 w
  have r1 := fun w => rsignq_any n d s t w
  have r2 := fun w => rsignq_any n2 d2 s2 t2 w
  rw [c1] at f1 r1
  rw [c2] at f2 r2
  by_cases hx : 0 < x
  · have hu : 0 < u := by
      have h3 : 0 < u * y := Int.lt_of_lt_of_le (Int.mul_pos hx p2) hc
      exact Int.pos_of_mul_pos_left h3 p1
    obtain ⟨N, D, rn, rs, rd, rt, hq, A, R⟩ := simpos_ok h1 h2 k hk bx by_ bu bv hx hu hc
    exact ⟨N, D, rn, rs, rd, rt, hq, fun w => sim_pos n d n2 d2 rn rd s t s2 t2 rs rt _ _ (cmpZ_two hc) (cmpZ_gt hx) w HC (fun w => f1 w) (fun w => A w), R⟩
  · by_cases hu : 0 ≤ u
    · refine ⟨0, 1, false, eS, false, oneS, isq_01, fun w => sim_zero n d n2 d2 s t s2 t2 _ _ _ (cmpZ_two hc) (cmpZ_le (show x ≤ 0 by omega)) (cmpZ_ge hu) w HC (fun a b f g z w h => ?_) (fun w => fint_by 0 false eS (fun w => of_is (by decide) (by decide) zero_z w) w), fun w => rsim_zero n d n2 d2 s t s2 t2 _ _ (cmpZ_le (show x ≤ 0 by omega)) (cmpZ_ge hu) w (fun a b f g z w h => ?_) (fun w => rint_by 0 false eS (fun w => rof_is (by decide) (by decide) zero_z w) (fun w => rof_one w) w)⟩
      · rcases h with ⟨rfl, rfl, rfl, rfl, rfl⟩ | ⟨rfl, rfl, rfl, rfl, rfl⟩
        · exact f1 w
        · exact f2 w
      · rcases h with ⟨rfl, rfl, rfl, rfl, rfl⟩ | ⟨rfl, rfl, rfl, rfl, rfl⟩
        · exact r1 w
        · exact r2 w
    · have hx0 : x < 0 := by
        rcases Int.lt_or_eq_of_le (show x ≤ 0 by omega) with h | h
        · exact h
        · subst h
          rw [Int.zero_mul] at hc
          have := Int.mul_neg_of_neg_of_pos (show u < 0 by omega) p1
          omega
      obtain ⟨N, D, rn, rs, rd, rt, hq, A, R⟩ := simpos_ok h2.neg h1.neg k hk (by rw [Int.natAbs_neg]; exact bu) bv (by rw [Int.natAbs_neg]; exact bx) by_ (by omega) (by omega) (by rw [Int.neg_mul, Int.neg_mul]; omega)
      rw [cmpZ_lt (show u < 0 by omega)] at f2 r2
      rw [cmpZ_lt hx0] at f1 r1
      refine ⟨-N, D, ngs rn rs, rs, rd, rt, hq.neg, fun w => sim_neg n d n2 d2 rn rd s t s2 t2 rs rt _ (-1) (cmpZ_two hc) (by decide) (h1.zn.may (by decide)) (h2.zn.may (by decide)) (hq.zn.may (by decide)) w HC (fun a b f g z w h => ?_) (fun w => A w), fun w => rsim_neg n d n2 d2 rn rd s t s2 t2 rs rt w (fun a b f g w h => ?_) (fun a b f g w => rnegq_any a f (ngs a b) b g (fun w => rNeg_any a b w) w) (fun w => R w)⟩
      · rcases h with ⟨rfl, rfl, rfl, rfl, rfl⟩ | ⟨rfl, rfl, rfl, rfl, rfl⟩
        · exact f1 w
        · exact f2 w
      · rcases h with ⟨rfl, rfl, rfl, rfl⟩ | ⟨rfl, rfl, rfl, rfl⟩
        · exact r1 w
        · exact r2 w
theorem fsimple_any (n d n2 d2 : Bool) (s t s2 t2 : ByteArray) (z1 : s.size ≤ maxLen) (z2 : t.size ≤ maxLen) (z3 : s2.size ≤ maxLen) (z4 : t2.size ≤ maxLen) (w : World) (htab : Lib.TabIs Tryz.prog w "internal/strconv.uint64pow10" .u64 Lib.pow10Tab) :
    Calls Tryz.prog 4 #[frac n s d t, frac n2 s2 d2 t2] w fun e w' => e = .returned (.bool true) ∧ w.grownBy w' none := by
  have HK := known_in htab
  have hsz : ∀ p ∈ [(n, s, d, t), (n2, s2, d2, t2)], p.2.1.size ≤ maxLen ∧ p.2.2.2.size ≤ maxLen := by
    intro p hp
    simp at hp
    rcases hp with rfl | rfl
    · exact ⟨z1, z2⟩
    · exact ⟨z3, z4⟩
  by_cases hl : (s.size ≤ 60 ∧ t.size ≤ 60) ∧ (s2.size ≤ 60 ∧ t2.size ≤ 60)
  · have HL : Hid (∀ (W : World) (B : Nat), W.heap[B]? = some (.cells #[.bool n, .string s, .bool d, .string t, .bool n2, .string s2, .bool d2, .string t2] 25 (0, 0)) → Calls Tryz.prog 9 #[.int .i64 60, .slice (some ⟨B, 0, none⟩) 2 2] W fun e w' => e = .returned (.bool false) ∧ W.grownBy w' none) := fun W B hB => by
      refine longq_no 60 (by decide) W _ _ (dq_two hB) (by simp) ?_
      intro p hp
      simp at hp
      rcases hp with rfl | rfl
      · exact ⟨by show (s.size : Int) ≤ 60; omega, by show (t.size : Int) ≤ 60; omega⟩
      · exact ⟨by show (s2.size : Int) ≤ 60; omega, by show (t2.size : Int) ≤ 60; omega⟩
    have HM : ∀ p q : Bool, mayQ n s d t = p → mayQ n2 s2 d2 t2 = q → Hid (∀ a b c f r (w : World), (a = n ∧ b = s ∧ c = d ∧ f = t ∧ r = p) ∨ (a = n2 ∧ b = s2 ∧ c = d2 ∧ f = t2 ∧ r = q) → Calls Tryz.prog 11 #[frac a b c f] w fun e w' => e = .returned (.bool r) ∧ w.grownBy w' none) := by
      intro p q hp hq a b c f r w h
      rcases h with ⟨rfl, rfl, rfl, rfl, rfl⟩ | ⟨rfl, rfl, rfl, rfl, rfl⟩
      · exact (may_q z1 z2 hp).2.out w
      · exact (may_q z3 z4 hq).2.out w
    have HP : ∀ p q : Bool, mayQ n s d t = p → mayQ n2 s2 d2 t2 = q → Hid (∀ a b c f r (w : World), (a = n ∧ b = s ∧ c = d ∧ f = t ∧ r = p) ∨ (a = n2 ∧ b = s2 ∧ c = d2 ∧ f = t2 ∧ r = q) → Calls Tryz.prog 40 #[frac a b c f] w fun e w' => e = .returned (.bool r) ∧ w.grownBy w' none) := by
      intro p q hp hq a b c f r w h
      rcases h with ⟨rfl, rfl, rfl, rfl, rfl⟩ | ⟨rfl, rfl, rfl, rfl, rfl⟩
      · exact (may_q z1 z2 hp).1.out w
      · exact (may_q z3 z4 hq).1.out w
    cases hx : mayQ n s d t
    · cases hy : mayQ n2 s2 d2 t2
      · exact fsimple_b1 n d n2 d2 _ s t s2 t2 w HL (HM _ _ hx hy) (fun w => sim_no n d n2 d2 s t s2 t2 0 2 (.inl ⟨rfl, rfl⟩) w (fun w => fcmp_bad n d n2 d2 false false s t s2 t2 rfl (HP _ _ hx hy) w)) HK
      · exact fsimple_b1 n d n2 d2 _ s t s2 t2 w HL (HM _ _ hx hy) (fun w => sim_no n d n2 d2 s t s2 t2 0 2 (.inl ⟨rfl, rfl⟩) w (fun w => fcmp_bad n d n2 d2 false true s t s2 t2 rfl (HP _ _ hx hy) w)) HK
    · cases hy : mayQ n2 s2 d2 t2
      · exact fsimple_b2 n d n2 d2 s t s2 t2 w HL (HM _ _ hx hy) (fun w => sim_no n d n2 d2 s t s2 t2 0 2 (.inl ⟨rfl, rfl⟩) w (fun w => fcmp_bad n d n2 d2 true false s t s2 t2 rfl (HP _ _ hx hy) w)) HK
      · have h1 := mayQ_is hx
        have h2 := mayQ_is hy
        have HM' := HM _ _ hx hy
        have b1 := (may_sz (h1.zn.may (by decide)) hl.1.1).2
        have b2 := (may_sz (h1.zd.may (by decide)) hl.1.2).2
        have b3 := (may_sz (h2.zn.may (by decide)) hl.2.1).2
        have b4 := (may_sz (h2.zd.may (by decide)) hl.2.2).2
        clear HM HP
        generalize num n s = x at *
        generalize num d t = y at *
        generalize num n2 s2 = u at *
        generalize num d2 t2 = v at *
        by_cases hc : x * v ≤ u * y
        · obtain ⟨N, D, rn, rs, rd, rt, hq, A, R⟩ := simboth_ok h1 h2 60 (by decide) b1 b2 b3 b4 hc
          exact fsimple_yes n d n2 d2 rn rd s t s2 t2 rs rt _ (cmpZ_le hc) w HL HM' (fun w => A w) (fun w => rcmpq_any h1 h2 w) (fun w => R w) (fun w => told_q hq w) HK
        · have e : cmpZ (x * v) (u * y) = 1 := cmpZ_gt (by omega)
          have C1 := fun w => fcmp_any h1 h2 w
          have C2 := fun w => rcmpq_any h1 h2 w
          rw [e] at C1 C2
          exact fsimple_b3 n d n2 d2 s t s2 t2 w HL HM' (fun w => sim_no n d n2 d2 s t s2 t2 1 0 (.inr ⟨rfl, rfl⟩) w (fun w => C1 w)) (fun w => C2 w) HK
  · refine fsimple_long n d n2 d2 s t s2 t2 w (fun W B hB => longq_yes 60 (by decide) W _ _ (dq_two hB) (by simp) hsz ?_) HK
    by_cases h1 : s.size ≤ 60 ∧ t.size ≤ 60
    · exact ⟨(n2, s2, d2, t2), by simp, by show (60 : Int) < (s2.size : Int) ∨ (60 : Int) < (t2.size : Int); omega⟩
    · exact ⟨(n, s, d, t), by simp, by show (60 : Int) < (s.size : Int) ∨ (60 : Int) < (t.size : Int); omega⟩
end Go.Proofs.YtdfliaogmlpefaaGreatDoor
