/-
  The document's Next.
-/
import Derived.Test.YtkimgmgafkihaaaDoorNxd
import Derived.Test.YtkimgmgafkihaaaDoorRfa
namespace Go.Proofs.YtkimgmgafkihaaaDoor
open Go.RowKit Go.Lib Go.Sort
set_option linter.unusedVariables false
set_option linter.unusedSimpArgs false
set_option maxHeartbeats 3200000
set_option maxRecDepth 1000000
def nxL (l most : Int) (W : List Int) : List Int := match goF l W W.length with
  | some V => V
  | none => if most ≤ W.length then [] else List.replicate (W.length + 1) 1
def nxB (l most : Int) (W : List Int) : Bool := match goF l W W.length with
  | some V => true
  | none => if most ≤ W.length then false else true
theorem nx_some {l most : Int} {W V : List Int} (h : goF l W W.length = some V) : nxL l most W = V ∧ nxB l most W = true := by
  unfold nxL nxB; rw [h]; exact ⟨rfl, rfl⟩
theorem nx_end {l most : Int} {W : List Int} (h : goF l W W.length = none) (hm : most ≤ W.length) : nxL l most W = [] ∧ nxB l most W = false := by
  unfold nxL nxB; rw [h]; exact ⟨if_pos hm, if_pos hm⟩
theorem nx_long {l most : Int} {W : List Int} (h : goF l W W.length = none) (hm : ¬ most ≤ W.length) : nxL l most W = List.replicate (W.length + 1) 1 ∧ nxB l most W = true := by
  unfold nxL nxB; rw [h]; exact ⟨if_neg hm, if_neg hm⟩
theorem flL_behind (W : List Int) (j : Nat) (k : Int) (hj : j < W.length) : flL (W.set j k) (j + 1) = fst1 k := by
  unfold flL fst1
  rw [Nat.add_sub_cancel, getD_set _ _ _ _ hj, if_pos rfl]
  by_cases h : k = -1
  · rw [if_pos ⟨by omega, h⟩, if_pos h]
  · rw [if_neg (fun x => h x.2), if_neg h]
theorem rNext_any (w : World) (u : Value) (W : List Int) (l most : Int) (hu : Ints w u W) (hl : 1 ≤ l ∧ l ≤ 64) (hW : LwL l W) (hlen : W.length ≤ 100000) :
    Calls Tryd.prog 10 #[u, .int .i64 l, .int .i64 most] w fun e w' => ∃ v', e = .returned (.tuple #[v', .bool (nxB l most W)]) ∧ Own w' w.heap.size v' (nxL l most W) ∧ w.grownBy w' none := by
  have HU : Hid (Ints w u W) := hu
  obtain ⟨ub, uc, rfl, -⟩ := hu.reads
  clear hu
  obtain ⟨n, hn⟩ : ∃ n, W.length = n := ⟨_, rfl⟩
  have HN : Unit → W.length = n := fun _ => hn
  have HT : Hid ((∀ V, goF l W n = some V → nxL l most W = V ∧ nxB l most W = true) ∧ (goF l W n = none → most ≤ n → nxL l most W = [] ∧ nxB l most W = false) ∧ (goF l W n = none → ¬ most ≤ n → nxL l most W = List.replicate (n + 1) 1 ∧ nxB l most W = true)) := by
    refine ⟨fun V => ?_, ?_, ?_⟩
    · rw [← hn]; exact nx_some
    · rw [← hn]; exact nx_end
    · rw [← hn]; exact nx_long
  obtain ⟨RL, hRL⟩ : ∃ RL, nxL l most W = RL := ⟨_, rfl⟩
  obtain ⟨RB, hRB⟩ : ∃ RB, nxB l most W = RB := ⟨_, rfl⟩
  rw [hRL, hRB] at HT
  rw [hRL, hRB]
  clear hRL hRB
  rw [hn] at HU hlen ⊢
  have hnI : (n : Int) ≤ 100000 := by omega
  clear hn
  have HW : Hid (LwL l W) := hW
  clear hW
  go_enter Tryd.func10, Tryd.ntmps10
  go_wp2_with (at_builtin; refine wpList_append_ints rfl _ _ rfl w.heap.size (.slice none 0 0) [] rfl (Own.nil _ _) (.slice ub n uc) W rfl HU.out (by rw [HN ()]; simp; omega) (Nat.le_refl _) ?_)
  intro v1 w1 hO1 hG1
  have HG1 : Hid (w.grownBy w1 none) := hG1
  obtain ⟨ab, c, rfl⟩ := hO1.form
  have HO : Hid (Own w1 w.heap.size (.slice ab n c) W) := by rw [HN ()] at hO1; exact hO1
  rw [HN ()]
  clear hO1 hG1
  go_wp2_with fail
  go_loopw [9] (fun s wr => ∃ i : Nat, i ≤ n ∧ s = .int .i64 ((i : Int) - 1) ∧ goF l W i = goF l W n ∧ w1 = wr) (fun s _ => match s with | .int _ i => (i + 1).toNat | _ => 0)
  case atStart => exact ⟨n, by omega, num_eq (by omega), rfl, rfl⟩
  case round =>
    obtain ⟨i, hi, rfl, hg, rfl⟩ := hrel
    have HG : Hid (goF l W i = goF l W n) := hg
    clear hg
    rcases i with _ | j
    · have HE : Hid (goF l W n = none) := HG.out.symm
      rw [show ((0 : Nat) : Int) - 1 = -1 from rfl]
      by_cases hm : most ≤ n
      · have hmb : decide (most ≤ (n : Int)) = true := decide_eq_true hm
        go_wp2_with fail
        go_ret2
        rw [(HT.out.2.1 HE.out hm).1, (HT.out.2.1 HE.out hm).2]
        exact ⟨_, rfl, Own.nil _ _, HG1.out⟩
      · have hmb : decide (most ≤ (n : Int)) = false := decide_eq_false hm
        go_wp2_with (at_builtin; refine wpList_append_int rfl _ _ rfl w.heap.size (.slice ab n c) W 0 rfl (HO.out.kept0 (grow1 _ _)) (by rw [HN ()]; omega) (by have := HG1.out.size; simp; omega) _ rfl (by simp) ?_)
        intro v2 w2 hO2 hG2 _
        have HG2 : Hid (w.grownBy w2 none) := by
          have h1 : w.grownBy (w1.alloc (.cells #[.int .i64 0] 3)) none := grownBy_trans HG1.out (grow1 _ _)
          exact grownBy_own h1 (HO.out.kept0 (grow1 _ _)) hG2
        have hl2 : (W ++ [0]).length = n + 1 := by rw [List.length_append, HN ()]; rfl
        rcases hO2.cases with ⟨_, e⟩ | ⟨g, c2, rfl, hbg, hc2⟩
        · simp at e
        rw [hl2] at hc2 hO2 ⊢
        have HO2 : Hid (Own w2 w.heap.size (.slice (some ⟨g, 0, none⟩) (n + 1) c2) (W ++ [0])) := hO2
        have HBG : Hid (w.heap.size ≤ g) := hbg
        clear hO2 hG2 hbg
        go_wp2_with fail
        refine (filled_own w2 w.heap.size g (n + 1) c2 0 (W ++ [0]) hl2.symm HO2.out (by omega) (by omega) hc2).mono ?_
        rintro e w3 ⟨rfl, hO3, hG3⟩
        have HO3 : Hid (Own w3 w.heap.size (.slice (some ⟨g, 0, none⟩) (n + 1) c2) (List.replicate (n + 1) 1)) := by
          rw [List.take_zero, List.nil_append, Nat.sub_zero, show flL (W ++ [0]) 0 = 1 from if_neg (fun x => by omega)] at hO3
          exact hO3
        have HG3 : Hid (w.grownBy w3 none) := grownBy_new HG2.out HBG.out hG3
        clear hO3 hG3
        go_wp2_with fail
        go_ret2
        rw [(HT.out.2.2 HE.out (by omega)).1, (HT.out.2.2 HE.out (by omega)).2]
        exact ⟨_, rfl, HO3.out, HG3.out⟩
    · have hjn : j < n := by omega
      have hjI : (j : Int) < n := by omega
      have hj0 : (0 : Int) ≤ j := by omega
      rw [show ((j + 1 : Nat) : Int) - 1 = (j : Int) by omega]
      rcases HO.out.cases with ⟨e, e2⟩ | ⟨g, c', e, hbg, hnc⟩
      · rw [e2] at HN
        have := HN ()
        simp at this
        omega
      injection e with e1 e2 e3
      subst e1 e3
      clear e2
      rw [HN ()] at hnc
      have HBG : Hid (w.heap.size ≤ g) := hbg
      clear hbg
      have c1 := HO.out.cell j (by rw [HN ()]; exact hjn)
      have f1 := HO.out.frozen j
      obtain ⟨x, hx⟩ : ∃ x, W[j]?.getD 0 = x := ⟨_, rfl⟩
      obtain ⟨z, hz⟩ : ∃ z, W[j - 1]?.getD 0 = z := ⟨_, rfl⟩
      obtain ⟨P, M, p1, p2, p3, p4, p5, p6, p7, p8, p9⟩ := nx_facts hl HW.out (by rw [HN ()]; exact hjn) hx hz
      have HX : Hid (-64 ≤ x ∧ x ≤ 64) := by have := HW.out j (by rw [HN ()]; exact hjn); rw [hx] at this; show _ ∧ _; omega
      have HG2 : Hid ((if cnd W j ≤ l then some (W.take j ++ [cnd W j] ++ List.replicate (W.length - (j + 1)) (fst1 (cnd W j))) else goF l W j) = goF l W n) := HG.out
      clear HG
      rw [hx] at c1
      obtain ⟨kk, hkk⟩ : ∃ kk, cnd W j = kk := ⟨_, rfl⟩
      rw [hkk] at HG2 p7 p8 p9
      have HP : Hid (lett P = aft x ∧ lett (P + 1) = aft (aft x) ∧ (P < M ↔ aft x ≤ l) ∧ (0 < j → z + aft x = 0 → (P + 1 < M ↔ kk ≤ l) ∧ z + aft (aft x) ≠ 0 ∧ kk = aft (aft x)) ∧ (¬ (0 < j ∧ z + aft x = 0) → kk = aft x) ∧ (¬ aft x ≤ l → ¬ kk ≤ l)) := ⟨p4, p5, p6, p7, p8, p9⟩
      clear hkk p4 p5 p6 p7 p8 p9
      have hwP : IntKind.i64.wrap (plc x + 1) = (P : Int) := by rw [p1, IntKind.wrap_i64]; omega
      have hwM : IntKind.i64.wrap (2 * l) = (M : Int) := by rw [IntKind.wrap_i64]; omega
      clear p1 p3
      go_wp2_with fail
      refine (place_any x HX.out _).mono ?_
      rintro e w' ⟨rfl, hw⟩
      obtain rfl := hw.symm
      go_wp2_with fail
      go_loopw [10] (fun s wr => ∃ p : Nat, (p = P ∨ p = P + 1 ∧ 0 < j ∧ z + aft x = 0) ∧ s = .int .i64 (p : Int) ∧ w1 = wr) (fun s _ => match s with | .int _ i => P + 2 - i.toNat | _ => 0)
      case atStart => exact ⟨P, .inl rfl, rfl, rfl⟩
      case round =>
        obtain ⟨p, hp, rfl, rfl⟩ := hrel
        have HPP : Hid (p = P ∨ p = P + 1 ∧ 0 < j ∧ z + aft x = 0) := hp
        have hp2 : p ≤ 201 := by omega
        clear hp
        by_cases hPM : p < M
        · have hd : decide (p < M) = true := decide_eq_true hPM
          go_wp2_with fail
          refine (letter_any p (by omega) _).mono ?_
          rintro e w' ⟨rfl, hw⟩
          obtain rfl := hw.symm
          obtain ⟨y, hy⟩ : ∃ y, lett p = y := ⟨_, rfl⟩
          rw [hy]
          -- either it cancels, and it is the first; or it is the one
          have HY : Hid (-65 ≤ y ∧ y ≤ 65 ∧ (0 < j ∧ z + y = 0 ∧ p = P ∧ z + aft x = 0 ∨ ¬ (0 < j ∧ z + y = 0) ∧ y = kk ∧ kk ≤ l)) := by
            have hX := HX.out
            have hA := aft_in hX
            obtain ⟨a1, a2, a3, a4, a5, a6⟩ := HP.out
            rcases HPP.out with rfl | ⟨rfl, b1, b2⟩
            · rw [a1] at hy
              subst hy
              refine ⟨by omega, by omega, ?_⟩
              by_cases hc : 0 < j ∧ z + aft x = 0
              · exact .inl ⟨hc.1, hc.2, rfl, hc.2⟩
              · exact .inr ⟨hc, (a5 hc).symm, by rw [a5 hc]; exact a3.1 hPM⟩
            · rw [a2] at hy
              subst hy
              obtain ⟨c1, c2, c3⟩ := a4 b1 b2
              refine ⟨?_, ?_, .inr ⟨fun h => c2 h.2, c3.symm, c1.1 hPM⟩⟩
              · unfold aft at *
                split <;> split at hA <;> omega
              · rw [← c3]
                have := c1.1 hPM
                omega
          clear hy
          have hwy : IntKind.i64.wrap (-y) = -y := by rw [IntKind.wrap_i64]; have := HY.out.1; have := HY.out.2.1; omega
          by_cases h0j : 0 < j
          · obtain ⟨q, hq⟩ : ∃ q, j - 1 = q := ⟨_, rfl⟩
            have hwq : IntKind.i64.wrap ((j : Int) - 1) = (q : Int) := by rw [IntKind.wrap_i64]; omega
            have hqI : (q : Int) < n := by omega
            have c2 := HO.out.cell q (by rw [HN ()]; omega)
            rw [← hq, hz, hq] at c2
            have hb0 : decide (0 < (j : Int)) = true := decide_eq_true (by omega)
            by_cases hzy : z = -y
            · have hzb : (z == -y) = true := by simpa using hzy
              have HY2 : Hid (p = P ∧ z + aft x = 0) := by
                rcases HY.out.2.2 with h | h
                · exact ⟨h.2.2.1, h.2.2.2⟩
                · exact absurd ⟨h0j, by omega⟩ h.1
              have hwp : IntKind.i64.wrap ((p : Int) + 1) = ((p + 1 : Nat) : Int) := by rw [IntKind.wrap_i64]; omega
              clear hzy
              go_wp2_with fail
              go_roundw
              case rel => exact ⟨p + 1, .inr ⟨by rw [HY2.out.1], h0j, HY2.out.2⟩, by simp, trivial⟩
              case measure => simp; have := HY2.out.1; omega
            · have hzb : (z == -y) = false := by simpa using hzy
              have HY2 : Hid (y = kk ∧ kk ≤ l) := by
                rcases HY.out.2.2 with h | h
                · exact absurd h.2.1 (by omega)
                · exact h.2
              obtain rfl := HY2.out.1
              have HKL : Hid (y ≤ l) := HY2.out.2
              clear HY2 HY HPP
              have HE : Hid (RL = W.take j ++ [y] ++ List.replicate (n - (j + 1)) (fst1 y) ∧ RB = true) := by
                have h := HG2.out
                rw [if_pos HKL.out, HN ()] at h
                exact HT.out.1 _ h.symm
              have HO2 : Hid (Own (w1.setCell ⟨g, j, none⟩ (.int .i64 y)) w.heap.size (.slice (some ⟨g, 0, none⟩) n c) (W.set j y)) := HO.out.set j y
              have HFb : Hid (flL (W.set j y) (j + 1) = fst1 y ∧ (W.set j y).take (j + 1) = W.take j ++ [y]) := ⟨flL_behind W j _ (by rw [HN ()]; exact hjn), take_set1 W j y (by rw [HN ()]; exact hjn)⟩
              have hwj : IntKind.i64.wrap ((j : Int) + 1) = ((j + 1 : Nat) : Int) := by rw [IntKind.wrap_i64]; omega
              go_wp2_with fail
              have HFi := filled_own (w1.setCell ⟨g, j, none⟩ (.int .i64 y)) w.heap.size g n c (j + 1) (W.set j y) (by rw [List.length_set, HN ()]) HO2.out (by omega) (by omega) hnc
              rw [HFb.out.1, HFb.out.2] at HFi
              refine Calls.mono (by simpa using HFi) ?_
              rintro e w3 ⟨rfl, hO3, hG3⟩
              have HO3 : Hid (Own w3 w.heap.size (.slice (some ⟨g, 0, none⟩) n c) (W.take j ++ [y] ++ List.replicate (n - (j + 1)) (fst1 y))) := by show Own _ _ _ _; simpa using hO3
              have HG3 : Hid (w.grownBy w3 none) := grownBy_new (grownBy_new HG1.out HBG.out (grownBy_setCell _ _ _ _)) HBG.out hG3
              clear hO3 hG3 HFi
              go_wp2_with fail
              go_ret2
              rw [HE.out.1, HE.out.2]
              exact ⟨_, rfl, HO3.out, HG3.out⟩
          · have hb0 : decide (0 < (j : Int)) = false := decide_eq_false (by omega)
            have HY2 : Hid (y = kk ∧ kk ≤ l) := by
              rcases HY.out.2.2 with h | h
              · exact absurd h.1 h0j
              · exact h.2
            obtain rfl := HY2.out.1
            have HKL : Hid (y ≤ l) := HY2.out.2
            clear HY2 HY HPP
            have HE : Hid (RL = W.take j ++ [y] ++ List.replicate (n - (j + 1)) (fst1 y) ∧ RB = true) := by
              have h := HG2.out
              rw [if_pos HKL.out, HN ()] at h
              exact HT.out.1 _ h.symm
            have HO2 : Hid (Own (w1.setCell ⟨g, j, none⟩ (.int .i64 y)) w.heap.size (.slice (some ⟨g, 0, none⟩) n c) (W.set j y)) := HO.out.set j y
            have HFb : Hid (flL (W.set j y) (j + 1) = fst1 y ∧ (W.set j y).take (j + 1) = W.take j ++ [y]) := ⟨flL_behind W j _ (by rw [HN ()]; exact hjn), take_set1 W j y (by rw [HN ()]; exact hjn)⟩
            have hwj : IntKind.i64.wrap ((j : Int) + 1) = ((j + 1 : Nat) : Int) := by rw [IntKind.wrap_i64]; omega
            go_wp2_with fail
            have HFi := filled_own (w1.setCell ⟨g, j, none⟩ (.int .i64 y)) w.heap.size g n c (j + 1) (W.set j y) (by rw [List.length_set, HN ()]) HO2.out (by omega) (by omega) hnc
            rw [HFb.out.1, HFb.out.2] at HFi
            refine Calls.mono (by simpa using HFi) ?_
            rintro e w3 ⟨rfl, hO3, hG3⟩
            have HO3 : Hid (Own w3 w.heap.size (.slice (some ⟨g, 0, none⟩) n c) (W.take j ++ [y] ++ List.replicate (n - (j + 1)) (fst1 y))) := by show Own _ _ _ _; simpa using hO3
            have HG3 : Hid (w.grownBy w3 none) := grownBy_new (grownBy_new HG1.out HBG.out (grownBy_setCell _ _ _ _)) HBG.out hG3
            clear hO3 hG3 HFi
            go_wp2_with fail
            go_ret2
            rw [HE.out.1, HE.out.2]
            exact ⟨_, rfl, HO3.out, HG3.out⟩
        · have hd : decide (p < M) = false := decide_eq_false hPM
          have HE : Hid (goF l W j = goF l W n) := by
            obtain ⟨a1, a2, a3, a4, a5, a6⟩ := HP.out
            have hk : ¬ kk ≤ l := by
              rcases HPP.out with rfl | ⟨rfl, b1, b2⟩
              · have := a6 (by have : ¬ aft x ≤ l := fun h => hPM (a3.2 h); omega)
                omega
              · exact fun h => hPM ((a4 b1 b2).1.2 h)
            have h := HG2.out
            rw [if_neg hk] at h
            exact h
          go_wp2_with fail
          go_roundw
          case rel => exact ⟨j, by omega, num_eq (by omega), HE.out, trivial⟩
          case measure => simp
end Go.Proofs.YtkimgmgafkihaaaDoor
