/-
  The document's Root.
-/
import Derived.Test.YtndadkfekngheaaDoorRma
namespace Go.Proofs.YtndadkfekngheaaDoor
open Go.RowKit Go.Lib Go.Sort
set_option linter.unusedVariables false
set_option linter.unusedSimpArgs false

/-- What Root answers: as the least period has it. -/
def RrQ (w : World) (S : List Int) (e : Ending) (w' : World) : Prop :=
  ∃ (m : Nat) (u : Value) (nn : Int), Cut S m ∧ e = .returned (.tuple #[u, .int .i64 nn]) ∧ w.grownBy w' none ∧ ∀ p, Rt (coreOf S m) p → nn = (((coreOf S m).length / p : Nat) : Int) ∧ Ints w' u (inv (byOf S m) ++ (coreOf S m).take p ++ byOf S m)
theorem div_anti {k a b : Nat} (ha : a ∣ k) (hb : b ∣ k) (h0 : 0 < k) (h : a < b) : k / b < k / a := by
  obtain ⟨x, rfl⟩ := ha
  have ha0 : 0 < a := Nat.pos_of_ne_zero (fun e => by subst e; simp at h0)
  rw [Nat.mul_div_cancel_left x ha0]
  rw [Nat.div_lt_iff_lt_mul (by omega)]
  have hx : 0 < x := Nat.pos_of_ne_zero (fun e => by subst e; simp at h0)
  rw [Nat.mul_comm a x]
  exact Nat.mul_lt_mul_of_pos_left h hx
theorem div_div {k n : Nat} (h : n ∣ k) (h0 : 0 < k) : k / (k / n) = n := by
  obtain ⟨x, rfl⟩ := h
  have hn0 : 0 < n := Nat.pos_of_ne_zero (fun e => by subst e; simp at h0)
  have hx : 0 < x := Nat.pos_of_ne_zero (fun e => by subst e; simp at h0)
  rw [Nat.mul_div_cancel_left x hn0, Nat.mul_div_cancel n hx]
set_option maxHeartbeats 3200000 in
set_option maxRecDepth 1000000 in
theorem rRoot_any (w : World) (v : Value) (S : List Int) (h : Ints w v S) (hl : S.length ≤ 4096) (hL : ∀ x ∈ S, noL x = false) (hne : 0 < S.length) (hred : Red S) :
    Calls Tryd.prog 27 #[v] w fun e w' => RrQ w S e w' := by
  have HCo := rCore_any w v S h (by omega) hL
  have HI0 : Hid (Ints w v S) := h
  have HLn : Hid (∀ x ∈ S, noL x = false) := hL
  have HLl : Hid (S.length ≤ 4096) := hl
  have HRd : Hid (Red S ∧ 0 < S.length) := ⟨hred, hne⟩
  obtain ⟨va, vc, rfl, _⟩ := h.reads
  clear h hL hl hred hne
  go_enter Tryd.func27, Tryd.ntmps27
  go_wp2_with fail
  refine HCo.mono ?_
  rintro e w1 ⟨m, u, v, hcut, rfl, hu, hv, hG1, _, _⟩
  rw [cut_inv hcut] at hv
  have HCut : Hid (Cut S m) := hcut
  have HG1 : Hid (w.grownBy w1 none) := hG1
  have hcp := core_pos hcut HRd.out.1 HRd.out.2
  have hparts := cut_parts hcut
  have hrd : ¬ (1 < (coreOf S m).length ∧ (coreOf S m)[0]?.getD 0 + (coreOf S m)[(coreOf S m).length - 1]?.getD 0 = 0) := by
    rintro ⟨h1, h2⟩
    have hle := hcut.le
    rw [coreOf_len S m hle] at h1 h2
    apply hcut.2
    refine ⟨by omega, ?_⟩
    unfold coreOf at h2
    rw [List.getElem?_take, if_pos (by omega), List.getElem?_take, if_pos (by omega), List.getElem?_drop, List.getElem?_drop, Nat.add_zero, show m + (S.length - 2 * m - 1) = S.length - 1 - m by omega] at h2
    exact h2
  have HQ1 : Hid (∀ u nn w', w.grownBy w' none → (∀ p, Rt (coreOf S m) p → nn = (((coreOf S m).length / p : Nat) : Int) ∧ Ints w' u (inv (byOf S m) ++ (coreOf S m).take p ++ byOf S m)) → RrQ w S (.returned (.tuple #[u, .int .i64 nn])) w') := fun u nn w' hg hp => ⟨m, u, nn, HCut.out, rfl, hg, hp⟩
  have HBn : Hid ((byOf S m).any noL = false) := any_no fun x hx => HLn.out x (by_mem hx)
  have HCn : Hid (∀ x ∈ coreOf S m, noL x = false) := fun x hx => HLn.out x (core_mem hx)
  have HBm : Hid (∀ x ∈ byOf S m, noL x = false) := fun x hx => HLn.out x (by_mem hx)
  have HLen : Hid ((inv (byOf S m) ++ coreOf S m ++ byOf S m).length ≤ 4096) := by show _ ≤ _; rw [hparts]; exact HLl.out
  have HPt : Hid (inv (byOf S m) ++ coreOf S m ++ byOf S m = S) := hparts
  clear hcut hG1 hparts
  generalize coreOf S m = C at *
  generalize byOf S m = B at *
  have HU : Hid (Ints w1 u C) := hu
  have HV : Hid (Ints w1 v B) := hv
  obtain ⟨g, off, uc, rfl, huc⟩ : ∃ g off uc, u = .slice (some ⟨g, off, none⟩) C.length uc ∧ C.length ≤ uc := by
    rcases hu with ⟨_, e⟩ | ⟨B', off, uc, e, hc, _⟩ | ⟨e, _⟩
    · rw [e] at hcp; simp at hcp
    · exact ⟨B', off, uc, e, hc⟩
    · rw [e] at hcp; simp at hcp
  obtain ⟨vb, vd, rfl, _⟩ := hv.reads
  obtain ⟨k, hk⟩ : ∃ k, C.length = k := ⟨_, rfl⟩
  have HK : Unit → C.length = k := fun _ => hk
  rw [hk] at huc hcp HU hrd HQ1 ⊢
  have hkb : k ≤ 4096 := by
    have := HLen.out
    rw [List.length_append, List.length_append, hk] at this
    omega
  have hkI : (k : Int) ≤ 4096 := by omega
  obtain ⟨bl, hbl⟩ : ∃ bl, B.length = bl := ⟨_, rfl⟩
  have HBl : Unit → B.length = bl := fun _ => hbl
  rw [hbl] at HV ⊢
  have HRdd : Hid (¬ (1 < C.length ∧ C[0]?.getD 0 + C[C.length - 1]?.getD 0 = 0)) := by
    show ¬ _
    rw [hk]
    exact hrd
  clear hu hv hk hbl hrd
  go_wp2_with fail
  go_loopw [6, 7] (fun s t wr => ∃ (n : Nat), 1 ≤ n ∧ n ≤ k ∧ s = .int .i64 (n : Int) ∧ (∀ n', n < n' → n' ≤ k → n' ∣ k → ¬ Per C (k / n')) ∧ w1.grownBy wr none) (fun s _ _ => match s with | .int _ i => i.toNat | _ => 0)
  case atStart => exact ⟨k, by omega, Nat.le_refl _, rfl, fun n' h1 h2 => by omega, grow0 _⟩
  case round =>
    obtain ⟨n, hn1, hnk, rfl, hP, hG⟩ := hrel
    have HG : Hid (w1.grownBy wr none) := hG
    have HP : Hid (∀ n', n < n' → n' ≤ k → n' ∣ k → ¬ Per C (k / n')) := hP
    clear hG hP
    have hnI : (n : Int) ≤ k := by omega
    by_cases h1 : n = 1
    · subst h1
      have hend : Hid (RrQ w S (.returned (.tuple #[.slice va S.length vc, .int .i64 1])) wr) := by
        refine HQ1.out _ _ _ (grownBy_trans HG1.out HG.out) (fun p hp => ?_)
        have hpk : p = k := by
          rcases Nat.lt_or_ge p k with e | e
          · exfalso
            have hd := hp.2.1
            rw [HK ()] at hd
            have hdd := div_div hd (by omega)
            have hgt : 1 < k / p := by
              obtain ⟨x, hx⟩ := hd
              rw [hx, Nat.mul_div_cancel_left x hp.1]
              rcases Nat.lt_or_ge 1 x with e2 | e2
              · exact e2
              · have : x = 0 ∨ x = 1 := by omega
                rcases this with rfl | rfl
                · omega
                · omega
            refine HP.out (k / p) hgt (Nat.div_le_self k p) (Nat.div_dvd_of_dvd hd) ?_
            rw [hdd]
            exact hp.2.2.1
          · have := Nat.le_of_dvd (by rw [HK ()]; omega) hp.2.1
            rw [HK ()] at this
            omega
        subst hpk
        refine ⟨by rw [Nat.div_self (by omega)]; rfl, ?_⟩
        rw [← HK (), List.take_length, HPt.out]
        exact HI0.out.kept (grownBy_trans HG1.out HG.out)
      go_wp2_with fail
      go_ret2
      exact hend.out
    · have hn2 : (1 : Int) < n := by omega
      have hn0b : ((n : Int) == 0) = false := by simpa using (show (n : Int) ≠ 0 by omega)
      have hn0 : ¬ n = 0 := by omega
      have htm : (k : Int).tmod n = ((k % n : Nat) : Int) := rfl
      by_cases hd : k % n = 0
      · rw [hd] at htm
        obtain ⟨d, hdd⟩ : ∃ d, k / n = d := ⟨_, rfl⟩
        have hdv : n ∣ k := Nat.dvd_of_mod_eq_zero hd
        have hqI : (k : Int).tdiv n = (d : Int) := by rw [← hdd]; rfl
        have hqI2 : (k : Int) / n = (d : Int) := by rw [← hdd]; rfl
        have hdk : d ≤ k := by rw [← hdd]; exact Nat.div_le_self k n
        have hdkI : (d : Int) ≤ k := by omega
        have hduc : d ≤ uc := by omega
        have HInv : Hid (∀ wa, w1.grownBy wa none → Calls Tryd.prog 24 #[.slice vb bl vd] wa fun e w' => ∃ v', e = .returned v' ∧ Own w' wa.heap.size v' (inv B) ∧ wa.grownBy w' none) := fun wa hg => rInverse_any wa _ B (HV.out.kept hg) (by rw [HBl ()]; have := HLen.out; rw [List.length_append, List.length_append, HBl ()] at this; omega) HBn.out
        have HJoin : Hid (∀ wa v3 ve E, w1.grownBy wa none → Ints wa v3 (inv B) → Ints wa ve E → E.length ≤ 4096 → Calls Tryd.prog 59 #[.slice (some ⟨wa.heap.size, 0, none⟩) 3 3] (wa.alloc (.cells #[v3, ve, .slice vb bl vd] 22)) fun e w' => ∃ v', e = .returned v' ∧ Ints w' v' (inv B ++ E ++ B) ∧ wa.grownBy w' none) := by
          intro wa v3 ve E hg h3 he hel
          refine (rJoined_any _ _ [inv B, E, B] (intsL3 h3 he (HV.out.kept hg)) (by simp) ?_).mono ?_
          · have := HLen.out
            rw [List.length_append, List.length_append, HBl (), inv_len, HBl ()] at this
            simp [inv_len, HBl ()]
            omega
          · rintro e w' ⟨v', rfl, hO, hg2⟩
            refine ⟨v', rfl, ?_, grownBy_trans (grow1 _ _) hg2⟩
            have := hO.ints
            simpa using this
        have HDt : Hid (∀ wa, w1.grownBy wa none → Ints wa (.slice (some ⟨g, off, none⟩) d uc) (C.take d)) := by
          intro wa hg
          have := (HU.out.kept hg).sub 0 d uc (by rw [HK ()]; omega) hduc
          rwa [Nat.add_zero, List.drop_zero] at this
        have HXl : Hid ((inv B ++ C.take d ++ B).length ≤ 4096 ∧ (C.take d).length ≤ 4096) := by
          have := HLen.out
          rw [List.length_append, List.length_append] at this
          refine ⟨?_, ?_⟩
          · rw [List.length_append, List.length_append, List.length_take]
            omega
          · rw [List.length_take]
            omega
        have HXn : Hid (∀ x ∈ inv B ++ C.take d ++ B, noL x = false) := by
          intro x hx
          simp only [List.mem_append] at hx
          rcases hx with (hx | hx) | hx
          · exact inv_letters HBm.out x hx
          · exact HCn.out x (List.mem_of_mem_take hx)
          · exact HBm.out x hx
        have HCk : Hid (C.length / n = d ∧ n ∣ C.length) := by show _ ∧ _; rw [HK ()]; exact ⟨hdd, hdv⟩
        have HTimes : Hid (∀ wa vx, Ints wa vx (inv B ++ C.take d ++ B) → Calls Tryd.prog 60 #[vx, .int .i64 (n : Int)] wa fun e w' => ∃ vt T, e = .returned vt ∧ Ints w' vt T ∧ wa.grownBy w' none ∧ T.length ≤ 100000000 ∧ (T = inv B ++ C ++ B ↔ Per C d)) := by
          intro wa vx hx
          refine (times_any wa vx _ n hx HXl.out.1 HXn.out (by omega)).mono ?_
          rintro e w' ⟨m', q, vt, hcut, rfl, hT, hg, hq, hq2⟩
          refine ⟨vt, _, rfl, hT, hg, ?_, ?_⟩
          · have hle := hcut.le
            have hx1 := HXl.out.1
            have hcl := coreOf_len _ _ hle
            have hm : (coreOf (inv B ++ C.take d ++ B) m').length * q ≤ 4096 * 4096 := Nat.mul_le_mul (by omega) (by omega)
            rw [List.length_append, List.length_append, inv_len, inv_len, rp_len, List.length_take]
            omega
          · have hper := per_rp (C := C) (n := n) HCk.out.2 (by omega)
            rw [HCk.out.1] at hper
            constructor
            · intro he
              have := times_back (B := B) (C := C) (n := n) (by omega) HCk.out.2 (by rw [HK ()]; omega) (by rw [HCk.out.1]) hcut hq he
              rw [HCk.out.1] at this
              exact hper.2 this
            · intro hp
              exact times_fwd (B := B) (C := C) (n := n) (by omega) HCk.out.2 (by rw [HK ()]; omega) HRdd.out (by rw [HCk.out.1]) hcut hq hq2 HLen.out (by rw [HCk.out.1]; exact hper.1 hp)
        have HYes : Hid (∀ u w', Per C d → w.grownBy w' none → Ints w' u (inv B ++ C.take d ++ B) → RrQ w S (.returned (.tuple #[u, .int .i64 (n : Int)])) w') := by
          intro u w' hp hg hi
          refine HQ1.out _ _ _ hg (fun p hr => ?_)
          have hpd : p = d := by
            have h2 := hr.2.2.2 d (by rw [← hdd]; exact Nat.div_pos hnk (by omega)) (by rw [HK (), ← hdd]; exact Nat.div_dvd_of_dvd hdv) hp
            rcases Nat.lt_or_ge p d with e | e
            · exfalso
              have hpd := hr.2.1
              rw [HK ()] at hpd
              have h3 := div_anti hpd (Nat.div_dvd_of_dvd hdv) (by omega) (show p < k / n by omega)
              rw [div_div hdv (by omega)] at h3
              refine HP.out (k / p) h3 (Nat.div_le_self k p) (Nat.div_dvd_of_dvd hpd) ?_
              rw [div_div hpd (by omega)]
              exact hr.2.2.1
            · omega
          subst hpd
          exact ⟨by rw [← hdd, div_div hdv (by omega)], hi⟩
        have HNo : Hid (¬ Per C d → ∀ n', n - 1 < n' → n' ≤ k → n' ∣ k → ¬ Per C (k / n')) := by
          intro hnp n' h2 h3 h4
          rcases Nat.lt_or_ge n n' with e | e
          · exact HP.out n' e h3 h4
          · obtain rfl : n' = n := by omega
            rw [hdd]
            exact hnp
        clear hdd hdv hd
        go_wp2_with fail
        refine (HInv.out wr HG.out).mono ?_
        rintro e a1 ⟨v3, rfl, hO3, g3⟩
        have G3 : Hid (w1.grownBy a1 none) := grownBy_trans HG.out g3
        obtain ⟨x3, y3, rfl⟩ := hO3.form
        have HO3 : Hid (Ints a1 (.slice x3 (inv B).length y3) (inv B)) := hO3.ints
        clear hO3 g3
        go_wp2_with fail
        refine (HJoin.out a1 _ _ C G3.out HO3.out (HU.out.kept G3.out) (by rw [HK ()]; omega)).mono ?_
        rintro e a2 ⟨v4, rfl, h4, g4⟩
        have G4 : Hid (w1.grownBy a2 none) := grownBy_trans G3.out g4
        have HO4 : Hid (Ints a2 v4 (inv B ++ C ++ B)) := h4
        clear h4 g4
        go_wp2_with fail
        refine (HInv.out a2 G4.out).mono ?_
        rintro e a3 ⟨v5, rfl, hO5, g5⟩
        have G5 : Hid (w1.grownBy a3 none) := grownBy_trans G4.out g5
        have HO45 : Hid (Ints a3 v4 (inv B ++ C ++ B)) := HO4.out.kept g5
        obtain ⟨x5, y5, rfl⟩ := hO5.form
        have HO5 : Hid (Ints a3 (.slice x5 (inv B).length y5) (inv B)) := hO5.ints
        clear hO5 g5
        go_wp2_with fail
        refine (HJoin.out a3 _ _ (C.take d) G5.out HO5.out (HDt.out a3 G5.out) HXl.out.2).mono ?_
        rintro e a4 ⟨v6, rfl, h6, g6⟩
        have G6 : Hid (w1.grownBy a4 none) := grownBy_trans G5.out g6
        have HO46 : Hid (Ints a4 v4 (inv B ++ C ++ B)) := HO45.out.kept g6
        have HO6 : Hid (Ints a4 v6 (inv B ++ C.take d ++ B)) := h6
        clear h6 g6
        go_wp2_with fail
        refine (HTimes.out a4 v6 HO6.out).mono ?_
        rintro e a5 ⟨vt, T, rfl, hT, g7, hTl, hTe⟩
        have G7 : Hid (w1.grownBy a5 none) := grownBy_trans G6.out g7
        have HS := rSame_any a5 v4 vt _ T (HO46.out.kept g7) hT (by have := HLen.out; omega) (by omega)
        clear hT g7 hTl
        have HTe : Hid (T = inv B ++ C ++ B ↔ Per C d) := hTe
        clear hTe
        by_cases hsm : inv B ++ C ++ B = T
        · have HPr : Hid (Per C d) := HTe.out.1 hsm.symm
          rw [decide_eq_true hsm] at HS
          clear hsm
          go_wp2_with fail
          refine HS.mono ?_
          rintro e a6 ⟨rfl, g8⟩
          have G8 : Hid (w1.grownBy a6 none) := grownBy_trans G7.out g8
          clear g8
          go_wp2_with fail
          refine (HInv.out a6 G8.out).mono ?_
          rintro e a7 ⟨v7, rfl, hO7, g9⟩
          have G9 : Hid (w1.grownBy a7 none) := grownBy_trans G8.out g9
          obtain ⟨x7, y7, rfl⟩ := hO7.form
          have HO7 : Hid (Ints a7 (.slice x7 (inv B).length y7) (inv B)) := hO7.ints
          clear hO7 g9
          go_wp2_with fail
          refine (HJoin.out a7 _ _ (C.take d) G9.out HO7.out (HDt.out a7 G9.out) HXl.out.2).mono ?_
          rintro e a8 ⟨v8, rfl, h8, g10⟩
          have HE : Hid (RrQ w S (.returned (.tuple #[v8, .int .i64 (n : Int)])) a8) := HYes.out v8 a8 HPr.out (grownBy_trans HG1.out (grownBy_trans G9.out g10)) h8
          clear h8 g10
          go_wp2_with fail
          go_ret2
          exact HE.out
        · have HPr : Hid (¬ Per C d) := fun hp => hsm (HTe.out.2 hp).symm
          rw [decide_eq_false hsm] at HS
          clear hsm
          go_wp2_with fail
          refine HS.mono ?_
          rintro e a6 ⟨rfl, g8⟩
          have G8 : Hid (w1.grownBy a6 none) := grownBy_trans G7.out g8
          clear g8
          go_wp2_with fail
          go_roundw
          case rel => exact ⟨n - 1, by omega, by omega, num_eq (by omega), HNo.out HPr.out, G8.out⟩
          case measure => simp; omega
      · have hzb : (((k % n : Nat) : Int) != 0) = true := by simpa using (show ((k % n : Nat) : Int) ≠ 0 by omega)
        have HNx : Hid (∀ n', n - 1 < n' → n' ≤ k → n' ∣ k → ¬ Per C (k / n')) := by
          intro n' h2 h3 h4
          rcases Nat.lt_or_ge n n' with e | e
          · exact HP.out n' e h3 h4
          · obtain rfl : n' = n := by omega
            exact absurd (Nat.mod_eq_zero_of_dvd h4) hd
        generalize ((k % n : Nat) : Int) = z at *
        clear hd
        go_wp2_with fail
        go_roundw
        case rel => exact ⟨n - 1, by omega, by omega, num_eq (by omega), HNx.out, HG.out⟩
        case measure => simp; omega
end Go.Proofs.YtndadkfekngheaaDoor
