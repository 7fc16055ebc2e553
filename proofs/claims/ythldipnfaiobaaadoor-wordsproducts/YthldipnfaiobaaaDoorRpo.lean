/-
  The document's Pow.
-/
import Derived.Test.YthldipnfaiobaaaDoorRpm
import Derived.Test.YthldipnfaiobaaaDoorRmu
namespace Go.Proofs.YthldipnfaiobaaaDoor
open Go.RowKit Go.Lib Go.Sort
set_option linter.unusedVariables false
set_option linter.unusedSimpArgs false
set_option maxHeartbeats 3200000
set_option maxRecDepth 1000000
theorem Told1.mono {w w0 : World} {e : Ending} {w' : World} {r : Int} {L : List Int} (h : Told1 w e w' r L) (hg : w0.grownBy w none) : Told1 w0 e w' r L := by
  obtain ⟨h1, v', h2, h3⟩ := h
  exact ⟨grownBy_trans hg h1, v', h2, h3.mono hg.size⟩
theorem rTimes_ended (w : World) (v : Value) (S : List Int) (nn : Nat) (h : Ints w v S) (hl : S.length ≤ 4096) (hL : ∀ x ∈ S, noL x = false) (hn : nn ≤ 9223372036854775807) (r : Int) (P : List Int) (m : Nat) (hm : Cut S m)
    (hP : ∀ q, q ≤ nn → (q = nn ∨ (coreOf S m).length = 0 ∨ 8192 < (inv (inv (S.take m)) ++ rp (coreOf S m) q).length) → tldE (inv (inv (S.take m)) ++ rp (coreOf S m) q ++ inv (S.take m)) = r ∧ tldL (inv (inv (S.take m)) ++ rp (coreOf S m) q ++ inv (S.take m)) = P) :
    Calls Tryd.prog 60 #[v, .int .i64 (nn : Int)] w fun e w' => ∃ v', e = .returned v' ∧ w.grownBy w' none ∧ Calls Tryd.prog 64 #[v'] w' fun e2 w2 => Told1 w e2 w2 r P := by
  refine (times_any w v S nn h hl hL hn).mono ?_
  rintro e w' ⟨m', q, v', hcut, rfl, hF, hg, h1, hb, h2⟩
  obtain rfl := hcut.uniq hm
  refine ⟨v', rfl, hg, ?_⟩
  refine (rEnded_any w' w.heap.size v' _ hF (by have h3 := hcut.le; rw [List.length_append, inv_len, List.length_take]; omega)).mono ?_
  rintro e2 w2 ⟨v2, rfl, hF2, rfl⟩
  rw [(hP q h1 h2).1]
  rw [(hP q h1 h2).2] at hF2
  exact ⟨hg, v2, rfl, hF2⟩
theorem rPow_any (w : World) (v : Value) (L : List Int) (n : Int) (h : Ints w v L) (hl : L.length ≤ 1000000) (hn1 : -9223372036854775808 ≤ n) (hn2 : n ≤ 9223372036854775807) (m : Nat) (hm : Cut (sh L) m) :
    Calls Tryd.prog 31 #[v, .int .i64 n] w fun e w' => Told1 w e w' (powE L m n) (powL L m n) := by
  have HC := rCheck_any w v L h (by omega)
  have HI : Hid (Ints w v L) := h
  have HOk : Hid (chk [L] = 0 → L.any noL = false ∧ L.length ≤ 4096) := fun h0 => chk_ok h0 L (by simp)
  have HLl : Hid (L.length ≤ 1000000) := hl
  obtain ⟨ab, c, rfl, _⟩ := h.reads
  clear h hl
  obtain ⟨k, hk⟩ : ∃ k, L.length = k := ⟨_, rfl⟩
  rw [hk] at HC HI ⊢
  clear hk
  obtain ⟨r, hr⟩ : ∃ r, chk [L] = r := ⟨_, rfl⟩
  have HE : Hid (chk [L] = r) := hr
  rw [hr] at HC HOk
  clear hr
  by_cases h0 : r = 0
  · subst h0
    have HL2 : Hid (L.any noL = false ∧ L.length ≤ 4096) := HOk.out rfl
    have HS := rShort_any w _ L HI.out HLl.out HL2.out.1
    have HSl : Hid ((sh L).length ≤ 4096) := Nat.le_trans (sh_len L) HL2.out.2
    have HSn : Hid (∀ x ∈ sh L, noL x = false) := sh_letters HL2.out.1
    have HPE : Hid (powE L m n = pwE (coreOf (sh L) m) (byOf (sh L) m) n ∧ powL L m n = if pwE (coreOf (sh L) m) (byOf (sh L) m) n = 0 then pwL (coreOf (sh L) m) (byOf (sh L) m) n else []) := by
      unfold powE powL
      rw [if_pos HE.out, if_pos HE.out]
      exact ⟨rfl, rfl⟩
    have HR : Hid (Red (sh L)) := red_sh L
    have HCut : Hid (Cut (sh L) m) := hm
    have HZ0 : Hid (n = 0 ∨ (sh L).length = 0 → powE L m n = 0 ∧ powL L m n = []) := by
      intro hz
      have hc : n = 0 ∨ (coreOf (sh L) m).length = 0 := by
        rcases hz with e | e
        · exact .inl e
        · refine .inr ?_
          rw [coreOf_len _ _ HCut.out.le]
          omega
      have e1 : pwE (coreOf (sh L) m) (byOf (sh L) m) n = 0 := by unfold pwE; rw [if_pos hc]
      have e2 : pwL (coreOf (sh L) m) (byOf (sh L) m) n = [] := by unfold pwL; rw [if_pos hc]
      rw [HPE.out.1, HPE.out.2, e1, if_pos rfl, e2]
      exact ⟨rfl, rfl⟩
    generalize sh L = S at *
    clear HOk HL2 HLl
    by_cases hn0 : n = 0
    · have HZ1 : Hid (powE L m n = 0 ∧ powL L m n = []) := HZ0.out (.inl hn0)
      clear HZ0 HPE
      subst hn0
      go_enter Tryd.func31, Tryd.ntmps31
      go_wp2_with fail
      refine HC.mono ?_
      rintro e w1 ⟨rfl, hw⟩
      obtain rfl := hw.symm
      go_wp2_with fail
      refine HS.mono ?_
      rintro e w2 ⟨v2, rfl, hO2, hG2⟩
      have HG2 : Hid (w.grownBy w2 none) := hG2
      obtain ⟨vb, vc, rfl⟩ := hO2.form
      clear hO2 hG2 HS
      go_wp2_with fail
      go_ret2
      rw [HZ1.out.1, HZ1.out.2]
      exact ⟨HG2.out, _, rfl, Fr.nil _ _⟩
    · have hnb : (n == 0) = false := by simpa using hn0
      by_cases hs0 : S.length = 0
      · have HZ1 : Hid (powE L m n = 0 ∧ powL L m n = []) := HZ0.out (.inr hs0)
        have HS0 : Unit → S.length = 0 := fun _ => hs0
        clear hs0
        go_enter Tryd.func31, Tryd.ntmps31
        go_wp2_with fail
        refine HC.mono ?_
        rintro e w1 ⟨rfl, hw⟩
        obtain rfl := hw.symm
        go_wp2_with fail
        refine HS.mono ?_
        rintro e w2 ⟨v2, rfl, hO2, hG2⟩
        have HG2 : Hid (w.grownBy w2 none) := hG2
        obtain ⟨vb, vc, rfl⟩ := hO2.form
        rw [HS0 ()]
        clear hO2 hG2 HS
        go_wp2_with fail
        go_ret2
        rw [HZ1.out.1, HZ1.out.2]
        exact ⟨HG2.out, _, rfl, Fr.nil _ _⟩
      · have HS0 : Hid (0 < S.length) := by show 0 < _; omega
        have HCp : Hid (0 < (coreOf S m).length) := core_pos HCut.out HR.out HS0.out
        by_cases hneg : n < 0
        · obtain ⟨nn, hnn, hnn2⟩ : ∃ nn : Nat, max n (-8192) = -(nn : Int) ∧ (nn = n.natAbs ∨ (nn = 8192 ∧ 8192 < n.natAbs)) := ⟨(max n (-8192)).natAbs, by omega, by omega⟩
          have hnnI : (nn : Int) ≤ 8192 := by omega
          have HEnd : Hid (∀ w3 v3, Ints w3 v3 (inv S) → Calls Tryd.prog 60 #[v3, .int .i64 (nn : Int)] w3 fun e w' => ∃ v', e = .returned v' ∧ w3.grownBy w' none ∧ Calls Tryd.prog 64 #[v'] w' fun e2 w2 => Told1 w3 e2 w2 (powE L m n) (powL L m n)) := by
            intro w3 v3 h3
            refine rTimes_ended w3 v3 (inv S) nn h3 (by rw [inv_len]; exact HSl.out) (inv_letters HSn.out) (by omega) _ _ m (cut_turn HCut.out) ?_
            intro q hq hor
            rw [core_turn HCut.out.le, take_turn HCut.out.le] at hor ⊢
            rw [HPE.out.1, HPE.out.2]
            exact pow_tld (C := coreOf S m) (B := byOf S m) HCp.out hn0 hnn2 (by rw [if_pos hneg]) hq hor
          have HInv : Hid (∀ w2 v2, Ints w2 v2 S → Calls Tryd.prog 24 #[v2] w2 fun e w' => ∃ v', e = .returned v' ∧ Own w' w2.heap.size v' (inv S) ∧ w2.grownBy w' none) := fun w2 v2 h2 => rInverse_any w2 v2 S h2 (by have := HSl.out; omega) (any_no HSn.out)
          obtain ⟨ks, hks⟩ : ∃ ks, S.length = ks := ⟨_, rfl⟩
          have HKs : Unit → S.length = ks := fun _ => hks
          have hkb : ((ks : Int) == 0) = false := by simpa using (show (ks : Int) ≠ 0 by omega)
          clear hn0 hs0 hnn2 hks hn1 hn2
          go_enter Tryd.func31, Tryd.ntmps31
          go_wp2_with fail
          refine HC.mono ?_
          rintro e w1 ⟨rfl, hw⟩
          obtain rfl := hw.symm
          go_wp2_with fail
          refine HS.mono ?_
          rintro e w2 ⟨v2, rfl, hO2, hG2⟩
          have HG2 : Hid (w.grownBy w2 none) := hG2
          have HI2 : Hid (Ints w2 v2 S) := hO2.ints
          obtain ⟨vb, vc, rfl⟩ := hO2.form
          rw [HKs ()] at HI2 ⊢
          clear hO2 hG2 HS
          go_wp2_with fail
          refine (HInv.out w2 _ HI2.out).mono ?_
          rintro e w3 ⟨v3, rfl, hO3, hG3⟩
          have HG3 : Hid (w.grownBy w3 none) := grownBy_trans HG2.out hG3
          have HI3 : Hid (Ints w3 v3 (inv S)) := hO3.ints
          clear hO3 hG3
          go_wp2_with fail
          refine (HEnd.out w3 _ HI3.out).mono ?_
          rintro e w4 ⟨v4, rfl, hG4, hC4⟩
          have HC4 : Hid (Calls Tryd.prog 64 #[v4] w4 fun e2 w2 => Told1 w3 e2 w2 (powE L m n) (powL L m n)) := hC4
          clear hG4 hC4
          go_wp2_with fail
          refine HC4.out.mono ?_
          rintro e w5 h5
          have H5 : Hid (Told1 w e w5 (powE L m n) (powL L m n)) := h5.mono HG3.out
          obtain ⟨_, v5, rfl, _⟩ := h5
          go_wp2_with fail
          go_ret2
          exact H5.out
        · obtain ⟨nn, rfl⟩ : ∃ nn : Nat, n = (nn : Int) := ⟨n.natAbs, by omega⟩
          have HEnd : Hid (∀ w3 v3, Ints w3 v3 S → Calls Tryd.prog 60 #[v3, .int .i64 (nn : Int)] w3 fun e w' => ∃ v', e = .returned v' ∧ w3.grownBy w' none ∧ Calls Tryd.prog 64 #[v'] w' fun e2 w2 => Told1 w3 e2 w2 (powE L m nn) (powL L m nn)) := by
            intro w3 v3 h3
            refine rTimes_ended w3 v3 S nn h3 HSl.out HSn.out (by omega) _ _ m HCut.out ?_
            intro q hq hor
            rw [cut_inv HCut.out] at hor ⊢
            rw [HPE.out.1, HPE.out.2]
            exact pow_tld (C := coreOf S m) (B := byOf S m) HCp.out hn0 (.inl (by simp)) (by rw [if_neg hneg]) hq hor
          obtain ⟨ks, hks⟩ : ∃ ks, S.length = ks := ⟨_, rfl⟩
          have HKs : Unit → S.length = ks := fun _ => hks
          have hkb : ((ks : Int) == 0) = false := by simpa using (show (ks : Int) ≠ 0 by omega)
          clear hn0 hs0 hks hn1 hn2
          go_enter Tryd.func31, Tryd.ntmps31
          go_wp2_with fail
          refine HC.mono ?_
          rintro e w1 ⟨rfl, hw⟩
          obtain rfl := hw.symm
          go_wp2_with fail
          refine HS.mono ?_
          rintro e w2 ⟨v2, rfl, hO2, hG2⟩
          have HG2 : Hid (w.grownBy w2 none) := hG2
          have HI2 : Hid (Ints w2 v2 S) := hO2.ints
          obtain ⟨vb, vc, rfl⟩ := hO2.form
          rw [HKs ()] at HI2 ⊢
          clear hO2 hG2 HS
          go_wp2_with fail
          refine (HEnd.out w2 _ HI2.out).mono ?_
          rintro e w4 ⟨v4, rfl, hG4, hC4⟩
          have HC4 : Hid (Calls Tryd.prog 64 #[v4] w4 fun e2 w3 => Told1 w2 e2 w3 (powE L m nn) (powL L m nn)) := hC4
          clear hG4 hC4
          go_wp2_with fail
          refine HC4.out.mono ?_
          rintro e w5 h5
          have H5 : Hid (Told1 w e w5 (powE L m nn) (powL L m nn)) := h5.mono HG2.out
          obtain ⟨_, v5, rfl, _⟩ := h5
          go_wp2_with fail
          go_ret2
          exact H5.out
  · have hb : (r != 0) = true := by simpa using h0
    have HR : Hid (r ≠ 0) := h0
    clear h0
    go_enter Tryd.func31, Tryd.ntmps31
    go_wp2_with fail
    refine HC.mono ?_
    rintro e w1 ⟨rfl, hw⟩
    obtain rfl := hw.symm
    go_wp2_with fail
    go_ret2
    unfold powE powL
    rw [HE.out, if_neg HR.out, if_neg HR.out]
    exact ⟨grow0 _, _, rfl, Fr.nil _ _⟩
end Go.Proofs.YthldipnfaiobaaaDoor
