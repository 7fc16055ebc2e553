/-
  The document's Alike.
-/
import Derived.Test.YthldipnfaiobaaaDoorAlk
namespace Go.Proofs.YthldipnfaiobaaaDoor
open Go.RowKit Go.Lib Go.Sort
set_option linter.unusedVariables false
set_option linter.unusedSimpArgs false
set_option maxHeartbeats 3200000
set_option maxRecDepth 1000000
theorem rAlike_any (w : World) (v u : Value) (S R : List Int) (m q : Nat) (hm : Cut S m) (hq : Cut R q) (h : Ints w v S) (hu : Ints w u R) (hl : S.length ≤ 4096) (hl2 : R.length ≤ 4096) (hSn : ∀ x ∈ S, noL x = false) (hRn : ∀ x ∈ R, noL x = false) :
    Calls Tryd.prog 38 #[v, u] w fun e w' => e = .returned (.bool (decide (Turn (coreOf S m) (coreOf R q)))) ∧ w.grownBy w' none := by
  have HC1 := rCore_any w v S h (by omega) hSn
  have HC2 : Hid (∀ w1, w.grownBy w1 none → Calls Tryd.prog 23 #[u] w1 fun e w' => RcQ w1 u R e w') := fun w1 hg => rCore_any w1 u R (hu.kept hg) (by omega) hRn
  have HCl : Hid ((coreOf S m).length ≤ 4096 ∧ (coreOf R q).length ≤ 4096) := by
    show _ ∧ _
    rw [coreOf_len S m hm.le, coreOf_len R q hq.le]
    omega
  have HCut : Hid (Cut S m ∧ Cut R q) := ⟨hm, hq⟩
  obtain ⟨va, vc, rfl, _⟩ := h.reads
  obtain ⟨ua, uc, rfl, _⟩ := hu.reads
  clear h hu hl hl2 hSn hRn hm hq
  generalize S.length = n0 at *
  generalize R.length = k0 at *
  obtain ⟨d, hd⟩ : ∃ d, decide (Turn (coreOf S m) (coreOf R q)) = d := ⟨_, rfl⟩
  have HD : Hid (decide (Turn (coreOf S m) (coreOf R q)) = d) := hd
  rw [hd]
  clear hd
  go_enter Tryd.func38, Tryd.ntmps38
  go_wp2_with fail
  refine HC1.mono ?_
  rintro e w1 ⟨m', a, y1, hcut, rfl, ha, _, g1, _, _⟩
  obtain rfl := hcut.uniq HCut.out.1
  have G1 : Hid (w.grownBy w1 none) := g1
  have HA1 : Hid (Ints w1 a (coreOf S m')) := ha
  clear hcut ha g1 HC1
  go_wp2_with fail
  refine (HC2.out w1 G1.out).mono ?_
  rintro e w2 ⟨q', b, y2, hcut, rfl, hb, _, g2, _, _⟩
  obtain rfl := hcut.uniq HCut.out.2
  have G2 : Hid (w.grownBy w2 none) := grownBy_trans G1.out g2
  have HA : Hid (Ints w2 a (coreOf S m')) := HA1.out.kept g2
  have HB : Hid (Ints w2 b (coreOf R q')) := hb
  clear hcut hb g2 HC2 HA1 HCut
  generalize coreOf S m' = A at *
  generalize coreOf R q' = C at *
  have hA := HA.out
  have hB := HB.out
  obtain ⟨aa, ac, rfl, _⟩ := hA.reads
  obtain ⟨ba, bc, rfl, _⟩ := hB.reads
  clear hA hB
  obtain ⟨n, hn⟩ : ∃ n, A.length = n := ⟨_, rfl⟩
  obtain ⟨k, hk⟩ : ∃ k, C.length = k := ⟨_, rfl⟩
  have HN : Unit → A.length = n ∧ C.length = k := fun _ => ⟨hn, hk⟩
  rw [hn] at HA HCl ⊢
  rw [hk] at HB HCl ⊢
  have hnI : (n : Int) ≤ 4096 := by have := HCl.out.1; omega
  have hkI : (k : Int) ≤ 4096 := by have := HCl.out.2; omega
  clear hn hk
  by_cases hnk : n = k
  · subst hnk
    go_wp2_with fail
    go_loopw [9] (fun s wr => ∃ (i : Nat), i ≤ n ∧ s = .int .i64 (i : Int) ∧ (∀ j, j < i → A.drop j ++ A.take j ≠ C) ∧ w2.grownBy wr none) (fun s _ => match s with | .int _ i => n - i.toNat | _ => 0)
    case atStart => exact ⟨0, by omega, rfl, fun j hj => by omega, grow0 _⟩
    case round =>
      obtain ⟨i, hi, rfl, hz, hG⟩ := hrel
      have HZ : Hid (∀ j, j < i → A.drop j ++ A.take j ≠ C) := hz
      have HG : Hid (w2.grownBy wr none) := hG
      clear hz hG
      by_cases hlt : i < n
      · obtain ⟨B, off, rfl, hnc⟩ : ∃ B off, aa = some ⟨B, off, none⟩ ∧ n ≤ ac := by
          rcases HA.out with ⟨_, e⟩ | ⟨B, off, c, e, hc, _⟩ | ⟨e, _⟩
          · have := (HN ()).1; rw [e] at this; simp at this; omega
          · obtain ⟨e1, e2, e3⟩ := Value.slice.inj e
            exact ⟨B, off, e1, by rw [e2, e3]; exact hc⟩
          · have := (HN ()).1; rw [e] at this; simp at this; omega
        have hltI : (i : Int) < n := by omega
        have hncI : (n : Int) ≤ ac := by omega
        have hiac : (i : Int) ≤ ac := by omega
        have hi0 : (0 : Int) ≤ i := by omega
        have hile : (i : Int) ≤ n := by omega
        have hac : ¬ ac = i := by omega
        have HJ : Hid (∀ w3, wr.grownBy w3 none → Calls Tryd.prog 59 #[.slice (some ⟨w3.heap.size, 0, none⟩) 2 2] (w3.alloc (.cells #[.slice (some ⟨B, off + i, none⟩) (n - i) (ac - i), .slice (some ⟨B, off, none⟩) i ac] 22)) fun e w' => ∃ v', e = .returned v' ∧ Ints w' v' (A.drop i ++ A.take i) ∧ w3.grownBy w' none) := by
          intro w3 hg
          have h1 := (HA.out.kept (grownBy_trans HG.out hg)).sub i (n - i) (ac - i) (by rw [(HN ()).1]; omega) (by omega)
          have h2 := (HA.out.kept (grownBy_trans HG.out hg)).sub 0 i ac (by rw [(HN ()).1]; omega) (by omega)
          rw [List.take_of_length_le (by rw [List.length_drop, (HN ()).1]; omega)] at h1
          rw [List.drop_zero, Nat.add_zero] at h2
          refine (rJoined_two w3 _ _ (A.drop i) (A.take i) h1 h2 (by rw [List.length_append, List.length_drop, List.length_take, (HN ()).1]; have := HCl.out.1; omega)).mono ?_
          rintro e w' ⟨v', rfl, hO, hG⟩
          exact ⟨v', rfl, hO.ints, hG⟩
        obtain ⟨t, ht⟩ : ∃ t, decide (A.drop i ++ A.take i = C) = t := ⟨_, rfl⟩
        have HSm : Hid (∀ w4 x, wr.grownBy w4 none → Ints w4 x (A.drop i ++ A.take i) → Calls Tryd.prog 25 #[x, .slice ba n bc] w4 fun e w' => e = .returned (.bool t) ∧ w4.grownBy w' none) := by
          intro w4 x hg hx
          have := rSame_any w4 x _ _ _ hx (HB.out.kept (grownBy_trans HG.out hg)) (by rw [List.length_append, List.length_drop, List.length_take, (HN ()).1]; have := HCl.out.1; omega) (by rw [(HN ()).2]; have := HCl.out.1; omega)
          rw [ht] at this
          exact this
        have HTt : Hid (decide (A.drop i ++ A.take i = C) = t) := ht
        clear ht
        cases t with
        | true =>
          have HE : Hid (d = true) := by
            show _ = _
            rw [← HD.out]
            exact decide_eq_true ⟨by rw [(HN ()).1, (HN ()).2], .inr ⟨i, by rw [(HN ()).1]; exact hlt, of_decide_eq_true HTt.out⟩⟩
          go_wp2_with fail
          go_region_held3 (fun _ => True) (trivial) (first
            | (go_at_call 59; refine (HJ.out _ (grow_drew (World.grownBy.refl _ _))).mono ?_; rintro e w4 ⟨x, rfl, hx, g4⟩; have HX : Hid (Ints w4 x (A.drop i ++ A.take i)) := hx; have G4 : Hid (wr.grownBy w4 none) := grownBy_undrew g4; clear hx g4)
            | (go_at_call 25; refine (HSm.out _ _ G4.out HX.out).mono ?_; rintro e w5 ⟨rfl, g5⟩; have G5 : Hid (wr.grownBy w5 none) := grownBy_trans G4.out g5; clear g5)
            | fail)
          all_goals (
            go_wp2_with fail
            go_ret
            exact ⟨ret_bool HE.out.symm, grownBy_trans G2.out (grownBy_trans HG.out G5.out)⟩)
        | false =>
          have HZ2 : Hid (∀ j, j < i + 1 → A.drop j ++ A.take j ≠ C) := by
            intro j hj
            rcases Nat.lt_or_ge j i with h | h
            · exact HZ.out j h
            · obtain rfl : j = i := by omega
              exact of_decide_eq_false HTt.out
          go_wp2_with fail
          go_region_held3 (fun _ => True) (trivial) (first
            | (go_at_call 59; refine (HJ.out _ (grow_drew (World.grownBy.refl _ _))).mono ?_; rintro e w4 ⟨x, rfl, hx, g4⟩; have HX : Hid (Ints w4 x (A.drop i ++ A.take i)) := hx; have G4 : Hid (wr.grownBy w4 none) := grownBy_undrew g4; clear hx g4)
            | (go_at_call 25; refine (HSm.out _ _ G4.out HX.out).mono ?_; rintro e w5 ⟨rfl, g5⟩; have G5 : Hid (wr.grownBy w5 none) := grownBy_trans G4.out g5; clear g5)
            | fail)
          all_goals (
            go_wp2_with fail
            go_roundw
            case rel => exact ⟨i + 1, by omega, num_eq (by omega), HZ2.out, grownBy_trans HG.out G5.out⟩
            case measure => simp; omega)
      · have e : i = n := by omega
        subst e
        have HE : Hid (d = decide (i = 0)) := by
          show _ = _
          rw [← HD.out, decide_eq_decide]
          constructor
          · rintro ⟨_, e | ⟨j, hj, he⟩⟩
            · rw [(HN ()).1] at e; exact e
            · rw [(HN ()).1] at hj
              exact absurd he (HZ.out j hj)
          · intro e
            exact ⟨by rw [(HN ()).1, (HN ()).2], .inl (by rw [(HN ()).1]; exact e)⟩
        have HE2 : Hid (((i : Int) == 0) = d) := by
          show _ = _
          rw [HE.out]
          by_cases h0 : i = 0
          · subst h0; rfl
          · rw [decide_eq_false h0]
            simpa using (show (i : Int) ≠ 0 by omega)
        go_wp2_with fail
        go_ret
        exact ⟨ret_bool HE2.out, grownBy_trans G2.out HG.out⟩
  · have hnkb : ((n : Int) != k) = true := by simpa using (show (n : Int) ≠ k by omega)
    have HE : Hid (d = false) := by
      show _ = _
      rw [← HD.out]
      refine decide_eq_false fun h => hnk ?_
      have := h.1
      rwa [(HN ()).1, (HN ()).2] at this
    go_wp2_with fail
    go_ret
    exact ⟨ret_bool HE.out.symm, G2.out⟩
end Go.Proofs.YthldipnfaiobaaaDoor
