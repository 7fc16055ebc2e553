/-
  The document's Put.
-/
import Derived.Test.YthldipnfaiobaaaDoorPud
import Derived.Test.YthldipnfaiobaaaDoorPuc
namespace Go.Proofs.YthldipnfaiobaaaDoor
open Go.RowKit Go.Lib Go.Sort
set_option linter.unusedVariables false
set_option linter.unusedSimpArgs false
set_option maxHeartbeats 6400000
set_option maxRecDepth 1000000
theorem flat_take_le (Ms : List (List Int)) (i : Nat) : (Ms.take i).flatten.length ≤ Ms.flatten.length := by
  have := congrArg List.length (congrArg List.flatten (List.take_append_drop i Ms))
  rw [List.flatten_append, List.length_append] at this
  omega
theorem rPut_any (w : World) (v s : Value) (L : List Int) (Ls : List (List Int)) (h : Ints w v L) (hs : IntsL w s Ls) (hl : L.length ≤ 1000000) (hls : Ls.length ≤ 1000) (hl2 : ∀ M ∈ Ls, M.length ≤ 1000000000000) (hfl : (L.map (img Ls)).flatten.length ≤ 1000000) :
    Calls Tryd.prog 42 #[v, s] w fun e w' => Told1 w e w' (putE L Ls) (putL L Ls) := by
  have HV : Hid (Ints w v L) := h
  have HS : Hid (IntsL w s Ls) := hs
  have HLs : Hid (Ls.length ≤ 1000000) := by show _ ≤ _; omega
  have HC : Hid (∀ w1 x, IntsL w1 x (L :: Ls) → Calls Tryd.prog 63 #[x] w1 fun e w' => e = .returned (.int .i64 (chk (L :: Ls))) ∧ w' = w1) := fun w1 x hx => rAll_any w1 x _ hx (by simp; omega) (fun M hM => by
    rcases List.mem_cons.1 hM with rfl | hM
    · omega
    · exact hl2 M hM)
  have HOk : Hid (chk (L :: Ls) = 0 → (L.any noL = false ∧ L.length ≤ 4096) ∧ ∀ M ∈ Ls, M.any noL = false ∧ M.length ≤ 4096) := fun h0 => ⟨chk_ok h0 L (by simp), fun M hM => chk_ok h0 M (by simp [hM])⟩
  have HPE : Hid (putE L Ls = (if chk (L :: Ls) = 0 then (if L.all (hasI Ls.length) then tldE (sh (L.map (img Ls)).flatten) else 2) else chk (L :: Ls)) ∧ putL L Ls = (if chk (L :: Ls) = 0 then (if L.all (hasI Ls.length) then tldL (sh (L.map (img Ls)).flatten) else []) else [])) := ⟨rfl, rfl⟩
  have HFl : Hid ((L.map (img Ls)).flatten.length ≤ 1000000) := hfl
  obtain ⟨va, vc, rfl, hrv⟩ := h.reads
  obtain ⟨sa, sc, rfl, hrs⟩ := hs.reads
  have HRv : Hid (∀ w', w.grownBy w' none → ∀ i, i < L.length → ∃ B off, va = some ⟨B, off, none⟩ ∧ w'.cell? ⟨B, off + i, none⟩ = some (.int .i64 (L[i]?.getD 0)) ∧ L.length ≤ vc) := hrv
  have HRs : Hid (∀ w', w.grownBy w' none → ∀ i, i < Ls.length → ∃ B off u, sa = some ⟨B, off, none⟩ ∧ w'.cell? ⟨B, off + i, none⟩ = some u ∧ Ints w' u (Ls[i]?.getD []) ∧ Ls.length ≤ sc) := hrs
  clear h hs hl2 hrv hrs hfl
  obtain ⟨r, hr⟩ : ∃ r, chk (L :: Ls) = r := ⟨_, rfl⟩
  rw [hr] at HC HOk HPE
  clear hr
  obtain ⟨k, hk⟩ : ∃ k, Ls.length = k := ⟨_, rfl⟩
  obtain ⟨n, hn⟩ : ∃ n, L.length = n := ⟨_, rfl⟩
  have HN : Unit → Ls.length = k ∧ L.length = n := fun _ => ⟨hk, hn⟩
  have hkI : (k : Int) ≤ 1000 := by omega
  have hnI : (n : Int) ≤ 1000000 := by omega
  rw [hk] at HS HPE HLs HRs ⊢
  rw [hn] at HV HRv ⊢
  clear hk hn hl hls
  by_cases h0 : r = 0
  · subst h0
    have HO2 : Hid ((L.any noL = false ∧ L.length ≤ 4096) ∧ ∀ M ∈ Ls, M.any noL = false ∧ M.length ≤ 4096) := HOk.out rfl
    have HLn : Hid (∀ i, i < n → noL (L[i]?.getD 0) = false) := by
      intro i hi
      have hi' : i < L.length := by rw [(HN ()).2]; exact hi
      rw [List.getElem?_eq_getElem hi']
      simpa using List.any_eq_false.1 HO2.out.1.1 _ (List.getElem_mem hi')
    have HMn : Hid (∀ j : Nat, (Ls[j]?.getD []).any noL = false ∧ (Ls[j]?.getD []).length ≤ 4096) := by
      intro j
      rcases Nat.lt_or_ge j Ls.length with hj | hj
      · rw [List.getElem?_eq_getElem hj]
        exact HO2.out.2 _ (List.getElem_mem hj)
      · rw [List.getElem?_eq_none hj]
        simp
    have HImg : Hid (∀ k, (∀ x ∈ img Ls k, noL x = false) ∧ (img Ls k).length ≤ 4096) := img_no HO2.out.2
    have HPE2 : Hid (putE L Ls = (if L.all (hasI k) then tldE (sh (L.map (img Ls)).flatten) else 2) ∧ putL L Ls = (if L.all (hasI k) then tldL (sh (L.map (img Ls)).flatten) else [])) := by
      refine ⟨?_, ?_⟩
      · rw [HPE.out.1, if_pos rfl]
      · rw [HPE.out.2, if_pos rfl]
    clear HPE HOk
    go_enter Tryd.func42, Tryd.ntmps42
    go_wp2_with (at_builtin; refine wpList_append_lit rfl _ _ rfl (.slice va n vc) (.slice sa k sc) L Ls rfl rfl HV.out HS.out (by rw [(HN ()).1]; exact HLs.out) ?_)
    intro x w1 hx hg1
    have HX : Hid (IntsL w1 x (L :: Ls)) := hx
    have HG1 : Hid (w.grownBy w1 none) := hg1
    clear hx hg1
    go_wp2_with fail
    refine (HC.out w1 x HX.out).mono ?_
    rintro e nw ⟨rfl, hw⟩
    obtain rfl := hw.symm
    clear hw
    go_wp2_with fail
    go_loopw [7] (fun t wr => ∃ (i : Nat), i ≤ n ∧ t = .int .i64 (i : Int) ∧ (∀ j, j < i → hasI k (L[j]?.getD 0) = true) ∧ w1 = wr) (fun t _ => match t with | .int _ i => n - i.toNat | _ => 0)
    case atStart => exact ⟨0, by omega, rfl, fun j hj => by omega, rfl⟩
    case round =>
      obtain ⟨i, hi, rfl, hz, rfl⟩ := hrel
      have HZ : Hid (∀ j, j < i → hasI k (L[j]?.getD 0) = true) := hz
      clear hz
      by_cases hlt : i < n
      · obtain ⟨B, off, rfl, hc, hnc⟩ := HRv.out w1 HG1.out i hlt
        obtain ⟨_, hb1, hb2⟩ := noL_no (HLn.out i hlt)
        have hltI : (i : Int) < n := by omega
        have HZn : Hid (hasI k (L[i]?.getD 0) = true → ∀ j, j < i + 1 → hasI k (L[j]?.getD 0) = true) := by
          intro e j hj
          rcases Nat.lt_or_ge j i with h | h
          · exact HZ.out j h
          · obtain rfl : j = i := by omega
            exact e
        have HNo : Hid (hasI k (L[i]?.getD 0) = false → L.all (hasI k) = false) := fun e => all_not (by rw [(HN ()).2]; exact hlt) e
        have hH : hasI k (L[i]?.getD 0) = decide (max (L[i]?.getD 0) (-(L[i]?.getD 0)) ≤ (k : Int)) := rfl
        generalize L[i]?.getD 0 = y at *
        by_cases hy1 : (k : Int) < y
        · have HA : Hid (L.all (hasI k) = false) := HNo.out (by rw [hH]; exact decide_eq_false (by omega))
          clear HZn HNo hH
          go_wp2_with fail
          go_ret2
          rw [HPE2.out.1, HPE2.out.2, HA.out]
          exact ⟨HG1.out, _, rfl, Fr.nil _ _⟩
        · by_cases hy2 : (k : Int) < -y
          · have HA : Hid (L.all (hasI k) = false) := HNo.out (by rw [hH]; exact decide_eq_false (by omega))
            clear HZn HNo hH
            go_wp2_with fail
            go_ret2
            rw [HPE2.out.1, HPE2.out.2, HA.out]
            exact ⟨HG1.out, _, rfl, Fr.nil _ _⟩
          · have HZ2 : Hid (∀ j, j < i + 1 → hasI k (L[j]?.getD 0) = true) := HZn.out (by rw [hH]; exact decide_eq_true (by omega))
            clear HZn HNo hH
            go_wp2_with fail
            go_roundw
            case rel => exact ⟨i + 1, by omega, num_eq (by omega), HZ2.out, trivial⟩
            case measure => simp; omega
      · have e : i = n := by omega
        subst e
        have HA : Hid (L.all (hasI k) = true) := all_of_each fun j hj => HZ.out j (by rw [← (HN ()).2]; exact hj)
        have HPE3 : Hid (putE L Ls = tldE (sh (L.map (img Ls)).flatten) ∧ putL L Ls = tldL (sh (L.map (img Ls)).flatten)) := by
          refine ⟨?_, ?_⟩
          · rw [HPE2.out.1, HA.out]; rfl
          · rw [HPE2.out.2, HA.out]; rfl
        clear HPE2 HC HX hi hlt
        go_wp2_with fail
        go_loopw [8, 9] (fun s t wr => ∃ (q : Nat), q ≤ i ∧ t = .int .i64 (q : Int) ∧ Fr wr w.heap.size s (sh ((L.take q).map (img Ls)).flatten) ∧ w.grownBy wr none) (fun _ t _ => match t with | .int _ q => i - q.toNat | _ => 0)
        case atStart => exact ⟨0, by omega, rfl, Fr.nil _ _, HG1.out⟩
        case round =>
          obtain ⟨q, hq, rfl, hF, hG⟩ := hrel
          have HF : Hid (Fr wr w.heap.size u8 (sh ((L.take q).map (img Ls)).flatten)) := hF
          have HG : Hid (w.grownBy wr none) := hG
          clear hF hG
          by_cases hlt : q < i
          · obtain ⟨B, off, rfl, hc, hnc⟩ := HRv.out wr HG.out q hlt
            obtain ⟨hb0, hb1, hb2⟩ := noL_no (HLn.out q hlt)
            have hyk := of_decide_eq_true (HZ.out q hlt)
            have hlt' : q < L.length := by rw [(HN ()).2]; exact hlt
            have HT : Hid (sh (sh ((L.take q).map (img Ls)).flatten ++ img Ls (L[q]?.getD 0)) = sh ((L.take (q + 1)).map (img Ls)).flatten) := by
              show _ = _
              rw [sh_left, List.take_succ_eq_append_getElem hlt', List.map_append, List.flatten_append, List.getElem?_eq_getElem hlt']
              simp
            have HSn : Hid ((∀ x ∈ sh ((L.take q).map (img Ls)).flatten, noL x = false) ∧ (sh ((L.take q).map (img Ls)).flatten).length ≤ 1000000) := by
              refine ⟨fun x hx => ?_, ?_⟩
              · obtain ⟨l, hl, hxl⟩ := List.mem_flatten.1 (sh_mem hx)
                obtain ⟨z, _, rfl⟩ := List.mem_map.1 hl
                exact (HImg.out z).1 x hxl
              · have h1 := sh_len ((L.take q).map (img Ls)).flatten
                have h2 := flat_take_le (L.map (img Ls)) q
                rw [← List.map_take] at h2
                have := HFl.out
                omega
            have HGl : Hid (∀ w3 x, wr.grownBy w3 none → Ints w3 x (img Ls (L[q]?.getD 0)) → Calls Tryd.prog 75 #[u8, x] w3 fun e w' => ∃ v', e = .returned v' ∧ Fr w' w.heap.size v' (sh ((L.take (q + 1)).map (img Ls)).flatten) ∧ w.grownBy w' none) := by
              intro w3 x hg hx
              refine (glued_any w3 u8 x _ _ (HF.out.ints.kept hg) hx HSn.out.2 (by have := (HImg.out (L[q]?.getD 0)).2; omega) HSn.out.1 (HImg.out (L[q]?.getD 0)).1 (red_sh _) (img_red Ls _)).mono ?_
              rintro e w' ⟨v', rfl, hO, hG'⟩
              rw [HT.out] at hO
              exact ⟨v', rfl, hO.fr.mono (Nat.le_trans HG.out.size hg.size), grownBy_trans HG.out (grownBy_trans hg hG')⟩
            have HImD : Hid (∀ j : Nat, (L[q]?.getD 0 - 1 = (j : Int) → 0 < L[q]?.getD 0 → img Ls (L[q]?.getD 0) = sh (Ls[j]?.getD [])) ∧ (-(L[q]?.getD 0) - 1 = (j : Int) → ¬ 0 < L[q]?.getD 0 → img Ls (L[q]?.getD 0) = sh (inv (Ls[j]?.getD [])))) := by
              intro j
              refine ⟨fun e h0 => ?_, fun e h0 => ?_⟩
              · unfold img
                rw [if_pos h0, show (L[q]?.getD 0 - 1).toNat = j by omega]
              · unfold img
                rw [if_neg h0, show (-(L[q]?.getD 0) - 1).toNat = j by omega, sh_inv]
            have hltI : (q : Int) < i := by omega
            generalize L[q]?.getD 0 = y at *
            obtain ⟨j, hj⟩ : ∃ j : Nat, max y (-y) - 1 = (j : Int) := ⟨(max y (-y) - 1).toNat, by omega⟩
            have hjk : j < k := by omega
            have hj0 : (0 : Int) ≤ j := by omega
            have hwj : IntKind.i64.wrap (j : Int) = (j : Int) := by rw [IntKind.wrap_i64]; omega
            have hjI : (j : Int) < k := by omega
            obtain ⟨B2, off2, x, rfl, hc2, hx, hksc⟩ := HRs.out wr HG.out j hjk
            have hw1 : IntKind.i64.wrap (-y) = -y := by rw [IntKind.wrap_i64]; omega
            have HXx : Hid (∀ w3, wr.grownBy w3 none → Ints w3 x (Ls[j]?.getD [])) := fun w3 hg => hx.kept hg
            have hM1 := HMn.out j
            have HSh : Hid (∀ w3 z, Ints w3 z (Ls[j]?.getD []) → Calls Tryd.prog 22 #[z] w3 fun e w' => ∃ v', e = .returned v' ∧ Ints w' v' (sh (Ls[j]?.getD [])) ∧ w3.grownBy w' none) := fun w3 z hz => (rShort_any w3 z _ hz (by omega) hM1.1).mono (by
              rintro e w' ⟨v', rfl, hO, hG⟩
              exact ⟨v', rfl, hO.ints, hG⟩)
            have HShI : Hid (∀ w3 z, Ints w3 z (inv (Ls[j]?.getD [])) → Calls Tryd.prog 22 #[z] w3 fun e w' => ∃ v', e = .returned v' ∧ Ints w' v' (sh (inv (Ls[j]?.getD []))) ∧ w3.grownBy w' none) := fun w3 z hz => (rShort_any w3 z _ hz (by rw [inv_len]; omega) (inv_any hM1.1)).mono (by
              rintro e w' ⟨v', rfl, hO, hG⟩
              exact ⟨v', rfl, hO.ints, hG⟩)
            have HIv : Hid (∀ w3, wr.grownBy w3 none → Calls Tryd.prog 24 #[x] w3 fun e w' => ∃ v', e = .returned v' ∧ Ints w' v' (inv (Ls[j]?.getD [])) ∧ w3.grownBy w' none) := fun w3 hg => (rInverse_any w3 x _ (hx.kept hg) (by omega) hM1.1).mono (by
              rintro e w' ⟨v', rfl, hO, hG⟩
              exact ⟨v', rfl, hO.ints, hG⟩)
            have hIm := HImD.out j
            generalize Ls[j]?.getD [] = M at *
            obtain ⟨xb, xl, xc, rfl⟩ : ∃ xb xl xc, x = .slice xb xl xc := by
              obtain ⟨xb, xc, e, _⟩ := hx.reads
              exact ⟨xb, _, xc, e⟩
            obtain ⟨ob, ol, oc, rfl⟩ : ∃ ob ol oc, u8 = .slice ob ol oc := by
              obtain ⟨ob, oc, e⟩ := HF.out.form
              exact ⟨ob, _, oc, e⟩
            clear hx hM1 HT HSn HImD hyk
            by_cases hy : 0 < y
            · have hyn : ¬ y < 0 := by omega
              have hmx : max y (-y) = y := by omega
              have hw2 : IntKind.i64.wrap (y - 1) = (j : Int) := by rw [IntKind.wrap_i64]; omega
              have hj2 : y - 1 = (j : Int) := by omega
              have hIm1 := hIm.1 (by omega) hy
              rw [hIm1] at HGl
              clear hIm hIm1 hj
              go_wp2_with fail
              refine wp_region_held_drew (S := fun w' => w'.cell? ⟨B, off + q, none⟩ = some (Value.int .i64 y) ∧ w'.cell? ⟨B2, off2 + j, none⟩ = some (Value.slice xb xl xc)) (by kernel_rfl) (⟨hc, hc2⟩) (fun hHeld => ?_)
              refine wpAnyH_take (i := 0) (v := ?_) rfl (by kernel_rfl) (by kernel_rfl) (by kernel_rfl) (fun _ _ _ h => h) (Or.inl ⟨by kernel_rfl, ?_⟩) (by assumption) ?_
              rotate_left
              · (intro w hSw; (try dsimp only at hSw); go_simp; try (first | with_reducible rfl | (simp [*]; done) | (simp; omega)))
              (try simp only [Act.put, List.getElem_toArray, List.getElem_cons_succ, List.getElem_cons_zero, List.setIfInBounds_toArray, List.set_cons_zero, List.set_cons_succ])
              refine wpAnyH_take (i := 1) (v := ?_) rfl (by kernel_rfl) (by kernel_rfl) (by kernel_rfl) (fun _ _ _ h => h) (Or.inl ⟨by kernel_rfl, ?_⟩) (by assumption) ?_
              rotate_left
              · (intro w hSw; (try dsimp only at hSw); go_simp; try (first | with_reducible rfl | (simp [*]; done) | (simp; omega)))
              (try simp only [Act.put, List.getElem_toArray, List.getElem_cons_succ, List.getElem_cons_zero, List.setIfInBounds_toArray, List.set_cons_zero, List.set_cons_succ])
              refine wpAnyH_take (i := 2) (v := ?_) rfl (by kernel_rfl) (by kernel_rfl) (by kernel_rfl) (fun _ _ _ h => h) (Or.inl ⟨by kernel_rfl, ?_⟩) (by assumption) ?_
              rotate_left
              · (intro w hSw; (try dsimp only at hSw); go_simp; try (first | with_reducible rfl | (simp [*]; done) | (simp; omega)))
              (try simp only [Act.put, List.getElem_toArray, List.getElem_cons_succ, List.getElem_cons_zero, List.setIfInBounds_toArray, List.set_cons_zero, List.set_cons_succ])
              refine wpAnyH_take (i := 3) (v := ?_) rfl (by kernel_rfl) (by kernel_rfl) (by kernel_rfl) (fun _ _ _ h => h) (Or.inl ⟨by kernel_rfl, ?_⟩) (by assumption) ?_
              rotate_left
              · (intro w hSw; (try dsimp only at hSw); go_simp; try (first | with_reducible rfl | (simp [*]; done) | (simp; omega)))
              (try simp only [Act.put, List.getElem_toArray, List.getElem_cons_succ, List.getElem_cons_zero, List.setIfInBounds_toArray, List.set_cons_zero, List.set_cons_succ])
              refine wpAnyH_take (i := 4) (v := .int .i64 y) rfl (by kernel_rfl) (by kernel_rfl) (by kernel_rfl) (fun _ _ _ h => h) (Or.inl ⟨by kernel_rfl, ?_⟩) (by assumption) ?_
              · (intro w hSw; (try dsimp only at hSw); go_simp; try (first | with_reducible rfl | (simp [*]; done) | (simp; omega)))
              (try simp only [Act.put, List.getElem_toArray, List.getElem_cons_succ, List.getElem_cons_zero, List.setIfInBounds_toArray, List.set_cons_zero, List.set_cons_succ])
              refine wpAnyH_take (i := 5) (v := ?_) rfl (by kernel_rfl) (by kernel_rfl) (by kernel_rfl) (fun _ _ _ h => h) (Or.inl ⟨by kernel_rfl, ?_⟩) (by assumption) ?_
              rotate_left
              · (intro w hSw; (try dsimp only at hSw); go_simp; try (first | with_reducible rfl | (simp [*]; done) | (simp; omega)))
              (try simp only [Act.put, List.getElem_toArray, List.getElem_cons_succ, List.getElem_cons_zero, List.setIfInBounds_toArray, List.set_cons_zero, List.set_cons_succ])
              refine wpAnyH_take (i := 6) (v := ?_) rfl (by kernel_rfl) (by kernel_rfl) (by kernel_rfl) (fun _ _ _ h => h) (Or.inl ⟨by kernel_rfl, ?_⟩) (by assumption) ?_
              rotate_left
              · (intro w hSw; (try dsimp only at hSw); go_simp; try (first | with_reducible rfl | (simp [*]; done) | (simp; omega)))
              (try simp only [Act.put, List.getElem_toArray, List.getElem_cons_succ, List.getElem_cons_zero, List.setIfInBounds_toArray, List.set_cons_zero, List.set_cons_succ])
              refine wpAnyH_take (i := 7) (v := ?_) rfl (by kernel_rfl) (by kernel_rfl) (by kernel_rfl) (fun _ _ _ h => h) (Or.inl ⟨by kernel_rfl, ?_⟩) (by assumption) ?_
              rotate_left
              · (intro w hSw; (try dsimp only at hSw); go_simp; try (first | with_reducible rfl | (simp [*]; done) | (simp; omega)))
              (try simp only [Act.put, List.getElem_toArray, List.getElem_cons_succ, List.getElem_cons_zero, List.setIfInBounds_toArray, List.set_cons_zero, List.set_cons_succ])
              refine wpAnyH_take (i := 8) (v := .int .i64 y) rfl (by kernel_rfl) (by kernel_rfl) (by kernel_rfl) (fun _ _ _ h => h) (Or.inl ⟨by kernel_rfl, ?_⟩) (by assumption) ?_
              · (intro w hSw; (try dsimp only at hSw); go_simp; try (first | with_reducible rfl | (simp [*]; done) | (simp; omega)))
              (try simp only [Act.put, List.getElem_toArray, List.getElem_cons_succ, List.getElem_cons_zero, List.setIfInBounds_toArray, List.set_cons_zero, List.set_cons_succ])
              refine wpAnyH_take (i := 9) (v := .int .i64 (-y)) rfl (by kernel_rfl) (by kernel_rfl) (by kernel_rfl) (fun _ _ _ h => h) (Or.inl ⟨by kernel_rfl, ?_⟩) (by assumption) ?_
              · (intro w hSw; (try dsimp only at hSw); go_simp; try (first | with_reducible rfl | (simp [*]; done) | (simp; omega)))
              (try simp only [Act.put, List.getElem_toArray, List.getElem_cons_succ, List.getElem_cons_zero, List.setIfInBounds_toArray, List.set_cons_zero, List.set_cons_succ])
              refine wpAnyH_take (i := 10) (v := .int .i64 y) rfl (by kernel_rfl) (by kernel_rfl) (by kernel_rfl) (fun _ _ _ h => h) (Or.inl ⟨by kernel_rfl, ?_⟩) (by assumption) ?_
              · (intro w hSw; (try dsimp only at hSw); go_simp; try (first | with_reducible rfl | (simp [*]; done) | (simp; omega)))
              (try simp only [Act.put, List.getElem_toArray, List.getElem_cons_succ, List.getElem_cons_zero, List.setIfInBounds_toArray, List.set_cons_zero, List.set_cons_succ])
              refine wpAnyH_take (i := 11) (v := .int .i64 (j : Int)) rfl (by kernel_rfl) (by kernel_rfl) (by kernel_rfl) (fun _ _ _ h => h) (Or.inl ⟨by kernel_rfl, ?_⟩) (by assumption) ?_
              · (intro w hSw; (try dsimp only at hSw); go_simp; try (first | with_reducible rfl | (simp [*]; done) | (simp; omega)))
              (try simp only [Act.put, List.getElem_toArray, List.getElem_cons_succ, List.getElem_cons_zero, List.setIfInBounds_toArray, List.set_cons_zero, List.set_cons_succ])
              refine wpAnyH_take (i := 12) (v := .pointer (some ⟨B2, off2 + j, none⟩)) rfl (by kernel_rfl) (by kernel_rfl) (by kernel_rfl) (fun _ _ _ h => h) (Or.inl ⟨by kernel_rfl, ?_⟩) (by assumption) ?_
              · (intro w hSw; (try dsimp only at hSw); go_simp; try (first | with_reducible rfl | (simp [*]; done) | (simp; omega)))
              (try simp only [Act.put, List.getElem_toArray, List.getElem_cons_succ, List.getElem_cons_zero, List.setIfInBounds_toArray, List.set_cons_zero, List.set_cons_succ])
              refine wpAnyH_take (i := 13) (v := .slice xb xl xc) rfl (by kernel_rfl) (by kernel_rfl) (by kernel_rfl) (fun _ _ _ h => h) (Or.inl ⟨by kernel_rfl, ?_⟩) (by assumption) ?_
              · (intro w hSw; (try dsimp only at hSw); go_simp; try (first | with_reducible rfl | (simp [*]; done) | (simp; omega)))
              (try simp only [Act.put, List.getElem_toArray, List.getElem_cons_succ, List.getElem_cons_zero, List.setIfInBounds_toArray, List.set_cons_zero, List.set_cons_succ])
              refine wpAnyH_take (i := 14) (v := ?_) rfl (by kernel_rfl) (by kernel_rfl) (by kernel_rfl) (fun _ _ _ h => h) (Or.inl ⟨by kernel_rfl, ?_⟩) (by assumption) ?_
              rotate_left
              · (intro w hSw; (try dsimp only at hSw); go_simp; try (first | with_reducible rfl | (simp [*]; done) | (simp; omega)))
              (try simp only [Act.put, List.getElem_toArray, List.getElem_cons_succ, List.getElem_cons_zero, List.setIfInBounds_toArray, List.set_cons_zero, List.set_cons_succ])
              refine wpAnyH_done (by kernel_rfl) ?_ _
              all_goals (
                go_wp2_with fail
                refine (HSh.out _ _ (HXx.out _ (grow_drew (grow0 _)))).mono ?_
                rintro e w4 ⟨z, rfl, hz, g4⟩
                have HZ4 : Hid (Ints w4 z (sh M)) := hz
                have G4 : Hid (wr.grownBy w4 none) := grownBy_undrew g4
                clear hz g4
                go_wp2_with fail
                refine (HGl.out w4 z G4.out HZ4.out).mono ?_
                rintro e w5 ⟨o, rfl, ho, g5⟩
                have HO5 : Hid (Fr w5 w.heap.size o (sh ((L.take (q + 1)).map (img Ls)).flatten)) := ho
                have G5 : Hid (w.grownBy w5 none) := g5
                clear ho g5
                go_wp2_with fail
                go_roundw
                case rel => exact ⟨q + 1, by omega, num_eq (by omega), HO5.out, G5.out⟩
                case measure => simp; omega)
            · have hyn : y < 0 := by omega
              have hmx : max y (-y) = -y := by omega
              have hw2 : IntKind.i64.wrap (-y - 1) = (j : Int) := by rw [IntKind.wrap_i64]; omega
              have hj2 : -y - 1 = (j : Int) := by omega
              have hIm1 := hIm.2 (by omega) hy
              rw [hIm1] at HGl
              clear hIm hIm1 hj
              go_wp2_with fail
              refine wp_region_held_drew (S := fun w' => w'.cell? ⟨B, off + q, none⟩ = some (Value.int .i64 y) ∧ w'.cell? ⟨B2, off2 + j, none⟩ = some (Value.slice xb xl xc)) (by kernel_rfl) (⟨hc, hc2⟩) (fun hHeld => ?_)
              refine wpAnyH_take (i := 0) (v := ?_) rfl (by kernel_rfl) (by kernel_rfl) (by kernel_rfl) (fun _ _ _ h => h) (Or.inl ⟨by kernel_rfl, ?_⟩) (by assumption) ?_
              rotate_left
              · (intro w hSw; (try dsimp only at hSw); go_simp; try (first | with_reducible rfl | (simp [*]; done) | (simp; omega)))
              (try simp only [Act.put, List.getElem_toArray, List.getElem_cons_succ, List.getElem_cons_zero, List.setIfInBounds_toArray, List.set_cons_zero, List.set_cons_succ])
              refine wpAnyH_take (i := 1) (v := ?_) rfl (by kernel_rfl) (by kernel_rfl) (by kernel_rfl) (fun _ _ _ h => h) (Or.inl ⟨by kernel_rfl, ?_⟩) (by assumption) ?_
              rotate_left
              · (intro w hSw; (try dsimp only at hSw); go_simp; try (first | with_reducible rfl | (simp [*]; done) | (simp; omega)))
              (try simp only [Act.put, List.getElem_toArray, List.getElem_cons_succ, List.getElem_cons_zero, List.setIfInBounds_toArray, List.set_cons_zero, List.set_cons_succ])
              refine wpAnyH_take (i := 2) (v := ?_) rfl (by kernel_rfl) (by kernel_rfl) (by kernel_rfl) (fun _ _ _ h => h) (Or.inl ⟨by kernel_rfl, ?_⟩) (by assumption) ?_
              rotate_left
              · (intro w hSw; (try dsimp only at hSw); go_simp; try (first | with_reducible rfl | (simp [*]; done) | (simp; omega)))
              (try simp only [Act.put, List.getElem_toArray, List.getElem_cons_succ, List.getElem_cons_zero, List.setIfInBounds_toArray, List.set_cons_zero, List.set_cons_succ])
              refine wpAnyH_take (i := 3) (v := ?_) rfl (by kernel_rfl) (by kernel_rfl) (by kernel_rfl) (fun _ _ _ h => h) (Or.inl ⟨by kernel_rfl, ?_⟩) (by assumption) ?_
              rotate_left
              · (intro w hSw; (try dsimp only at hSw); go_simp; try (first | with_reducible rfl | (simp [*]; done) | (simp; omega)))
              (try simp only [Act.put, List.getElem_toArray, List.getElem_cons_succ, List.getElem_cons_zero, List.setIfInBounds_toArray, List.set_cons_zero, List.set_cons_succ])
              refine wpAnyH_take (i := 4) (v := .int .i64 y) rfl (by kernel_rfl) (by kernel_rfl) (by kernel_rfl) (fun _ _ _ h => h) (Or.inl ⟨by kernel_rfl, ?_⟩) (by assumption) ?_
              · (intro w hSw; (try dsimp only at hSw); go_simp; try (first | with_reducible rfl | (simp [*]; done) | (simp; omega)))
              (try simp only [Act.put, List.getElem_toArray, List.getElem_cons_succ, List.getElem_cons_zero, List.setIfInBounds_toArray, List.set_cons_zero, List.set_cons_succ])
              refine wpAnyH_take (i := 5) (v := ?_) rfl (by kernel_rfl) (by kernel_rfl) (by kernel_rfl) (fun _ _ _ h => h) (Or.inl ⟨by kernel_rfl, ?_⟩) (by assumption) ?_
              rotate_left
              · (intro w hSw; (try dsimp only at hSw); go_simp; try (first | with_reducible rfl | (simp [*]; done) | (simp; omega)))
              (try simp only [Act.put, List.getElem_toArray, List.getElem_cons_succ, List.getElem_cons_zero, List.setIfInBounds_toArray, List.set_cons_zero, List.set_cons_succ])
              refine wpAnyH_take (i := 6) (v := ?_) rfl (by kernel_rfl) (by kernel_rfl) (by kernel_rfl) (fun _ _ _ h => h) (Or.inl ⟨by kernel_rfl, ?_⟩) (by assumption) ?_
              rotate_left
              · (intro w hSw; (try dsimp only at hSw); go_simp; try (first | with_reducible rfl | (simp [*]; done) | (simp; omega)))
              (try simp only [Act.put, List.getElem_toArray, List.getElem_cons_succ, List.getElem_cons_zero, List.setIfInBounds_toArray, List.set_cons_zero, List.set_cons_succ])
              refine wpAnyH_take (i := 7) (v := ?_) rfl (by kernel_rfl) (by kernel_rfl) (by kernel_rfl) (fun _ _ _ h => h) (Or.inl ⟨by kernel_rfl, ?_⟩) (by assumption) ?_
              rotate_left
              · (intro w hSw; (try dsimp only at hSw); go_simp; try (first | with_reducible rfl | (simp [*]; done) | (simp; omega)))
              (try simp only [Act.put, List.getElem_toArray, List.getElem_cons_succ, List.getElem_cons_zero, List.setIfInBounds_toArray, List.set_cons_zero, List.set_cons_succ])
              refine wpAnyH_take (i := 8) (v := .int .i64 y) rfl (by kernel_rfl) (by kernel_rfl) (by kernel_rfl) (fun _ _ _ h => h) (Or.inl ⟨by kernel_rfl, ?_⟩) (by assumption) ?_
              · (intro w hSw; (try dsimp only at hSw); go_simp; try (first | with_reducible rfl | (simp [*]; done) | (simp; omega)))
              (try simp only [Act.put, List.getElem_toArray, List.getElem_cons_succ, List.getElem_cons_zero, List.setIfInBounds_toArray, List.set_cons_zero, List.set_cons_succ])
              refine wpAnyH_take (i := 9) (v := .int .i64 (-y)) rfl (by kernel_rfl) (by kernel_rfl) (by kernel_rfl) (fun _ _ _ h => h) (Or.inl ⟨by kernel_rfl, ?_⟩) (by assumption) ?_
              · (intro w hSw; (try dsimp only at hSw); go_simp; try (first | with_reducible rfl | (simp [*]; done) | (simp; omega)))
              (try simp only [Act.put, List.getElem_toArray, List.getElem_cons_succ, List.getElem_cons_zero, List.setIfInBounds_toArray, List.set_cons_zero, List.set_cons_succ])
              refine wpAnyH_take (i := 10) (v := .int .i64 (-y)) rfl (by kernel_rfl) (by kernel_rfl) (by kernel_rfl) (fun _ _ _ h => h) (Or.inl ⟨by kernel_rfl, ?_⟩) (by assumption) ?_
              · (intro w hSw; (try dsimp only at hSw); go_simp; try (first | with_reducible rfl | (simp [*]; done) | (simp; omega)))
              (try simp only [Act.put, List.getElem_toArray, List.getElem_cons_succ, List.getElem_cons_zero, List.setIfInBounds_toArray, List.set_cons_zero, List.set_cons_succ])
              refine wpAnyH_take (i := 11) (v := .int .i64 (j : Int)) rfl (by kernel_rfl) (by kernel_rfl) (by kernel_rfl) (fun _ _ _ h => h) (Or.inl ⟨by kernel_rfl, ?_⟩) (by assumption) ?_
              · (intro w hSw; (try dsimp only at hSw); go_simp; try (first | with_reducible rfl | (simp [*]; done) | (simp; omega)))
              (try simp only [Act.put, List.getElem_toArray, List.getElem_cons_succ, List.getElem_cons_zero, List.setIfInBounds_toArray, List.set_cons_zero, List.set_cons_succ])
              refine wpAnyH_take (i := 12) (v := .pointer (some ⟨B2, off2 + j, none⟩)) rfl (by kernel_rfl) (by kernel_rfl) (by kernel_rfl) (fun _ _ _ h => h) (Or.inl ⟨by kernel_rfl, ?_⟩) (by assumption) ?_
              · (intro w hSw; (try dsimp only at hSw); go_simp; try (first | with_reducible rfl | (simp [*]; done) | (simp; omega)))
              (try simp only [Act.put, List.getElem_toArray, List.getElem_cons_succ, List.getElem_cons_zero, List.setIfInBounds_toArray, List.set_cons_zero, List.set_cons_succ])
              refine wpAnyH_take (i := 13) (v := .slice xb xl xc) rfl (by kernel_rfl) (by kernel_rfl) (by kernel_rfl) (fun _ _ _ h => h) (Or.inl ⟨by kernel_rfl, ?_⟩) (by assumption) ?_
              · (intro w hSw; (try dsimp only at hSw); go_simp; try (first | with_reducible rfl | (simp [*]; done) | (simp; omega)))
              (try simp only [Act.put, List.getElem_toArray, List.getElem_cons_succ, List.getElem_cons_zero, List.setIfInBounds_toArray, List.set_cons_zero, List.set_cons_succ])
              refine wpAnyH_take (i := 14) (v := ?_) rfl (by kernel_rfl) (by kernel_rfl) (by kernel_rfl) (fun _ _ _ h => h) (Or.inl ⟨by kernel_rfl, ?_⟩) (by assumption) ?_
              rotate_left
              · (intro w hSw; (try dsimp only at hSw); go_simp; try (first | with_reducible rfl | (simp [*]; done) | (simp; omega)))
              (try simp only [Act.put, List.getElem_toArray, List.getElem_cons_succ, List.getElem_cons_zero, List.setIfInBounds_toArray, List.set_cons_zero, List.set_cons_succ])
              refine wpAnyH_done (by kernel_rfl) ?_ _
              all_goals (
                go_wp2_with fail
                refine (HIv.out _ (grow_drew (grow0 _))).mono ?_
                rintro e w3 ⟨z0, rfl, hz0, g3⟩
                have HZ3 : Hid (Ints w3 z0 (inv M)) := hz0
                have G3 : Hid (wr.grownBy w3 none) := grownBy_undrew g3
                clear hz0 g3
                go_wp2_with fail
                refine (HShI.out _ _ HZ3.out).mono ?_
                rintro e w4 ⟨z, rfl, hz, g4⟩
                have HZ4 : Hid (Ints w4 z (sh (inv M))) := hz
                have G4 : Hid (wr.grownBy w4 none) := grownBy_trans G3.out g4
                clear hz g4
                go_wp2_with fail
                refine (HGl.out w4 z G4.out HZ4.out).mono ?_
                rintro e w5 ⟨o, rfl, ho, g5⟩
                have HO5 : Hid (Fr w5 w.heap.size o (sh ((L.take (q + 1)).map (img Ls)).flatten)) := ho
                have G5 : Hid (w.grownBy w5 none) := g5
                clear ho g5
                go_wp2_with fail
                go_roundw
                case rel => exact ⟨q + 1, by omega, num_eq (by omega), HO5.out, G5.out⟩
                case measure => simp; omega)
          · have e : q = i := by omega
            subst e
            have HEn : Hid (Calls Tryd.prog 64 #[u8] wr fun e w' => Told1 w e w' (putE L Ls) (putL L Ls)) := by
              have hF := HF.out
              rw [← (HN ()).2, List.take_length] at hF
              refine (rEnded_any wr w.heap.size u8 _ hF (by have h1 := sh_len (L.map (img Ls)).flatten; have := HFl.out; omega)).mono ?_
              rintro e w' ⟨v', rfl, hF', rfl⟩
              rw [HPE3.out.1, HPE3.out.2]
              exact ⟨HG.out, v', rfl, hF'⟩
            go_wp2_with fail
            refine HEn.out.mono ?_
            rintro e w5 h5
            have H5 : Hid (Told1 w e w5 (putE L Ls) (putL L Ls)) := h5
            obtain ⟨_, v5, rfl, _⟩ := h5
            clear HPE3
            go_wp2_with fail
            go_ret2
            exact H5.out
  · have hb : (r != 0) = true := by simpa using h0
    have HR : Hid (r ≠ 0) := h0
    clear h0
    go_enter Tryd.func42, Tryd.ntmps42
    go_wp2_with (at_builtin; refine wpList_append_lit rfl _ _ rfl (.slice va n vc) (.slice sa k sc) L Ls rfl rfl HV.out HS.out (by rw [(HN ()).1]; exact HLs.out) ?_)
    intro x w1 hx hg1
    have HX : Hid (IntsL w1 x (L :: Ls)) := hx
    have HG1 : Hid (w.grownBy w1 none) := hg1
    clear hx hg1
    go_wp2_with fail
    refine (HC.out w1 x HX.out).mono ?_
    rintro e nw ⟨rfl, hw⟩
    obtain rfl := hw.symm
    clear hw
    go_wp2_with fail
    go_ret2
    rw [HPE.out.1, HPE.out.2, if_neg HR.out, if_neg HR.out]
    exact ⟨HG1.out, _, rfl, Fr.nil _ _⟩
end Go.Proofs.YthldipnfaiobaaaDoor
