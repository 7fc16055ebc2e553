/-
  The program's Put.
-/
import Derived.Test.YthldipnfaiobaaaDoorPub
import Derived.Test.YthldipnfaiobaaaDoorCnj
import Derived.Test.YthldipnfaiobaaaDoorCmt
import Derived.Test.YthldipnfaiobaaaDoorRpo
namespace Go.Proofs.YthldipnfaiobaaaDoor
open Go.RowKit Go.Lib Go.Sort
set_option linter.unusedVariables false
set_option linter.unusedSimpArgs false
set_option maxHeartbeats 3200000
set_option maxRecDepth 1000000
theorem all_of_each {L : List Int} {n : Nat} (h : ∀ j, j < L.length → hasI n (L[j]?.getD 0) = true) : L.all (hasI n) = true := by
  rw [List.all_eq_true]
  intro x hx
  obtain ⟨j, hj, rfl⟩ := List.mem_iff_getElem.1 hx
  have := h j hj
  rwa [List.getElem?_eq_getElem hj] at this
theorem all_not {L : List Int} {n j : Nat} (hj : j < L.length) (h : hasI n (L[j]?.getD 0) = false) : L.all (hasI n) = false := by
  rw [List.all_eq_false]
  refine ⟨L[j], List.getElem_mem hj, ?_⟩
  rw [List.getElem?_eq_getElem hj] at h
  simpa using h
theorem put_len {L : List Int} {Ls : List (List Int)} (hl : L.length ≤ 4096) (h : ∀ M ∈ Ls, M.any noL = false ∧ M.length ≤ 4096) : (L.map (img Ls)).flatten.length ≤ 1000000000 := by
  have h1 := flat_len (Ls := L.map (img Ls)) (fun M hM => by
    obtain ⟨z, _, rfl⟩ := List.mem_map.1 hM
    exact (img_no h z).2)
  rw [List.length_map] at h1
  have : L.length * 4096 ≤ 4096 * 4096 := Nat.mul_le_mul hl (Nat.le_refl _)
  omega
theorem put_top (w : World) (v s : Value) (L : List Int) (Ls : List (List Int)) (h : Ints w v L) (hs : IntsL w s Ls) (hl : L.length ≤ 1000000) (hls : Ls.length ≤ 1000) (hl2 : ∀ M ∈ Ls, M.length ≤ 1000000000000) :
    Calls Tryd.prog 41 #[v, s] w fun e w' => Told1 w e w' (putE L Ls) (putL L Ls) := by
  have HV : Hid (Ints w v L) := h
  have HS : Hid (IntsL w s Ls) := hs
  have HLs : Hid (Ls.length ≤ 1000000) := by show _ ≤ _; omega
  have HC : Hid (∀ w1 x, IntsL w1 x (L :: Ls) → Calls Tryd.prog 49 #[x] w1 fun e w' => e = .returned (.int .i64 (chk (L :: Ls))) ∧ w' = w1) := fun w1 x hx => checked_any w1 x _ hx (by simp; omega) (fun M hM => by
    rcases List.mem_cons.1 hM with rfl | hM
    · omega
    · exact hl2 M hM)
  have HOk : Hid (chk (L :: Ls) = 0 → (L.any noL = false ∧ L.length ≤ 4096) ∧ ∀ M ∈ Ls, M.any noL = false ∧ M.length ≤ 4096) := fun h0 => ⟨chk_ok h0 L (by simp), fun M hM => chk_ok h0 M (by simp [hM])⟩
  have HPE : Hid (putE L Ls = (if chk (L :: Ls) = 0 then (if L.all (hasI Ls.length) then tldE (sh (L.map (img Ls)).flatten) else 2) else chk (L :: Ls)) ∧ putL L Ls = (if chk (L :: Ls) = 0 then (if L.all (hasI Ls.length) then tldL (sh (L.map (img Ls)).flatten) else []) else [])) := ⟨rfl, rfl⟩
  obtain ⟨va, vc, rfl, hrv⟩ := h.reads
  obtain ⟨sa, sc, rfl, _⟩ := hs.reads
  have HRv : Hid (∀ w', w.grownBy w' none → ∀ i, i < L.length → ∃ B off, va = some ⟨B, off, none⟩ ∧ w'.cell? ⟨B, off + i, none⟩ = some (.int .i64 (L[i]?.getD 0)) ∧ L.length ≤ vc) := hrv
  clear h hs hl2 hrv
  obtain ⟨r, hr⟩ : ∃ r, chk (L :: Ls) = r := ⟨_, rfl⟩
  rw [hr] at HC HOk HPE
  clear hr
  obtain ⟨k, hk⟩ : ∃ k, Ls.length = k := ⟨_, rfl⟩
  obtain ⟨n, hn⟩ : ∃ n, L.length = n := ⟨_, rfl⟩
  have HN : Unit → Ls.length = k ∧ L.length = n := fun _ => ⟨hk, hn⟩
  have hkI : (k : Int) ≤ 1000 := by omega
  have hnI : (n : Int) ≤ 1000000 := by omega
  rw [hk] at HS HPE HLs ⊢
  rw [hn] at HV HRv ⊢
  clear hk hn hl hls
  by_cases h0 : r = 0
  · subst h0
    have HO2 : Hid ((L.any noL = false ∧ L.length ≤ 4096) ∧ ∀ M ∈ Ls, M.any noL = false ∧ M.length ≤ 4096) := HOk.out rfl
    have HLn : Hid (∀ i, i < n → noL (L[i]?.getD 0) = false) := by
      intro i hi
      have hi' : i < L.length := by rw [(HN ()).2]; exact hi
      rw [List.getElem?_eq_getElem hi']
      simpa using List.any_eq_false.1 HO2.out.1.1 _ (List.getElem_mem hi')
    have HPE2 : Hid (putE L Ls = (if L.all (hasI k) then tldE (sh (L.map (img Ls)).flatten) else 2) ∧ putL L Ls = (if L.all (hasI k) then tldL (sh (L.map (img Ls)).flatten) else [])) := by
      refine ⟨?_, ?_⟩
      · rw [HPE.out.1, if_pos rfl]
      · rw [HPE.out.2, if_pos rfl]
    clear HPE HOk
    go_enter Tryd.func41, Tryd.ntmps41
    go_wp2_with (at_builtin; refine wpList_append_lit rfl _ _ rfl (.slice va n vc) (.slice sa k sc) L Ls rfl rfl HV.out HS.out (by rw [(HN ()).1]; exact HLs.out) ?_)
    intro x w1 hx hg1
    have HX : Hid (IntsL w1 x (L :: Ls)) := hx
    have HG1 : Hid (w.grownBy w1 none) := hg1
    clear hx hg1
    go_wp2_with fail
    refine (HC.out w1 x HX.out).mono ?_
    rintro e nw ⟨rfl, hw⟩
    obtain rfl := hw.symm
    clear hw
    go_wp2_with fail
    go_loopw [19] (fun t wr => ∃ (i : Nat), i ≤ n ∧ t = .int .i64 (i : Int) ∧ (∀ j, j < i → hasI k (L[j]?.getD 0) = true) ∧ w1 = wr) (fun t _ => match t with | .int _ i => n - i.toNat | _ => 0)
    case atStart => exact ⟨0, by omega, rfl, fun j hj => by omega, rfl⟩
    case round =>
      obtain ⟨i, hi, rfl, hz, rfl⟩ := hrel
      have HZ : Hid (∀ j, j < i → hasI k (L[j]?.getD 0) = true) := hz
      clear hz
      by_cases hlt : i < n
      · obtain ⟨B, off, rfl, hc, hnc⟩ := HRv.out w1 HG1.out i hlt
        obtain ⟨_, hb1, hb2⟩ := noL_no (HLn.out i hlt)
        have hltI : (i : Int) < n := by omega
        have HZn : Hid (hasI k (L[i]?.getD 0) = true → ∀ j, j < i + 1 → hasI k (L[j]?.getD 0) = true) := by
          intro e j hj
          rcases Nat.lt_or_ge j i with h | h
          · exact HZ.out j h
          · obtain rfl : j = i := by omega
            exact e
        have HNo : Hid (hasI k (L[i]?.getD 0) = false → L.all (hasI k) = false) := fun e => all_not (by rw [(HN ()).2]; exact hlt) e
        have hH : hasI k (L[i]?.getD 0) = decide (max (L[i]?.getD 0) (-(L[i]?.getD 0)) ≤ (k : Int)) := rfl
        generalize L[i]?.getD 0 = y at *
        have HSz := size_any y hb1 hb2 w1
        by_cases hy : max y (-y) ≤ (k : Int)
        · have HZ2 : Hid (∀ j, j < i + 1 → hasI k (L[j]?.getD 0) = true) := HZn.out (by rw [hH]; exact decide_eq_true hy)
          generalize max y (-y) = my at *
          clear HZn HNo hH
          go_wp2_with fail
          refine HSz.mono ?_
          rintro e nw ⟨rfl, hw⟩
          obtain rfl := hw.symm
          clear hw
          go_wp2_with fail
          go_roundw
          case rel => exact ⟨i + 1, by omega, num_eq (by omega), HZ2.out, trivial⟩
          case measure => simp; omega
        · have HA : Hid (L.all (hasI k) = false) := HNo.out (by rw [hH]; exact decide_eq_false hy)
          have hy2 : (k : Int) < max y (-y) := by omega
          generalize max y (-y) = my at *
          have hy3 : ¬ my ≤ (k : Int) := by omega
          clear HZn HNo hH hy
          go_wp2_with fail
          refine HSz.mono ?_
          rintro e nw ⟨rfl, hw⟩
          obtain rfl := hw.symm
          clear hw
          go_wp2_with fail
          go_ret2
          rw [HPE2.out.1, HPE2.out.2, HA.out]
          exact ⟨HG1.out, _, rfl, Fr.nil _ _⟩
      · have e : i = n := by omega
        subst e
        have HA : Hid (L.all (hasI k) = true) := all_of_each fun j hj => HZ.out j (by rw [← (HN ()).2]; exact hj)
        have HPu : Hid (Calls Tryd.prog 74 #[.slice va i vc, .slice sa k sc] w1 fun e w' => PdQ w1 (L.map (img Ls)).flatten L.length e w') := put_any w1 _ _ L Ls (HV.out.kept HG1.out) (HS.out.kept HG1.out) HO2.out.1.2 (by rw [(HN ()).1]; omega) (fun x hx => by simpa using List.any_eq_false.1 HO2.out.1.1 x hx) HO2.out.2 (fun x hx => by
          have := List.all_eq_true.1 HA.out x hx
          rw [(HN ()).1]
          exact of_decide_eq_true this)
        have HMl : Hid ((L.map (img Ls)).flatten.length ≤ 1000000000) := put_len HO2.out.1.2 HO2.out.2
        have HPE3 : Hid (putE L Ls = tldE (sh (L.map (img Ls)).flatten) ∧ putL L Ls = tldL (sh (L.map (img Ls)).flatten)) := by
          refine ⟨?_, ?_⟩
          · rw [HPE2.out.1, HA.out]; rfl
          · rw [HPE2.out.2, HA.out]; rfl
        generalize (L.map (img Ls)).flatten = M at *
        clear HPE2
        go_wp2_with fail
        refine HPu.out.mono ?_
        rintro e w2 hQ
        obtain ⟨x2, hx2⟩ : ∃ x2, e = .returned x2 := by
          obtain ⟨v', Ps, e', _⟩ := hQ
          exact ⟨v', e'⟩
        subst hx2
        obtain ⟨⟨ab2, k2, c2, rfl⟩, g2, hT⟩ := hQ.told (by have := HO2.out.1.2; omega) HMl.out
        have G2 : Hid (w.grownBy w2 none) := grownBy_trans HG1.out g2
        have HT : Hid (Calls Tryd.prog 62 #[.slice ab2 k2 c2] w2 fun e w' => Told1 w2 e w' (tldE (sh M)) (tldL (sh M))) := hT
        clear hQ g2 hT
        go_wp2_with fail
        refine HT.out.mono ?_
        rintro e w3 h3
        rw [← HPE3.out.1, ← HPE3.out.2] at h3
        have H3 : Hid (Told1 w e w3 (putE L Ls) (putL L Ls)) := h3.mono G2.out
        obtain ⟨_, v3, rfl, _⟩ := h3
        clear HPE3
        go_wp2_with fail
        go_ret2
        exact H3.out
  · have hb : (r != 0) = true := by simpa using h0
    have HR : Hid (r ≠ 0) := h0
    clear h0
    go_enter Tryd.func41, Tryd.ntmps41
    go_wp2_with (at_builtin; refine wpList_append_lit rfl _ _ rfl (.slice va n vc) (.slice sa k sc) L Ls rfl rfl HV.out HS.out (by rw [(HN ()).1]; exact HLs.out) ?_)
    intro x w1 hx hg1
    have HX : Hid (IntsL w1 x (L :: Ls)) := hx
    have HG1 : Hid (w.grownBy w1 none) := hg1
    clear hx hg1
    go_wp2_with fail
    refine (HC.out w1 x HX.out).mono ?_
    rintro e nw ⟨rfl, hw⟩
    obtain rfl := hw.symm
    clear hw
    go_wp2_with fail
    go_ret2
    rw [HPE.out.1, HPE.out.2, if_neg HR.out, if_neg HR.out]
    exact ⟨HG1.out, _, rfl, Fr.nil _ _⟩
end Go.Proofs.YthldipnfaiobaaaDoor
