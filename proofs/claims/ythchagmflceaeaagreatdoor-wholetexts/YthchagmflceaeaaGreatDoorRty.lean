/-
  The document's Text.
-/
import Derived.Test.YthchagmflceaeaaGreatDoorRtx
namespace Go.Proofs.YthchagmflceaeaaGreatDoor
open Go.RowKit Go.Lib Go.Sort

set_option maxHeartbeats 3200000 in
set_option maxRecDepth 1000000 in
theorem rText_pos (neg : Bool) (mag : ByteArray) (h : may neg mag = true) (h0 : mag.size ≠ 0) (w : World) :
    Calls Tryz.prog 54 #[whole neg mag] w fun e w' => ∃ s, e = .returned (.string s) ∧ TextOf (num neg mag) s ∧ w.grownBy w' none := by
  have hms := may_size h
  have he := isEmpty_of h0
  go_enter Tryz.func54, Tryz.ntmps54
  go_wp2_with fail
  refine (words_any mag hms _).mono ?_
  rintro e w1 ⟨B, L0, rfl, hB, hBk, g1, lL, rL, vL⟩
  obtain ⟨n, hn⟩ : ∃ n, val (bN mag) = n := ⟨_, rfl⟩
  have HN : Unit → val (bN mag) = n := fun _ => hn
  have HI0 : Hid (OtI (w.alloc (wObj neg mag)) w1 n (.slice (some ⟨B, 0, none⟩) L0.length L0.length) (.slice none 0 0) L0) := (by
    have hv0 := val_zero h h0
    refine ⟨[], ⟨rfl, .inl ⟨rfl, rfl⟩⟩, ⟨hBk.d4, .inr fun b m c e => ?_⟩, rL, trim_digits h lL rL vL, by omega, by simp, by rw [vL, hn]; simp [decR_nil], fun e => absurd (vL.symm.trans e) hv0, ?_, g1⟩
    · cases e
      exact ⟨hBk.lt, by simp [Value.ownBlock]⟩
    · rw [vL, List.length_nil, Nat.zero_add]
      have hlt := val_lt (bN mag) (bN_rng mag)
      rw [bN_length] at hlt
      have := bl_of_lt' hlt
      omega)
  clear hB hBk lL rL vL hn he g1
  go_wp2_with fail
  go_loopw [3, 4] (fun o l wr => (∃ a m c, o = .slice a m c) ∧ (∃ a m c, l = .slice a m c) ∧ ∃ L, OtI (w.alloc (wObj neg mag)) wr n l o L) (fun o _ _ => 9 * 131072 + 1 - (match o with | .slice _ m _ => m | _ => 0))
  case atStart => exact ⟨⟨_, _, _, rfl⟩, ⟨_, _, _, rfl⟩, L0, HI0.out⟩
  case round =>
    obtain ⟨⟨oa, om, oc, rfl⟩, ⟨la, lm, lc, rfl⟩, L, hI⟩ := hrel
    obtain ⟨O, hO, hA, rL, tL, lL, dO, hv, htop, hlen, hg⟩ := hI
    have hlm : lm = L.length := by
      obtain ⟨_, _, e⟩ := hA.1.slice
      exact (Value.slice.inj e).2.1
    have hom : om = O.length := by
      obtain ⟨_, _, e⟩ := hO.slice
      exact (Value.slice.inj e).2.1
    by_cases hl0 : lm = 0
    · subst hl0
      have hz := (trim_zero tL).2 hlm.symm
      have htp := htop hz
      rw [hz, Nat.mul_zero, Nat.add_zero] at hv
      have hA0 : WBlk wr w.heap.size (.bool neg) (.string mag) := WBlk.kept (heap_alloc_new _ _) hg (by simp)
      have hcA := hA0.c0
      have HG : Hid ((w.alloc (wObj neg mag)).grownBy wr none) := hg
      have HTX : Hid (∀ s, bN s = (O ++ (if neg then [45] else [])).reverse → TextOf (num neg mag) s) := fun s hs => text_turned dO htp (hv.trans (HN ()).symm) hs
      have HO : Hid (RowB wr (w.alloc (wObj neg mag)).heap.size (.slice oa om oc) O) := hO
      have hO9 : Unit → om = O.length ∧ O.length ≤ 9 * 131072 := fun _ => ⟨hom, by omega⟩
      have hO1 : Unit → 0 < O.length := fun _ => by
        obtain ⟨P, b, e, _⟩ := htp
        rw [e]; simp
      have hb256 : Hid (∀ x ∈ O, x < 256) := fun x hx => by have := dO x hx; unfold isDig at this; omega
      have homI : (om : Int) ≤ 1179648 := by omega
      clear hA rL tL lL dO hv htop hlen hg hlm hom hz htp hA0 HI0 hO
      cases neg
      · have HO2 : Hid (RowB wr (w.alloc (wObj false mag)).heap.size (.slice oa om oc) O) := HO.out
        have HG2 : Hid ((w.alloc (wObj false mag)).grownBy wr none) := HG.out
        have HB2 : Hid (∀ x ∈ O, x < 256) := hb256.out
        have HL : Unit → O.length = om := fun _ => by have := hO9 (); omega
        obtain ⟨rb, hra, hrc⟩ : ∃ rb, oa = some ⟨rb, 0, none⟩ ∧ om ≤ oc := by
          rcases HO2.out.cases with ⟨_, e⟩ | ⟨gb, cc, e, _, hc⟩
          · have := HL (); have := hO1 (); have := hO9 (); rw [e] at this; simp at *; omega
          · obtain ⟨e1, e2, e3⟩ := Value.slice.inj e
            exact ⟨gb, e1, by rw [e3]; have := HL (); omega⟩
        subst hra
        have hmI : ((om : Nat) : Int) ≤ 1179649 := by omega
        have hm0 : 0 < om := by have := HL (); have := hO1 (); have := hO9 (); omega
        clear homI
        generalize hPP : O = P at *
        generalize om = m at *
        generalize wr = wp at *
        have HG3 : Hid ((w.alloc (wObj false mag)).grownBy wp none) := HG2.out
        go_wp2_with fail
        go_loopw [8, 9] (fun s t wz => ∃ (i : Nat) (M : List Nat), s = .int .i64 i ∧ t = .int .i64 ((m : Int) - 1 - i) ∧ i ≤ m ∧ (i + i ≤ m + 1) ∧ Turned P M i ∧ (∀ x ∈ M, x < 256) ∧ RowB wz (w.alloc (wObj false mag)).heap.size (.slice (some ⟨rb, 0, none⟩) m oc) M ∧ (w.alloc (wObj false mag)).grownBy wz none) (fun s _ _ => m - (RowKit.intOf s).toNat)
        case atStart => exact ⟨0, P, rfl, num_eq (by omega), by omega, by omega, ⟨rfl, fun j hj => by rw [if_neg (by omega)]⟩, HB2.out, HO2.out, HG3.out⟩
        case round =>
          obtain ⟨i, M, rfl, rfl, hi, hii, hT, hM2, hR, hgz⟩ := hrel
          have HT : Hid (Turned P M i) := hT
          have HM2 : Hid (∀ x ∈ M, x < 256) := hM2
          have HRz : Hid (RowB wr (w.alloc (wObj false mag)).heap.size (.slice (some ⟨rb, 0, none⟩) m oc) M) := hR
          have HGz : Hid ((w.alloc (wObj false mag)).grownBy wr none) := hgz
          have hMl : M.length = m := hT.1.trans (HL ())
          by_cases hlt : i + i + 1 < m
          · obtain ⟨k, hk⟩ : ∃ k, m - 1 - i = k := ⟨_, rfl⟩
            have hkI : (m : Int) - 1 - i = (k : Int) := by omega
            have c1 := RowB.cell (by rw [hMl]; exact hR) i (by omega)
            have c2 := RowB.cell (by rw [hMl]; exact hR) k (by omega)
            have f1 := hR.frozen i
            have f2 := hR.frozen k
            have hik : (i : Int) < k := by omega
            have hkm : (k : Int) < m := by omega
            have hne : i ≠ k := by omega
            have x1 : M[i]?.getD 0 < 256 := by
              cases h : M[i]? with
              | none => decide
              | some x => exact hM2 x (List.mem_iff_getElem?.2 ⟨i, h⟩)
            have x2 : M[k]?.getD 0 < 256 := by
              cases h : M[k]? with
              | none => decide
              | some x => exact hM2 x (List.mem_iff_getElem?.2 ⟨k, h⟩)
            have HST : Hid (Turned P ((M.set i (M[k]?.getD 0)).set k (M[i]?.getD 0)) (i + 1)) := (by
              have h := HT.out.step (by rw [HL ()]; exact hlt)
              rw [HL (), hk] at h
              exact h)
            have HM3 : Hid (∀ x ∈ (M.set i (M[k]?.getD 0)).set k (M[i]?.getD 0), x < 256) := (by
              intro x hx
              rcases List.mem_or_eq_of_mem_set hx with h | h
              · rcases List.mem_or_eq_of_mem_set h with h | h
                · exact HM2.out x h
                · rw [h]; exact x2
              · rw [h]; exact x1)
            have HR3 : Hid (RowB ((wr.setCell ⟨rb, i, none⟩ (.int .u8 ((M[k]?.getD 0 : Nat) : Int))).setCell ⟨rb, k, none⟩ (.int .u8 ((M[i]?.getD 0 : Nat) : Int))) (w.alloc (wObj false mag)).heap.size (.slice (some ⟨rb, 0, none⟩) m oc) ((M.set i (M[k]?.getD 0)).set k (M[i]?.getD 0))) := (HRz.out.set i (M[k]?.getD 0)).set k (M[i]?.getD 0)
            have hbr := (hR.lt rfl).1
            have HG4 : Hid ((w.alloc (wObj false mag)).grownBy ((wr.setCell ⟨rb, i, none⟩ (.int .u8 ((M[k]?.getD 0 : Nat) : Int))).setCell ⟨rb, k, none⟩ (.int .u8 ((M[i]?.getD 0 : Nat) : Int))) none) := grown_set (grown_set HGz.out hbr) hbr
            clear hT hM2 hR hgz hbr
            generalize M[i]?.getD 0 = x at *
            generalize M[k]?.getD 0 = y at *
            rw [hkI]
            go_wp2_with fail
            go_roundw
            case rel => exact ⟨i + 1, _, rfl, num_eq (by omega), by omega, by omega, HST.out, HM3.out, HR3.out, HG4.out⟩
            case measure => simp [RowKit.intOf]; omega
          · have hMr := HT.out.done (by rw [HL ()]; omega)
            have hcv := conv_src (w := wr) (s := .slice (some ⟨rb, 0, none⟩) m oc) (L := ints M) (.inr ⟨rb, 0, oc, by rw [ints_length, hMl], fun j u hj => by
              have hjl : j < M.length := by
                have := (List.getElem?_eq_some_iff.1 hj).1
                simpa [ints] using this
              have hcc := RowB.cell (by rw [hMl]; exact hR) j hjl
              rw [Nat.zero_add]
              rw [hcc]
              rw [← hj]
              simp [ints, hjl]⟩)
            have HTT : Hid (TextOf (num false mag) (strOf (ints M))) := HTX.out _ (by rw [bN_strOf M hM2, hMr, ← hPP]; simp)
            have hnlt : ¬ (i : Int) < (m : Int) - 1 - i := by omega
            clear hT hM2 hR hgz hMr
            generalize strOf (ints M) = st at *
            go_wp2_with fail
            go_ret
            exact ⟨st, rfl, HTT.out, grownBy_trans (grow1 _ _) HGz.out⟩
      · have hbs2 : (w.alloc (wObj true mag)).heap.size ≤ (wr.alloc (.cells #[.int .u8 45] 5)).heap.size := Nat.le_trans HG.out.size (by simp)
        have HR1 : Hid (RowB (wr.alloc (.cells #[.int .u8 45] 5)) (w.alloc (wObj true mag)).heap.size (.slice oa om oc) O) := HO.out.kept (grow1 _ _) (by cases (Value.slice oa om oc).ownBlock <;> simp)
        go_wp2_with (at_builtin; refine wpList_append_byte rfl _ _ rfl (w.alloc (wObj true mag)).heap.size (.slice oa om oc) O 45 rfl HR1.out (by have := hO9 (); omega) hbs2 ⟨wr.heap.size, 0, none⟩ rfl (by simp) ?_)
        intro v' w4 hR' hg' ho'
        rw [show w.heap.size + 1 = (w.alloc (wObj true mag)).heap.size by simp] at hR'
        obtain ⟨ra, rc, hv'⟩ := hR'.slice
        rw [List.length_append, List.length_singleton, ← (hO9 ()).1] at hv'
        subst hv'
        have HO2 : Hid (RowB w4 (w.alloc (wObj true mag)).heap.size (.slice ra (om + 1) rc) (O ++ [45])) := hR'
        have HG2 : Hid ((w.alloc (wObj true mag)).grownBy w4 none) := grown_rowB (grownBy_trans HG.out (grow1 _ _)) HR1.out hg'
        have HB2 : Hid (∀ x ∈ O ++ [45], x < 256) := (by
          intro x hx
          rcases List.mem_append.1 hx with h | h
          · exact hb256.out x h
          · simp at h; omega)
        clear hR' hg' ho' HR1 hbs2
        have HL : Unit → (O ++ [45]).length = om + 1 := fun _ => by have := hO9 (); simp; omega
        obtain ⟨rb, hra, hrc⟩ : ∃ rb, ra = some ⟨rb, 0, none⟩ ∧ om + 1 ≤ rc := by
          rcases HO2.out.cases with ⟨_, e⟩ | ⟨gb, cc, e, _, hc⟩
          · simp at e
          · obtain ⟨e1, e2, e3⟩ := Value.slice.inj e
            exact ⟨gb, e1, by rw [e3]; have := HL (); omega⟩
        subst hra
        have hmI : ((om + 1 : Nat) : Int) ≤ 1179649 := by omega
        have hm0 : 0 < om + 1 := by have := HL (); have := hO1 (); have := hO9 (); omega
        clear homI
        generalize hPP : O ++ [45] = P at *
        generalize om + 1 = m at *
        generalize w4 = wp at *
        have HG3 : Hid ((w.alloc (wObj true mag)).grownBy wp none) := HG2.out
        go_wp2_with fail
        go_loopw [8, 9] (fun s t wz => ∃ (i : Nat) (M : List Nat), s = .int .i64 i ∧ t = .int .i64 ((m : Int) - 1 - i) ∧ i ≤ m ∧ (i + i ≤ m + 1) ∧ Turned P M i ∧ (∀ x ∈ M, x < 256) ∧ RowB wz (w.alloc (wObj true mag)).heap.size (.slice (some ⟨rb, 0, none⟩) m rc) M ∧ (w.alloc (wObj true mag)).grownBy wz none) (fun s _ _ => m - (RowKit.intOf s).toNat)
        case atStart => exact ⟨0, P, rfl, num_eq (by omega), by omega, by omega, ⟨rfl, fun j hj => by rw [if_neg (by omega)]⟩, HB2.out, HO2.out, HG3.out⟩
        case round =>
          obtain ⟨i, M, rfl, rfl, hi, hii, hT, hM2, hR, hgz⟩ := hrel
          have HT : Hid (Turned P M i) := hT
          have HM2 : Hid (∀ x ∈ M, x < 256) := hM2
          have HRz : Hid (RowB wr (w.alloc (wObj true mag)).heap.size (.slice (some ⟨rb, 0, none⟩) m rc) M) := hR
          have HGz : Hid ((w.alloc (wObj true mag)).grownBy wr none) := hgz
          have hMl : M.length = m := hT.1.trans (HL ())
          by_cases hlt : i + i + 1 < m
          · obtain ⟨k, hk⟩ : ∃ k, m - 1 - i = k := ⟨_, rfl⟩
            have hkI : (m : Int) - 1 - i = (k : Int) := by omega
            have c1 := RowB.cell (by rw [hMl]; exact hR) i (by omega)
            have c2 := RowB.cell (by rw [hMl]; exact hR) k (by omega)
            have f1 := hR.frozen i
            have f2 := hR.frozen k
            have hik : (i : Int) < k := by omega
            have hkm : (k : Int) < m := by omega
            have hne : i ≠ k := by omega
            have x1 : M[i]?.getD 0 < 256 := by
              cases h : M[i]? with
              | none => decide
              | some x => exact hM2 x (List.mem_iff_getElem?.2 ⟨i, h⟩)
            have x2 : M[k]?.getD 0 < 256 := by
              cases h : M[k]? with
              | none => decide
              | some x => exact hM2 x (List.mem_iff_getElem?.2 ⟨k, h⟩)
            have HST : Hid (Turned P ((M.set i (M[k]?.getD 0)).set k (M[i]?.getD 0)) (i + 1)) := (by
              have h := HT.out.step (by rw [HL ()]; exact hlt)
              rw [HL (), hk] at h
              exact h)
            have HM3 : Hid (∀ x ∈ (M.set i (M[k]?.getD 0)).set k (M[i]?.getD 0), x < 256) := (by
              intro x hx
              rcases List.mem_or_eq_of_mem_set hx with h | h
              · rcases List.mem_or_eq_of_mem_set h with h | h
                · exact HM2.out x h
                · rw [h]; exact x2
              · rw [h]; exact x1)
            have HR3 : Hid (RowB ((wr.setCell ⟨rb, i, none⟩ (.int .u8 ((M[k]?.getD 0 : Nat) : Int))).setCell ⟨rb, k, none⟩ (.int .u8 ((M[i]?.getD 0 : Nat) : Int))) (w.alloc (wObj true mag)).heap.size (.slice (some ⟨rb, 0, none⟩) m rc) ((M.set i (M[k]?.getD 0)).set k (M[i]?.getD 0))) := (HRz.out.set i (M[k]?.getD 0)).set k (M[i]?.getD 0)
            have hbr := (hR.lt rfl).1
            have HG4 : Hid ((w.alloc (wObj true mag)).grownBy ((wr.setCell ⟨rb, i, none⟩ (.int .u8 ((M[k]?.getD 0 : Nat) : Int))).setCell ⟨rb, k, none⟩ (.int .u8 ((M[i]?.getD 0 : Nat) : Int))) none) := grown_set (grown_set HGz.out hbr) hbr
            clear hT hM2 hR hgz hbr
            generalize M[i]?.getD 0 = x at *
            generalize M[k]?.getD 0 = y at *
            rw [hkI]
            go_wp2_with fail
            go_roundw
            case rel => exact ⟨i + 1, _, rfl, num_eq (by omega), by omega, by omega, HST.out, HM3.out, HR3.out, HG4.out⟩
            case measure => simp [RowKit.intOf]; omega
          · have hMr := HT.out.done (by rw [HL ()]; omega)
            have hcv := conv_src (w := wr) (s := .slice (some ⟨rb, 0, none⟩) m rc) (L := ints M) (.inr ⟨rb, 0, rc, by rw [ints_length, hMl], fun j u hj => by
              have hjl : j < M.length := by
                have := (List.getElem?_eq_some_iff.1 hj).1
                simpa [ints] using this
              have hcc := RowB.cell (by rw [hMl]; exact hR) j hjl
              rw [Nat.zero_add]
              rw [hcc]
              rw [← hj]
              simp [ints, hjl]⟩)
            have HTT : Hid (TextOf (num true mag) (strOf (ints M))) := HTX.out _ (by rw [bN_strOf M hM2, hMr, ← hPP]; simp)
            have hnlt : ¬ (i : Int) < (m : Int) - 1 - i := by omega
            clear hT hM2 hR hgz hMr
            generalize strOf (ints M) = st at *
            go_wp2_with fail
            go_ret
            exact ⟨st, rfl, HTT.out, grownBy_trans (grow1 _ _) HGz.out⟩
    · have hL0 : 0 < nv B32 L := by
        rcases Nat.eq_zero_or_pos (nv B32 L) with e | e
        · exact absurd ((trim_zero tL).1 e) (by omega)
        · exact e
      have hlI0 : (0 : Int) < lm := by omega
      have hlI : (lm : Int) ≤ 4096 := by omega
      have hsm := small_div wr _ L B9 hA.1 rL (by omega) (by decide) (by decide)
      have HSM : Hid (Calls Tryz.prog 102 #[.slice la lm lc, .int .u64 1000000000] wr fun e w' => ∃ v K, e = .returned (.tuple #[v, .int .u64 ((nv B32 L % B9 : Nat) : Int)]) ∧ D4 w' v K ∧ (∀ x ∈ K, x < B32) ∧ nv B32 K = nv B32 L / B9 ∧ K.length ≤ L.length ∧ Trim K ∧ (∃ g, v.ownBlock = some g ∧ wr.heap.size ≤ g ∧ g < w'.heap.size) ∧ wr.grownBy w' none) := hsm
      have HALL : Hid (RowB wr (w.alloc (wObj neg mag)).heap.size (.slice oa om oc) O ∧ L.length ≤ 4096 ∧ (∀ b ∈ O, isDig b) ∧ decR O + 10 ^ O.length * nv B32 L = n ∧ O.length + 9 * bl (nv B32 L) ≤ 9 * 131072 ∧ (w.alloc (wObj neg mag)).grownBy wr none ∧ 0 < nv B32 L) := ⟨hO, lL, dO, hv, hlen, hg, hL0⟩
      have HOM : Unit → om = O.length := fun _ => hom
      clear hO hA rL tL lL dO hv htop hlen hg hlm hom hL0 hsm hl0
      go_wp2_with fail
      refine HSM.out.mono ?_
      rintro e w2 ⟨v, K, rfl, dK, rK, vK, lK, tK, hvo, g2⟩
      have hrl : nv B32 L % B9 < 10 ^ 9 := Nat.mod_lt _ (by decide)
      have HG0 : Hid (GrI (w.alloc (wObj neg mag)) w2 n v (.slice oa om oc) K 0 (nv B32 L % B9)) := (by
        obtain ⟨a1, a2, a3, a4, a5, a6, a7⟩ := HALL.out
        obtain ⟨g, hvg, hg1, hg2⟩ := hvo
        have hb := bl_group a7
        rw [← vK] at hb
        refine ⟨O, a1.kept g2 (by cases (Value.slice oa om oc).ownBlock <;> simp), ⟨dK, .inr fun b m c e => ?_⟩, a3, by omega, by omega, by simpa using hrl, by omega, ?_, fun hz => ?_, by omega, grownBy_trans a6 g2⟩
        · rw [e] at hvg
          have hbg : b.block = g := by simpa [Value.ownBlock] using hvg
          refine ⟨by omega, fun e2 => ?_⟩
          have := (a1.lt e2.symm).2
          omega
        · rw [← a4, vK, Nat.sub_zero, Nat.add_assoc, ← Nat.mul_add]
          congr 2
          have := Nat.div_add_mod (nv B32 L) B9
          have e9 : 10 ^ 9 = B9 := by decide
          rw [e9]
          omega
        · left
          rw [vK] at hz
          have := Nat.div_add_mod (nv B32 L) B9
          rw [hz] at this
          omega)
      have HR0 : Hid (K.length = 0 → 0 < nv B32 L % B9) := (by
        intro hz
        obtain ⟨a1, a2, a3, a4, a5, a6, a7⟩ := HALL.out
        have h1 := (trim_zero tK).2 hz
        rw [vK] at h1
        have := Nat.div_add_mod (nv B32 L) B9
        rw [h1] at this
        omega)
      have HK : Hid ((∀ x ∈ K, x < B32) ∧ Trim K ∧ K.length ≤ 4096) := ⟨rK, tK, Nat.le_trans lK HALL.out.2.1⟩
      have HOM2 : Unit → om ≤ 9 * 131072 - 9 := fun _ => by
        obtain ⟨a1, a2, a3, a4, a5, a6, a7⟩ := HALL.out
        have hb := bl_group a7
        have := HOM ()
        omega
      obtain ⟨va, vc, hv⟩ := dK.slice
      subst hv
      generalize nv B32 L % B9 = r0 at *
      have hkI : (K.length : Int) ≤ 4096 := by have := HK.out.2.2; omega
      obtain ⟨km, hkm⟩ : ∃ km, K.length = km := ⟨_, rfl⟩
      have HKM : Unit → K.length = km := fun _ => hkm
      rw [hkm] at HG0 hkI HR0 ⊢
      clear dK rK vK lK tK hvo g2 HSM hkm
      go_wp2_with fail
      go_loopw [3, 6, 7] (fun o s t wz => ∃ (i r m : Nat) (a : Option Addr) (c : Nat), o = .slice a m c ∧ s = .int .u64 r ∧ t = .int .i64 i ∧ om + i = m ∧ i ≤ 9 ∧ r < 1000000000 ∧ (0 < i ∨ wz = w2 ∧ r = r0) ∧ GrI (w.alloc (wObj neg mag)) wz n (.slice va km vc) o K i r) (fun _ _ t _ => 9 - (RowKit.intOf t).toNat)
      case atStart => exact ⟨0, r0, om, oa, oc, rfl, rfl, rfl, rfl, by omega, by simpa using hrl, .inr ⟨rfl, rfl⟩, HG0.out⟩
      case round =>
        obtain ⟨i, r, m, a, c, rfl, rfl, rfl, hom, hi9, hr9, hi0, hGr⟩ := hrel
        have HGr : Hid (GrI (w.alloc (wObj neg mag)) wr n (.slice va km vc) (.slice a m c) K i r) := hGr
        have hrI : (r : Int) ≤ 999999999 := by omega
        clear hGr
        by_cases hgo : i < 9 ∧ (0 < km ∨ 0 < r)
        · have hi8 : (i : Int) ≤ 8 := by omega
          obtain ⟨Y, hY⟩ : ∃ Y, 48 + r % 10 = Y := ⟨_, rfl⟩
          have hY2 : (48 : Int) + (r : Int) % 10 = (Y : Int) := by omega
          have hYI : (Y : Int) ≤ 57 := by omega
          have hr10 : ((r / 10 : Nat) : Int) = (r : Int) / 10 := by simp
          obtain ⟨O', b1, b2, b3, b4, b5, b6, b7, b8, b9, b10, b11⟩ := HGr.out
          have hmO : m = O'.length := by
            obtain ⟨_, _, e⟩ := b1.slice
            exact (Value.slice.inj e).2.1
          have hOl : O'.length ≤ 2000000 := b4
          have hbase := b11.size
          have HR1 : Hid (RowB (wr.alloc (.cells #[.int .u8 (Y : Int)] 5)) (w.alloc (wObj neg mag)).heap.size (.slice a m c) O') := b1.kept (grow1 _ _) (by cases (Value.slice a m c).ownBlock <;> simp)
          have HST : Hid (∀ v' w', RowB w' (w.alloc (wObj neg mag)).heap.size v' (O' ++ [Y]) → (wr.alloc (.cells #[.int .u8 (Y : Int)] 5)).grownBy w' (Value.slice a m c).ownBlock → (v'.ownBlock = (Value.slice a m c).ownBlock ∨ v'.ownBlock = some (wr.heap.size + 1)) → (∃ a' c', v' = .slice a' (m + 1) c') ∧ GrI (w.alloc (wObj neg mag)) w' n (.slice va km vc) v' K (i + 1) (r / 10)) := (by
            intro v' w' hR' hg' ho'
            subst hY
            refine ⟨?_, GrI.step b1 b2 b3 hgo.1 b6 b7 b8 (by rw [HKM ()]; exact hgo.2) (trim_zero HK.out.2.1) b10 b11 hR' hg' ho'⟩
            obtain ⟨a', c', e⟩ := hR'.slice
            rw [List.length_append, List.length_singleton, ← hmO] at e
            exact ⟨a', c', e⟩)
          have hmI : (m : Int) ≤ 2000000 := by omega
          have HOL : Unit → O'.length ≤ 1000000000 := fun _ => by omega
          clear b1 b2 b3 b4 b5 b6 b7 b8 b9 b10 b11 hY hmO hOl
          have hw1 : IntKind.u8.wrap (Y : Int) = (Y : Int) := by rw [IntKind.wrap_u8]; omega
          have hbs2 : (w.alloc (wObj neg mag)).heap.size ≤ (wr.alloc (.cells #[.int .u8 (Y : Int)] 5)).heap.size := Nat.le_trans hbase (by simp)
          by_cases hk0 : 0 < km
          · have hkI0 : (0 : Int) < km := by omega
            go_wp2_with (at_builtin; refine wpList_append_byte rfl _ _ rfl (w.alloc (wObj neg mag)).heap.size (.slice a m c) O' Y rfl HR1.out (HOL ()) hbs2 ⟨wr.heap.size, 0, none⟩ rfl (by simp) ?_)
            intro v' w3 hR' hg' ho'
            rw [show w.heap.size + 1 = (w.alloc (wObj neg mag)).heap.size by simp] at hR'
            obtain ⟨⟨a', c', rfl⟩, hG'⟩ := HST.out v' w3 hR' hg' ho'
            have HG' : Hid (GrI (w.alloc (wObj neg mag)) w3 n (.slice va km vc) (.slice a' (m + 1) c') K (i + 1) (r / 10)) := hG'
            clear hR' hg' ho' hG' HST HR1
            go_wp2_with fail
            go_roundw
            case rel => exact ⟨i + 1, r / 10, m + 1, a', c', rfl, num_eq (by omega), rfl, by omega, by omega, by omega, .inl (by omega), HG'.out⟩
            case measure => simp [RowKit.intOf]; omega
          · obtain rfl : km = 0 := by omega
            have hrI0 : (0 : Int) < r := by omega
            go_wp2_with (at_builtin; refine wpList_append_byte rfl _ _ rfl (w.alloc (wObj neg mag)).heap.size (.slice a m c) O' Y rfl HR1.out (HOL ()) hbs2 ⟨wr.heap.size, 0, none⟩ rfl (by simp) ?_)
            intro v' w3 hR' hg' ho'
            rw [show w.heap.size + 1 = (w.alloc (wObj neg mag)).heap.size by simp] at hR'
            obtain ⟨⟨a', c', rfl⟩, hG'⟩ := HST.out v' w3 hR' hg' ho'
            have HG' : Hid (GrI (w.alloc (wObj neg mag)) w3 n (.slice va 0 vc) (.slice a' (m + 1) c') K (i + 1) (r / 10)) := hG'
            clear hR' hg' ho' hG' HST HR1
            go_wp2_with fail
            go_roundw
            case rel => exact ⟨i + 1, r / 10, m + 1, a', c', rfl, num_eq (by omega), rfl, by omega, by omega, by omega, .inl (by omega), HG'.out⟩
            case measure => simp [RowKit.intOf]; omega
        · have hend : i = 9 ∨ (km = 0 ∧ r = 0) := by omega
          have hOT := HGr.out.done (by rw [HKM ()]; exact hend) HK.out.1 HK.out.2.1 HK.out.2.2
          have HOT : Hid (OtI (w.alloc (wObj neg mag)) wr n (.slice va km vc) (.slice a m c) K) := hOT
          have hmb : m ≤ 9 * 131072 := by
            obtain ⟨O', b1, _, _, _, _, _, _, _, b9, _⟩ := hOT
            obtain ⟨_, _, e⟩ := b1.slice
            have := (Value.slice.inj e).2.1
            omega
          have hip : 1 ≤ i := by
            rcases hend with e | ⟨e1, e2⟩
            · omega
            · rcases hi0 with h | ⟨_, h⟩
              · exact h
              · have := HR0.out e1
                omega
          clear hOT
          by_cases hi8 : i < 9
          · have hkm0 : km = 0 := by omega
            have hr0 : r = 0 := by omega
            subst hkm0
            subst hr0
            have hi8I : (i : Int) ≤ 8 := by omega
            go_wp2_with fail
            go_roundw
            case rel => exact ⟨⟨_, _, _, rfl⟩, ⟨_, _, _, rfl⟩, K, HOT.out⟩
            case measure => simp; omega
          · obtain rfl : i = 9 := by omega
            go_wp2_with fail
            go_roundw
            case rel => exact ⟨⟨_, _, _, rfl⟩, ⟨_, _, _, rfl⟩, K, HOT.out⟩
            case measure => simp; omega

set_option maxHeartbeats 1600000 in
set_option maxRecDepth 1000000 in
theorem rText_zero (w : World) :
    Calls Tryz.prog 54 #[whole false eS] w fun e w' => ∃ s, e = .returned (.string s) ∧ TextOf (num false eS) s ∧ w.grownBy w' none := by
  have HF : Hid (TextOf (num false eS) ⟨#[48]⟩) := text_nought
  go_enter Tryz.func54, Tryz.ntmps54
  go_wp2_with fail
  go_ret
  exact ⟨_, rfl, HF.out, grow1 _ _⟩
theorem rText_any (neg : Bool) (mag : ByteArray) (h : may neg mag = true) (w : World) :
    Calls Tryz.prog 54 #[whole neg mag] w fun e w' => ∃ s, e = .returned (.string s) ∧ TextOf (num neg mag) s ∧ w.grownBy w' none := by
  by_cases h0 : mag.size = 0
  · obtain rfl := empty_of_size h0
    obtain rfl := may_empty h
    exact rText_zero w
  · exact rText_pos neg mag h h0 w
end Go.Proofs.YthchagmflceaeaaGreatDoor
