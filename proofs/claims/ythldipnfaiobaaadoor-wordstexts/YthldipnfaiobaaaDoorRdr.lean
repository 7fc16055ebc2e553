/-
  The document's Read.
-/
import Derived.Test.YthldipnfaiobaaaDoorRdp
namespace Go.Proofs.YthldipnfaiobaaaDoor
open Go.RowKit Go.Lib Go.Sort
set_option linter.unusedVariables false
set_option linter.unusedSimpArgs false
set_option maxHeartbeats 6400000
set_option maxRecDepth 1000000
theorem drop_bN (s : ByteArray) (i : Nat) (h : i < s.size) : (bN s).drop i = s[i].toNat :: (bN s).drop (i + 1) := by
  have hl : i < (bN s).length := by rw [bN_length]; exact h
  rw [List.drop_eq_getElem_cons hl]
  have := bN_at s i h
  rw [List.getElem?_eq_getElem hl] at this
  rw [Option.some.inj this]
theorem txB_is (V : List Int) (h : V ≠ []) : bN (txB V) = jnN V := by
  unfold txB
  rw [if_neg (by simpa using h)]
  simp [bN, jnN]
theorem rRead_any (s : ByteArray) (hs : s.size ≤ 20000) (w : World) :
    Calls Tryd.prog 48 #[.string s] w fun e w' => Told1 w e w' (rdE (bN s)) (rdL (bN s)) := by
  have hdot : bN s = [46] ↔ s.toList = [46] := by
    unfold bN
    rw [ByteArray.toList_eq]
    constructor
    · intro h
      have : s.data.toList.map UInt8.toNat = ([46] : List UInt8).map UInt8.toNat := h
      exact (List.map_inj_right (fun a b hab => UInt8.toNat_inj.1 hab)).1 this
    · intro h; rw [h]; rfl
  have HRE : Hid (rdE (bN s) = (if bN s = [46] then 0 else match rdV (bN s) with | some _ => 0 | none => 260) ∧ rdL (bN s) = (if bN s = [46] then [] else match rdV (bN s) with | some V => V | none => [])) := ⟨rfl, rfl⟩
  by_cases h46 : s.toList = [46]
  · have hb : (s.toList == [46]) = true := by simpa using h46
    have HR2 : Hid (rdE (bN s) = 0 ∧ rdL (bN s) = []) := by
      refine ⟨?_, ?_⟩
      · rw [HRE.out.1, if_pos (hdot.2 h46)]
      · rw [HRE.out.2, if_pos (hdot.2 h46)]
    clear HRE hdot h46
    go_enter Tryd.func48, Tryd.ntmps48
    go_wp2_with fail
    go_ret2
    rw [HR2.out.1, HR2.out.2]
    exact ⟨grow0 _, _, rfl, Fr.nil _ _⟩
  · have hb : (s.toList == [46]) = false := by simpa using h46
    have HR2 : Hid ((rdV (bN s) = none → rdE (bN s) = 260 ∧ rdL (bN s) = []) ∧ ∀ V, rdV (bN s) = some V → rdE (bN s) = 0 ∧ rdL (bN s) = V) := by
      have h1 := HRE.out
      rw [if_neg (fun e => h46 (hdot.1 e)), if_neg (fun e => h46 (hdot.1 e))] at h1
      refine ⟨fun e => ?_, fun V e => ?_⟩
      · rw [h1.1, h1.2, e]
        exact ⟨rfl, rfl⟩
      · rw [h1.1, h1.2, e]
        exact ⟨rfl, rfl⟩
    have HDr : Hid (∀ i (h : i < s.size), (bN s).drop i = s[i].toNat :: (bN s).drop (i + 1)) := drop_bN s
    have HEn : Hid ((bN s).drop s.size = []) := List.drop_eq_nil_of_le (by rw [bN_length]; exact Nat.le_refl _)
    have HTx : Hid (∀ V, V ≠ [] → (jnN V = bN s ↔ txB V = s)) := by
      intro V h0
      rw [← txB_is V h0]
      exact ⟨fun e => bN_inj e, fun e => by rw [e]⟩
    generalize rdE (bN s) = rE at *
    generalize rdL (bN s) = rL at *
    generalize bN s = S at *
    have hsI : (s.size : Int) ≤ 20000 := by omega
    have HRd : Hid (∀ i W st c, rd S st0 [] = rd (S.drop i) st W → S.drop i = c :: S.drop (i + 1) → stp st c = none → c ≠ 32 → rdV S = none) := by
      intro i W st c h1 h2 h3 h4
      unfold rdV
      rw [h1, h2]
      simp only [rd]
      rw [if_neg h4, h3]
    clear HRE hdot h46 hs
    go_enter Tryd.func48, Tryd.ntmps48
    go_wp2_with fail
    go_loopw [4, 5, 6, 7, 8] (fun x a b c t wr => ∃ (i : Nat) (W : List Int) (st : St), t = .int .i64 (i : Int) ∧ a = .bool st.1 ∧ b = .int .i64 (st.2.1 : Int) ∧ c = .bool st.2.2 ∧ Own wr w.heap.size x W ∧ w.grownBy wr none ∧ W.length ≤ i ∧ st.2.1 ≤ 1000 ∧ ((i ≤ s.size ∧ rd S st0 [] = rd (S.drop i) st W) ∨ (i = s.size + 1 ∧ rd S st0 [] = some W))) (fun _ _ _ _ t _ => match t with | .int _ i => s.size + 1 - i.toNat | _ => 0)
    case atStart => exact ⟨0, [], st0, rfl, rfl, rfl, rfl, Own.nil _ _, grow0 _, by simp, by decide, .inl ⟨by omega, rfl⟩⟩
    case round =>
      obtain ⟨i, W, ⟨ng, n, sm⟩, rfl, rfl, rfl, rfl, hO, hG, hWi, hn, hR⟩ := hrel
      have HO : Hid (Own wr w.heap.size u4 W) := hO
      have HG : Hid (w.grownBy wr none) := hG
      obtain ⟨ob, oc, rfl⟩ := hO.form
      obtain ⟨wl, hwl⟩ : ∃ wl, W.length = wl := ⟨_, rfl⟩
      have HWl : Unit → W.length = wl := fun _ => hwl
      rw [hwl] at HO hWi ⊢
      have hnI : (n : Int) ≤ 1000 := by simp at hn; omega
      clear hO hG hwl hn
      simp only at hR ⊢
      rcases hR with ⟨hi, hR⟩ | ⟨hi, hR⟩
      · have HR : Hid (rd S st0 [] = rd (S.drop i) (ng, n, sm) W) := hR
        have hiI : (i : Int) ≤ s.size := by omega
        clear hR
        by_cases hend : i = s.size
        · have hendb : ((i : Int) == s.size) = true := by simpa using (show (i : Int) = s.size by omega)
          have HSd : Hid (S.drop i = []) := by rw [hend]; exact HEn.out
          cases ng with
          | true =>
            have HNEXT : Hid ((i + 1 ≤ s.size ∧ rd S st0 [] = rd (S.drop (i + 1)) st0 (W ++ [-(n : Int)])) ∨ (i + 1 = s.size + 1 ∧ rd S st0 [] = some (W ++ [-(n : Int)]))) := .inr ⟨by omega, by rw [HR.out, HSd.out]; rfl⟩
            clear HR
            go_wp2_with (at_builtin; refine wpList_append_int rfl _ _ rfl w.heap.size (.slice ob wl oc) W (-(n : Int)) rfl (HO.out.kept0 (grow1 _ _)) (by have := HWl (); omega) (by have := HG.out.size; simp; omega) _ rfl (by simp) ?_)
            intro v' w' hO' hg' _
            have HO' : Hid (Own w' w.heap.size v' (W ++ [-(n : Int)])) := hO'
            have HG' : Hid (w.grownBy w' none) := grownBy_own (grownBy_trans HG.out (grow1 _ _)) (HO.out.kept0 (grow1 _ _)) hg'
            clear hO' hg'
            go_wp2_with fail
            go_roundw
            case rel => exact ⟨i + 1, W ++ [-(n : Int)], st0, num_eq (by omega), rfl, rfl, rfl, HO'.out, HG'.out, by simp; have := HWl (); omega, by decide, HNEXT.out⟩
            case measure => simp; omega
          | false =>
            have HNEXT : Hid ((i + 1 ≤ s.size ∧ rd S st0 [] = rd (S.drop (i + 1)) st0 (W ++ [(n : Int)])) ∨ (i + 1 = s.size + 1 ∧ rd S st0 [] = some (W ++ [(n : Int)]))) := .inr ⟨by omega, by rw [HR.out, HSd.out]; rfl⟩
            clear HR
            go_wp2_with (at_builtin; refine wpList_append_int rfl _ _ rfl w.heap.size (.slice ob wl oc) W ((n : Int)) rfl (HO.out.kept0 (grow1 _ _)) (by have := HWl (); omega) (by have := HG.out.size; simp; omega) _ rfl (by simp) ?_)
            intro v' w' hO' hg' _
            have HO' : Hid (Own w' w.heap.size v' (W ++ [(n : Int)])) := hO'
            have HG' : Hid (w.grownBy w' none) := grownBy_own (grownBy_trans HG.out (grow1 _ _)) (HO.out.kept0 (grow1 _ _)) hg'
            clear hO' hg'
            go_wp2_with fail
            go_roundw
            case rel => exact ⟨i + 1, W ++ [(n : Int)], st0, num_eq (by omega), rfl, rfl, rfl, HO'.out, HG'.out, by simp; have := HWl (); omega, by decide, HNEXT.out⟩
            case measure => simp; omega
        · have hlt : i < s.size := by omega
          have hltI : (i : Int) < s.size := by omega
          have hendb : ((i : Int) == s.size) = false := by simpa using (show ¬ (i : Int) = s.size by omega)
          have HSd : Hid (S.drop i = s[i].toNat :: S.drop (i + 1)) := HDr.out i hlt
          have hc256 := s[i].toNat_lt
          obtain ⟨c, hc⟩ : ∃ c, s[i].toNat = c := ⟨_, rfl⟩
          rw [hc] at HSd hc256
          have hcI : ((s[i].toNat : Nat) : Int) = (c : Int) := by omega
          have hc255 : (c : Int) ≤ 255 := by omega
          clear hc
          by_cases h32 : c = 32
          · subst h32
            cases ng with
            | true =>
              have HNEXT : Hid ((i + 1 ≤ s.size ∧ rd S st0 [] = rd (S.drop (i + 1)) st0 (W ++ [-(n : Int)])) ∨ (i + 1 = s.size + 1 ∧ rd S st0 [] = some (W ++ [-(n : Int)]))) := .inl ⟨by omega, by rw [HR.out, HSd.out]; rfl⟩
              clear HR
              go_wp2_with (at_builtin; refine wpList_append_int rfl _ _ rfl w.heap.size (.slice ob wl oc) W (-(n : Int)) rfl (HO.out.kept0 (grow1 _ _)) (by have := HWl (); omega) (by have := HG.out.size; simp; omega) _ rfl (by simp) ?_)
              intro v' w' hO' hg' _
              have HO' : Hid (Own w' w.heap.size v' (W ++ [-(n : Int)])) := hO'
              have HG' : Hid (w.grownBy w' none) := grownBy_own (grownBy_trans HG.out (grow1 _ _)) (HO.out.kept0 (grow1 _ _)) hg'
              clear hO' hg'
              go_wp2_with fail
              go_roundw
              case rel => exact ⟨i + 1, W ++ [-(n : Int)], st0, num_eq (by omega), rfl, rfl, rfl, HO'.out, HG'.out, by simp; have := HWl (); omega, by decide, HNEXT.out⟩
              case measure => simp; omega
            | false =>
              have HNEXT : Hid ((i + 1 ≤ s.size ∧ rd S st0 [] = rd (S.drop (i + 1)) st0 (W ++ [(n : Int)])) ∨ (i + 1 = s.size + 1 ∧ rd S st0 [] = some (W ++ [(n : Int)]))) := .inl ⟨by omega, by rw [HR.out, HSd.out]; rfl⟩
              clear HR
              go_wp2_with (at_builtin; refine wpList_append_int rfl _ _ rfl w.heap.size (.slice ob wl oc) W ((n : Int)) rfl (HO.out.kept0 (grow1 _ _)) (by have := HWl (); omega) (by have := HG.out.size; simp; omega) _ rfl (by simp) ?_)
              intro v' w' hO' hg' _
              have HO' : Hid (Own w' w.heap.size v' (W ++ [(n : Int)])) := hO'
              have HG' : Hid (w.grownBy w' none) := grownBy_own (grownBy_trans HG.out (grow1 _ _)) (HO.out.kept0 (grow1 _ _)) hg'
              clear hO' hg'
              go_wp2_with fail
              go_roundw
              case rel => exact ⟨i + 1, W ++ [(n : Int)], st0, num_eq (by omega), rfl, rfl, rfl, HO'.out, HG'.out, by simp; have := HWl (); omega, by decide, HNEXT.out⟩
              case measure => simp; omega
          · have hb32 : ((c : Int) == 32) = false := by simpa using (show ¬ (c : Int) = 32 by omega)
            by_cases h45 : c = 45
            · have hb45 : ((c : Int) == 45) = true := by simpa using (show (c : Int) = 45 by omega)
              have hc48 : (c : Int) < 48 := by omega
              cases sm with
              | true =>
                have HV : Hid (rdV S = none) := HRd.out i W _ c HR.out HSd.out (by unfold stp; rw [if_neg (by simp), if_pos (by omega)]) h32
                go_wp2_with fail
                go_ret2
                rw [(HR2.out.1 HV.out).1, (HR2.out.1 HV.out).2]
                exact ⟨HG.out, _, rfl, Fr.nil _ _⟩
              | false =>
                cases ng with
                | true =>
                  have HV : Hid (rdV S = none) := HRd.out i W _ c HR.out HSd.out (by unfold stp; rw [if_neg (by simp), if_pos (by omega)]) h32
                  go_wp2_with fail
                  go_ret2
                  rw [(HR2.out.1 HV.out).1, (HR2.out.1 HV.out).2]
                  exact ⟨HG.out, _, rfl, Fr.nil _ _⟩
                | false =>
                  have HN : Hid (rd S st0 [] = rd (S.drop (i + 1)) (true, n, false) W) := by
                    show _ = _
                    rw [HR.out, HSd.out]
                    simp only [rd]
                    rw [if_neg h32]
                    unfold stp
                    rw [if_pos (by simp [h45])]
                  go_wp2_with fail
                  go_roundw
                  case rel => exact ⟨i + 1, W, (true, n, false), num_eq (by omega), rfl, rfl, rfl, HO.out, HG.out, by have := HWl (); omega, by simp; omega, .inl ⟨by omega, HN.out⟩⟩
                  case measure => simp; omega
            · have hb45 : ((c : Int) == 45) = false := by simpa using (show ¬ (c : Int) = 45 by omega)
              by_cases hlow : c < 48
              · have hc48 : (c : Int) < 48 := by omega
                have HV : Hid (rdV S = none) := HRd.out i W _ c HR.out HSd.out (by unfold stp; rw [if_neg (by simp [h45]), if_pos (by omega)]) h32
                go_wp2_with fail
                go_ret2
                rw [(HR2.out.1 HV.out).1, (HR2.out.1 HV.out).2]
                exact ⟨HG.out, _, rfl, Fr.nil _ _⟩
              · by_cases hhi : 57 < c
                · have hc57 : (57 : Int) < c := by omega
                  have hc48 : ¬ (c : Int) < 48 := by omega
                  have HV : Hid (rdV S = none) := HRd.out i W _ c HR.out HSd.out (by unfold stp; rw [if_neg (by simp [h45]), if_pos (by omega)]) h32
                  go_wp2_with fail
                  go_ret2
                  rw [(HR2.out.1 HV.out).1, (HR2.out.1 HV.out).2]
                  exact ⟨HG.out, _, rfl, Fr.nil _ _⟩
                · have hc48 : ¬ (c : Int) < 48 := by omega
                  have hc57 : ¬ (57 : Int) < c := by omega
                  obtain ⟨d, hd⟩ : ∃ d, c - 48 = d := ⟨_, rfl⟩
                  have hdI : (c : Int) - 48 = d := by omega
                  have hd9 : (d : Int) ≤ 9 := by omega
                  obtain ⟨n2, hn2⟩ : ∃ n2 : Nat, min (10 * n + d) 1000 = n2 := ⟨_, rfl⟩
                  have hn2I : min (10 * (n : Int) + (d : Int)) 1000 = (n2 : Int) := by omega
                  have hn2b : n2 ≤ 1000 := by omega
                  have HN : Hid (rd S st0 [] = rd (S.drop (i + 1)) (ng, n2, true) W) := by
                    show _ = _
                    rw [HR.out, HSd.out]
                    simp only [rd]
                    rw [if_neg h32]
                    unfold stp
                    rw [if_neg (by simp [h45]), if_neg (by omega)]
                    simp only
                    rw [hd, hn2]
                  clear hd hn2
                  go_wp2_with fail
                  go_roundw
                  case rel => exact ⟨i + 1, W, (ng, n2, true), num_eq (by omega), rfl, rfl, rfl, HO.out, HG.out, by have := HWl (); omega, by simp; omega, .inl ⟨by omega, HN.out⟩⟩
                  case measure => simp; omega
      · have HR : Hid (rd S st0 [] = some W) := hR
        have hiI : (s.size : Int) < i := by omega
        have HNe : Hid (W ≠ []) := rd_ne S st0 [] W hR
        have HWb : Hid (W.length ≤ 20001) := by show _ ≤ _; rw [HWl ()]; omega
        have HC := rCheck_any wr _ W HO.out.ints (by have := HWb.out; omega)
        clear hR
        obtain ⟨r, hr⟩ : ∃ r, chk [W] = r := ⟨_, rfl⟩
        have HCr : Hid (chk [W] = r) := hr
        rw [hr] at HC
        clear hr
        by_cases h0 : r = 0
        · subst h0
          have HLe := chk_word.1 HCr.out
          have HTt := rText_any wr _ W HO.out.ints HLe.2 HLe.1
          clear HLe
          by_cases hx : txB W = s
          · have HV : Hid (rdV S = some W) := by
              show _ = _
              unfold rdV
              rw [HR.out]
              simp only
              rw [if_pos ⟨HCr.out, (HTx.out W HNe.out).2 hx⟩]
            have hb1 : ((txB W).toList == s.toList) = true := by rw [hx]; simp
            have hb2 : ((txB W).toList != s.toList) = false := by rw [hx]; simp
            clear hx
            generalize txB W = tx at *
            go_wp2_with fail
            refine HC.mono ?_
            rintro e nw ⟨rfl, hw⟩
            obtain rfl := hw.symm
            clear hw
            go_wp2_with fail
            refine HTt.mono ?_
            rintro e w2 ⟨rfl, g2⟩
            have G2 : Hid (wr.grownBy w2 none) := g2
            clear g2
            go_wp2_with fail
            go_ret2
            rw [(HR2.out.2 W HV.out).1, (HR2.out.2 W HV.out).2]
            exact ⟨grownBy_trans HG.out G2.out, _, rfl, (HO.out.kept0 G2.out).fr⟩
          · have HV : Hid (rdV S = none) := by
              show _ = _
              unfold rdV
              rw [HR.out]
              simp only
              rw [if_neg (fun e => hx ((HTx.out W HNe.out).1 e.2))]
            have hne : ¬ (txB W).toList = s.toList := fun e => hx (bN_inj (by unfold bN; rw [← ByteArray.toList_eq, ← ByteArray.toList_eq, e]))
            have hb1 : ((txB W).toList == s.toList) = false := by simpa using hne
            have hb2 : ((txB W).toList != s.toList) = true := by simpa using hne
            clear hx hne
            generalize txB W = tx at *
            go_wp2_with fail
            refine HC.mono ?_
            rintro e nw ⟨rfl, hw⟩
            obtain rfl := hw.symm
            clear hw
            go_wp2_with fail
            refine HTt.mono ?_
            rintro e w2 ⟨rfl, g2⟩
            have G2 : Hid (wr.grownBy w2 none) := g2
            clear g2
            go_wp2_with fail
            go_ret2
            rw [(HR2.out.1 HV.out).1, (HR2.out.1 HV.out).2]
            exact ⟨grownBy_trans HG.out G2.out, _, rfl, Fr.nil _ _⟩
        · have hrb : (r != 0) = true := by simpa using h0
          have HV : Hid (rdV S = none) := by
            show _ = _
            unfold rdV
            rw [HR.out]
            simp only
            rw [if_neg (fun e => h0 (by rw [← HCr.out]; exact e.1))]
          clear h0
          go_wp2_with fail
          refine HC.mono ?_
          rintro e nw ⟨rfl, hw⟩
          obtain rfl := hw.symm
          clear hw
          go_wp2_with fail
          go_ret2
          rw [(HR2.out.1 HV.out).1, (HR2.out.1 HV.out).2]
          exact ⟨HG.out, _, rfl, Fr.nil _ _⟩
end Go.Proofs.YthldipnfaiobaaaDoor
