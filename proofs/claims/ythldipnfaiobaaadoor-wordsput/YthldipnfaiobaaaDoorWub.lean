/-
  The law WordsPut of words that are gone through.
-/
import Derived.Test.YthldipnfaiobaaaDoorWua
namespace Go.Proofs.YthldipnfaiobaaaDoor
open Go.RowKit Go.Lib Go.Sort
set_option linter.unusedVariables false
set_option linter.unusedSimpArgs false
set_option maxHeartbeats 12800000
set_option maxRecDepth 1000000
theorem wput_good (w : World) (v s : Value) (L : List Int) (Ls : List (List Int)) (h : Ints w v L) (hs : IntsL w s Ls) (hl : Ls.length ≤ 70) (hm : muchN Ls ≤ 9000) (hln : L.length ≤ 9000) (h3 : L.length ≤ 200 ∨ min L.length 10000 + min L.length 10000 + min L.length 10000 ≤ 9000) (ht : Tab w) :
    Calls Tryd.prog 6 #[v, s] w fun e w' => e = .returned (.bool true) ∧ w.grownBy w' none := by
  have HT : Hid (Tab w) := ht
  have HEa : Hid (∀ M ∈ Ls, M.length ≤ 9000) := muchN_each hm
  have HEi : Hid (∀ q, q < Ls.length → (Ls[q]?.getD []).length ≤ 9000) := fun q hq => HEa.out _ (by
    rw [List.getElem?_eq_getElem hq]
    exact List.getElem_mem hq)
  have HM1 := much_any w s Ls hs (by omega) (fun M hM => by have := HEa.out M hM; omega)
  rw [decide_eq_false (by omega)] at HM1
  have HM2 : Hid (∀ w1, w.grownBy w1 none → Calls Tryd.prog 9 #[.slice (some ⟨w1.heap.size, 0, none⟩) 1 1] (w1.alloc (.cells #[v] 22)) fun e w' => e = .returned (.bool false) ∧ w' = w1.alloc (.cells #[v] 22)) := fun w1 hg => by
    have := much_any _ _ [L] (intsL1 (h.kept hg)) (by simp) (by simp; omega)
    rw [show muchN [L] = min L.length 10000 by simp [muchN], decide_eq_false (by omega)] at this
    exact this
  have HM3 : Hid (∀ w1, w.grownBy w1 none → 200 < L.length → Calls Tryd.prog 9 #[.slice (some ⟨w1.heap.size, 0, none⟩) 3 3] (w1.alloc (.cells #[v, v, v] 22)) fun e w' => e = .returned (.bool false) ∧ w' = w1.alloc (.cells #[v, v, v] 22)) := fun w1 hg h2 => by
    have := much_any _ _ [L, L, L] (intsL3 (h.kept hg) (h.kept hg) (h.kept hg)) (by simp) (by simp; omega)
    rw [show muchN [L, L, L] = min L.length 10000 + min L.length 10000 + min L.length 10000 by simp [muchN]; omega, decide_eq_false (by omega)] at this
    exact this
  have HLe1 : Hid (∀ w1, w.grownBy w1 none → Calls Tryd.prog 11 #[v] w1 fun e w' => ∃ v', e = .returned v' ∧ Lent w' w1.heap.size v' L ∧ w1.grownBy w' none) := fun w1 hg => lent_any w1 v L (h.kept hg) (by omega)
  have HLf1 : Hid (∀ w1 m base, w.grownBy w1 none → Lent w1 base m L → Calls Tryd.prog 20 #[m, v] w1 fun e w' => e = .returned (.bool true) ∧ w1.grownBy w' none) := fun w1 m base hg hm => left_any w1 m v L base hm (h.kept hg) (by omega)
  have HLent : Hid (∀ w1 u i, i < Ls.length → Ints w1 u (Ls[i]?.getD []) → Calls Tryd.prog 11 #[u] w1 fun e w' => ∃ v', e = .returned v' ∧ Lent w' w1.heap.size v' (Ls[i]?.getD []) ∧ w1.grownBy w' none) := fun w1 u i hi hu => lent_any w1 u _ hu (by have := HEi.out i hi; omega)
  have HLeft : Hid (∀ w1 u x i base, i < Ls.length → Lent w1 base u (Ls[i]?.getD []) → Ints w1 x (Ls[i]?.getD []) → Calls Tryd.prog 20 #[u, x] w1 fun e w' => e = .returned (.bool true) ∧ w1.grownBy w' none) := fun w1 u x i base hi hu hx => left_any w1 u x _ base hu hx (by have := HEi.out i hi; omega)
  have HPp : Hid (∀ w1 x y, Ints w1 x L → IntsL w1 y Ls → Calls Tryd.prog 41 #[x, y] w1 fun e w' => Told1 w1 e w' (putE L Ls) (putL L Ls)) := fun w1 x y hx hy => put_top w1 x y L Ls hx hy (by omega) (by omega) (fun M hM => by have := HEa.out M hM; omega)
  have HPr : Hid ((L.map (img Ls)).flatten.length ≤ 1000000 → ∀ w1, w.grownBy w1 none → Calls Tryd.prog 42 #[v, s] w1 fun e w' => Told1 w1 e w' (putE L Ls) (putL L Ls)) := fun hf w1 hg => rPut_any w1 v s L Ls (h.kept hg) (hs.kept hg) (by omega) (by omega) (fun M hM => by have := HEa.out M hM; omega) hf
  have HFl : Hid (∀ mo : Nat, (∀ j, j < Ls.length → (Ls[j]?.getD []).length ≤ mo) → mo * L.length ≤ 20000 → (L.map (img Ls)).flatten.length ≤ 1000000) := by
    intro mo h1 h2
    have := flat_le (Ms := L.map (img Ls)) (b := mo) (fun l hl => by
      obtain ⟨z, _, rfl⟩ := List.mem_map.1 hl
      exact img_len h1 z)
    rw [List.length_map, Nat.mul_comm] at this
    omega
  obtain ⟨va, vc, rfl, _⟩ := h.reads
  obtain ⟨sa, sc, rfl, HR⟩ := hs.reads
  have HR1 : Hid (∀ w', w.grownBy w' none → ∀ i, i < Ls.length → ∃ B off u, sa = some ⟨B, off, none⟩ ∧ w'.cell? ⟨B, off + i, none⟩ = some u ∧ Ints w' u (Ls[i]?.getD []) ∧ Ls.length ≤ sc) := HR
  have HB0 : Hid (∀ B off i, sa = some ⟨B, off, none⟩ → i < Ls.length → B < w.heap.size) := by
    intro B off i e hi
    obtain ⟨B', off', u, e2, hc, _, _⟩ := HR w (grow0 w) i hi
    rw [e] at e2
    cases e2
    exact World.block_lt_of_cell? w _ hc
  obtain ⟨k, hk⟩ : ∃ k, Ls.length = k := ⟨_, rfl⟩
  obtain ⟨n, hn⟩ : ∃ n, L.length = n := ⟨_, rfl⟩
  have HN : Unit → Ls.length = k ∧ L.length = n := fun _ => ⟨hk, hn⟩
  have hkI : (k : Int) ≤ 70 := by omega
  have hnI : (n : Int) ≤ 9000 := by omega
  rw [hk] at HM1 HLent HLeft HR1 HEi HPr HFl HB0 ⊢
  rw [hn] at HM2 HLe1 HLf1 HPr
  rw [hn] at HM3 HFl ⊢
  have HK70 : Hid (k ≤ 70 ∧ n ≤ 9000) := by show _ ∧ _; omega
  clear HR h hs hl hk hn hm ht hln h3 HEa
  go_enter Tryd.func6, Tryd.ntmps6
  go_wp2_with fail
  refine HM1.mono ?_
  rintro e w1 ⟨rfl, hw⟩
  obtain rfl := hw.symm
  clear hw HM1
  go_wp2_with fail
  refine (HM2.out w (grow0 w)).mono ?_
  rintro e w1 ⟨rfl, rfl⟩
  have G1 : Hid (w.grownBy (w.alloc (.cells #[.slice va n vc] 22)) none) := grow1 _ _
  generalize w.alloc (.cells #[.slice va n vc] 22) = w1 at *
  clear HM2
  by_cases h200 : 200 < n
  case' pos =>
    have h200I : (200 : Int) < n := by omega
    go_wp2_with fail
    refine (HM3.out w1 G1.out h200).mono ?_
    rintro e w2 ⟨rfl, rfl⟩
    have G2 : Hid (w.grownBy (w1.alloc (.cells #[.slice va n vc, .slice va n vc, .slice va n vc] 22)) none) := grownBy_trans G1.out (grow1 _ _)
    generalize w1.alloc (.cells #[.slice va n vc, .slice va n vc, .slice va n vc] 22) = w2 at *
    go_wp2_with fail
  case' neg =>
    have h200I : (n : Int) ≤ 200 := by omega
    have G2 : Hid (w.grownBy w1 none) := G1.out
    clear G1
    obtain ⟨w2, hw2⟩ : ∃ w2, w2 = w1 := ⟨_, rfl⟩
    subst hw2
    go_wp2_with fail
  all_goals (
    clear HM3
    refine (HLe1.out w2 G2.out).mono ?_
    rintro e w3 ⟨m, rfl, hm, g3⟩
    have G3 : Hid (w.grownBy w3 none) := grownBy_trans G2.out g3
    have HM : Hid (Lent w3 w2.heap.size m L) := hm
    clear hm g3 HLe1
    go_wp2_with fail
    go_loopw [6, 7, 8] (fun s t u wr => ∃ (i mo : Nat), i ≤ k ∧ u = .int .i64 (i : Int) ∧ t = .int .i64 (mo : Int) ∧ (mo ≤ 9000 ∧ ∀ j, j < i → (Ls[j]?.getD []).length ≤ mo) ∧ Rl wr w3.heap.size s (Ls.take i) ∧ w3.grownBy wr none) (fun _ _ u _ => match u with | .int _ i => k - i.toNat | _ => 0)
    case atStart => exact ⟨0, 0, by omega, rfl, rfl, ⟨by omega, fun j hj => by omega⟩, Rl.nil _ _, grow0 _⟩
    case round =>
      obtain ⟨i, mo, hi, rfl, rfl, hmo, hS, hG⟩ := hrel
      have HMo : Hid (mo ≤ 9000 ∧ ∀ j, j < i → (Ls[j]?.getD []).length ≤ mo) := hmo
      have HS : Hid (Rl wr w3.heap.size u6 (Ls.take i)) := hS
      have HG : Hid (w3.grownBy wr none) := hG
      have hmoI : (mo : Int) ≤ 9000 := by omega
      clear hS hG hmo
      by_cases hlt : i < k
      · obtain ⟨B, off, x, rfl, hc, hx, hkc⟩ := HR1.out wr (grownBy_trans G3.out HG.out) i hlt
        have HT1 : Hid (Ls.take (i + 1) = Ls.take i ++ [Ls[i]?.getD []]) := by
          have hlt' : i < Ls.length := by rw [(HN ()).1]; exact hlt
          show _ = _
          rw [List.take_succ_eq_append_getElem hlt', List.getElem?_eq_getElem hlt']
          rfl
        have HLe := HLent.out wr x i hlt hx
        have hltI : (i : Int) < k := by omega
        have HTl : Hid ((Ls.take i).length ≤ 70) := by show _ ≤ _; rw [List.length_take]; have := HK70.out.1; omega
        have hMl := HEi.out i hlt
        have HMx : Hid (∀ mo2, mo ≤ mo2 → (Ls[i]?.getD []).length ≤ mo2 → ∀ j, j < i + 1 → (Ls[j]?.getD []).length ≤ mo2) := by
          intro mo2 h1 h2 j hj
          rcases Nat.lt_or_ge j i with h | h
          · have := HMo.out.2 j h
            omega
          · obtain rfl : j = i := by omega
            exact h2
        generalize Ls[i]?.getD [] = M at *
        have HCx : Hid (∀ w', wr.grownBy w' none → w'.cell? ⟨B, off + i, none⟩ = some x) := fun w' hg => grownBy_cell hg hc (by simp)
        obtain ⟨xb, xc, rfl, _⟩ := hx.reads
        obtain ⟨ml, hml⟩ : ∃ ml, M.length = ml := ⟨_, rfl⟩
        rw [hml] at hMl HMx hc HCx HLe
        clear hx hml
        have hmlI : (ml : Int) ≤ 9000 := by omega
        obtain ⟨mo2, hmo2⟩ : ∃ mo2 : Nat, max (mo : Int) (ml : Int) = mo2 := ⟨max mo ml, by omega⟩
        have HMo2 : Hid (mo2 ≤ 9000 ∧ ∀ j, j < i + 1 → (Ls[j]?.getD []).length ≤ mo2) := ⟨by omega, HMx.out mo2 (by omega) (by omega)⟩
        clear HMx
        go_wp2_with fail
        refine HLe.mono ?_
        rintro e w4 ⟨u, rfl, hu, g4⟩
        have HU : Hid (Lent w4 wr.heap.size u M) := hu
        have G4 : Hid (wr.grownBy w4 none) := g4
        obtain ⟨gu, lu, cu, rfl⟩ : ∃ gu lu cu, u = .slice (some ⟨gu, 0, none⟩) lu cu := by
          obtain ⟨gu, cu, e, _⟩ := hu
          exact ⟨gu, _, cu, e⟩
        clear hu g4 HLe hc
        go_wp2_with (at_builtin; refine wpList_append_rl rfl _ _ rfl w3.heap.size u6 (Ls.take i) (.slice (some ⟨gu, 0, none⟩) lu cu) M rfl ((HS.out.kept0 G4.out).kept0 (grow1 _ _)) ((HU.out.mono HG.out.size).kept0 (grow1 _ _)) (by have := HTl.out; omega) (by have h1 := HG.out.size; have h2 := G4.out.size; simp; omega) _ rfl (by simp) ?_)
        intro v' w' hR' hg'
        rw [← HT1.out] at hR'
        have HR' : Hid (Rl w' w3.heap.size v' (Ls.take (i + 1))) := hR'
        have HG' : Hid (w3.grownBy w' none) := grownBy_rl (grownBy_trans HG.out (grownBy_trans G4.out (grow1 _ _))) (Nat.le_refl _) ((HS.out.kept0 G4.out).kept0 (grow1 _ _)) hg'
        have hcc : w'.cell? ⟨B, off + i, none⟩ = some (.slice xb ml xc) := by
          have hgw : (w4.alloc (.cells #[.slice (some ⟨gu, 0, none⟩) lu cu] 22)).grownBy w' u6.ownBlock := hg'
          have hlow : (w4.alloc (.cells #[.slice (some ⟨gu, 0, none⟩) lu cu] 22)).cell? ⟨B, off + i, none⟩ = some (.slice xb ml xc) := HCx.out _ (grownBy_trans G4.out (grow1 _ _))
          refine grownBy_cell hgw hlow ?_
          have hB : B < w.heap.size := HB0.out B off (i) rfl hlt
          rcases HS.out.cases with ⟨e, _⟩ | ⟨g, c, e, hb, _⟩
          · rw [e]; simp [Value.ownBlock]
          · rw [e]
            simp only [Value.ownBlock]
            intro e2
            cases e2
            have := G3.out.size
            omega
        clear hR' hg'
        go_wp2_with fail
        go_roundw
        case rel => exact ⟨i + 1, mo2, by omega, num_eq (by omega), rfl, HMo2.out, HR'.out, HG'.out⟩
        case measure => simp; omega
      · have e : i = k := by omega
        subst e
        have HRl : Hid (Rl wr w3.heap.size u6 Ls) := by
          have := HS.out
          rw [← (HN ()).1, List.take_length] at this
          exact this
        have GW : Hid (w.grownBy wr none) := grownBy_trans G3.out HG.out
        have HMw : Hid (Lent wr w2.heap.size m L) := HM.out.kept0 HG.out
        clear hlt HLent HS HM HG
        obtain ⟨ma, mc, rfl⟩ := HRl.out.form
        rw [(HN ()).1] at HRl ⊢
        obtain ⟨z, hz⟩ : ∃ z, mo * n = z := ⟨_, rfl⟩
        have hzI : (mo : Int) * n = z := by rw [← hz]; simp
        have hzb : z ≤ 81000000 := by rw [← hz]; exact Nat.mul_le_mul (show mo ≤ 9000 by omega) (show n ≤ 9000 by omega)
        have hzbI : (z : Int) ≤ 81000000 := by omega
        have HZ : Unit → mo * n = z := fun _ => hz
        clear hz
        by_cases hbig : 20000 < z
        · have hbI : (20000 : Int) < z := by omega
          have HKn := known_any wr (HT.out.kept GW.out)
          go_wp2_with fail
          refine HKn.mono ?_
          rintro e w16 ⟨rfl, g16⟩
          have G16 : Hid (w.grownBy w16 none) := grownBy_trans GW.out g16
          clear g16
          go_wp2_with fail
          go_ret
          exact ⟨rfl, G16.out⟩
        · have hbI : (z : Int) ≤ 20000 := by omega
          have HPr2 : Hid (∀ w1, w.grownBy w1 none → Calls Tryd.prog 42 #[.slice va n vc, .slice sa i sc] w1 fun e w' => Told1 w1 e w' (putE L Ls) (putL L Ls)) := HPr.out (HFl.out mo HMo.out.2 (by rw [HZ ()]; omega))
          clear HPr HFl HMo
          go_wp2_with fail
          refine (HPp.out wr _ _ HMw.out.ints HRl.out.intsL).mono ?_
          rintro e w5 ⟨g5, a, rfl, ha⟩
          have G5 : Hid (wr.grownBy w5 none) := g5
          have HA : Hid (Fr w5 wr.heap.size a (putL L Ls)) := ha
          clear g5 ha
          go_wp2_with fail
          refine (HPp.out w5 _ _ (HMw.out.ints.kept G5.out) (HRl.out.kept0 G5.out).intsL).mono ?_
          rintro e w6 ⟨g6, b, rfl, hb⟩
          have G6 : Hid (w5.grownBy w6 none) := g6
          have HB : Hid (Fr w6 w5.heap.size b (putL L Ls)) := hb
          clear g6 hb
          go_wp2_with fail
          refine (HPr2.out w6 (grownBy_trans GW.out (grownBy_trans G5.out G6.out))).mono ?_
          rintro e w7 ⟨g7, t, rfl, ht⟩
          have G7 : Hid (w6.grownBy w7 none) := g7
          have HTt : Hid (Fr w7 w6.heap.size t (putL L Ls)) := ht
          clear g7 ht HPr2 HPp
          have G47 : Hid (wr.grownBy w7 none) := grownBy_trans G5.out (grownBy_trans G6.out G7.out)
          have HX : Hid (0 < i → ∃ g, ma = some ⟨g, 0, none⟩ ∧ i ≤ mc) := by
            intro e
            rcases HRl.out.cases with ⟨e1, e2⟩ | ⟨g, c, e1, _, _, e2⟩
            · have := (HN ()).1; rw [e2] at this; simp at this; omega
            · obtain ⟨e3, _, e4⟩ := Value.slice.inj e1
              exact ⟨g, e3, by rw [← (HN ()).1, e4]; exact e2⟩
          obtain ⟨w4, hw4⟩ : ∃ w4, w4 = wr := ⟨_, rfl⟩
          subst hw4
          go_wp2_with fail
          go_loopw [15] (fun s wr => ∃ (q : Nat), q ≤ i ∧ s = .int .i64 (q : Int) ∧ w7.grownBy wr none) (fun s _ => match s with | .int _ q => i - q.toNat | _ => 0)
          case atStart => exact ⟨0, by omega, rfl, grow0 _⟩
          case round =>
            obtain ⟨q, hq, rfl, hG14⟩ := hrel
            have G14 : Hid (w7.grownBy wr none) := hG14
            clear hG14
            have G4r : Hid (w4.grownBy wr none) := grownBy_trans G47.out G14.out
            have GWr : Hid (w.grownBy wr none) := grownBy_trans GW.out G4r.out
            by_cases hlt : q < i
            · obtain ⟨g', eg, hmc'⟩ := HX.out (by omega)
              cases eg
              obtain ⟨B, off, x, eB, c1, hx, hkc⟩ := HR1.out wr GWr.out q hlt
              cases eB
              obtain ⟨u0, c0, l0⟩ := (HRl.out.kept0 G4r.out).get q (by rw [(HN ()).1]; exact hlt)
              have HLf : Hid (∀ w', wr.grownBy w' none → Calls Tryd.prog 20 #[u0, x] w' fun e w2 => e = .returned (.bool true) ∧ w'.grownBy w2 none) := fun w' hg => HLeft.out w' u0 x q w3.heap.size hlt (l0.kept0 hg) (hx.kept hg)
              obtain ⟨a0, n0, d0, rfl⟩ : ∃ a0 n0 d0, u0 = .slice a0 n0 d0 := by
                obtain ⟨a0, d0, e, _⟩ := l0.ints.reads
                exact ⟨a0, _, d0, e⟩
              obtain ⟨a1, n1, d1, rfl⟩ : ∃ a1 n1 d1, x = .slice a1 n1 d1 := by
                obtain ⟨a1, d1, e, _⟩ := hx.reads
                exact ⟨a1, _, d1, e⟩
              have hltI : (q : Int) < i := by omega
              have HZc : Hid (∀ w', wr.grownBy w' none → w'.cell? ⟨g', q, none⟩ = some (Value.slice a0 n0 d0) ∧ w'.cell? ⟨B, off + q, none⟩ = some (Value.slice a1 n1 d1)) := fun w' hg => ⟨grownBy_cell hg c0 (by simp), grownBy_cell hg c1 (by simp)⟩
              clear l0 hx
              go_wp2_with fail
              go_region_held3 (fun w' => w'.cell? ⟨g', q, none⟩ = some (Value.slice a0 n0 d0) ∧ w'.cell? ⟨B, off + q, none⟩ = some (Value.slice a1 n1 d1)) (first | (go_keep; done) | exact HZc.out _ G15.out | fail) (first | (go_at_call 20; refine (HLf.out _ (grow_drew (World.grownBy.refl _ _))).mono ?_; rintro e w15 ⟨rfl, g15⟩; have G15 : Hid (wr.grownBy w15 none) := grownBy_undrew g15; clear g15) | fail)
              all_goals (
                go_wp2_with fail
                go_roundw
                case rel => exact ⟨q + 1, by omega, num_eq (by omega), grownBy_trans G14.out G15.out⟩
                case measure => simp; omega)
            · have e : q = i := by omega
              subst e
              have HTo := told_three w4 w5 w6 wr a b t (putE L Ls) (putL L Ls) HA.out HB.out (HTt.out.kept0 G14.out) G5.out G6.out (grownBy_trans G7.out G14.out) (Nat.le_trans (putL_len _ _) (by decide))
              go_wp2_with fail
              refine HTo.mono ?_
              rintro e w17 ⟨rfl, g17⟩
              have G17 : Hid (w4.grownBy w17 none) := g17
              have GW17 : Hid (w.grownBy w17 none) := grownBy_trans GW.out g17
              clear g17 HTo
              go_wp2_with fail
              refine (HLf1.out w17 m w2.heap.size GW17.out (HMw.out.kept0 G17.out)).mono ?_
              rintro e w18 ⟨rfl, g18⟩
              have GW18 : Hid (w.grownBy w18 none) := grownBy_trans GW17.out g18
              clear g18
              go_wp2_with fail
              refine (known_any w18 (HT.out.kept GW18.out)).mono ?_
              rintro e w19 ⟨rfl, g19⟩
              have GW19 : Hid (w.grownBy w19 none) := grownBy_trans GW18.out g19
              clear g19
              go_wp2_with fail
              go_ret
              exact ⟨rfl, GW19.out⟩)
theorem wput_any (w : World) (v s : Value) (L : List Int) (Ls : List (List Int)) (h : Ints w v L) (hs : IntsL w s Ls) (hl : Ls.length ≤ 1000000000000000) (hl2 : ∀ M ∈ Ls, M.length ≤ 1000000000000000) (hln : L.length ≤ 1000000000000000) (ht : Tab w) :
    Calls Tryd.prog 6 #[v, s] w fun e w' => e = .returned (.bool true) ∧ w.grownBy w' none := by
  by_cases h5 : 70 < Ls.length
  · exact wput_many w v s L Ls h hs h5 hl ht
  · by_cases hm : 9000 < muchN Ls ∨ 9000 < min L.length 10000 ∨ (200 < L.length ∧ 9000 < min L.length 10000 + min L.length 10000 + min L.length 10000)
    · exact wput_much w v s L Ls h hs (by omega) hl2 hln ht hm
    · exact wput_good w v s L Ls h hs (by omega) (by omega) (by omega) (by omega) ht
end Go.Proofs.YthldipnfaiobaaaDoor
