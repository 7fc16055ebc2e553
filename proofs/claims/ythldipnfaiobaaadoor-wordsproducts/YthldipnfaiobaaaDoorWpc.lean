/-
  The law WordsProducts of words that are gone through.
-/
import Derived.Test.YthldipnfaiobaaaDoorWpb
namespace Go.Proofs.YthldipnfaiobaaaDoor
open Go.RowKit Go.Lib Go.Sort
set_option linter.unusedVariables false
set_option linter.unusedSimpArgs false
set_option maxHeartbeats 12800000
set_option maxRecDepth 1000000
theorem wprod_good (w : World) (v : Value) (Ls : List (List Int)) (n : Int) (h : IntsL w v Ls) (hl : Ls.length ≤ 50) (hm : muchN Ls ≤ 9000) (hn1 : -9223372036854775808 ≤ n) (hn2 : n ≤ 9223372036854775807) (ht : Tab w) :
    Calls Tryd.prog 4 #[v, .int .i64 n] w fun e w' => e = .returned (.bool true) ∧ w.grownBy w' none := by
  have HEa : Hid (∀ L ∈ Ls, L.length ≤ 9000) := muchN_each hm
  have HMu := much_any w v Ls h (by omega) (fun L hL => by have := HEa.out L hL; omega)
  rw [decide_eq_false (by omega)] at HMu
  have HT : Hid (Tab w) := ht
  have HI : Hid (∀ w1, w.grownBy w1 none → IntsL w1 v Ls) := fun w1 hg => h.kept hg
  have HrM : Hid (∀ w1, w.grownBy w1 none → Calls Tryd.prog 29 #[v] w1 fun e w' => Told1 w1 e w' (mulE Ls) (mulL Ls)) := fun w1 hg => rMul_any w1 v Ls (h.kept hg) (by omega) (fun L hL => by have := HEa.out L hL; omega)
  have HpM : Hid (∀ w1 u, IntsL w1 u Ls → Calls Tryd.prog 28 #[u] w1 fun e w' => Told1 w1 e w' (mulE Ls) (mulL Ls)) := fun w1 u hu => mul_top w1 u Ls hu (by omega) (fun L hL => by have := HEa.out L hL; omega)
  have HLent : Hid (∀ w1 u i, i < Ls.length → Ints w1 u (Ls[i]?.getD []) → Calls Tryd.prog 11 #[u] w1 fun e w' => ∃ v', e = .returned v' ∧ Lent w' w1.heap.size v' (Ls[i]?.getD []) ∧ w1.grownBy w' none) := fun w1 u i hi hu => lent_any w1 u _ hu (by
    have : Ls[i]?.getD [] ∈ Ls := by rw [List.getElem?_eq_getElem hi]; exact List.getElem_mem hi
    have := HEa.out _ this
    omega)
  have HLeft : Hid (∀ w1 u x i base, i < Ls.length → Lent w1 base u (Ls[i]?.getD []) → Ints w1 x (Ls[i]?.getD []) → Calls Tryd.prog 20 #[u, x] w1 fun e w' => e = .returned (.bool true) ∧ w1.grownBy w' none) := fun w1 u x i base hi hu hx => left_any w1 u x _ base hu hx (by
    have : Ls[i]?.getD [] ∈ Ls := by rw [List.getElem?_eq_getElem hi]; exact List.getElem_mem hi
    have := HEa.out _ this
    omega)
  obtain ⟨va, vc, rfl, HR⟩ := h.reads
  have HR1 : Hid (∀ w', w.grownBy w' none → ∀ i, i < Ls.length → ∃ B off u, va = some ⟨B, off, none⟩ ∧ w'.cell? ⟨B, off + i, none⟩ = some u ∧ Ints w' u (Ls[i]?.getD []) ∧ Ls.length ≤ vc) := HR
  obtain ⟨k, hk⟩ : ∃ k, Ls.length = k := ⟨_, rfl⟩
  have HN : Unit → Ls.length = k := fun _ => hk
  have hkI : (k : Int) ≤ 50 := by omega
  rw [hk] at HMu HI HrM HLent HLeft HR1 ⊢
  have HK50 : Hid (k ≤ 50) := by show k ≤ 50; omega
  have HPow : Hid (∀ L : List Int, L.length ≤ 9000 → ∀ m, Cut (sh L) m → (∀ w1 u, Ints w1 u L → Calls Tryd.prog 30 #[u, .int .i64 n] w1 fun e w' => Told1 w1 e w' (powE L m n) (powL L m n)) ∧ (∀ w1 u, Ints w1 u L → Calls Tryd.prog 31 #[u, .int .i64 n] w1 fun e w' => Told1 w1 e w' (powE L m n) (powL L m n))) := fun L hL m hm => ⟨fun w1 u hu => pow_told w1 u L n hu (by omega) m hm, fun w1 u hu => rPow_any w1 u L n hu (by omega) hn1 hn2 m hm⟩
  clear HR h hl hk hm hn1 hn2 ht
  go_enter Tryd.func4, Tryd.ntmps4
  go_wp2_with fail
  refine HMu.mono ?_
  rintro e w1 ⟨rfl, hw⟩
  obtain rfl := hw.symm
  clear hw HMu
  go_wp2_with fail
  go_loopw [5, 6] (fun s t wr => ∃ (i : Nat), i ≤ k ∧ t = .int .i64 (i : Int) ∧ Rl wr w.heap.size s (Ls.take i) ∧ w.grownBy wr none) (fun _ t _ => match t with | .int _ i => k - i.toNat | _ => 0)
  case atStart => exact ⟨0, by omega, rfl, Rl.nil _ _, grow0 _⟩
  case round =>
    obtain ⟨i, hi, rfl, hS, hG⟩ := hrel
    have HS : Hid (Rl wr w.heap.size u5 (Ls.take i)) := hS
    have HG : Hid (w.grownBy wr none) := hG
    clear hS hG
    by_cases hlt : i < k
    · obtain ⟨B, off, x, rfl, hc, hx, hkc⟩ := HR1.out wr HG.out i hlt
      have HT1 : Hid (Ls.take (i + 1) = Ls.take i ++ [Ls[i]?.getD []]) := by
        have hlt' : i < Ls.length := by rw [HN ()]; exact hlt
        show _ = _
        rw [List.take_succ_eq_append_getElem hlt', List.getElem?_eq_getElem hlt']
        rfl
      have HLe := HLent.out wr x i hlt hx
      have hltI : (i : Int) < k := by omega
      have HTl : Hid ((Ls.take i).length ≤ 50) := by show _ ≤ _; rw [List.length_take]; have := HK50.out; omega
      generalize Ls[i]?.getD [] = M at *
      obtain ⟨xb, xc, rfl, _⟩ := hx.reads
      clear hx
      generalize M.length = ml at *
      go_wp2_with fail
      refine HLe.mono ?_
      rintro e w2 ⟨u, rfl, hu, g2⟩
      have HU : Hid (Lent w2 wr.heap.size u M) := hu
      have G2 : Hid (wr.grownBy w2 none) := g2
      obtain ⟨gu, lu, cu, rfl⟩ : ∃ gu lu cu, u = .slice (some ⟨gu, 0, none⟩) lu cu := by
        obtain ⟨gu, cu, e, _⟩ := hu
        exact ⟨gu, _, cu, e⟩
      clear hu g2 HLe
      go_wp2_with (at_builtin; refine wpList_append_rl rfl _ _ rfl w.heap.size u5 (Ls.take i) (.slice (some ⟨gu, 0, none⟩) lu cu) M rfl ((HS.out.kept0 G2.out).kept0 (grow1 _ _)) ((HU.out.mono HG.out.size).kept0 (grow1 _ _)) (by have := HTl.out; omega) (by have h1 := HG.out.size; have h2 := G2.out.size; simp; omega) _ rfl (by simp) ?_)
      intro v' w' hR' hg'
      rw [← HT1.out] at hR'
      have HR' : Hid (Rl w' w.heap.size v' (Ls.take (i + 1))) := hR'
      have HG' : Hid (w.grownBy w' none) := grownBy_rl (grownBy_trans HG.out (grownBy_trans G2.out (grow1 _ _))) (Nat.le_refl _) ((HS.out.kept0 G2.out).kept0 (grow1 _ _)) hg'
      clear hR' hg'
      go_wp2_with fail
      go_roundw
      case rel => exact ⟨i + 1, by omega, num_eq (by omega), HR'.out, HG'.out⟩
      case measure => simp; omega
    · have e : i = k := by omega
      subst e
      have HRl : Hid (Rl wr w.heap.size u5 Ls) := by
        have := HS.out
        rw [← HN (), List.take_length] at this
        exact this
      clear hlt HLent HS
      obtain ⟨ma, mc, rfl⟩ := HRl.out.form
      rw [HN ()] at HRl ⊢
      have HMl : Hid ((mulL Ls).length ≤ 100000) := Nat.le_trans (mulL_len Ls) (by decide)
      go_wp2_with fail
      refine (HpM.out wr _ HRl.out.intsL).mono ?_
      rintro e w2 ⟨g2, a, rfl, ha⟩
      have G2 : Hid (wr.grownBy w2 none) := g2
      have HA : Hid (Fr w2 wr.heap.size a (mulL Ls)) := ha
      clear g2 ha
      go_wp2_with fail
      refine (HpM.out w2 _ (HRl.out.kept0 G2.out).intsL).mono ?_
      rintro e w3 ⟨g3, b, rfl, hb⟩
      have G3 : Hid (w2.grownBy w3 none) := g3
      have HB : Hid (Fr w3 w2.heap.size b (mulL Ls)) := hb
      clear g3 hb
      go_wp2_with fail
      refine (HrM.out w3 (grownBy_trans HG.out (grownBy_trans G2.out G3.out))).mono ?_
      rintro e w4 ⟨g4, t, rfl, ht⟩
      have G4 : Hid (w3.grownBy w4 none) := g4
      have HTt : Hid (Fr w4 w3.heap.size t (mulL Ls)) := ht
      clear g4 ht
      go_wp2_with fail
      refine (told_three wr w2 w3 w4 a b t (mulE Ls) (mulL Ls) HA.out HB.out HTt.out G2.out G3.out G4.out HMl.out).mono ?_
      rintro e w5 ⟨rfl, g5⟩
      have G5 : Hid (wr.grownBy w5 none) := g5
      clear g5 HA HB HTt G2 G3 G4 HMl HrM HpM
      have HX : Hid (0 < i → ∃ g, ma = some ⟨g, 0, none⟩ ∧ i ≤ mc) := by
        intro e
        rcases HRl.out.cases with ⟨e1, e2⟩ | ⟨g, c, e1, _, _, e2⟩
        · have := HN (); rw [e2] at this; simp at this; omega
        · obtain ⟨e3, _, e4⟩ := Value.slice.inj e1
          exact ⟨g, e3, by rw [← HN (), e4]; exact e2⟩
      have HEi : Hid (∀ q, q < i → (Ls[q]?.getD []).length ≤ 9000) := fun q hq => HEa.out _ (by
        have hq' : q < Ls.length := by rw [HN ()]; exact hq
        rw [List.getElem?_eq_getElem hq']
        exact List.getElem_mem hq')
      have HNi : Hid (Ls.length = i) := HN ()
      have HG5 : Hid (w.grownBy w5 none) := grownBy_trans HG.out G5.out
      clear HEa HI
      by_cases h0 : 0 < i
      case' pos =>
        obtain ⟨g', rfl, hmc⟩ := HX.out h0
        obtain ⟨p, hp⟩ : ∃ p, i - 1 = p := ⟨_, rfl⟩
        obtain ⟨u0, c0, l0⟩ := (HRl.out.kept0 G5.out).get 0 (by rw [HNi.out]; exact h0)
        obtain ⟨u1, c1, l1⟩ := (HRl.out.kept0 G5.out).get p (by rw [HNi.out]; omega)
        obtain ⟨W, hW⟩ : ∃ W, Ls[0]?.getD [] = W := ⟨_, rfl⟩
        obtain ⟨By, hBy⟩ : ∃ By, Ls[p]?.getD [] = By := ⟨_, rfl⟩
        have HWl : Hid (W.length ≤ 9000 ∧ By.length ≤ 9000) := ⟨by rw [← hW]; exact HEi.out 0 h0, by rw [← hBy]; exact HEi.out p (by omega)⟩
        rw [hW] at l0
        rw [hBy] at l1
        have HI0 : Hid (Ints w5 u0 W) := l0.ints
        have HI1 : Hid (Ints w5 u1 By) := l1.ints
        obtain ⟨a0, n0, d0, rfl⟩ : ∃ a0 n0 d0, u0 = .slice a0 n0 d0 := by
          obtain ⟨a0, d0, e, _⟩ := l0.ints.reads
          exact ⟨a0, _, d0, e⟩
        obtain ⟨a1, n1, d1, rfl⟩ : ∃ a1 n1 d1, u1 = .slice a1 n1 d1 := by
          obtain ⟨a1, d1, e, _⟩ := l1.ints.reads
          exact ⟨a1, _, d1, e⟩
        have h0I : (0 : Int) < i := by omega
        have hpI : (i : Int) - 1 = p := by omega
        have hpl : (p : Int) < i := by omega
        have hpi : p < i := by omega
        clear l0 l1 hp hW hBy
        go_wp2_with fail
      case' neg =>
        have h0I : ¬ (0 : Int) < i := by omega
        obtain ⟨W, hW⟩ : ∃ W : List Int, [] = W := ⟨_, rfl⟩
        obtain ⟨By, hBy⟩ : ∃ By : List Int, [] = By := ⟨_, rfl⟩
        have HWl : Hid (W.length ≤ 9000 ∧ By.length ≤ 9000) := ⟨by rw [← hW]; simp, by rw [← hBy]; simp⟩
        have HI0 : Hid (Ints w5 (.slice none 0 0) W) := by rw [← hW]; exact Ints.nil _
        have HI1 : Hid (Ints w5 (.slice none 0 0) By) := by rw [← hBy]; exact Ints.nil _
        clear hW hBy
        go_wp2_with fail
      all_goals (
        obtain ⟨m0, hm0⟩ := cut_ex (sh W)
        have HPp : Hid (∀ w1 u, Ints w1 u W → Calls Tryd.prog 30 #[u, .int .i64 n] w1 fun e w' => Told1 w1 e w' (powE W m0 n) (powL W m0 n)) := (HPow.out W HWl.out.1 m0 hm0).1
        have HPr : Hid (∀ w1 u, Ints w1 u W → Calls Tryd.prog 31 #[u, .int .i64 n] w1 fun e w' => Told1 w1 e w' (powE W m0 n) (powL W m0 n)) := (HPow.out W HWl.out.1 m0 hm0).2
        clear HPow hm0
        refine (HPp.out w5 _ HI0.out).mono ?_
        rintro e w6 ⟨g6, a, rfl, ha⟩
        have G6 : Hid (w5.grownBy w6 none) := g6
        have HA : Hid (Fr w6 w5.heap.size a (powL W m0 n)) := ha
        clear g6 ha
        go_wp2_with fail
        refine (HPp.out w6 _ (HI0.out.kept G6.out)).mono ?_
        rintro e w7 ⟨g7, b, rfl, hb⟩
        have G7 : Hid (w6.grownBy w7 none) := g7
        have HB : Hid (Fr w7 w6.heap.size b (powL W m0 n)) := hb
        clear g7 hb
        go_wp2_with fail
        refine (HPr.out w7 _ (HI0.out.kept (grownBy_trans G6.out G7.out))).mono ?_
        rintro e w8 ⟨g8, t, rfl, ht⟩
        have G8 : Hid (w7.grownBy w8 none) := g8
        have HTt : Hid (Fr w8 w7.heap.size t (powL W m0 n)) := ht
        clear g8 ht
        go_wp2_with fail
        refine (told_three w5 w6 w7 w8 a b t (powE W m0 n) (powL W m0 n) HA.out HB.out HTt.out G6.out G7.out G8.out (Nat.le_trans (powL_len _ _ _) (by decide))).mono ?_
        rintro e w9 ⟨rfl, g9⟩
        have G9 : Hid (w5.grownBy w9 none) := g9
        clear g9 HA HB HTt G6 G7 G8 HPp HPr
        have HCp : Hid (∀ w1 u u', Ints w1 u W → Ints w1 u' By → Calls Tryd.prog 32 #[u, u'] w1 fun e w' => Told1 w1 e w' (cjE W By) (cjL W By)) := fun w1 u u' h1 h2 => conj_top w1 u u' W By h1 h2 (by have := HWl.out.1; omega) (by have := HWl.out.2; omega)
        have HCr : Hid (∀ w1 u u', Ints w1 u W → Ints w1 u' By → Calls Tryd.prog 33 #[u, u'] w1 fun e w' => Told1 w1 e w' (cjE W By) (cjL W By)) := fun w1 u u' h1 h2 => rConj_any w1 u u' W By h1 h2 (by have := HWl.out.1; omega) (by have := HWl.out.2; omega)
        go_wp2_with fail
        refine (HCp.out w9 _ _ (HI0.out.kept G9.out) (HI1.out.kept G9.out)).mono ?_
        rintro e w10 ⟨g10, a, rfl, ha⟩
        have G10 : Hid (w9.grownBy w10 none) := g10
        have HA : Hid (Fr w10 w9.heap.size a (cjL W By)) := ha
        clear g10 ha
        go_wp2_with fail
        refine (HCp.out w10 _ _ (HI0.out.kept (grownBy_trans G9.out G10.out)) (HI1.out.kept (grownBy_trans G9.out G10.out))).mono ?_
        rintro e w11 ⟨g11, b, rfl, hb⟩
        have G11 : Hid (w10.grownBy w11 none) := g11
        have HB : Hid (Fr w11 w10.heap.size b (cjL W By)) := hb
        clear g11 hb
        go_wp2_with fail
        refine (HCr.out w11 _ _ (HI0.out.kept (grownBy_trans G9.out (grownBy_trans G10.out G11.out))) (HI1.out.kept (grownBy_trans G9.out (grownBy_trans G10.out G11.out)))).mono ?_
        rintro e w12 ⟨g12, t, rfl, ht⟩
        have G12 : Hid (w11.grownBy w12 none) := g12
        have HTt : Hid (Fr w12 w11.heap.size t (cjL W By)) := ht
        clear g12 ht
        go_wp2_with fail
        refine (told_three w9 w10 w11 w12 a b t (cjE W By) (cjL W By) HA.out HB.out HTt.out G10.out G11.out G12.out (Nat.le_trans (cjL_len _ _) (by decide))).mono ?_
        rintro e w13 ⟨rfl, g13⟩
        have G13 : Hid (w.grownBy w13 none) := grownBy_trans HG5.out (grownBy_trans G9.out g13)
        have HRl13 : Hid (Rl w13 w.heap.size _ Ls) := HRl.out.kept0 (grownBy_trans G5.out (grownBy_trans G9.out g13))
        clear g13 HA HB HTt G10 G11 G12 HCp HCr HI0 HI1 HWl G9 G5 HG5 HRl HG
        go_wp2_with fail
        go_loopw [15] (fun s wr => ∃ (q : Nat), q ≤ i ∧ s = .int .i64 (q : Int) ∧ w13.grownBy wr none) (fun s _ => match s with | .int _ q => i - q.toNat | _ => 0)
        case atStart => exact ⟨0, by omega, rfl, grow0 _⟩
        case round =>
          obtain ⟨q, hq, rfl, hG14⟩ := hrel
          have G14 : Hid (w13.grownBy wr none) := hG14
          clear hG14
          by_cases hlt : q < i
          · obtain ⟨g', eg, hmc'⟩ := HX.out (by omega)
            cases eg
            obtain ⟨B, off, x, eB, c1, hx, hkc⟩ := HR1.out wr (grownBy_trans G13.out G14.out) q hlt
            cases eB
            obtain ⟨u0, c0, l0⟩ := (HRl13.out.kept0 G14.out).get q (by rw [HNi.out]; exact hlt)
            have HLf : Hid (∀ w', wr.grownBy w' none → Calls Tryd.prog 20 #[u0, x] w' fun e w2 => e = .returned (.bool true) ∧ w'.grownBy w2 none) := fun w' hg => HLeft.out w' u0 x q w.heap.size hlt (l0.kept0 hg) (hx.kept hg)
            obtain ⟨a0, n0, d0, rfl⟩ : ∃ a0 n0 d0, u0 = .slice a0 n0 d0 := by
              obtain ⟨a0, d0, e, _⟩ := l0.ints.reads
              exact ⟨a0, _, d0, e⟩
            obtain ⟨a1, n1, d1, rfl⟩ : ∃ a1 n1 d1, x = .slice a1 n1 d1 := by
              obtain ⟨a1, d1, e, _⟩ := hx.reads
              exact ⟨a1, _, d1, e⟩
            have hltI : (q : Int) < i := by omega
            have HZ : Hid (∀ w', wr.grownBy w' none → w'.cell? ⟨g', q, none⟩ = some (Value.slice a0 n0 d0) ∧ w'.cell? ⟨B, off + q, none⟩ = some (Value.slice a1 n1 d1)) := fun w' hg => ⟨grownBy_cell hg c0 (by simp), grownBy_cell hg c1 (by simp)⟩
            clear l0 hx
            go_wp2_with fail
            go_region_held3 (fun w' => w'.cell? ⟨g', q, none⟩ = some (Value.slice a0 n0 d0) ∧ w'.cell? ⟨B, off + q, none⟩ = some (Value.slice a1 n1 d1)) (first | (go_keep; done) | exact HZ.out _ G15.out | fail) (first | (go_at_call 20; refine (HLf.out _ (grow_drew (World.grownBy.refl _ _))).mono ?_; rintro e w15 ⟨rfl, g15⟩; have G15 : Hid (wr.grownBy w15 none) := grownBy_undrew g15; clear g15) | fail)
            all_goals (
              go_wp2_with fail
              go_roundw
              case rel => exact ⟨q + 1, by omega, num_eq (by omega), grownBy_trans G14.out G15.out⟩
              case measure => simp; omega)
          · have e : q = i := by omega
            subst e
            have HKn := known_any wr (HT.out.kept (grownBy_trans G13.out G14.out))
            go_wp2_with fail
            refine HKn.mono ?_
            rintro e w16 ⟨rfl, g16⟩
            have G16 : Hid (w.grownBy w16 none) := grownBy_trans (grownBy_trans G13.out G14.out) g16
            clear g16
            go_wp2_with fail
            go_ret
            exact ⟨rfl, G16.out⟩)
theorem wprod_any (w : World) (v : Value) (Ls : List (List Int)) (n : Int) (h : IntsL w v Ls) (hl : Ls.length ≤ 1000000000000000) (hl2 : ∀ L ∈ Ls, L.length ≤ 1000000000000000) (hn1 : -9223372036854775808 ≤ n) (hn2 : n ≤ 9223372036854775807) (ht : Tab w) :
    Calls Tryd.prog 4 #[v, .int .i64 n] w fun e w' => e = .returned (.bool true) ∧ w.grownBy w' none := by
  by_cases h5 : 50 < Ls.length
  · exact wprod_many w v Ls n h h5 hl ht
  · by_cases hm : 9000 < muchN Ls
    · exact wprod_much w v Ls n h (by omega) hl2 hm ht
    · exact wprod_good w v Ls n h (by omega) (by omega) hn1 hn2 ht
end Go.Proofs.YthldipnfaiobaaaDoor
