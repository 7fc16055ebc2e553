/-
  frac's Sqrt, by what Square answers.
  Roots of fractions: the document's Sqrt, and frac's, by what they ask.
  Roots of fractions that may be: frac's and the document's answers are one.
-/
import Derived.Test.YtdfliaogmlpefaaGreatDoorBunFrs
import Derived.Deep.CutRange
import Derived.Deep.RegionWith
import Derived.Test.YtdfliaogmlpefaaGreatDoorBunSqr
import Derived.Test.YtdfliaogmlpefaaGreatDoorBunFrq
import Derived.Test.YtdfliaogmlpefaaGreatDoorRue
namespace Go.Proofs.YtdfliaogmlpefaaGreatDoor
open Go.RowKit Go.Lib Go.Sort
set_option linter.unusedVariables false
set_option maxHeartbeats 3200000
set_option maxRecDepth 1000000
theorem wdrew {W : World} {B : Nat} {a b : Value} (h : WBlk W B a b) : WBlk W.drew B a b := h.kept (row := none) (grow_drew (World.grownBy.refl _ _)) (by simp)
theorem reckoned_err7 (K : Nat) (caps : Array Value) (eg : ∀ args w, (callFunc K args).run Tryz.prog w = .ok (.enter K args) w) (w : World) (v : Value) (l : List Q4) (h : DQ w v l) (hl : l.length ≤ 1000) (hm : ∀ p ∈ l, mayQ4 p = true)
    (n d : Bool) (s t : ByteArray)
    (HF : Hid (∀ w1, w.grownBy w1 none → Calls Tryz.prog K caps w1 fun e w' => e = .returned (.tuple #[whole n s, whole d t, .int .i64 7]) ∧ w1.grownBy w' none)) :
    Calls Tryz.prog 59 #[.func (.func K) #[] caps, v] w fun e w' => e = .returned (.tuple #[frac false eS false eS, .int .i64 7]) ∧ w.grownBy w' none := by
  have HM : Hid (∀ p ∈ l, mayQ4 p = true) := hm
  obtain ⟨B, off, c, rfl, hc, hcs⟩ := h
  have HCS : Hid (∀ j p, l[j]? = some p → w.cell? ⟨B, off + j * 4, none⟩ = some (.bool p.1) ∧ w.cell? ⟨B, off + j * 4 + 1, none⟩ = some (.string p.2.1) ∧ w.cell? ⟨B, off + j * 4 + 2, none⟩ = some (.bool p.2.2.1) ∧ w.cell? ⟨B, off + j * 4 + 3, none⟩ = some (.string p.2.2.2)) := hcs
  obtain ⟨m, hn⟩ : ∃ m, l.length = m := ⟨_, rfl⟩
  have HN : Unit → l.length = m := fun _ => hn
  rw [hn] at hc hl ⊢
  have hnI : (m : Int) ≤ 1000 := by omega
  clear hm hcs hn hl
  go_enter Tryz.func59, Tryz.ntmps59
  go_wp2_with fail
  go_loopw [13] (fun t wr => ∃ k : Nat, k ≤ m ∧ t = .int .i64 (k : Int) ∧ (w.alloc (qObj false eS false eS)).grownBy wr none) (fun t _ => m - (RowKit.intOf t).toNat)
  case atStart => exact ⟨0, by omega, rfl, World.grownBy.refl _ _⟩
  case round =>
    obtain ⟨k, hk, rfl, hg⟩ := hrel
    have HG1 : Hid ((w.alloc (qObj false eS false eS)).grownBy wr none) := hg
    by_cases hk1 : k < m
    · have hkl : k < l.length := by rw [HN ()]; exact hk1
      have hp : l[k]? = some l[k] := List.getElem?_eq_getElem hkl
      have hcs := HCS.out k _ hp
      have hgw := grownBy_trans (grow1 w (qObj false eS false eS)) hg
      have hc0 := grownBy_cell hgw hcs.1 (by simp)
      have hc1 := grownBy_cell hgw hcs.2.1 (by simp)
      have hc2 := grownBy_cell hgw hcs.2.2.1 (by simp)
      have hc3 := grownBy_cell hgw hcs.2.2.2 (by simp)
      have hmp := HM.out l[k] (List.getElem_mem hkl)
      generalize l[k] = p at *
      obtain ⟨pn, ps, pd, pt⟩ := p
      simp only at hc0 hc1 hc2 hc3 hmp
      have hQ : IsQ (num pn ps) (num pd pt) pn ps pd pt := mayQ_is hmp
      have HMy : Hid (∀ w, Calls Tryz.prog 40 #[frac pn ps pd pt] w fun e w' => e = .returned (.bool true) ∧ w.grownBy w' none) := fun w => by
        have := mayq_any pn pd ps pt (by have := may_size (hQ.zn.may (by decide)); unfold maxLen; omega) (by have := may_size (hQ.zd.may (by decide)); unfold maxLen; omega) w
        rw [show mayQ pn ps pd pt = true from hmp] at this
        exact this
      clear hgw hcs hp hg hmp hQ
      go_wp2_with fail
      refine (HMy.out _).mono ?_
      rintro e w2 ⟨rfl, g2⟩
      have HG2 : Hid ((w.alloc (qObj false eS false eS)).grownBy w2 none) := grownBy_trans HG1.out (grownBy_trans (grow1 _ _) g2)
      clear g2
      go_wp2_with fail
      go_roundw
      case rel => exact ⟨k + 1, by omega, rfl, HG2.out⟩
      case measure => simp [RowKit.intOf]; omega
    · obtain rfl : k = m := by omega
      clear hg
      go_wp2_with fail
      refine (HF.out _ (grownBy_trans (grow1 _ _) HG1.out)).mono ?_
      rintro e w2 ⟨rfl, g2⟩
      have G2 : (w.alloc (qObj false eS false eS)).grownBy ((w2.alloc (wObj n s)).alloc (wObj d t)) none := grownBy_trans HG1.out (grownBy_trans g2 (grow2 _ _ _))
      have G2' : (w.alloc (qObj false eS false eS)).grownBy w2 none := grownBy_trans HG1.out g2
      have HR : Hid (QBlk ((w2.alloc (wObj n s)).alloc (wObj d t)) w.heap.size (.bool false) (.string eS) (.bool false) (.string eS)) := QBlk.kept (w := w.alloc (qObj false eS false eS)) (heap_alloc_new _ _) G2 (by simp)
      have HG3 : Hid (w.grownBy ((w2.alloc (wObj n s)).alloc (wObj d t)) none) := grownBy_trans (grow1 _ _) G2
      clear g2 G2 G2'
      go_upto_region 9 with fail
      generalize (w2.alloc (wObj n s)).alloc (wObj d t) = V at *
      have hR := HR.out
      have r0 := hR.c0
      have r1 := hR.c1
      have r2 := hR.c2
      have r3 := hR.c3
      have f0 := hR.fr 0
      have f1 := hR.fr 1
      have f2 := hR.fr 2
      have f3 := hR.fr 3
      go_wp2_with fail
      refine bodyPost_ret (res_cellQ_tmp rfl _ _ w.heap.size _ _ _ _ _ _ rfl (hR.put _ _ _ _)) rfl ?_
      exact ⟨rfl, grown_put4 HG3.out (Nat.le_refl _)⟩
theorem sqrt1_no1 (W : World) (Bx : Nat) (n d : Bool) (s t : ByteArray) (hx : QBlk W Bx (.bool n) (.string s) (.bool d) (.string t)) (a1 a2 : Bool) (b1 b2 : ByteArray)
    (HS1 : Hid (∀ w, Calls Tryz.prog 61 #[whole n s] w fun e w' => e = .returned (.tuple #[whole a1 b1, .bool false]) ∧ w.grownBy w' none))
    (HS2 : Hid (∀ w, Calls Tryz.prog 61 #[whole d t] w fun e w' => e = .returned (.tuple #[whole a2 b2, .bool true]) ∧ w.grownBy w' none)) :
    Calls Tryz.prog 60 #[.pointer (some ⟨Bx, 0, none⟩)] W fun e w' => e = .returned (.tuple #[whole false eS, whole false eS, .int .i64 7]) ∧ W.grownBy w' none := by
  have HX : Hid (QBlk W Bx (.bool n) (.string s) (.bool d) (.string t)) := hx
  have hxl := hx.lt
  have x0 := hx.c0
  have x1 := hx.c1
  clear hx
  go_enter Tryz.func60, Tryz.ntmps60
  go_wp2_with fail
  refine (HS1.out _).mono ?_
  rintro e w1 ⟨rfl, g1⟩
  clear x0 x1
  have h1 : WBlk w1 W.heap.size (.bool false) (.string eS) := WBlk.kept (at_alloc1 _ _ _) g1 (by simp)
  have h2 : WBlk w1 (W.heap.size + 1) (.bool false) (.string eS) := WBlk.kept (heap_alloc2_new _ _ _) g1 (by simp)
  have hX1 := HX.out.kept (grownBy_trans (grow2 _ _ _) g1) (by simp)
  have H1 : Hid (WBlk ((w1.setCell ⟨W.heap.size, 0, none⟩ (.bool a1)).setCell ⟨W.heap.size, 1, none⟩ (.string b1)) W.heap.size (.bool a1) (.string b1)) := h1.put _ _
  have H2 : Hid (WBlk ((w1.setCell ⟨W.heap.size, 0, none⟩ (.bool a1)).setCell ⟨W.heap.size, 1, none⟩ (.string b1)) (W.heap.size + 1) (.bool false) (.string eS)) := (h2.other (by omega)).other (by omega)
  have HX1 : Hid (QBlk ((w1.setCell ⟨W.heap.size, 0, none⟩ (.bool a1)).setCell ⟨W.heap.size, 1, none⟩ (.string b1)) Bx (.bool n) (.string s) (.bool d) (.string t)) := (hX1.other (by omega)).other (by omega)
  have HG : Hid (W.grownBy ((w1.setCell ⟨W.heap.size, 0, none⟩ (.bool a1)).setCell ⟨W.heap.size, 1, none⟩ (.string b1)) none) := grown_set (grown_set (grownBy_trans (grow2 _ _ _) g1) (by omega)) (by omega)
  have k0 := h1.c0
  have k1 := h1.c1
  have k2 := h1.fr 0
  have k3 := h1.fr 1
  clear g1 h1 h2 hX1 HX
  go_upto_region 2 with fail
  clear k0 k1 k2 k3
  generalize (w1.setCell ⟨W.heap.size, 0, none⟩ (.bool a1)).setCell ⟨W.heap.size, 1, none⟩ (.string b1) = V at *
  have x2 := HX1.out.c2
  have x3 := HX1.out.c3
  go_wp2_with fail
  refine (HS2.out _).mono ?_
  rintro e w2 ⟨rfl, g2⟩
  clear x2 x3
  have h2 := H2.out.kept g2 (by simp)
  have h1 := H1.out.kept g2 (by simp)
  have K1 : Hid (WBlk ((w2.setCell ⟨W.heap.size + 1, 0, none⟩ (.bool a2)).setCell ⟨W.heap.size + 1, 1, none⟩ (.string b2)) W.heap.size (.bool a1) (.string b1)) := (h1.other (by omega)).other (by omega)
  have K2 : Hid (WBlk ((w2.setCell ⟨W.heap.size + 1, 0, none⟩ (.bool a2)).setCell ⟨W.heap.size + 1, 1, none⟩ (.string b2)) (W.heap.size + 1) (.bool a2) (.string b2)) := h2.put _ _
  have KG : Hid (W.grownBy ((w2.setCell ⟨W.heap.size + 1, 0, none⟩ (.bool a2)).setCell ⟨W.heap.size + 1, 1, none⟩ (.string b2)) none) := grown_set (grown_set (grownBy_trans HG.out g2) (by omega)) (by omega)
  have k0 := h2.c0
  have k1 := h2.c1
  have k2 := h2.fr 0
  have k3 := h2.fr 1
  clear g2 h1 h2 H1 H2 HX1 HG
  go_upto_region 4 with fail
  clear k0 k1 k2 k3
  generalize (w2.setCell ⟨W.heap.size + 1, 0, none⟩ (.bool a2)).setCell ⟨W.heap.size + 1, 1, none⟩ (.string b2) = U at *
  go_wp2_with fail
  refine (fzero_gr _).mono ?_
  rintro e w3 ⟨rfl, g3⟩
  go_wp2_with fail
  refine (fzero_gr _).mono ?_
  rintro e w4 ⟨rfl, g4⟩
  have G4 := grownBy_trans g3 g4
  have h1 := K1.out.kept G4 (by simp)
  have h2 := K2.out.kept G4 (by simp)
  have GW : W.grownBy w4 none := grownBy_trans KG.out G4
  clear g3 g4 G4
  have e0 := h1.c0
  have e1 := h1.c1
  have e2 := h1.fr 0
  have e3 := h1.fr 1
  have e4 := h2.c0
  have e5 := h2.c1
  have e6 := h2.fr 0
  have e7 := h2.fr 1
  go_wp2_with fail
  refine bodyPost_ret (res_cell2_tmp rfl _ _ W.heap.size (W.heap.size + 1) _ _ _ _ _ _ _ _ rfl (WBlk.other (WBlk.other (h1.put _ _) (by omega)) (by omega)) rfl (WBlk.put (WBlk.other (WBlk.other h2 (by omega)) (by omega)) _ _)) rfl ?_
  exact ⟨rfl, grown_set (grown_set (grown_set (grown_set GW (by omega)) (by omega)) (by omega)) (by omega)⟩
theorem sqrt1_no2 (W : World) (Bx : Nat) (n d : Bool) (s t : ByteArray) (hx : QBlk W Bx (.bool n) (.string s) (.bool d) (.string t)) (a1 a2 : Bool) (b1 b2 : ByteArray)
    (HS1 : Hid (∀ w, Calls Tryz.prog 61 #[whole n s] w fun e w' => e = .returned (.tuple #[whole a1 b1, .bool true]) ∧ w.grownBy w' none))
    (HS2 : Hid (∀ w, Calls Tryz.prog 61 #[whole d t] w fun e w' => e = .returned (.tuple #[whole a2 b2, .bool false]) ∧ w.grownBy w' none)) :
    Calls Tryz.prog 60 #[.pointer (some ⟨Bx, 0, none⟩)] W fun e w' => e = .returned (.tuple #[whole false eS, whole false eS, .int .i64 7]) ∧ W.grownBy w' none := by
  have HX : Hid (QBlk W Bx (.bool n) (.string s) (.bool d) (.string t)) := hx
  have hxl := hx.lt
  have x0 := hx.c0
  have x1 := hx.c1
  clear hx
  go_enter Tryz.func60, Tryz.ntmps60
  go_wp2_with fail
  refine (HS1.out _).mono ?_
  rintro e w1 ⟨rfl, g1⟩
  clear x0 x1
  have h1 : WBlk w1 W.heap.size (.bool false) (.string eS) := WBlk.kept (at_alloc1 _ _ _) g1 (by simp)
  have h2 : WBlk w1 (W.heap.size + 1) (.bool false) (.string eS) := WBlk.kept (heap_alloc2_new _ _ _) g1 (by simp)
  have hX1 := HX.out.kept (grownBy_trans (grow2 _ _ _) g1) (by simp)
  have H1 : Hid (WBlk ((w1.setCell ⟨W.heap.size, 0, none⟩ (.bool a1)).setCell ⟨W.heap.size, 1, none⟩ (.string b1)) W.heap.size (.bool a1) (.string b1)) := h1.put _ _
  have H2 : Hid (WBlk ((w1.setCell ⟨W.heap.size, 0, none⟩ (.bool a1)).setCell ⟨W.heap.size, 1, none⟩ (.string b1)) (W.heap.size + 1) (.bool false) (.string eS)) := (h2.other (by omega)).other (by omega)
  have HX1 : Hid (QBlk ((w1.setCell ⟨W.heap.size, 0, none⟩ (.bool a1)).setCell ⟨W.heap.size, 1, none⟩ (.string b1)) Bx (.bool n) (.string s) (.bool d) (.string t)) := (hX1.other (by omega)).other (by omega)
  have HG : Hid (W.grownBy ((w1.setCell ⟨W.heap.size, 0, none⟩ (.bool a1)).setCell ⟨W.heap.size, 1, none⟩ (.string b1)) none) := grown_set (grown_set (grownBy_trans (grow2 _ _ _) g1) (by omega)) (by omega)
  have k0 := h1.c0
  have k1 := h1.c1
  have k2 := h1.fr 0
  have k3 := h1.fr 1
  clear g1 h1 h2 hX1 HX
  go_upto_region 2 with fail
  clear k0 k1 k2 k3
  generalize (w1.setCell ⟨W.heap.size, 0, none⟩ (.bool a1)).setCell ⟨W.heap.size, 1, none⟩ (.string b1) = V at *
  have x2 := HX1.out.c2
  have x3 := HX1.out.c3
  go_wp2_with fail
  refine (HS2.out _).mono ?_
  rintro e w2 ⟨rfl, g2⟩
  clear x2 x3
  have h2 := H2.out.kept g2 (by simp)
  have h1 := H1.out.kept g2 (by simp)
  have K1 : Hid (WBlk ((w2.setCell ⟨W.heap.size + 1, 0, none⟩ (.bool a2)).setCell ⟨W.heap.size + 1, 1, none⟩ (.string b2)) W.heap.size (.bool a1) (.string b1)) := (h1.other (by omega)).other (by omega)
  have K2 : Hid (WBlk ((w2.setCell ⟨W.heap.size + 1, 0, none⟩ (.bool a2)).setCell ⟨W.heap.size + 1, 1, none⟩ (.string b2)) (W.heap.size + 1) (.bool a2) (.string b2)) := h2.put _ _
  have KG : Hid (W.grownBy ((w2.setCell ⟨W.heap.size + 1, 0, none⟩ (.bool a2)).setCell ⟨W.heap.size + 1, 1, none⟩ (.string b2)) none) := grown_set (grown_set (grownBy_trans HG.out g2) (by omega)) (by omega)
  have k0 := h2.c0
  have k1 := h2.c1
  have k2 := h2.fr 0
  have k3 := h2.fr 1
  clear g2 h1 h2 H1 H2 HX1 HG
  go_upto_region 4 with fail
  clear k0 k1 k2 k3
  generalize (w2.setCell ⟨W.heap.size + 1, 0, none⟩ (.bool a2)).setCell ⟨W.heap.size + 1, 1, none⟩ (.string b2) = U at *
  go_wp2_with fail
  refine (fzero_gr _).mono ?_
  rintro e w3 ⟨rfl, g3⟩
  go_wp2_with fail
  refine (fzero_gr _).mono ?_
  rintro e w4 ⟨rfl, g4⟩
  have G4 := grownBy_trans g3 g4
  have h1 := K1.out.kept G4 (by simp)
  have h2 := K2.out.kept G4 (by simp)
  have GW : W.grownBy w4 none := grownBy_trans KG.out G4
  clear g3 g4 G4
  have e0 := h1.c0
  have e1 := h1.c1
  have e2 := h1.fr 0
  have e3 := h1.fr 1
  have e4 := h2.c0
  have e5 := h2.c1
  have e6 := h2.fr 0
  have e7 := h2.fr 1
  go_wp2_with fail
  refine bodyPost_ret (res_cell2_tmp rfl _ _ W.heap.size (W.heap.size + 1) _ _ _ _ _ _ _ _ rfl (WBlk.other (WBlk.other (h1.put _ _) (by omega)) (by omega)) rfl (WBlk.put (WBlk.other (WBlk.other h2 (by omega)) (by omega)) _ _)) rfl ?_
  exact ⟨rfl, grown_set (grown_set (grown_set (grown_set GW (by omega)) (by omega)) (by omega)) (by omega)⟩
theorem sqrt1_no3 (W : World) (Bx : Nat) (n d : Bool) (s t : ByteArray) (hx : QBlk W Bx (.bool n) (.string s) (.bool d) (.string t)) (a1 a2 : Bool) (b1 b2 : ByteArray)
    (HS1 : Hid (∀ w, Calls Tryz.prog 61 #[whole n s] w fun e w' => e = .returned (.tuple #[whole a1 b1, .bool false]) ∧ w.grownBy w' none))
    (HS2 : Hid (∀ w, Calls Tryz.prog 61 #[whole d t] w fun e w' => e = .returned (.tuple #[whole a2 b2, .bool false]) ∧ w.grownBy w' none)) :
    Calls Tryz.prog 60 #[.pointer (some ⟨Bx, 0, none⟩)] W fun e w' => e = .returned (.tuple #[whole false eS, whole false eS, .int .i64 7]) ∧ W.grownBy w' none := by
  have HX : Hid (QBlk W Bx (.bool n) (.string s) (.bool d) (.string t)) := hx
  have hxl := hx.lt
  have x0 := hx.c0
  have x1 := hx.c1
  clear hx
  go_enter Tryz.func60, Tryz.ntmps60
  go_wp2_with fail
  refine (HS1.out _).mono ?_
  rintro e w1 ⟨rfl, g1⟩
  clear x0 x1
  have h1 : WBlk w1 W.heap.size (.bool false) (.string eS) := WBlk.kept (at_alloc1 _ _ _) g1 (by simp)
  have h2 : WBlk w1 (W.heap.size + 1) (.bool false) (.string eS) := WBlk.kept (heap_alloc2_new _ _ _) g1 (by simp)
  have hX1 := HX.out.kept (grownBy_trans (grow2 _ _ _) g1) (by simp)
  have H1 : Hid (WBlk ((w1.setCell ⟨W.heap.size, 0, none⟩ (.bool a1)).setCell ⟨W.heap.size, 1, none⟩ (.string b1)) W.heap.size (.bool a1) (.string b1)) := h1.put _ _
  have H2 : Hid (WBlk ((w1.setCell ⟨W.heap.size, 0, none⟩ (.bool a1)).setCell ⟨W.heap.size, 1, none⟩ (.string b1)) (W.heap.size + 1) (.bool false) (.string eS)) := (h2.other (by omega)).other (by omega)
  have HX1 : Hid (QBlk ((w1.setCell ⟨W.heap.size, 0, none⟩ (.bool a1)).setCell ⟨W.heap.size, 1, none⟩ (.string b1)) Bx (.bool n) (.string s) (.bool d) (.string t)) := (hX1.other (by omega)).other (by omega)
  have HG : Hid (W.grownBy ((w1.setCell ⟨W.heap.size, 0, none⟩ (.bool a1)).setCell ⟨W.heap.size, 1, none⟩ (.string b1)) none) := grown_set (grown_set (grownBy_trans (grow2 _ _ _) g1) (by omega)) (by omega)
  have k0 := h1.c0
  have k1 := h1.c1
  have k2 := h1.fr 0
  have k3 := h1.fr 1
  clear g1 h1 h2 hX1 HX
  go_upto_region 2 with fail
  clear k0 k1 k2 k3
  generalize (w1.setCell ⟨W.heap.size, 0, none⟩ (.bool a1)).setCell ⟨W.heap.size, 1, none⟩ (.string b1) = V at *
  have x2 := HX1.out.c2
  have x3 := HX1.out.c3
  go_wp2_with fail
  refine (HS2.out _).mono ?_
  rintro e w2 ⟨rfl, g2⟩
  clear x2 x3
  have h2 := H2.out.kept g2 (by simp)
  have h1 := H1.out.kept g2 (by simp)
  have K1 : Hid (WBlk ((w2.setCell ⟨W.heap.size + 1, 0, none⟩ (.bool a2)).setCell ⟨W.heap.size + 1, 1, none⟩ (.string b2)) W.heap.size (.bool a1) (.string b1)) := (h1.other (by omega)).other (by omega)
  have K2 : Hid (WBlk ((w2.setCell ⟨W.heap.size + 1, 0, none⟩ (.bool a2)).setCell ⟨W.heap.size + 1, 1, none⟩ (.string b2)) (W.heap.size + 1) (.bool a2) (.string b2)) := h2.put _ _
  have KG : Hid (W.grownBy ((w2.setCell ⟨W.heap.size + 1, 0, none⟩ (.bool a2)).setCell ⟨W.heap.size + 1, 1, none⟩ (.string b2)) none) := grown_set (grown_set (grownBy_trans HG.out g2) (by omega)) (by omega)
  have k0 := h2.c0
  have k1 := h2.c1
  have k2 := h2.fr 0
  have k3 := h2.fr 1
  clear g2 h1 h2 H1 H2 HX1 HG
  go_upto_region 4 with fail
  clear k0 k1 k2 k3
  generalize (w2.setCell ⟨W.heap.size + 1, 0, none⟩ (.bool a2)).setCell ⟨W.heap.size + 1, 1, none⟩ (.string b2) = U at *
  go_wp2_with fail
  refine (fzero_gr _).mono ?_
  rintro e w3 ⟨rfl, g3⟩
  go_wp2_with fail
  refine (fzero_gr _).mono ?_
  rintro e w4 ⟨rfl, g4⟩
  have G4 := grownBy_trans g3 g4
  have h1 := K1.out.kept G4 (by simp)
  have h2 := K2.out.kept G4 (by simp)
  have GW : W.grownBy w4 none := grownBy_trans KG.out G4
  clear g3 g4 G4
  have e0 := h1.c0
  have e1 := h1.c1
  have e2 := h1.fr 0
  have e3 := h1.fr 1
  have e4 := h2.c0
  have e5 := h2.c1
  have e6 := h2.fr 0
  have e7 := h2.fr 1
  go_wp2_with fail
  refine bodyPost_ret (res_cell2_tmp rfl _ _ W.heap.size (W.heap.size + 1) _ _ _ _ _ _ _ _ rfl (WBlk.other (WBlk.other (h1.put _ _) (by omega)) (by omega)) rfl (WBlk.put (WBlk.other (WBlk.other h2 (by omega)) (by omega)) _ _)) rfl ?_
  exact ⟨rfl, grown_set (grown_set (grown_set (grown_set GW (by omega)) (by omega)) (by omega)) (by omega)⟩
theorem sqrt1_yes (W : World) (Bx : Nat) (n d : Bool) (s t : ByteArray) (hx : QBlk W Bx (.bool n) (.string s) (.bool d) (.string t)) (a1 a2 : Bool) (b1 b2 : ByteArray)
    (HS1 : Hid (∀ w, Calls Tryz.prog 61 #[whole n s] w fun e w' => e = .returned (.tuple #[whole a1 b1, .bool true]) ∧ w.grownBy w' none))
    (HS2 : Hid (∀ w, Calls Tryz.prog 61 #[whole d t] w fun e w' => e = .returned (.tuple #[whole a2 b2, .bool true]) ∧ w.grownBy w' none)) :
    Calls Tryz.prog 60 #[.pointer (some ⟨Bx, 0, none⟩)] W fun e w' => e = .returned (.tuple #[whole a1 b1, whole a2 b2, .int .i64 0]) ∧ W.grownBy w' none := by
  have HX : Hid (QBlk W Bx (.bool n) (.string s) (.bool d) (.string t)) := hx
  have hxl := hx.lt
  have x0 := hx.c0
  have x1 := hx.c1
  clear hx
  go_enter Tryz.func60, Tryz.ntmps60
  go_wp2_with fail
  refine (HS1.out _).mono ?_
  rintro e w1 ⟨rfl, g1⟩
  clear x0 x1
  have h1 : WBlk w1 W.heap.size (.bool false) (.string eS) := WBlk.kept (at_alloc1 _ _ _) g1 (by simp)
  have h2 : WBlk w1 (W.heap.size + 1) (.bool false) (.string eS) := WBlk.kept (heap_alloc2_new _ _ _) g1 (by simp)
  have hX1 := HX.out.kept (grownBy_trans (grow2 _ _ _) g1) (by simp)
  have H1 : Hid (WBlk ((w1.setCell ⟨W.heap.size, 0, none⟩ (.bool a1)).setCell ⟨W.heap.size, 1, none⟩ (.string b1)) W.heap.size (.bool a1) (.string b1)) := h1.put _ _
  have H2 : Hid (WBlk ((w1.setCell ⟨W.heap.size, 0, none⟩ (.bool a1)).setCell ⟨W.heap.size, 1, none⟩ (.string b1)) (W.heap.size + 1) (.bool false) (.string eS)) := (h2.other (by omega)).other (by omega)
  have HX1 : Hid (QBlk ((w1.setCell ⟨W.heap.size, 0, none⟩ (.bool a1)).setCell ⟨W.heap.size, 1, none⟩ (.string b1)) Bx (.bool n) (.string s) (.bool d) (.string t)) := (hX1.other (by omega)).other (by omega)
  have HG : Hid (W.grownBy ((w1.setCell ⟨W.heap.size, 0, none⟩ (.bool a1)).setCell ⟨W.heap.size, 1, none⟩ (.string b1)) none) := grown_set (grown_set (grownBy_trans (grow2 _ _ _) g1) (by omega)) (by omega)
  have k0 := h1.c0
  have k1 := h1.c1
  have k2 := h1.fr 0
  have k3 := h1.fr 1
  clear g1 h1 h2 hX1 HX
  go_upto_region 2 with fail
  clear k0 k1 k2 k3
  generalize (w1.setCell ⟨W.heap.size, 0, none⟩ (.bool a1)).setCell ⟨W.heap.size, 1, none⟩ (.string b1) = V at *
  have x2 := HX1.out.c2
  have x3 := HX1.out.c3
  go_wp2_with fail
  refine (HS2.out _).mono ?_
  rintro e w2 ⟨rfl, g2⟩
  clear x2 x3
  have h2 := H2.out.kept g2 (by simp)
  have h1 := H1.out.kept g2 (by simp)
  have K1 : Hid (WBlk ((w2.setCell ⟨W.heap.size + 1, 0, none⟩ (.bool a2)).setCell ⟨W.heap.size + 1, 1, none⟩ (.string b2)) W.heap.size (.bool a1) (.string b1)) := (h1.other (by omega)).other (by omega)
  have K2 : Hid (WBlk ((w2.setCell ⟨W.heap.size + 1, 0, none⟩ (.bool a2)).setCell ⟨W.heap.size + 1, 1, none⟩ (.string b2)) (W.heap.size + 1) (.bool a2) (.string b2)) := h2.put _ _
  have KG : Hid (W.grownBy ((w2.setCell ⟨W.heap.size + 1, 0, none⟩ (.bool a2)).setCell ⟨W.heap.size + 1, 1, none⟩ (.string b2)) none) := grown_set (grown_set (grownBy_trans HG.out g2) (by omega)) (by omega)
  have k0 := h2.c0
  have k1 := h2.c1
  have k2 := h2.fr 0
  have k3 := h2.fr 1
  clear g2 h1 h2 H1 H2 HX1 HG
  go_upto_region 5 with fail
  clear k0 k1 k2 k3
  generalize (w2.setCell ⟨W.heap.size + 1, 0, none⟩ (.bool a2)).setCell ⟨W.heap.size + 1, 1, none⟩ (.string b2) = U at *
  have h1 : WBlk U.drew W.heap.size (.bool a1) (.string b1) := K1.out.kept (row := none) (grow_drew (World.grownBy.refl _ _)) (by simp)
  have h2 : WBlk U.drew (W.heap.size + 1) (.bool a2) (.string b2) := K2.out.kept (row := none) (grow_drew (World.grownBy.refl _ _)) (by simp)
  have u0 := K1.out.c0
  have u1 := K1.out.c1
  have u2 := K1.out.fr 0
  have u3 := K1.out.fr 1
  have u4 := K2.out.c0
  have u5 := K2.out.c1
  have u6 := K2.out.fr 0
  have u7 := K2.out.fr 1
  have HY : Hid (∀ w', WBlk w' W.heap.size (.bool a1) (.string b1) ∧ WBlk w' (W.heap.size + 1) (.bool a2) (.string b2) → w'.cell? ⟨W.heap.size, 0, none⟩ = some (.bool a1) ∧ w'.cell? ⟨W.heap.size, 1, none⟩ = some (.string b1) ∧ w'.cell? ⟨W.heap.size + 1, 0, none⟩ = some (.bool a2) ∧ w'.cell? ⟨W.heap.size + 1, 1, none⟩ = some (.string b2)) := fun w' h => ⟨h.1.c0, h.1.c1, h.2.c0, h.2.c1⟩
  go_region_held3 (fun w' => w'.cell? ⟨W.heap.size, 0, none⟩ = some (.bool a1) ∧ w'.cell? ⟨W.heap.size, 1, none⟩ = some (.string b1) ∧ w'.cell? ⟨W.heap.size + 1, 0, none⟩ = some (.bool a2) ∧ w'.cell? ⟨W.heap.size + 1, 1, none⟩ = some (.string b2))
    (first | with_reducible exact HY.out _ ⟨h1, h2⟩ | with_reducible exact HY.out _ ⟨wdrew (K1.out.put _ _), wdrew ((K2.out.other (by omega)).other (by omega))⟩ | with_reducible exact HY.out _ ⟨wdrew (((K1.out.put _ _).other (by omega)).other (by omega)), wdrew (WBlk.put ((K2.out.other (by omega)).other (by omega)) _ _)⟩ | fail)
    (first | fail)
  go_wp2_with fail
  refine bodyPost_ret (res_cell2_tmp rfl _ _ W.heap.size (W.heap.size + 1) _ _ _ _ _ _ _ _ rfl (wdrew (((K1.out.put _ _).other (by omega)).other (by omega))) rfl (wdrew (WBlk.put ((K2.out.other (by omega)).other (by omega)) _ _))) rfl ?_
  exact ⟨rfl, grow_drew (grown_set (grown_set (grown_set (grown_set KG.out (by omega)) (by omega)) (by omega)) (by omega))⟩
theorem rtx_ex (V : Nat) : ∃ r, r * r ≤ V ∧ V < (r + 1) * (r + 1) := by
  induction V with
  | zero => exact ⟨0, by omega, by omega⟩
  | succ V ih =>
    obtain ⟨r, h1, h2⟩ := ih
    rcases Nat.lt_or_ge (V + 1) ((r + 1) * (r + 1)) with k | k
    · exact ⟨r, by omega, k⟩
    · refine ⟨r + 1, by omega, ?_⟩
      have e : (r + 1 + 1) * (r + 1 + 1) = (r + 1) * (r + 1) + 2 * (r + 1) + 1 := by grind
      omega
theorem rtx_mag (n : Nat) : bN (strOf (ints (magN n))) = magN n := bN_strOf _ (magN_rng _)
theorem rtx_pack (mag : ByteArray) (h : may false mag = true) {r : Nat} (h1 : r * r ≤ val (bN mag)) (h2 : val (bN mag) < (r + 1) * (r + 1)) :
    Hid (∀ w, Calls Tryz.prog 112 #[whole false mag] w fun e w' => e = .returned (.tuple #[whole false (strOf (ints (magN r))), whole false (strOf (ints (magN (val (bN mag) - r * r)))), .int .i64 0]) ∧ w.grownBy w' none) ∧
    Hid (∀ w, Calls Tryz.prog 65 #[whole false mag] w fun e w' => e = .returned (.tuple #[whole false (strOf (ints (magN r))), whole false (strOf (ints (magN (val (bN mag) - r * r))))]) ∧ w.grownBy w' none) := by
  refine ⟨fun w => ?_, fun w => ?_⟩
  · refine (root_yes mag h w).mono ?_
    rintro e w' ⟨⟨r', s, s', rfl, k1, k2, k3, k4⟩, hg⟩
    obtain rfl := root_one k1 k2 h1 h2
    rw [bN_inj (k3.trans (rtx_mag _).symm), bN_inj (k4.trans (rtx_mag _).symm)]
    exact ⟨rfl, hg⟩
  · refine (rRoot_any mag h w).mono ?_
    rintro e w' ⟨⟨r', s, s', rfl, k1, k2, k3, k4⟩, hg⟩
    obtain rfl := root_one k1 k2 h1 h2
    rw [bN_inj (k3.trans (rtx_mag _).symm), bN_inj (k4.trans (rtx_mag _).symm)]
    exact ⟨rfl, hg⟩
theorem rsqrtq_neg (n d : Bool) (s t : ByteArray)
    (HS : Hid (∀ w, Calls Tryz.prog 28 #[frac n s d t] w fun e w' => e = .returned (.int .i64 (-1)) ∧ w.grownBy w' none))
    (w : World) :
    Calls Tryz.prog 23 #[frac n s d t] w fun e w' => e = .returned (.tuple #[frac false eS false eS, .bool false]) ∧ w.grownBy w' none := by
  go_enter Tryz.func23, Tryz.ntmps23
  go_wp2_with fail
  refine (HS.out _).mono ?_
  rintro e w1 ⟨rfl, g1⟩
  have X1 : Hid (QBlk w1 w.heap.size (.bool n) (.string s) (.bool d) (.string t)) := QBlk.kept (at_alloc1 _ _ _) g1 (by simp)
  have R1 : Hid (QBlk w1 (w.heap.size + 1) (.bool false) (.string eS) (.bool false) (.string eS)) := QBlk.kept (heap_alloc2_new _ _ _) g1 (by simp)
  have G1 : Hid (w.grownBy w1 none) := grownBy_trans (grow2 _ _ _) g1
  clear g1
  have hR := R1.out
  have r0 := hR.c0
  have r1 := hR.c1
  have r2 := hR.c2
  have r3 := hR.c3
  have f0 := hR.fr 0
  have f1 := hR.fr 1
  have f2 := hR.fr 2
  have f3 := hR.fr 3
  go_wp2_with fail
  refine bodyPost_ret (res_cellQ_tmp rfl _ _ (w.heap.size + 1) _ _ _ _ _ _ rfl (hR.put _ _ _ _)) rfl ?_
  exact ⟨rfl, grown_put4 G1.out (by omega)⟩
theorem fsqrt_by (n d rn1 rd1 : Bool) (s t rs1 rt1 : ByteArray) (re1 : Int) (w : World)
    (HR : Hid (∀ (W : World) (B : Nat), QBlk W w.heap.size (.bool n) (.string s) (.bool d) (.string t) → W.heap[B]? = some (.cells #[.bool n, .string s, .bool d, .string t] 25 (0, 0)) →
      Calls Tryz.prog 59 #[.func (.func 60) #[] #[.pointer (some ⟨w.heap.size, 0, none⟩)], .slice (some ⟨B, 0, none⟩) 1 1] W fun e w' => e = .returned (.tuple #[frac rn1 rs1 rd1 rt1, .int .i64 re1]) ∧ W.grownBy w' none)) :
    Calls Tryz.prog 16 #[frac n s d t] w fun e w' => e = .returned (.tuple #[frac rn1 rs1 rd1 rt1, .int .i64 re1]) ∧ w.grownBy w' none := by
  have hmf : ∀ (fn : Fn) (first cap : Array Value) (w : World), (Instr.makeFunc fn first cap).run Tryz.prog w = .ok (.func fn first cap) w := fun _ _ _ _ => rfl
  go_enter Tryz.func16, Tryz.ntmps16
  go_wp2_with fail
  refine (HR.out _ _ ?x1 ?x3).mono ?_
  case x1 => exact old_alloc _ _ (at_alloc1 _ _ _)
  case x3 => first | exact at_alloc3 _ _ _ _ | (have := at_alloc3 w (qObj n s d t) (qObj false eS false eS) (.cells #[.bool n, .string s, .bool d, .string t] 25); simpa using this)
  rintro e w1 ⟨rfl, g1⟩
  have G1 : ((w.alloc (qObj n s d t)).alloc (qObj false eS false eS)).grownBy w1 none := grownBy_trans (grow1 _ _) g1
  have hR : QBlk w1 (w.heap.size + 1) (.bool false) (.string eS) (.bool false) (.string eS) := QBlk.kept (heap_alloc2_new _ _ _) G1 (by simp)
  have HG1 : Hid (w.grownBy w1 none) := grownBy_trans (grow2 _ _ _) G1
  clear g1 G1
  have r0 := hR.c0
  have r1 := hR.c1
  have r2 := hR.c2
  have r3 := hR.c3
  have f0 := hR.fr 0
  have f1 := hR.fr 1
  have f2 := hR.fr 2
  have f3 := hR.fr 3
  go_wp2_with fail
  refine bodyPost_ret (res_cellQ_tmp rfl _ _ (w.heap.size + 1) _ _ _ _ _ _ rfl (hR.put _ _ _ _)) rfl ?_
  exact ⟨rfl, grown_put4 HG1.out (by omega)⟩
theorem dq_one {W : World} {B : Nat} {n d : Bool} {s t : ByteArray} (hB : W.heap[B]? = some (.cells #[.bool n, .string s, .bool d, .string t] 25 (0, 0))) :
    DQ W (.slice (some ⟨B, 0, none⟩) 1 1) [(n, s, d, t)] := by
  refine ⟨B, 0, 1, rfl, by simp, fun j p hp => ?_⟩
  simp only [World.cell?, hB]
  match j, hp with
  | 0, hp => cases hp; exact ⟨rfl, rfl, rfl, rfl⟩
theorem eg_sqrt1 : ∀ args w, (callFunc 60 args).run Tryz.prog w = .ok (.enter 60 args) w := enters_of Tryz.func60 (by kernel_rfl) rfl
theorem str_zero : strOf (ints (magN 0)) = eS := by rw [magN_zero]; rfl
theorem str_isz (r : Nat) : IsZ ((r : Nat) : Int) false (strOf (ints (magN r))) := ⟨by symm; exact decide_eq_false (by omega), by rw [Int.natAbs_natCast]; exact rtx_mag r⟩
theorem str_size {r : Nat} (h : r ≠ 0) (hr : r < 256 ^ 1024) : (strOf (ints (magN r))).size ≠ 0 := by
  have z : Sz 1024 ((r : Nat) : Int) false (strOf (ints (magN r))) := ⟨str_isz r, by rw [Int.natAbs_natCast]; exact hr⟩
  exact z.size0 (by decide) (by omega)
theorem square_of {s : ByteArray} (h : may false s = true) {r : Nat} (h1 : r * r ≤ val (bN s)) (h2 : val (bN s) < (r + 1) * (r + 1)) (hv : val (bN s) < 256 ^ 1024) :
    ∃ b : ByteArray, ∃ c : Bool, (c = true ↔ val (bN s) - r * r = 0) ∧ (c = true → b = strOf (ints (magN r))) ∧ ∀ w, Calls Tryz.prog 61 #[whole false s] w fun e w' => e = .returned (.tuple #[whole false b, .bool c]) ∧ w.grownBy w' none := by
  have hp := (rtx_pack s h h1 h2).1
  by_cases h0 : val (bN s) - r * r = 0
  · rw [h0, str_zero] at hp
    exact ⟨_, true, by simp [h0], fun _ => rfl, fun w => square_yes false s hp rfl w⟩
  · refine ⟨eS, false, by simp [h0], (fun e => nomatch e), fun w => square_rest false s hp (nonempty_q (str_size h0 (Nat.lt_of_le_of_lt (Nat.sub_le _ _) hv))) w⟩
theorem gcd_roots {r q x y : Nat} (hx : x = r * r) (hy : y = q * q) (h : Nat.gcd x y = 1) : Nat.gcd r q = 1 := by
  have d : Nat.gcd r q ∣ Nat.gcd x y := Nat.dvd_gcd (by rw [hx]; exact Nat.dvd_trans (Nat.gcd_dvd_left r q) (Nat.dvd_mul_right r r)) (by rw [hy]; exact Nat.dvd_trans (Nat.gcd_dvd_right r q) (Nat.dvd_mul_right q q))
  rw [h] at d
  exact Nat.dvd_one.1 d
theorem one_may {n d : Bool} {s t : ByteArray} {x y : Int} (h : IsQ x y n s d t) : ∀ p ∈ [(n, s, d, t)], mayQ4 p = true := by
  intro p hp
  simp at hp
  subst hp
  exact h.may
theorem fsqrt_not {x y : Int} {n d a1 a2 c1 c2 : Bool} {s t b1 b2 : ByteArray} (h : IsQ x y n s d t) (hc : (c1 && c2) = false)
    (HS1 : ∀ w, Calls Tryz.prog 61 #[whole n s] w fun e w' => e = .returned (.tuple #[whole a1 b1, .bool c1]) ∧ w.grownBy w' none)
    (HS2 : ∀ w, Calls Tryz.prog 61 #[whole d t] w fun e w' => e = .returned (.tuple #[whole a2 b2, .bool c2]) ∧ w.grownBy w' none) (w : World) :
    Calls Tryz.prog 16 #[frac n s d t] w fun e w' => e = .returned (.tuple #[frac false eS false eS, .int .i64 7]) ∧ w.grownBy w' none := by
  refine fsqrt_by n d _ _ s t _ _ _ w (fun W B h2' hB => ?_)
  refine reckoned_err7 60 _ eg_sqrt1 W _ _ (dq_one hB) (by simp) (one_may h) false false eS eS (fun w1 g => ?_)
  cases c1
  · cases c2
    · exact sqrt1_no3 w1 _ n d s t (h2'.kept g (by simp)) a1 a2 b1 b2 HS1 HS2
    · exact sqrt1_no1 w1 _ n d s t (h2'.kept g (by simp)) a1 a2 b1 b2 HS1 HS2
  · obtain rfl : c2 = false := by simpa using hc
    exact sqrt1_no2 w1 _ n d s t (h2'.kept g (by simp)) a1 a2 b1 b2 HS1 HS2
theorem sz_val {k : Nat} {x : Int} {n : Bool} {s : ByteArray} (hk : k ≤ 16384) (h : Sz k x n s) : val (bN s) = x.natAbs ∧ val (bN s) < 256 ^ k := by
  have hm := h.may hk
  have e := h.num
  have a : (num n s).natAbs = val (bN s) := num_abs n s
  rw [e] at a
  exact ⟨a.symm, by rw [← a]; exact h.2⟩
theorem le_sq (r : Nat) : r ≤ r * r := by
  by_cases e : r = 0
  · omega
  · exact Nat.le_mul_of_pos_left r (by omega)
end Go.Proofs.YtdfliaogmlpefaaGreatDoor
