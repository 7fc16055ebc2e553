/-
  frac's times and reckoned.
  frac's Add.
  frac's Add: of two fractions that may be.
-/
import Derived.Test.YtdfliaogmlpefaaGreatDoorBunFrb
import Derived.Deep.RegionWith
namespace Go.Proofs.YtdfliaogmlpefaaGreatDoor
open Go.RowKit Go.Lib Go.Sort
set_option linter.unusedVariables false
set_option maxHeartbeats 3200000
set_option maxRecDepth 1000000
theorem times_sz {k l : Nat} {x y : Int} {n1 n2 : Bool} {s1 s2 : ByteArray} (hk : k + l ≤ 16384) (h1 : Sz k x n1 s1) (h2 : Sz l y n2 s2) (w : World) :
    Calls Tryz.prog 54 #[whole n1 s1, whole n2 s2] w fun e w' => ∃ n s, e = .returned (whole n s) ∧ Sz (k + l) (x * y) n s ∧ w.grownBy w' none := by
  have HM : Hid (∀ w, Calls Tryz.prog 102 #[whole n1 s1, whole n2 s2] w fun e w' => ∃ n s, e = .returned (.tuple #[whole n s, .int .i64 0]) ∧ Sz (k + l) (x * y) n s ∧ w.grownBy w' none) := fun w => mul_sz hk h1 h2 w
  clear h1 h2 hk
  go_enter Tryz.func54, Tryz.ntmps54
  go_wp2_with fail
  refine (HM.out _).mono ?_
  rintro e w1 ⟨n, s, rfl, hz, g1⟩
  have hg : (((w.alloc (wObj n1 s1)).alloc (wObj n2 s2)).alloc (wObj false eS)).grownBy (w1.alloc (wObj n s)) none := grownBy_trans g1 (grow1 _ _)
  have hW : WBlk (w1.alloc (wObj n s)) (w.heap.size + 2) (.bool false) (.string eS) := WBlk.kept (at_alloc3 _ _ _ _) hg (by simp)
  have hA : WBlk (w1.alloc (wObj n s)) w1.heap.size (.bool n) (.string s) := heap_alloc_new _ _
  have HGG : Hid ((((w.alloc (wObj n1 s1)).alloc (wObj n2 s2)).alloc (wObj false eS)).grownBy (w1.alloc (wObj n s)) none) := hg
  have HZ : Hid (Sz (k + l) (x * y) n s) := hz
  have hc0 := hW.c0
  have hc1 := hW.c1
  have hf0 := hW.fr 0
  have hf1 := hW.fr 1
  have a0 := hA.c0
  have a1 := hA.c1
  clear g1 hg hz
  go_wp2_with fail
  refine bodyPost_ret (res_cell rfl _ _ (w.heap.size + 2) _ _ _ _ rfl (hW.put _ _)) rfl ?_
  exact ⟨n, s, rfl, HZ.out, grown_set (grown_set (grownBy_trans (grow3 _ _ _ _) HGG.out) (by omega)) (by omega)⟩
abbrev Q4 : Type := Bool × ByteArray × Bool × ByteArray
def DQ (w : World) (v : Value) (l : List Q4) : Prop :=
  ∃ B off c, v = .slice (some ⟨B, off, none⟩) l.length c ∧ l.length ≤ c ∧ ∀ j p, l[j]? = some p → w.cell? ⟨B, off + j * 4, none⟩ = some (.bool p.1) ∧ w.cell? ⟨B, off + j * 4 + 1, none⟩ = some (.string p.2.1) ∧ w.cell? ⟨B, off + j * 4 + 2, none⟩ = some (.bool p.2.2.1) ∧ w.cell? ⟨B, off + j * 4 + 3, none⟩ = some (.string p.2.2.2)
def mayQ4 (p : Q4) : Bool := mayQ p.1 p.2.1 p.2.2.1 p.2.2.2
theorem reckoned_yes (K : Nat) (caps : Array Value) (eg : ∀ args w, (callFunc K args).run Tryz.prog w = .ok (.enter K args) w) (w : World) (v : Value) (l : List Q4) (h : DQ w v l) (hl : l.length ≤ 1000) (hm : ∀ p ∈ l, mayQ4 p = true)
    (n d : Bool) (s t : ByteArray) (rn1 rd1 : Bool) (rs1 rt1 : ByteArray) (re1 : Int)
    (HF : Hid (∀ w1, w.grownBy w1 none → Calls Tryz.prog K caps w1 fun e w' => e = .returned (.tuple #[whole n s, whole d t, .int .i64 0]) ∧ w1.grownBy w' none))
    (HLo : Hid (∀ w1, Calls Tryz.prog 91 #[whole n s, whole d t] w1 fun e w' => e = .returned (.tuple #[frac rn1 rs1 rd1 rt1, .int .i64 re1]) ∧ w1.grownBy w' none)) :
    Calls Tryz.prog 59 #[.func (.func K) #[] caps, v] w fun e w' => e = .returned (.tuple #[frac rn1 rs1 rd1 rt1, .int .i64 re1]) ∧ w.grownBy w' none := by
  have HM : Hid (∀ p ∈ l, mayQ4 p = true) := hm
  obtain ⟨B, off, c, rfl, hc, hcs⟩ := h
  have HCS : Hid (∀ j p, l[j]? = some p → w.cell? ⟨B, off + j * 4, none⟩ = some (.bool p.1) ∧ w.cell? ⟨B, off + j * 4 + 1, none⟩ = some (.string p.2.1) ∧ w.cell? ⟨B, off + j * 4 + 2, none⟩ = some (.bool p.2.2.1) ∧ w.cell? ⟨B, off + j * 4 + 3, none⟩ = some (.string p.2.2.2)) := hcs
  obtain ⟨m, hn⟩ : ∃ m, l.length = m := ⟨_, rfl⟩
  have HN : Unit → l.length = m := fun _ => hn
  rw [hn] at hc hl ⊢
  have hnI : (m : Int) ≤ 1000 := by omega
  clear hm hcs hn hl
  go_enter Tryz.func59, Tryz.ntmps59
  go_wp2_with fail
  go_loopw [13] (fun t wr => ∃ k : Nat, k ≤ m ∧ t = .int .i64 (k : Int) ∧ (w.alloc (qObj false eS false eS)).grownBy wr none) (fun t _ => m - (RowKit.intOf t).toNat)
  case atStart => exact ⟨0, by omega, rfl, World.grownBy.refl _ _⟩
  case round =>
    obtain ⟨k, hk, rfl, hg⟩ := hrel
    have HG1 : Hid ((w.alloc (qObj false eS false eS)).grownBy wr none) := hg
    by_cases hk1 : k < m
    · have hkl : k < l.length := by rw [HN ()]; exact hk1
      have hp : l[k]? = some l[k] := List.getElem?_eq_getElem hkl
      have hcs := HCS.out k _ hp
      have hgw := grownBy_trans (grow1 w (qObj false eS false eS)) hg
      have hc0 := grownBy_cell hgw hcs.1 (by simp)
      have hc1 := grownBy_cell hgw hcs.2.1 (by simp)
      have hc2 := grownBy_cell hgw hcs.2.2.1 (by simp)
      have hc3 := grownBy_cell hgw hcs.2.2.2 (by simp)
      have hmp := HM.out l[k] (List.getElem_mem hkl)
      generalize l[k] = p at *
      obtain ⟨pn, ps, pd, pt⟩ := p
      simp only at hc0 hc1 hc2 hc3 hmp
      have hQ : IsQ (num pn ps) (num pd pt) pn ps pd pt := mayQ_is hmp
      have HMy : Hid (∀ w, Calls Tryz.prog 40 #[frac pn ps pd pt] w fun e w' => e = .returned (.bool true) ∧ w.grownBy w' none) := fun w => by
        have := mayq_any pn pd ps pt (by have := may_size (hQ.zn.may (by decide)); unfold maxLen; omega) (by have := may_size (hQ.zd.may (by decide)); unfold maxLen; omega) w
        rw [show mayQ pn ps pd pt = true from hmp] at this
        exact this
      clear hgw hcs hp hg hmp hQ
      go_wp2_with fail
      refine (HMy.out _).mono ?_
      rintro e w2 ⟨rfl, g2⟩
      have HG2 : Hid ((w.alloc (qObj false eS false eS)).grownBy w2 none) := grownBy_trans HG1.out (grownBy_trans (grow1 _ _) g2)
      clear g2
      go_wp2_with fail
      go_roundw
      case rel => exact ⟨k + 1, by omega, rfl, HG2.out⟩
      case measure => simp [RowKit.intOf]; omega
    · obtain rfl : k = m := by omega
      clear hg
      go_wp2_with fail
      refine (HF.out _ (grownBy_trans (grow1 _ _) HG1.out)).mono ?_
      rintro e w2 ⟨rfl, g2⟩
      have HG2 : Hid ((w.alloc (qObj false eS false eS)).grownBy ((w2.alloc (wObj n s)).alloc (wObj d t)) none) := grownBy_trans HG1.out (grownBy_trans g2 (grow2 _ _ _))
      clear g2
      go_wp2_with fail
      refine (HLo.out _).mono ?_
      rintro e w3 ⟨rfl, g3⟩
      have G3 : (w.alloc (qObj false eS false eS)).grownBy w3 none := grownBy_trans HG2.out g3
      have hR : QBlk w3 w.heap.size (.bool false) (.string eS) (.bool false) (.string eS) := QBlk.kept (w := w.alloc (qObj false eS false eS)) (heap_alloc_new _ _) G3 (by simp)
      have HG3 : Hid (w.grownBy w3 none) := grownBy_trans (grow1 _ _) G3
      clear g3 G3
      have r0 := hR.c0
      have r1 := hR.c1
      have r2 := hR.c2
      have r3 := hR.c3
      have f0 := hR.fr 0
      have f1 := hR.fr 1
      have f2 := hR.fr 2
      have f3 := hR.fr 3
      go_wp2_with fail
      refine bodyPost_ret (res_cellQ_tmp rfl _ _ w.heap.size _ _ _ _ _ _ rfl (hR.put _ _ _ _)) rfl ?_
      exact ⟨rfl, grown_put4 HG3.out (Nat.le_refl _)⟩
def Two (W : World) (Bx By : Nat) (n d n2 d2 : Bool) (s t s2 t2 : ByteArray) : Prop :=
  QBlk W Bx (.bool n) (.string s) (.bool d) (.string t) ∧ QBlk W By (.bool n2) (.string s2) (.bool d2) (.string t2)
theorem Two.kept {W W' : World} {Bx By : Nat} {n d n2 d2 : Bool} {s t s2 t2 : ByteArray} (h : Two W Bx By n d n2 d2 s t s2 t2) (g : W.grownBy W' none) : Two W' Bx By n d n2 d2 s t s2 t2 := ⟨h.1.kept g (by simp), h.2.kept g (by simp)⟩
theorem Two.cells {W : World} {Bx By : Nat} {n d n2 d2 : Bool} {s t s2 t2 : ByteArray} (h : Two W Bx By n d n2 d2 s t s2 t2) :
    W.cell? ⟨Bx, 0, none⟩ = some (.bool n) ∧ W.cell? ⟨Bx, 1, none⟩ = some (.string s) ∧ W.cell? ⟨Bx, 2, none⟩ = some (.bool d) ∧ W.cell? ⟨Bx, 3, none⟩ = some (.string t) ∧
    W.cell? ⟨By, 0, none⟩ = some (.bool n2) ∧ W.cell? ⟨By, 1, none⟩ = some (.string s2) ∧ W.cell? ⟨By, 2, none⟩ = some (.bool d2) ∧ W.cell? ⟨By, 3, none⟩ = some (.string t2) :=
  ⟨h.1.c0, h.1.c1, h.1.c2, h.1.c3, h.2.c0, h.2.c1, h.2.c2, h.2.c3⟩
theorem times_is {k l : Nat} {x y : Int} {n1 n2 n' : Bool} {s1 s2 s' : ByteArray} (hk : k + l ≤ 16384) (h1 : Sz k x n1 s1) (h2 : Sz l y n2 s2) (hq : IsZ (x * y) n' s') (w : World) :
    Calls Tryz.prog 54 #[whole n1 s1, whole n2 s2] w fun e w' => e = .returned (whole n' s') ∧ w.grownBy w' none := by
  refine (times_sz hk h1 h2 w).mono ?_
  rintro e w' ⟨n, s, rfl, hz, hg⟩
  obtain ⟨rfl, rfl⟩ := whole_inj (hz.1.one hq)
  exact ⟨rfl, hg⟩
theorem add_is {k : Nat} {x y : Int} {n1 n2 n' : Bool} {s1 s2 s' : ByteArray} (hk : k + 1 ≤ 16384) (h1 : Sz k x n1 s1) (h2 : Sz k y n2 s2) (hq : IsZ (x + y) n' s') (w : World) :
    Calls Tryz.prog 53 #[whole n1 s1, whole n2 s2] w fun e w' => e = .returned (.tuple #[whole n' s', .int .i64 0]) ∧ w.grownBy w' none := by
  refine (add_sz hk h1 h2 w).mono ?_
  rintro e w' ⟨n, s, rfl, hz, hg⟩
  obtain ⟨rfl, rfl⟩ := whole_inj (hz.1.one hq)
  exact ⟨rfl, hg⟩
theorem add1_any (W : World) (Bx By : Nat) (n d n2 d2 : Bool) (s t s2 t2 : ByteArray) (h2 : Two W Bx By n d n2 d2 s t s2 t2) (p1 p2 p3 pn : Bool) (q1 q2 q3 ps : ByteArray)
    (HT : Hid (∀ a1 b1 a2 b2 c1 c2 (w : World), (a1 = n ∧ b1 = s ∧ a2 = d2 ∧ b2 = t2 ∧ c1 = p1 ∧ c2 = q1) ∨ (a1 = n2 ∧ b1 = s2 ∧ a2 = d ∧ b2 = t ∧ c1 = p2 ∧ c2 = q2) ∨ (a1 = d ∧ b1 = t ∧ a2 = d2 ∧ b2 = t2 ∧ c1 = p3 ∧ c2 = q3) → Calls Tryz.prog 54 #[whole a1 b1, whole a2 b2] w fun e w' => e = .returned (whole c1 c2) ∧ w.grownBy w' none))
    (HA : Hid (∀ w, Calls Tryz.prog 53 #[whole p1 q1, whole p2 q2] w fun e w' => e = .returned (.tuple #[whole pn ps, .int .i64 0]) ∧ w.grownBy w' none)) :
    Calls Tryz.prog 92 #[.pointer (some ⟨Bx, 0, none⟩), .pointer (some ⟨By, 0, none⟩)] W fun e w' => e = .returned (.tuple #[whole pn ps, whole p3 q3, .int .i64 0]) ∧ W.grownBy w' none := by
  have HK : Hid (∀ w', W.grownBy w' none → w'.cell? ⟨Bx, 0, none⟩ = some (.bool n) ∧ w'.cell? ⟨Bx, 1, none⟩ = some (.string s) ∧ w'.cell? ⟨Bx, 2, none⟩ = some (.bool d) ∧ w'.cell? ⟨Bx, 3, none⟩ = some (.string t) ∧
    w'.cell? ⟨By, 0, none⟩ = some (.bool n2) ∧ w'.cell? ⟨By, 1, none⟩ = some (.string s2) ∧ w'.cell? ⟨By, 2, none⟩ = some (.bool d2) ∧ w'.cell? ⟨By, 3, none⟩ = some (.string t2)) := fun w' g => (h2.kept g).cells
  clear h2
  go_enter Tryz.func92, Tryz.ntmps92
  go_wp2_with fail
  go_region_held3 (fun w' => w'.cell? ⟨Bx, 0, none⟩ = some (.bool n) ∧ w'.cell? ⟨Bx, 1, none⟩ = some (.string s) ∧ w'.cell? ⟨Bx, 2, none⟩ = some (.bool d) ∧ w'.cell? ⟨Bx, 3, none⟩ = some (.string t) ∧
    w'.cell? ⟨By, 0, none⟩ = some (.bool n2) ∧ w'.cell? ⟨By, 1, none⟩ = some (.string s2) ∧ w'.cell? ⟨By, 2, none⟩ = some (.bool d2) ∧ w'.cell? ⟨By, 3, none⟩ = some (.string t2))
    (first | (go_keep; done) | exact HK.out _ (grown_set (grown_set (grownBy_trans (grow2 _ _ _) GC) (by omega)) (by omega)) | exact HK.out _ (grownBy_trans (grow2 _ _ _) (by assumption)) | exact HK.out _ (grow_drew (grow2 _ _ _)) | fail)
    (first
      | (go_at_call 54; refine (HT.out _ _ _ _ _ _ _ (by first | exact .inl ⟨rfl, rfl, rfl, rfl, rfl, rfl⟩ | exact .inr (.inl ⟨rfl, rfl, rfl, rfl, rfl, rfl⟩))).mono ?_; rintro e wA ⟨rfl, gA⟩; have GA : ((W.alloc (wObj false eS)).alloc (wObj false eS)).grownBy wA none := (by first | exact grownBy_trans (by assumption) gA | exact grownBy_undrew gA))
      | (go_at_call 53; refine (HA.out _).mono ?_; rintro e wC ⟨rfl, gC⟩; have GC : ((W.alloc (wObj false eS)).alloc (wObj false eS)).grownBy wC none := grownBy_trans (by assumption) gC; have hW : WBlk wC W.heap.size (.bool false) (.string eS) := WBlk.kept (at_alloc1 _ _ _) GC (by simp); have hc0 := hW.c0; have hc1 := hW.c1; have hf0 := hW.fr 0; have hf1 := hW.fr 1)
      | fail)
  have H1 : Hid (WBlk ((wC.setCell ⟨W.heap.size, 0, none⟩ (.bool pn)).setCell ⟨W.heap.size, 1, none⟩ (.string ps)) W.heap.size (.bool pn) (.string ps)) := hW.put _ _
  have H2 : Hid (WBlk ((wC.setCell ⟨W.heap.size, 0, none⟩ (.bool pn)).setCell ⟨W.heap.size, 1, none⟩ (.string ps)) (W.heap.size + 1) (.bool false) (.string eS)) := (WBlk.other (WBlk.kept (heap_alloc2_new _ _ _) GC (by simp)) (by omega)).other (by omega)
  have HG : Hid (W.grownBy ((wC.setCell ⟨W.heap.size, 0, none⟩ (.bool pn)).setCell ⟨W.heap.size, 1, none⟩ (.string ps)) none) := grown_set (grown_set (grownBy_trans (grow2 _ _ _) GC) (by omega)) (by omega)
  clear hW hc0 hc1 hf0 hf1 gC GC
  generalize (wC.setCell ⟨W.heap.size, 0, none⟩ (.bool pn)).setCell ⟨W.heap.size, 1, none⟩ (.string ps) = V at *
  have HS : Hid (∀ w', W.grownBy w' none → WBlk w' W.heap.size (.bool pn) (.string ps) → w'.cell? ⟨Bx, 0, none⟩ = some (.bool n) ∧ w'.cell? ⟨Bx, 1, none⟩ = some (.string s) ∧ w'.cell? ⟨Bx, 2, none⟩ = some (.bool d) ∧ w'.cell? ⟨Bx, 3, none⟩ = some (.string t) ∧ w'.cell? ⟨By, 0, none⟩ = some (.bool n2) ∧ w'.cell? ⟨By, 1, none⟩ = some (.string s2) ∧ w'.cell? ⟨By, 2, none⟩ = some (.bool d2) ∧ w'.cell? ⟨By, 3, none⟩ = some (.string t2) ∧ w'.cell? ⟨W.heap.size, 0, none⟩ = some (.bool pn) ∧ w'.cell? ⟨W.heap.size, 1, none⟩ = some (.string ps)) := fun w' g h => by
    obtain ⟨k0, k1, k2, k3, k4, k5, k6, k7⟩ := HK.out _ g
    exact ⟨k0, k1, k2, k3, k4, k5, k6, k7, h.c0, h.c1⟩
  go_wp2_with fail
  go_region_held3 (fun w' => w'.cell? ⟨Bx, 0, none⟩ = some (.bool n) ∧ w'.cell? ⟨Bx, 1, none⟩ = some (.string s) ∧ w'.cell? ⟨Bx, 2, none⟩ = some (.bool d) ∧ w'.cell? ⟨Bx, 3, none⟩ = some (.string t) ∧ w'.cell? ⟨By, 0, none⟩ = some (.bool n2) ∧ w'.cell? ⟨By, 1, none⟩ = some (.string s2) ∧ w'.cell? ⟨By, 2, none⟩ = some (.bool d2) ∧ w'.cell? ⟨By, 3, none⟩ = some (.string t2) ∧ w'.cell? ⟨W.heap.size, 0, none⟩ = some (.bool pn) ∧ w'.cell? ⟨W.heap.size, 1, none⟩ = some (.string ps))
    (first | (go_keep; done) | exact HS.out _ GW h1D | exact HS.out _ (grow_drew HG.out) H1.out | exact HS.out _ (grown_set (grown_set GW (by omega)) (by omega)) (h1D.put _ _) | exact HS.out _ (grown_set (grown_set (grown_set (grown_set GW (by omega)) (by omega)) (by omega)) (by omega)) (WBlk.other (WBlk.other (h1D.put _ _) (by omega)) (by omega)) | fail)
    (first
      | (go_at_call 54; refine (HT.out _ _ _ _ _ _ _ (by first | exact .inr (.inr ⟨rfl, rfl, rfl, rfl, rfl, rfl⟩))).mono ?_; rintro e wD ⟨rfl, gD⟩; have GD : V.grownBy wD none := (by first | exact gD | exact grownBy_undrew gD); have GW : W.grownBy wD none := grownBy_trans HG.out GD; have h1D := H1.out.kept GD (by simp); have h2D := H2.out.kept GD (by simp); have e0 := h1D.c0; have e1 := h1D.c1; have e2 := h1D.fr 0; have e3 := h1D.fr 1; have e4 := h2D.c0; have e5 := h2D.c1; have e6 := h2D.fr 0; have e7 := h2D.fr 1)
      | fail)
  go_wp2_with fail
  refine bodyPost_ret (res_cell2_tmp rfl _ _ W.heap.size (W.heap.size + 1) _ _ _ _ _ _ _ _ rfl (WBlk.other (WBlk.other (h1D.put _ _) (by omega)) (by omega)) rfl (WBlk.put (WBlk.other (WBlk.other h2D (by omega)) (by omega)) _ _)) rfl ?_
  exact ⟨rfl, grown_set (grown_set (grown_set (grown_set GW (by omega)) (by omega)) (by omega)) (by omega)⟩
theorem dq_two {W : World} {B : Nat} {n d n2 d2 : Bool} {s t s2 t2 : ByteArray} (hB : W.heap[B]? = some (.cells #[.bool n, .string s, .bool d, .string t, .bool n2, .string s2, .bool d2, .string t2] 25 (0, 0))) :
    DQ W (.slice (some ⟨B, 0, none⟩) 2 2) [(n, s, d, t), (n2, s2, d2, t2)] := by
  refine ⟨B, 0, 2, rfl, by simp, fun j p hp => ?_⟩
  simp only [World.cell?, hB]
  match j, hp with
  | 0, hp => cases hp; exact ⟨rfl, rfl, rfl, rfl⟩
  | 1, hp => cases hp; exact ⟨rfl, rfl, rfl, rfl⟩
theorem isz_ex (z : Int) : ∃ b s, IsZ z b s := ⟨decide (z < 0), strOf (ints (magN z.natAbs)), rfl, bN_strOf _ (magN_rng _)⟩
theorem IsZ.sz {z : Int} {b : Bool} {s : ByteArray} {k : Nat} (h : IsZ z b s) (hk : z.natAbs < 256 ^ k) : Sz k z b s := ⟨h, hk⟩
theorem mul_lt256 {x y : Int} {k l : Nat} (h1 : x.natAbs < 256 ^ k) (h2 : y.natAbs < 256 ^ l) : (x * y).natAbs < 256 ^ (k + l) := by
  rw [Int.natAbs_mul, Nat.pow_add]; exact Nat.mul_lt_mul'' h1 h2
theorem eg_add1 : ∀ args w, (callFunc 92 args).run Tryz.prog w = .ok (.enter 92 args) w := enters_of Tryz.func92 (by kernel_rfl) rfl
theorem fadd_any {x y u v : Int} {n d n2 d2 n' d' : Bool} {s t s2 t2 s' t' : ByteArray} (h1 : IsQ x y n s d t) (h2 : IsQ u v n2 s2 d2 t2) (L : Low (x * v + u * y) (y * v) n' s' d' t') (w : World) :
    Calls Tryz.prog 42 #[frac n s d t, frac n2 s2 d2 t2] w fun e w' => e = .returned (.tuple #[toldV n' s' d' t', .int .i64 (toldE s' t')]) ∧ w.grownBy w' none := by
  have hmf : ∀ (fn : Fn) (first cap : Array Value) (w : World), (Instr.makeFunc fn first cap).run Tryz.prog w = .ok (.func fn first cap) w := fun _ _ _ _ => rfl
  obtain ⟨p1, q1, z1⟩ := isz_ex (x * v)
  obtain ⟨p2, q2, z2⟩ := isz_ex (u * y)
  obtain ⟨p3, q3, z3⟩ := isz_ex (y * v)
  obtain ⟨pn, ps, zs⟩ := isz_ex (x * v + u * y)
  have k1 := z1.sz (mul_lt256 h1.zn.2 h2.zd.2)
  have k2 := z2.sz (mul_lt256 h2.zn.2 h1.zd.2)
  have k3 := z3.sz (mul_lt256 h1.zd.2 h2.zd.2)
  have ks := zs.sz (sum_lt k1.2 k2.2).1
  have hne : y * v ≠ 0 := by
    have a := h1.pos
    have b := h2.pos
    exact Int.ne_of_gt (Int.mul_pos a b)
  have HLo : Hid (∀ w1, Calls Tryz.prog 91 #[whole pn ps, whole p3 q3] w1 fun e w' => e = .returned (.tuple #[toldV n' s' d' t', .int .i64 (toldE s' t')]) ∧ w1.grownBy w' none) := fun w1 => lowest_any (k := 1024 + 1024 + 1) (by decide) ks (k3.up (by decide)) hne L w1
  have HT : Hid (∀ a1 b1 a2 b2 c1 c2 (w : World), (a1 = n ∧ b1 = s ∧ a2 = d2 ∧ b2 = t2 ∧ c1 = p1 ∧ c2 = q1) ∨ (a1 = n2 ∧ b1 = s2 ∧ a2 = d ∧ b2 = t ∧ c1 = p2 ∧ c2 = q2) ∨ (a1 = d ∧ b1 = t ∧ a2 = d2 ∧ b2 = t2 ∧ c1 = p3 ∧ c2 = q3) → Calls Tryz.prog 54 #[whole a1 b1, whole a2 b2] w fun e w' => e = .returned (whole c1 c2) ∧ w.grownBy w' none) := (by
    intro a1 b1 a2 b2 c1 c2 w h
    rcases h with ⟨rfl, rfl, rfl, rfl, rfl, rfl⟩ | ⟨rfl, rfl, rfl, rfl, rfl, rfl⟩ | ⟨rfl, rfl, rfl, rfl, rfl, rfl⟩
    · exact times_is (by decide) h1.zn h2.zd z1 w
    · exact times_is (by decide) h2.zn h1.zd z2 w
    · exact times_is (by decide) h1.zd h2.zd z3 w)
  have HA : Hid (∀ w, Calls Tryz.prog 53 #[whole p1 q1, whole p2 q2] w fun e w' => e = .returned (.tuple #[whole pn ps, .int .i64 0]) ∧ w.grownBy w' none) := fun w => add_is (by decide) k1 k2 zs w
  have hm1 := h1.may
  have hm2 := h2.may
  unfold toldV at *
  generalize tB (fitsB s' t') n' = rn1 at *
  generalize tS (fitsB s' t') s' = rs1 at *
  generalize tB (fitsB s' t') d' = rd1 at *
  generalize tS (fitsB s' t') t' = rt1 at *
  generalize toldE s' t' = re1 at *
  have HR : Hid (∀ (W : World) (B : Nat), Two W w.heap.size (w.heap.size + 1) n d n2 d2 s t s2 t2 → W.heap[B]? = some (.cells #[.bool n, .string s, .bool d, .string t, .bool n2, .string s2, .bool d2, .string t2] 25 (0, 0)) →
      Calls Tryz.prog 59 #[.func (.func 92) #[] #[.pointer (some ⟨w.heap.size, 0, none⟩), .pointer (some ⟨w.heap.size + 1, 0, none⟩)], .slice (some ⟨B, 0, none⟩) 2 2] W fun e w' => e = .returned (.tuple #[frac rn1 rs1 rd1 rt1, .int .i64 re1]) ∧ W.grownBy w' none) := fun W B h2' hB => by
    refine reckoned_yes 92 _ eg_add1 W _ _ (dq_two hB) (by simp) ?_ pn p3 ps q3 _ _ _ _ _ (fun w1 g => ?_) HLo
    · intro p hp
      simp at hp
      rcases hp with rfl | rfl
      · exact hm1
      · exact hm2
    · exact add1_any w1 _ _ n d n2 d2 s t s2 t2 (h2'.kept g) p1 p2 p3 pn q1 q2 q3 ps HT HA
  clear HT HA HLo h1 h2 L z1 z2 z3 zs k1 k2 k3 ks hne hm1 hm2
  go_enter Tryz.func42, Tryz.ntmps42
  go_wp2_with fail
  refine (HR.out _ _ ⟨?x1, ?x2⟩ ?x3).mono ?_
  case x1 => exact old_alloc _ _ (old_alloc _ _ (at_alloc1 _ _ _))
  case x2 => exact old_alloc _ _ (at_alloc2 _ _ _ _)
  case x3 => first | exact at_alloc4 _ _ _ _ _ | (have := at_alloc4 w (qObj n s d t) (qObj n2 s2 d2 t2) (qObj false eS false eS) (.cells #[.bool n, .string s, .bool d, .string t, .bool n2, .string s2, .bool d2, .string t2] 25); simpa using this)
  rintro e w1 ⟨rfl, g1⟩
  have G1 : (((w.alloc (qObj n s d t)).alloc (qObj n2 s2 d2 t2)).alloc (qObj false eS false eS)).grownBy w1 none := grownBy_trans (grow1 _ _) g1
  have hR : QBlk w1 (w.heap.size + 1 + 1) (.bool false) (.string eS) (.bool false) (.string eS) := QBlk.kept (w := ((w.alloc (qObj n s d t)).alloc (qObj n2 s2 d2 t2)).alloc (qObj false eS false eS)) (at_alloc3 _ _ _ _) G1 (by simp)
  have HG1 : Hid (w.grownBy w1 none) := grownBy_trans (grow3 _ _ _ _) G1
  clear g1 G1
  have r0 := hR.c0
  have r1 := hR.c1
  have r2 := hR.c2
  have r3 := hR.c3
  have f0 := hR.fr 0
  have f1 := hR.fr 1
  have f2 := hR.fr 2
  have f3 := hR.fr 3
  go_wp2_with fail
  refine bodyPost_ret (res_cellQ_tmp rfl _ _ (w.heap.size + 1 + 1) _ _ _ _ _ _ rfl (hR.put _ _ _ _)) rfl ?_
  exact ⟨rfl, grown_put4 HG1.out (by omega)⟩
end Go.Proofs.YtdfliaogmlpefaaGreatDoor
