/-
  frac's formulas of Sub, Mul, Div.
  frac's Add, Sub, Mul, Div, by what reckoned answers.
  frac's reckoned, of what may not be, and where the formula errs.
  frac's Sub, Mul, Div, Cmp of any two; the document's.
-/
import Derived.Test.YtdfliaogmlpefaaGreatDoorBunFre
import Derived.Deep.RegionWith
import Derived.Deep.CutRange
namespace Go.Proofs.YtdfliaogmlpefaaGreatDoor
open Go.RowKit Go.Lib Go.Sort
set_option linter.unusedVariables false
set_option maxHeartbeats 3200000
set_option maxRecDepth 1000000
theorem reckoned_err (K : Nat) (caps : Array Value) (eg : ∀ args w, (callFunc K args).run Tryz.prog w = .ok (.enter K args) w) (w : World) (v : Value) (l : List Q4) (h : DQ w v l) (hl : l.length ≤ 1000) (hm : ∀ p ∈ l, mayQ4 p = true)
    (n d : Bool) (s t : ByteArray)
    (HF : Hid (∀ w1, w.grownBy w1 none → Calls Tryz.prog K caps w1 fun e w' => e = .returned (.tuple #[whole n s, whole d t, .int .i64 5]) ∧ w1.grownBy w' none)) :
    Calls Tryz.prog 59 #[.func (.func K) #[] caps, v] w fun e w' => e = .returned (.tuple #[frac false eS false eS, .int .i64 5]) ∧ w.grownBy w' none := by
  have HM : Hid (∀ p ∈ l, mayQ4 p = true) := hm
  obtain ⟨B, off, c, rfl, hc, hcs⟩ := h
  have HCS : Hid (∀ j p, l[j]? = some p → w.cell? ⟨B, off + j * 4, none⟩ = some (.bool p.1) ∧ w.cell? ⟨B, off + j * 4 + 1, none⟩ = some (.string p.2.1) ∧ w.cell? ⟨B, off + j * 4 + 2, none⟩ = some (.bool p.2.2.1) ∧ w.cell? ⟨B, off + j * 4 + 3, none⟩ = some (.string p.2.2.2)) := hcs
  obtain ⟨m, hn⟩ : ∃ m, l.length = m := ⟨_, rfl⟩
  have HN : Unit → l.length = m := fun _ => hn
  rw [hn] at hc hl ⊢
  have hnI : (m : Int) ≤ 1000 := by omega
  clear hm hcs hn hl
  go_enter Tryz.func59, Tryz.ntmps59
  go_wp2_with fail
  go_loopw [13] (fun t wr => ∃ k : Nat, k ≤ m ∧ t = .int .i64 (k : Int) ∧ (w.alloc (qObj false eS false eS)).grownBy wr none) (fun t _ => m - (RowKit.intOf t).toNat)
  case atStart => exact ⟨0, by omega, rfl, World.grownBy.refl _ _⟩
  case round =>
    obtain ⟨k, hk, rfl, hg⟩ := hrel
    have HG1 : Hid ((w.alloc (qObj false eS false eS)).grownBy wr none) := hg
    by_cases hk1 : k < m
    · have hkl : k < l.length := by rw [HN ()]; exact hk1
      have hp : l[k]? = some l[k] := List.getElem?_eq_getElem hkl
      have hcs := HCS.out k _ hp
      have hgw := grownBy_trans (grow1 w (qObj false eS false eS)) hg
      have hc0 := grownBy_cell hgw hcs.1 (by simp)
      have hc1 := grownBy_cell hgw hcs.2.1 (by simp)
      have hc2 := grownBy_cell hgw hcs.2.2.1 (by simp)
      have hc3 := grownBy_cell hgw hcs.2.2.2 (by simp)
      have hmp := HM.out l[k] (List.getElem_mem hkl)
      generalize l[k] = p at *
      obtain ⟨pn, ps, pd, pt⟩ := p
      simp only at hc0 hc1 hc2 hc3 hmp
      have hQ : IsQ (num pn ps) (num pd pt) pn ps pd pt := mayQ_is hmp
      have HMy : Hid (∀ w, Calls Tryz.prog 40 #[frac pn ps pd pt] w fun e w' => e = .returned (.bool true) ∧ w.grownBy w' none) := fun w => by
        have := mayq_any pn pd ps pt (by have := may_size (hQ.zn.may (by decide)); unfold maxLen; omega) (by have := may_size (hQ.zd.may (by decide)); unfold maxLen; omega) w
        rw [show mayQ pn ps pd pt = true from hmp] at this
        exact this
      clear hgw hcs hp hg hmp hQ
      go_wp2_with fail
      refine (HMy.out _).mono ?_
      rintro e w2 ⟨rfl, g2⟩
      have HG2 : Hid ((w.alloc (qObj false eS false eS)).grownBy w2 none) := grownBy_trans HG1.out (grownBy_trans (grow1 _ _) g2)
      clear g2
      go_wp2_with fail
      go_roundw
      case rel => exact ⟨k + 1, by omega, rfl, HG2.out⟩
      case measure => simp [RowKit.intOf]; omega
    · obtain rfl : k = m := by omega
      clear hg
      go_wp2_with fail
      refine (HF.out _ (grownBy_trans (grow1 _ _) HG1.out)).mono ?_
      rintro e w2 ⟨rfl, g2⟩
      have G2 : (w.alloc (qObj false eS false eS)).grownBy ((w2.alloc (wObj n s)).alloc (wObj d t)) none := grownBy_trans HG1.out (grownBy_trans g2 (grow2 _ _ _))
      have G2' : (w.alloc (qObj false eS false eS)).grownBy w2 none := grownBy_trans HG1.out g2
      have HR : Hid (QBlk ((w2.alloc (wObj n s)).alloc (wObj d t)) w.heap.size (.bool false) (.string eS) (.bool false) (.string eS)) := QBlk.kept (w := w.alloc (qObj false eS false eS)) (heap_alloc_new _ _) G2 (by simp)
      have HG3 : Hid (w.grownBy ((w2.alloc (wObj n s)).alloc (wObj d t)) none) := grownBy_trans (grow1 _ _) G2
      clear g2 G2 G2'
      go_upto_region 9 with fail
      generalize (w2.alloc (wObj n s)).alloc (wObj d t) = V at *
      have hR := HR.out
      have r0 := hR.c0
      have r1 := hR.c1
      have r2 := hR.c2
      have r3 := hR.c3
      have f0 := hR.fr 0
      have f1 := hR.fr 1
      have f2 := hR.fr 2
      have f3 := hR.fr 3
      go_wp2_with fail
      refine bodyPost_ret (res_cellQ_tmp rfl _ _ w.heap.size _ _ _ _ _ _ rfl (hR.put _ _ _ _)) rfl ?_
      exact ⟨rfl, grown_put4 HG3.out (Nat.le_refl _)⟩
theorem reckoned_bad (K : Nat) (caps : Array Value) (w : World) (v : Value) (l : List Q4) (h : DQ w v l) (hl : l.length ≤ 1000) (hz : ∀ p ∈ l, p.2.1.size ≤ maxLen ∧ p.2.2.2.size ≤ maxLen) (hm : ∃ p ∈ l, mayQ4 p = false) :
    Calls Tryz.prog 59 #[.func (.func K) #[] caps, v] w fun e w' => e = .returned (.tuple #[frac false eS false eS, .int .i64 2]) ∧ w.grownBy w' none := by
  have HM : Hid (∃ p ∈ l, mayQ4 p = false) := hm
  have HZ : Hid (∀ p ∈ l, p.2.1.size ≤ maxLen ∧ p.2.2.2.size ≤ maxLen) := hz
  obtain ⟨B, off, c, rfl, hc, hcs⟩ := h
  have HCS : Hid (∀ j p, l[j]? = some p → w.cell? ⟨B, off + j * 4, none⟩ = some (.bool p.1) ∧ w.cell? ⟨B, off + j * 4 + 1, none⟩ = some (.string p.2.1) ∧ w.cell? ⟨B, off + j * 4 + 2, none⟩ = some (.bool p.2.2.1) ∧ w.cell? ⟨B, off + j * 4 + 3, none⟩ = some (.string p.2.2.2)) := hcs
  obtain ⟨m, hn⟩ : ∃ m, l.length = m := ⟨_, rfl⟩
  have HN : Unit → l.length = m := fun _ => hn
  rw [hn] at hc hl ⊢
  have hnI : (m : Int) ≤ 1000 := by omega
  clear hm hz hcs hn hl
  go_enter Tryz.func59, Tryz.ntmps59
  go_wp2_with fail
  go_loopw [13] (fun t wr => ∃ k : Nat, k ≤ m ∧ t = .int .i64 (k : Int) ∧ (w.alloc (qObj false eS false eS)).grownBy wr none ∧ Hid (∀ j p, j < k → l[j]? = some p → mayQ4 p = true)) (fun t _ => m - (RowKit.intOf t).toNat)
  case atStart => exact ⟨0, by omega, rfl, World.grownBy.refl _ _, fun j p h => absurd h (by omega)⟩
  case round =>
    obtain ⟨k, hk, rfl, hg, hall⟩ := hrel
    have HG1 : Hid ((w.alloc (qObj false eS false eS)).grownBy wr none) := hg
    by_cases hk1 : k < m
    · have hkl : k < l.length := by rw [HN ()]; exact hk1
      have hp : l[k]? = some l[k] := List.getElem?_eq_getElem hkl
      have HP : Hid (l[k]? = some l[k]) := hp
      have hcs := HCS.out k _ hp
      have hgw := grownBy_trans (grow1 w (qObj false eS false eS)) hg
      have hc0 := grownBy_cell hgw hcs.1 (by simp)
      have hc1 := grownBy_cell hgw hcs.2.1 (by simp)
      have hc2 := grownBy_cell hgw hcs.2.2.1 (by simp)
      have hc3 := grownBy_cell hgw hcs.2.2.2 (by simp)
      have hzz := HZ.out l[k] (List.getElem_mem hkl)
      generalize l[k] = p at *
      obtain ⟨pn, ps, pd, pt⟩ := p
      simp only at hc0 hc1 hc2 hc3 hzz
      have HMy0 := fun w => mayq_any pn pd ps pt hzz.1 hzz.2 w
      cases hmp : mayQ pn ps pd pt
      · rw [hmp] at HMy0
        have HMy : Hid (∀ w, Calls Tryz.prog 40 #[frac pn ps pd pt] w fun e w' => e = .returned (.bool false) ∧ w.grownBy w' none) := HMy0
        clear hgw hcs hp hg hmp HMy0 hzz HP hall
        go_wp2_with fail
        refine (HMy.out _).mono ?_
        rintro e w2 ⟨rfl, g2⟩
        have G2 : (w.alloc (qObj false eS false eS)).grownBy w2 none := grownBy_trans HG1.out (grownBy_trans (grow1 _ _) g2)
        have hR : QBlk w2 w.heap.size (.bool false) (.string eS) (.bool false) (.string eS) := QBlk.kept (w := w.alloc (qObj false eS false eS)) (heap_alloc_new _ _) G2 (by simp)
        have HG3 : Hid (w.grownBy w2 none) := grownBy_trans (grow1 _ _) G2
        clear g2 G2
        have r0 := hR.c0
        have r1 := hR.c1
        have r2 := hR.c2
        have r3 := hR.c3
        have f0 := hR.fr 0
        have f1 := hR.fr 1
        have f2 := hR.fr 2
        have f3 := hR.fr 3
        go_wp2_with fail
        refine bodyPost_ret (res_cellQ_tmp rfl _ _ w.heap.size _ _ _ _ _ _ rfl (hR.put _ _ _ _)) rfl ?_
        exact ⟨rfl, grown_put4 HG3.out (Nat.le_refl _)⟩
      · rw [hmp] at HMy0
        have HMy : Hid (∀ w, Calls Tryz.prog 40 #[frac pn ps pd pt] w fun e w' => e = .returned (.bool true) ∧ w.grownBy w' none) := HMy0
        have HMP : Hid (mayQ pn ps pd pt = true) := hmp
        clear hgw hcs hp hg hmp HMy0 hzz
        go_wp2_with fail
        refine (HMy.out _).mono ?_
        rintro e w2 ⟨rfl, g2⟩
        have HG2 : Hid ((w.alloc (qObj false eS false eS)).grownBy w2 none) := grownBy_trans HG1.out (grownBy_trans (grow1 _ _) g2)
        clear g2
        go_wp2_with fail
        go_roundw
        case rel =>
          refine ⟨k + 1, by omega, rfl, HG2.out, fun j p hj hjp => ?_⟩
          by_cases e : j = k
          · subst e
            obtain rfl := Option.some.inj (HP.out.symm.trans hjp)
            exact HMP.out
          · exact hall.out j p (by omega) hjp
        case measure => simp [RowKit.intOf]; omega
    · obtain rfl : k = m := by omega
      obtain ⟨p, hp, hf⟩ := HM.out
      obtain ⟨j, hj, rfl⟩ := List.getElem_of_mem hp
      have := hall.out j l[j] (by have := HN (); omega) (List.getElem?_eq_getElem hj)
      rw [this] at hf
      cases hf
theorem nonempty_q {m : ByteArray} (h : m.size ≠ 0) : (m.toList == []) = false := by
  rw [beq_eq_false_iff_ne]
  intro e
  have := congrArg List.length e
  rw [ByteArray.toList_eq, Array.length_toList] at this
  exact h this
theorem sub_is {k : Nat} {x y : Int} {n1 n2 n' : Bool} {s1 s2 s' : ByteArray} (hk : k + 1 ≤ 16384) (h1 : Sz k x n1 s1) (h2 : Sz k y n2 s2) (hq : IsZ (x - y) n' s') (w : World) :
    Calls Tryz.prog 57 #[whole n1 s1, whole n2 s2] w fun e w' => e = .returned (.tuple #[whole n' s', .int .i64 0]) ∧ w.grownBy w' none := by
  refine (sub_sz hk h1 h2 w).mono ?_
  rintro e w' ⟨n, s, rfl, hz, hg⟩
  obtain ⟨rfl, rfl⟩ := whole_inj (hz.1.one hq)
  exact ⟨rfl, hg⟩
theorem mul_ne {y v : Int} (a : 0 < y) (b : 0 < v) : y * v ≠ 0 := Int.ne_of_gt (Int.mul_pos a b)
end Go.Proofs.YtdfliaogmlpefaaGreatDoor
