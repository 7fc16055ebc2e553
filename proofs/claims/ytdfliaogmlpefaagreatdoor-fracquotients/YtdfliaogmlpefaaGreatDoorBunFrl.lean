/-
  The document's Of: one number over another, in lowest terms.
  The document's Of, of any two numbers that may be.
-/
import Derived.Test.YtdfliaogmlpefaaGreatDoorFrk
import Derived.Test.YtdfliaogmlpefaaGreatDoorRgc
import Derived.Test.YtdfliaogmlpefaaGreatDoorRdm
namespace Go.Proofs.YtdfliaogmlpefaaGreatDoor
open Go.RowKit Go.Lib Go.Sort
set_option linter.unusedVariables false
set_option maxHeartbeats 3200000
set_option maxRecDepth 1000000
theorem rof_pos (n d n' d' : Bool) (s t sg s' t' : ByteArray) (c : Int) (hc : 0 ≤ c)
    (HC : Hid (∀ w, Calls Tryz.prog 97 #[whole n s, whole d t] w fun e w' => e = .returned (whole false sg) ∧ w.grownBy w' none))
    (HS : Hid (∀ w, Calls Tryz.prog 66 #[whole d t] w fun e w' => e = .returned (.int .i64 c) ∧ w.grownBy w' none))
    (HD1 : Hid (∀ w, Calls Tryz.prog 69 #[whole n s, whole false sg] w fun e w' => ∃ n3 s3, e = .returned (.tuple #[whole n' s', whole n3 s3]) ∧ w.grownBy w' none))
    (HD2 : Hid (∀ w, Calls Tryz.prog 69 #[whole d t, whole false sg] w fun e w' => ∃ n3 s3, e = .returned (.tuple #[whole d' t', whole n3 s3]) ∧ w.grownBy w' none)) (w : World) :
    Calls Tryz.prog 62 #[whole n s, whole d t] w fun e w' => e = .returned (frac n' s' d' t') ∧ w.grownBy w' none := by
  go_enter Tryz.func62, Tryz.ntmps62
  go_wp2_with fail
  refine (HC.out _).mono ?_
  rintro e w1 ⟨rfl, g1⟩
  have G1 := grownBy_trans g1 (grow1 w1 (wObj false sg))
  have HA : Hid (WBlk (w1.alloc (wObj false sg)) w.heap.size (.bool n) (.string s)) := WBlk.kept (old_alloc _ _ (at_alloc1 _ _ _)) G1 (by simp)
  have HB : Hid (WBlk (w1.alloc (wObj false sg)) (w.heap.size + 1) (.bool d) (.string t)) := WBlk.kept (at_alloc2 _ _ _ _) G1 (by simp)
  have HR : Hid (QBlk (w1.alloc (wObj false sg)) (w.heap.size + 1 + 1) (.bool false) (.string eS) (.bool false) (.string eS)) := QBlk.kept (w := ((w.alloc (wObj n s)).alloc (wObj d t)).alloc (qObj false eS false eS)) (at_alloc3 _ _ _ _) G1 (by simp)
  have HY : Hid (WBlk (w1.alloc (wObj false sg)) w1.heap.size (.bool false) (.string sg)) := heap_alloc_new _ _
  have HG : Hid (w.grownBy (w1.alloc (wObj false sg)) none) := grownBy_trans (grow3 _ _ _ _) G1
  clear g1 G1
  have b0 := HB.out.c0
  have b1 := HB.out.c1
  go_wp2_with fail
  refine (HS.out _).mono ?_
  rintro e w2 ⟨rfl, g2⟩
  replace HA : Hid (WBlk w2 w.heap.size (.bool n) (.string s)) := HA.out.kept g2 (by simp)
  replace HB : Hid (WBlk w2 (w.heap.size + 1) (.bool d) (.string t)) := HB.out.kept g2 (by simp)
  replace HR : Hid (QBlk w2 (w.heap.size + 1 + 1) (.bool false) (.string eS) (.bool false) (.string eS)) := HR.out.kept g2 (by simp)
  replace HY : Hid (WBlk w2 w1.heap.size (.bool false) (.string sg)) := HY.out.kept g2 (by simp)
  replace HG : Hid (w.grownBy w2 none) := grownBy_trans HG.out g2
  clear g2 b0 b1
  have a0 := HA.out.c0
  have a1 := HA.out.c1
  have y0 := HY.out.c0
  have y1 := HY.out.c1
  go_wp2_with fail
  refine (HD1.out _).mono ?_
  rintro e w3 ⟨n3, s3, rfl, g3⟩
  have G3 := grownBy_trans g3 (grow2 w3 (wObj n' s') (wObj n3 s3))
  have HQ : Hid (WBlk ((w3.alloc (wObj n' s')).alloc (wObj n3 s3)) w3.heap.size (.bool n') (.string s')) := at_alloc1 _ _ _
  replace HB : Hid (WBlk ((w3.alloc (wObj n' s')).alloc (wObj n3 s3)) (w.heap.size + 1) (.bool d) (.string t)) := HB.out.kept G3 (by simp)
  replace HR : Hid (QBlk ((w3.alloc (wObj n' s')).alloc (wObj n3 s3)) (w.heap.size + 1 + 1) (.bool false) (.string eS) (.bool false) (.string eS)) := HR.out.kept G3 (by simp)
  replace HY : Hid (WBlk ((w3.alloc (wObj n' s')).alloc (wObj n3 s3)) w1.heap.size (.bool false) (.string sg)) := HY.out.kept G3 (by simp)
  replace HG : Hid (w.grownBy ((w3.alloc (wObj n' s')).alloc (wObj n3 s3)) none) := grownBy_trans HG.out G3
  clear g3 G3 a0 a1 y0 y1 HA
  have b0 := HB.out.c0
  have b1 := HB.out.c1
  have y0 := HY.out.c0
  have y1 := HY.out.c1
  go_wp2_with fail
  refine (HD2.out _).mono ?_
  rintro e w4 ⟨n4, s4, rfl, g4⟩
  have G4 := grownBy_trans g4 (grow2 w4 (wObj d' t') (wObj n4 s4))
  have HP : Hid (WBlk ((w4.alloc (wObj d' t')).alloc (wObj n4 s4)) w4.heap.size (.bool d') (.string t')) := at_alloc1 _ _ _
  replace HQ : Hid (WBlk ((w4.alloc (wObj d' t')).alloc (wObj n4 s4)) w3.heap.size (.bool n') (.string s')) := HQ.out.kept G4 (by simp)
  have hR : QBlk ((w4.alloc (wObj d' t')).alloc (wObj n4 s4)) (w.heap.size + 1 + 1) (.bool false) (.string eS) (.bool false) (.string eS) := HR.out.kept G4 (by simp)
  replace HG : Hid (w.grownBy ((w4.alloc (wObj d' t')).alloc (wObj n4 s4)) none) := grownBy_trans HG.out G4
  clear g4 G4 b0 b1 y0 y1 HB HY HR
  have q0 := HQ.out.c0
  have q1 := HQ.out.c1
  have p0 := HP.out.c0
  have p1 := HP.out.c1
  have r0 := hR.c0
  have r1 := hR.c1
  have r2 := hR.c2
  have r3 := hR.c3
  have f0 := hR.fr 0
  have f1 := hR.fr 1
  have f2 := hR.fr 2
  have f3 := hR.fr 3
  go_wp2_with fail
  refine bodyPost_ret (res_cellQ rfl _ _ (w.heap.size + 1 + 1) _ _ _ _ _ _ rfl (hR.put _ _ _ _)) rfl ?_
  exact ⟨rfl, grown_put4 HG.out (by omega)⟩
theorem rof_neg (n d n' d' : Bool) (s t sg s' t' : ByteArray) 
    (HC : Hid (∀ w, Calls Tryz.prog 97 #[whole n s, whole d t] w fun e w' => e = .returned (whole false sg) ∧ w.grownBy w' none))
    (HS : Hid (∀ w, Calls Tryz.prog 66 #[whole d t] w fun e w' => e = .returned (.int .i64 (-1)) ∧ w.grownBy w' none))
    (HN : Hid (∀ w, Calls Tryz.prog 67 #[whole false sg] w fun e w' => e = .returned (whole true sg) ∧ w.grownBy w' none))
    (HD1 : Hid (∀ w, Calls Tryz.prog 69 #[whole n s, whole true sg] w fun e w' => ∃ n3 s3, e = .returned (.tuple #[whole n' s', whole n3 s3]) ∧ w.grownBy w' none))
    (HD2 : Hid (∀ w, Calls Tryz.prog 69 #[whole d t, whole true sg] w fun e w' => ∃ n3 s3, e = .returned (.tuple #[whole d' t', whole n3 s3]) ∧ w.grownBy w' none)) (w : World) :
    Calls Tryz.prog 62 #[whole n s, whole d t] w fun e w' => e = .returned (frac n' s' d' t') ∧ w.grownBy w' none := by
  go_enter Tryz.func62, Tryz.ntmps62
  go_wp2_with fail
  refine (HC.out _).mono ?_
  rintro e w1 ⟨rfl, g1⟩
  have G1 := grownBy_trans g1 (grow1 w1 (wObj false sg))
  have HA : Hid (WBlk (w1.alloc (wObj false sg)) w.heap.size (.bool n) (.string s)) := WBlk.kept (old_alloc _ _ (at_alloc1 _ _ _)) G1 (by simp)
  have HB : Hid (WBlk (w1.alloc (wObj false sg)) (w.heap.size + 1) (.bool d) (.string t)) := WBlk.kept (at_alloc2 _ _ _ _) G1 (by simp)
  have HR : Hid (QBlk (w1.alloc (wObj false sg)) (w.heap.size + 1 + 1) (.bool false) (.string eS) (.bool false) (.string eS)) := QBlk.kept (w := ((w.alloc (wObj n s)).alloc (wObj d t)).alloc (qObj false eS false eS)) (at_alloc3 _ _ _ _) G1 (by simp)
  have HY : Hid (WBlk (w1.alloc (wObj false sg)) w1.heap.size (.bool false) (.string sg)) := heap_alloc_new _ _
  have HG : Hid (w.grownBy (w1.alloc (wObj false sg)) none) := grownBy_trans (grow3 _ _ _ _) G1
  have hlt0 : w.heap.size + 1 + 1 < w1.heap.size := (QBlk.kept (w := ((w.alloc (wObj n s)).alloc (wObj d t)).alloc (qObj false eS false eS)) (at_alloc3 _ _ _ _) g1 (by simp) : QBlk w1 (w.heap.size + 1 + 1) (.bool false) (.string eS) (.bool false) (.string eS)).lt
  clear g1 G1
  have b0 := HB.out.c0
  have b1 := HB.out.c1
  go_wp2_with fail
  refine (HS.out _).mono ?_
  rintro e w2 ⟨rfl, g2⟩
  replace HA : Hid (WBlk w2 w.heap.size (.bool n) (.string s)) := HA.out.kept g2 (by simp)
  replace HB : Hid (WBlk w2 (w.heap.size + 1) (.bool d) (.string t)) := HB.out.kept g2 (by simp)
  replace HR : Hid (QBlk w2 (w.heap.size + 1 + 1) (.bool false) (.string eS) (.bool false) (.string eS)) := HR.out.kept g2 (by simp)
  replace HY : Hid (WBlk w2 w1.heap.size (.bool false) (.string sg)) := HY.out.kept g2 (by simp)
  replace HG : Hid (w.grownBy w2 none) := grownBy_trans HG.out g2
  clear g2 b0 b1
  have hlt : w.heap.size + 1 + 1 < w1.heap.size := hlt0
  have y0 := HY.out.c0
  have y1 := HY.out.c1
  go_wp2_with fail
  refine (HN.out _).mono ?_
  rintro e wN ⟨rfl, gN⟩
  clear y0 y1
  replace HA : Hid (WBlk wN w.heap.size (.bool n) (.string s)) := HA.out.kept gN (by simp)
  replace HB : Hid (WBlk wN (w.heap.size + 1) (.bool d) (.string t)) := HB.out.kept gN (by simp)
  replace HR : Hid (QBlk wN (w.heap.size + 1 + 1) (.bool false) (.string eS) (.bool false) (.string eS)) := HR.out.kept gN (by simp)
  replace HY : Hid (WBlk wN w1.heap.size (.bool false) (.string sg)) := HY.out.kept gN (by simp)
  replace HG : Hid (w.grownBy wN none) := grownBy_trans HG.out gN
  clear gN
  have y0 := HY.out.c0
  have y1 := HY.out.c1
  have f0 := HY.out.fr 0
  have f1 := HY.out.fr 1
  have HA' : Hid (WBlk ((wN.setCell ⟨w1.heap.size, 0, none⟩ (.bool true)).setCell ⟨w1.heap.size, 1, none⟩ (.string sg)) w.heap.size (.bool n) (.string s)) := (HA.out.other (by omega)).other (by omega)
  have HB' : Hid (WBlk ((wN.setCell ⟨w1.heap.size, 0, none⟩ (.bool true)).setCell ⟨w1.heap.size, 1, none⟩ (.string sg)) (w.heap.size + 1) (.bool d) (.string t)) := (HB.out.other (by omega)).other (by omega)
  have HR' : Hid (QBlk ((wN.setCell ⟨w1.heap.size, 0, none⟩ (.bool true)).setCell ⟨w1.heap.size, 1, none⟩ (.string sg)) (w.heap.size + 1 + 1) (.bool false) (.string eS) (.bool false) (.string eS)) := (HR.out.other (by omega)).other (by omega)
  have HY' : Hid (WBlk ((wN.setCell ⟨w1.heap.size, 0, none⟩ (.bool true)).setCell ⟨w1.heap.size, 1, none⟩ (.string sg)) w1.heap.size (.bool true) (.string sg)) := HY.out.put _ _
  have HG' : Hid (w.grownBy ((wN.setCell ⟨w1.heap.size, 0, none⟩ (.bool true)).setCell ⟨w1.heap.size, 1, none⟩ (.string sg)) none) := grown_set (grown_set HG.out (by omega)) (by omega)
  have a0 := HA'.out.c0
  have a1 := HA'.out.c1
  have y2 := HY'.out.c0
  have y3 := HY'.out.c1
  clear HA HB HR HY HG
  go_wp2_with fail
  clear y0 y1 f0 f1
  generalize (wN.setCell ⟨w1.heap.size, 0, none⟩ (.bool true)).setCell ⟨w1.heap.size, 1, none⟩ (.string sg) = V at *
  have HB := HB'
  have HR := HR'
  have HY := HY'
  have HG := HG'
  have HA := HA'
  clear HA' HB' HR' HY' HG'
  have y0 := y2
  have y1 := y3
  clear y2 y3
  refine (HD1.out _).mono ?_
  rintro e w3 ⟨n3, s3, rfl, g3⟩
  have G3 := grownBy_trans g3 (grow2 w3 (wObj n' s') (wObj n3 s3))
  have HQ : Hid (WBlk ((w3.alloc (wObj n' s')).alloc (wObj n3 s3)) w3.heap.size (.bool n') (.string s')) := at_alloc1 _ _ _
  replace HB : Hid (WBlk ((w3.alloc (wObj n' s')).alloc (wObj n3 s3)) (w.heap.size + 1) (.bool d) (.string t)) := HB.out.kept G3 (by simp)
  replace HR : Hid (QBlk ((w3.alloc (wObj n' s')).alloc (wObj n3 s3)) (w.heap.size + 1 + 1) (.bool false) (.string eS) (.bool false) (.string eS)) := HR.out.kept G3 (by simp)
  replace HY : Hid (WBlk ((w3.alloc (wObj n' s')).alloc (wObj n3 s3)) w1.heap.size (.bool true) (.string sg)) := HY.out.kept G3 (by simp)
  replace HG : Hid (w.grownBy ((w3.alloc (wObj n' s')).alloc (wObj n3 s3)) none) := grownBy_trans HG.out G3
  clear g3 G3 a0 a1 y0 y1 HA
  have b0 := HB.out.c0
  have b1 := HB.out.c1
  have y0 := HY.out.c0
  have y1 := HY.out.c1
  go_wp2_with fail
  refine (HD2.out _).mono ?_
  rintro e w4 ⟨n4, s4, rfl, g4⟩
  have G4 := grownBy_trans g4 (grow2 w4 (wObj d' t') (wObj n4 s4))
  have HP : Hid (WBlk ((w4.alloc (wObj d' t')).alloc (wObj n4 s4)) w4.heap.size (.bool d') (.string t')) := at_alloc1 _ _ _
  replace HQ : Hid (WBlk ((w4.alloc (wObj d' t')).alloc (wObj n4 s4)) w3.heap.size (.bool n') (.string s')) := HQ.out.kept G4 (by simp)
  have hR : QBlk ((w4.alloc (wObj d' t')).alloc (wObj n4 s4)) (w.heap.size + 1 + 1) (.bool false) (.string eS) (.bool false) (.string eS) := HR.out.kept G4 (by simp)
  replace HG : Hid (w.grownBy ((w4.alloc (wObj d' t')).alloc (wObj n4 s4)) none) := grownBy_trans HG.out G4
  clear g4 G4 b0 b1 y0 y1 HB HY HR
  have q0 := HQ.out.c0
  have q1 := HQ.out.c1
  have p0 := HP.out.c0
  have p1 := HP.out.c1
  have r0 := hR.c0
  have r1 := hR.c1
  have r2 := hR.c2
  have r3 := hR.c3
  have f0 := hR.fr 0
  have f1 := hR.fr 1
  have f2 := hR.fr 2
  have f3 := hR.fr 3
  go_wp2_with fail
  refine bodyPost_ret (res_cellQ rfl _ _ (w.heap.size + 1 + 1) _ _ _ _ _ _ rfl (hR.put _ _ _ _)) rfl ?_
  exact ⟨rfl, grown_put4 HG.out (by omega)⟩
theorem rdiv_is {k l : Nat} {x y : Int} {n1 n2 n' : Bool} {s1 s2 s' : ByteArray} (hk : k ≤ 16384) (hl : l ≤ 16384) (hy : y ≠ 0) (h0 : x % y = 0) (h1 : Sz k x n1 s1) (h2 : Sz l y n2 s2) (hq : IsZ (x / y) n' s') (w : World) :
    Calls Tryz.prog 69 #[whole n1 s1, whole n2 s2] w fun e w' => ∃ n3 s3, e = .returned (.tuple #[whole n' s', whole n3 s3]) ∧ w.grownBy w' none := by
  have m1 := h1.may hk
  have m2 := h2.may hl
  have hz := h2.size0 hl hy
  have key : Calls Tryz.prog 69 #[whole n1 s1, whole n2 s2] w (DmR (num n1 s1) (num n2 s2) w) := by
    cases n1
    · exact rDivMod_pos n2 s1 s2 m1 m2 hz w
    · refine rDivMod_flat n2 s1 s2 m1 m2 hz ?_ w
      have e1 := num_abs true s1
      have e2 := num_abs n2 s2
      rw [h1.num] at e1
      rw [h2.num] at e2
      rw [← e1, ← e2]
      obtain ⟨c, hc⟩ := Int.dvd_of_emod_eq_zero h0
      exact Nat.mod_eq_zero_of_dvd (Int.natAbs_dvd_natAbs.2 ⟨c, hc⟩)
  refine key.mono ?_
  rw [h1.num, h2.num]
  rintro e w' ⟨b, s, b', s3, rfl, hz1, _, hg⟩
  obtain ⟨rfl, rfl⟩ := whole_inj (hz1.one hq)
  exact ⟨_, _, rfl, hg⟩
theorem rgcd_is {k : Nat} {x y : Int} {n d : Bool} {s t sg : ByteArray} (hk : k ≤ 16384) (h1 : Sz k x n s) (h2 : Sz k y d t) (hg : IsZ ((Int.gcd x y : Nat) : Int) false sg) (w : World) :
    Calls Tryz.prog 97 #[whole n s, whole d t] w fun e w' => e = .returned (whole false sg) ∧ w.grownBy w' none := by
  refine (rGcd_any n d s t (h1.may hk) (h2.may hk) w).mono ?_
  rintro e w' ⟨s0, rfl, hs, hgw⟩
  have e1 := num_abs n s
  have e2 := num_abs d t
  rw [h1.num] at e1
  rw [h2.num] at e2
  rw [← e1, ← e2] at hs
  have hz0 : IsZ ((Int.gcd x y : Nat) : Int) false s0 := ⟨by symm; exact decide_eq_false (by omega), by rw [Int.natAbs_natCast]; exact hs⟩
  exact ⟨by rw [hz0.one hg], hgw⟩
theorem rof_any {k : Nat} (hk : k ≤ 16384) {n d n' d' : Bool} {s t s' t' : ByteArray} {x y : Int} (h1 : Sz k x n s) (h2 : Sz k y d t) (hy : y ≠ 0) (L : Low x y n' s' d' t') (w : World) :
    Calls Tryz.prog 62 #[whole n s, whole d t] w fun e w' => e = .returned (frac n' s' d' t') ∧ w.grownBy w' none := by
  obtain ⟨sg, hg⟩ := isz_str (Int.gcd x y)
  have hgp := gcd_pos_of (x := x) hy
  have hgk : Int.gcd x y < 256 ^ k := gcd_lt h1.2 h2.2
  have hsg := fun w => rSign_any d t w
  have hsc := sgn_sz hk h2
  by_cases h0 : y < 0
  · have hb : rby x y = -((Int.gcd x y : Nat) : Int) := by unfold rby; rw [if_pos h0]
    have zg : Sz k (rby x y) true sg := by
      refine ⟨⟨?_, ?_⟩, ?_⟩
      · rw [hb]; symm; exact decide_eq_true (by omega)
      · rw [hb, Int.natAbs_neg]; exact hg.2
      · rw [hb, Int.natAbs_neg, Int.natAbs_natCast]; exact hgk
    have hs1 : sgn d t = -1 := by rw [hsc]; unfold cmpZ; rw [if_pos h0]
    rw [hs1] at hsg
    have hng : ngs false sg = true := by
      have hz0 : sg.size ≠ 0 := zg.size0 hk (rby_ne hy)
      simp [ngs, hz0]
    have hN := fun w => rNeg_any false sg w
    rw [hng] at hN
    exact rof_neg n d n' d' s t sg s' t' (fun w => rgcd_is hk h1 h2 hg w) hsg hN (fun w => rdiv_is hk hk (rby_ne hy) (rn_mod x y) h1 zg L.zn w) (fun w => rdiv_is hk hk (rby_ne hy) (rd_mod x y) h2 zg L.zd w) w
  · have hb : rby x y = ((Int.gcd x y : Nat) : Int) := by unfold rby; rw [if_neg h0]
    have zg : Sz k (rby x y) false sg := ⟨by rw [hb]; exact hg, by rw [hb, Int.natAbs_natCast]; exact hgk⟩
    exact rof_pos n d n' d' s t sg s' t' (sgn d t) (by rw [hsc]; unfold cmpZ; rw [if_neg h0]; split <;> omega) (fun w => rgcd_is hk h1 h2 hg w) hsg (fun w => rdiv_is hk hk (rby_ne hy) (rn_mod x y) h1 zg L.zn w) (fun w => rdiv_is hk hk (rby_ne hy) (rd_mod x y) h2 zg L.zd w) w
end Go.Proofs.YtdfliaogmlpefaaGreatDoor
