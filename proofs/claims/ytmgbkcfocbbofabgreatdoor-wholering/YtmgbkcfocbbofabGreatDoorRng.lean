/-
  The walk over WholeRing.
-/
import Derived.Deep.CutRange
import Derived.Test.YtmgbkcfocbbofabGreatDoorThr
import Derived.Test.YtmgbkcfocbbofabGreatDoorWks
import Derived.Test.YtmgbkcfocbbofabGreatDoorAll
namespace Go.Proofs.YtmgbkcfocbbofabGreatDoor
open Go.RowKit Go.Lib Go.Sort

theorem shz_back (x : Int) (n : Nat) : shz (shz x (n : Int)) (-(n : Int)) = x := by
  rw [shz_up]
  rcases Nat.eq_zero_or_pos n with rfl | hp
  · rw [show (-((0 : Nat) : Int)) = ((0 : Nat) : Int) by rfl, shz_up]
    simp
  · rw [shz_down _ _ n (by omega) (by omega)]
    exact Int.mul_ediv_cancel x (by rw [← pow_cast]; have := Nat.pow_pos (n := n) (show 0 < 2 by decide); omega)
theorem shz_lt {x : Int} {n k l : Nat} (hx : x.natAbs < 256 ^ k) (hn : n ≤ 8 * l) : (shz x (n : Int)).natAbs < 256 ^ (k + l) := by
  rw [shz_up, Int.natAbs_mul, ← pow_cast, Int.natAbs_natCast, Nat.pow_add]
  have h2 : 2 ^ n ≤ 256 ^ l := by rw [pow256]; exact Nat.pow_le_pow_right (by decide) hn
  exact Nat.lt_of_lt_of_le (Nat.mul_lt_mul_of_pos_right hx (Nat.pow_pos (by decide))) (Nat.mul_le_mul_left _ h2)
theorem ok_two (w : World) (o : Obj) : Calls Tryz.prog 11 #[.slice (some ⟨w.heap.size + 1, 0, none⟩) 2 2] ((w.alloc o).alloc (.cells #[.int .i64 0, .int .i64 0] 28)) fun e w' => e = .returned (.bool true) ∧ w' = (w.alloc o).alloc (.cells #[.int .i64 0, .int .i64 0] 28) := by
  refine ok_all _ _ 2 2 (by decide) (by decide) fun j hj => ?_
  have h := heap_alloc_new (w.alloc o) (.cells #[.int .i64 0, .int .i64 0] 28)
  rw [show (w.alloc o).heap.size = w.heap.size + 1 by simp] at h
  simp only [World.cell?, h]
  match j, hj with
  | 0, _ | 1, _ => rfl
def good (p : Bool × ByteArray) : Prop := p.2.size ≤ 400 ∧ may p.1 p.2 = true
/-- What the law's four variables are behind its first statement. -/
def RgI (w : World) (na nb nc : Bool) (sa sb sc : ByteArray) (n : Int) (s3 s4 s5 s6 : Value) (wx : World) : Prop :=
  ∃ p q r, s3 = .pointer (some ⟨p, 0, none⟩) ∧ s4 = .pointer (some ⟨q, 0, none⟩) ∧ s5 = .pointer (some ⟨r, 0, none⟩) ∧ s6 = .int .i64 n ∧ WBlk wx p (.bool na) (.string sa) ∧ WBlk wx q (.bool nb) (.string sb) ∧ WBlk wx r (.bool nc) (.string sc) ∧ w.grownBy wx none
theorem rg_at (w : World) (x o1 o2 o3 : Obj) : (((((w.alloc x).alloc o1).alloc o2).alloc o3).drew.heap[w.heap.size + 1]? = some o1) ∧ (((((w.alloc x).alloc o1).alloc o2).alloc o3).drew.heap[w.heap.size + 1 + 1]? = some o2) ∧ (((((w.alloc x).alloc o1).alloc o2).alloc o3).drew.heap[w.heap.size + 1 + 1 + 1]? = some o3) := by
  have e : (w.alloc x).heap.size = w.heap.size + 1 := by simp
  have h1 : ((((w.alloc x).alloc o1).alloc o2).alloc o3).heap[(w.alloc x).heap.size]? = some o1 := old_alloc _ _ (at_alloc1 _ _ _)
  have h2 : ((((w.alloc x).alloc o1).alloc o2).alloc o3).heap[(w.alloc x).heap.size + 1]? = some o2 := at_alloc2 _ _ _ _
  have h3 : ((((w.alloc x).alloc o1).alloc o2).alloc o3).heap[(w.alloc x).heap.size + 1 + 1]? = some o3 := at_alloc3 _ _ _ _
  rw [e] at h1 h2 h3
  exact ⟨h1, h2, h3⟩
theorem dw_three (w : World) (na nb nc : Bool) (sa sb sc : ByteArray) : DW (w.alloc (.cells #[.bool na, .string sa, .bool nb, .string sb, .bool nc, .string sc] 23)) (.slice (some ⟨w.heap.size, 0, none⟩) 3 3) [(na, sa), (nb, sb), (nc, sc)] := by
  have h := heap_alloc_new w (.cells #[.bool na, .string sa, .bool nb, .string sb, .bool nc, .string sc] 23)
  refine ⟨w.heap.size, 0, 3, rfl, by simp, fun j p hp => ?_⟩
  simp only [World.cell?, h]
  match j, hp with
  | 0, hp => cases hp; exact ⟨rfl, rfl⟩
  | 1, hp => cases hp; exact ⟨rfl, rfl⟩
  | 2, hp => cases hp; exact ⟨rfl, rfl⟩

set_option maxHeartbeats 3200000 in
set_option maxRecDepth 1000000 in
theorem ring_any (na nb nc : Bool) (sa sb sc : ByteArray) (la : sa.size ≤ maxLen) (lb : sb.size ≤ maxLen) (lc : sc.size ≤ maxLen) (n : Int) (hn0 : -9223372036854775808 ≤ n) (hn1 : n ≤ 9223372036854775807) (w : World) (htab : Lib.TabIs Tryz.prog w "internal/strconv.uint64pow10" .u64 Lib.pow10Tab) :
    Calls Tryz.prog 3 #[.agg #[.bool na, .string sa, .bool nb, .string sb, .bool nc, .string sc, .int .i64 n]] w fun e w' => e = .returned (.bool true) ∧ w.grownBy w' none := by
  obtain ⟨gp, hgp⟩ := pow10_g
  have HT : Hid (∀ w', w.grownBy w' none → Lib.TabIs Tryz.prog w' "internal/strconv.uint64pow10" .u64 Lib.pow10Tab) := fun w' hg => tab_kept hgp htab hg
  have HS : Hid (∀ p ∈ [(na, sa), (nb, sb), (nc, sc)], p.2.size ≤ maxLen) := (by intro p hp; simp at hp; rcases hp with rfl | rfl | rfl <;> assumption : ∀ p ∈ [(na, sa), (nb, sb), (nc, sc)], p.2.size ≤ maxLen)
  clear htab hgp la lb lc
  go_enter Tryz.func3, Tryz.ntmps3
  go_upto_region 1 with fail
  go_cut [3, 4, 5, 6] from 17 to 24 (fun s3 s4 s5 s6 wx => RgI w na nb nc sa sb sc n s3 s4 s5 s6 wx)
  case first =>
    go_region
    all_goals (go_wp2_with fail; go_meet)
    all_goals
      case rel =>
        refine ⟨_, _, _, rfl, rfl, rfl, rfl, ?_, ?_, ?_, grow_drew (grow4 _ _ _ _ _)⟩
        all_goals first | exact (rg_at w _ _ _ _).1 | exact (rg_at w _ _ _ _).2.1 | exact (rg_at w _ _ _ _).2.2
  case rest =>
    obtain ⟨p, q, r, rfl, rfl, rfl, rfl, ka, kb, kc, hg⟩ := hcut
    have HG : Hid (w.grownBy wc none) := hg
    have a0 := ka.c0
    have a1 := ka.c1
    have b0 := kb.c0
    have b1 := kb.c1
    have c0 := kc.c0
    have c1 := kc.c1
    go_wp2_with fail
    clear a0 a1 b0 b1 c0 c1
    obtain ⟨Bl, offl, cl, hvl, _, hl⟩ := dw_three wc na nb nc sa sb sc
    obtain ⟨e1, _, _⟩ := Value.slice.inj hvl
    cases e1
    have HL : Hid (∀ j p, [(na, sa), (nb, sb), (nc, sc)][j]? = some p → (wc.alloc (.cells #[.bool na, .string sa, .bool nb, .string sb, .bool nc, .string sc] 23)).cell? ⟨wc.heap.size, 0 + j * 2, none⟩ = some (.bool p.1) ∧ (wc.alloc (.cells #[.bool na, .string sa, .bool nb, .string sb, .bool nc, .string sc] 23)).cell? ⟨wc.heap.size, 0 + j * 2 + 1, none⟩ = some (.string p.2)) := hl
    have HG2 : Hid (w.grownBy (wc.alloc (.cells #[.bool na, .string sa, .bool nb, .string sb, .bool nc, .string sc] 23)) none) := grownBy_trans hg (grow1 _ _)
    have KA : Hid (WBlk (wc.alloc (.cells #[.bool na, .string sa, .bool nb, .string sb, .bool nc, .string sc] 23)) p (.bool na) (.string sa)) := old_alloc _ _ ka
    have KB : Hid (WBlk (wc.alloc (.cells #[.bool na, .string sa, .bool nb, .string sb, .bool nc, .string sc] 23)) q (.bool nb) (.string sb)) := old_alloc _ _ kb
    have KC : Hid (WBlk (wc.alloc (.cells #[.bool na, .string sa, .bool nb, .string sb, .bool nc, .string sc] 23)) r (.bool nc) (.string sc)) := old_alloc _ _ kc
    clear hl hvl ka kb kc hg HG
    generalize wc.alloc (.cells #[.bool na, .string sa, .bool nb, .string sb, .bool nc, .string sc] 23) = W at *
    generalize wc.heap.size = B at *
    go_loopw [30] (fun s wr => ∃ k, k ≤ 3 ∧ s = .int .i64 (k : Nat) ∧ (∀ i p, i < k → [(na, sa), (nb, sb), (nc, sc)][i]? = some p → good p) ∧ W.grownBy wr none) (fun s _ => 3 - (RowKit.intOf s).toNat)
    case atStart => exact ⟨0, by omega, rfl, fun i p hi => absurd hi (Nat.not_lt_zero _), World.grownBy.refl _ _⟩
    case round =>
      obtain ⟨k, hk, rfl, hgd, hgr⟩ := hrel
      have HGD : Hid (∀ i p, i < k → [(na, sa), (nb, sb), (nc, sc)][i]? = some p → good p) := hgd
      have HGR : Hid (W.grownBy wr none) := hgr
      have HW : Hid (w.grownBy wr none) := grownBy_trans HG2.out hgr
      by_cases hk3 : k < 3
      · obtain ⟨pp, hpp⟩ : ∃ pp, [(na, sa), (nb, sb), (nc, sc)][k]? = some pp := ⟨_, List.getElem?_eq_getElem (by simpa using hk3)⟩
        have hpl := HS.out pp (List.mem_of_getElem? hpp)
        have hcs := HL.out k pp hpp
        rw [Nat.zero_add] at hcs
        have hc1 := grownBy_cell hgr hcs.1 (by simp)
        have hc2 := grownBy_cell hgr hcs.2 (by simp)
        have HNX : Hid (good pp → ∀ i p, i < k + 1 → [(na, sa), (nb, sb), (nc, sc)][i]? = some p → good p) := fun hg i p hi hp => by
          by_cases hik : i = k
          · subst hik
            rw [hpp] at hp
            cases hp
            exact hg
          · exact HGD.out i p (by omega) hp
        obtain ⟨nx, sx⟩ := pp
        clear hgd hgr hcs hpp
        have hkI : (k : Int) < 3 := by omega
        simp only at hc1 hc2 hpl
        have HC : Hid (∀ w, Calls Tryz.prog 7 #[whole nx sx] w fun e w' => e = .returned (.int .i64 (chk nx sx)) ∧ w' = w.alloc (wObj nx sx)) := fun w => check_any nx sx hpl w
        unfold maxLen at hpl
        have hpI : (sx.size : Int) ≤ 9223372036854775807 := by omega
        have HWK : Hid (∀ W', wr.grownBy W' none → Calls Tryz.prog 8 #[] W' fun e w' => e = .returned (.bool true) ∧ W'.grownBy w' none) := fun W' hg => works_any W' (HT.out _ (grownBy_trans HW.out hg))
        by_cases h4 : sx.size ≤ 400
        · have h4I : (sx.size : Int) ≤ 400 := by omega
          cases hm : may nx sx
          · have HC2 : Hid (∀ w, Calls Tryz.prog 7 #[whole nx sx] w fun e w' => e = .returned (.int .i64 2) ∧ w' = w.alloc (wObj nx sx)) := fun w => by
              have := HC.out w
              rw [chk_no hm] at this
              exact this
            clear HC
            go_wp2_with (first | (go_at_call 7; refine (HC2.out _).mono ?_; rintro e w1 ⟨rfl, rfl⟩) | (go_at_call 6; refine (num_any _ _).mono ?_; rintro e w1 ⟨rfl, rfl⟩) | fail)
            refine (HWK.out _ (grow2 _ _ _)).mono ?_
            rintro e w2 ⟨rfl, g2⟩
            go_wp2_with fail
            go_ret
            exact ⟨rfl, grownBy_trans HW.out (grownBy_trans (grow2 _ _ _) g2)⟩
          · have HC2 : Hid (∀ w, Calls Tryz.prog 7 #[whole nx sx] w fun e w' => e = .returned (.int .i64 0) ∧ w' = w.alloc (wObj nx sx)) := fun w => by
              have := HC.out w
              rw [chk_yes hm] at this
              exact this
            have HN2 : Hid (∀ i p, i < k + 1 → [(na, sa), (nb, sb), (nc, sc)][i]? = some p → good p) := HNX.out ⟨h4, hm⟩
            clear HC HWK
            go_wp2_with (first | (go_at_call 7; refine (HC2.out _).mono ?_; rintro e w1 ⟨rfl, rfl⟩) | (go_at_call 6; refine (num_any _ _).mono ?_; rintro e w1 ⟨rfl, rfl⟩) | fail)
            go_roundw
            case rel => exact ⟨k + 1, by omega, rfl, HN2.out, grownBy_trans HGR.out (grow2 _ _ _)⟩
            case measure => simp [RowKit.intOf]; omega
        · have h4I : (401 : Int) ≤ sx.size := by omega
          clear HC
          go_wp2_with fail
          refine (HWK.out _ (grow1 _ _)).mono ?_
          rintro e w2 ⟨rfl, g2⟩
          go_wp2_with fail
          go_ret
          exact ⟨rfl, grownBy_trans HW.out (grownBy_trans (grow1 _ _) g2)⟩
      · obtain rfl : k = 3 := by omega
        have ga := HGD.out 0 _ (by omega) rfl
        have gb := HGD.out 1 _ (by omega) rfl
        have gc := HGD.out 2 _ (by omega) rfl
        have za := may_sz (k := 400) ga.2 ga.1
        have zb := may_sz (k := 400) gb.2 gb.1
        have zc := may_sz (k := 400) gc.2 gc.1
        simp only at za zb zc
        have ZA : Hid (Sz 400 (num na sa) na sa) := za
        have ZB : Hid (Sz 400 (num nb sb) nb sb) := zb
        have ZC : Hid (Sz 400 (num nc sc) nc sc) := zc
        replace KA : Hid (WBlk wr p (.bool na) (.string sa)) := KA.out.kept hgr (by simp)
        replace KB : Hid (WBlk wr q (.bool nb) (.string sb)) := KB.out.kept hgr (by simp)
        replace KC : Hid (WBlk wr r (.bool nc) (.string sc)) := KC.out.kept hgr (by simp)
        generalize num na sa = x at *
        generalize num nb sb = y at *
        generalize num nc sc = z at *
        clear ga gb gc za zb zc hgd hgr HGD HGR HL HS HG2
        have a0 := KA.out.c0
        have a1 := KA.out.c1
        go_wp2_with fail
        clear a0 a1
        refine (text_sz (by decide) ZA.out _ (HT.out _ HW.out)).mono ?_
        rintro e w1 ⟨st, rfl, ht, hst, g1⟩
        have HTX : Hid (TextOf x st ∧ st.size ≤ 40000) := ⟨ht, hst⟩
        clear ht hst
        go_wp2_with fail
        refine (read_sz (k := 400) (by decide) ZA.out.2 HTX.out.1 HTX.out.2 _).mono ?_
        rintro e w2 ⟨nt, t, rfl, zt, g2⟩
        obtain ⟨rfl, rfl⟩ := whole_inj (ZA.out.one zt rfl)
        clear zt HTX
        have G3 : wr.grownBy ((w2.alloc (wObj na sa)).alloc (.cells #[.int .i64 0, .int .i64 0] 28)) none := grownBy_trans (grownBy_trans g1 g2) (grow2 _ _ _)
        clear g1 g2
        go_wp2_with fail
        refine (ok_two _ _).mono ?_
        rintro e w3 ⟨rfl, rfl⟩
        have HT0 : Hid (WBlk ((w2.alloc (wObj na sa)).alloc (.cells #[.int .i64 0, .int .i64 0] 28)) w2.heap.size (.bool na) (.string sa)) := at_alloc1 _ _ _
        replace KA : Hid (WBlk ((w2.alloc (wObj na sa)).alloc (.cells #[.int .i64 0, .int .i64 0] 28)) p (.bool na) (.string sa)) := KA.out.kept G3 (by simp)
        replace KB : Hid (WBlk ((w2.alloc (wObj na sa)).alloc (.cells #[.int .i64 0, .int .i64 0] 28)) q (.bool nb) (.string sb)) := KB.out.kept G3 (by simp)
        replace KC : Hid (WBlk ((w2.alloc (wObj na sa)).alloc (.cells #[.int .i64 0, .int .i64 0] 28)) r (.bool nc) (.string sc)) := KC.out.kept G3 (by simp)
        replace HW : Hid (w.grownBy ((w2.alloc (wObj na sa)).alloc (.cells #[.int .i64 0, .int .i64 0] 28)) none) := grownBy_trans HW.out G3
        have a0 := KA.out.c0
        have a1 := KA.out.c1
        have b0 := KB.out.c0
        have b1 := KB.out.c1
        have c0 := KC.out.c0
        have c1 := KC.out.c1
        have t0 := HT0.out.c0
        have t1 := HT0.out.c1
        clear G3
        go_wp2_with fail
        clear a0 a1 b0 b1 c0 c1 t0 t1 HT0
        refine (three_yes na nb nc sa sb sc x y z ZA.out ZB.out ZC.out _).mono ?_
        rintro e w4 ⟨rfl, g4⟩
        replace KA : Hid (WBlk w4 p (.bool na) (.string sa)) := KA.out.kept g4 (by simp)
        replace HW : Hid (w.grownBy w4 none) := grownBy_trans HW.out g4
        clear KB KC ZB ZC g4
        by_cases hr : 0 ≤ n ∧ n < 100000
        · obtain ⟨m, rfl⟩ := Int.eq_ofNat_of_zero_le hr.1
          have hm9 : (m : Int) ≤ 99999 := by omega
          have a0 := KA.out.c0
          have a1 := KA.out.c1
          clear hr hn0 hn1
          go_wp2_with fail
          clear a0 a1
          refine (shift_sz (k := 400) (by decide) ZA.out (m : Int) (by omega) (400 + 12500) (by decide) (shz_lt ZA.out.2 (by omega)) _).mono ?_
          rintro e w5 ⟨nu, su, rfl, zu, g5⟩
          have HU : Hid (WBlk (w5.alloc (wObj nu su)) w5.heap.size (.bool nu) (.string su)) := heap_alloc_new _ _
          replace KA : Hid (WBlk (w5.alloc (wObj nu su)) p (.bool na) (.string sa)) := KA.out.kept (grownBy_trans g5 (grow1 _ _)) (by simp)
          replace HW : Hid (w.grownBy (w5.alloc (wObj nu su)) none) := grownBy_trans HW.out (grownBy_trans g5 (grow1 _ _))
          have u0 := HU.out.c0
          have u1 := HU.out.c1
          have ZU : Hid (Sz (400 + 12500) (shz x (m : Int)) nu su) := zu
          clear g5 zu
          go_wp2_with fail
          clear u0 u1 HU
          refine (shift_sz (k := 400 + 12500) (by decide) ZU.out (-(m : Int)) (by omega) 400 (by decide) (by rw [shz_back]; exact ZA.out.2) _).mono ?_
          rintro e w6 ⟨nv', sv, rfl, zv, g6⟩
          rw [shz_back] at zv
          obtain ⟨rfl, rfl⟩ := whole_inj (ZA.out.one zv rfl)
          clear zv ZU
          have G7 : (w5.alloc (wObj nu su)).grownBy ((w6.alloc (wObj na sa)).alloc (.cells #[.int .i64 0, .int .i64 0] 28)) none := grownBy_trans g6 (grow2 _ _ _)
          clear g6
          go_wp2_with fail
          refine (ok_two _ _).mono ?_
          rintro e w7 ⟨rfl, rfl⟩
          have HT0 : Hid (WBlk ((w6.alloc (wObj na sa)).alloc (.cells #[.int .i64 0, .int .i64 0] 28)) w6.heap.size (.bool na) (.string sa)) := at_alloc1 _ _ _
          replace KA : Hid (WBlk ((w6.alloc (wObj na sa)).alloc (.cells #[.int .i64 0, .int .i64 0] 28)) p (.bool na) (.string sa)) := KA.out.kept G7 (by simp)
          replace HW : Hid (w.grownBy ((w6.alloc (wObj na sa)).alloc (.cells #[.int .i64 0, .int .i64 0] 28)) none) := grownBy_trans HW.out G7
          have a0 := KA.out.c0
          have a1 := KA.out.c1
          have t0 := HT0.out.c0
          have t1 := HT0.out.c1
          clear G7
          go_wp2_with fail
          refine (works_any _ (HT.out _ HW.out)).mono ?_
          rintro e w8 ⟨rfl, g8⟩
          go_wp2_with fail
          go_ret
          exact ⟨rfl, grownBy_trans HW.out g8⟩
        · by_cases hr0 : 0 ≤ n
          · have hr1 : 100000 ≤ n := by omega
            go_wp2_with fail
            refine (works_any _ (HT.out _ HW.out)).mono ?_
            rintro e w8 ⟨rfl, g8⟩
            go_wp2_with fail
            go_ret
            exact ⟨rfl, grownBy_trans HW.out g8⟩
          · have hr1 : n < 0 := by omega
            go_wp2_with fail
            refine (works_any _ (HT.out _ HW.out)).mono ?_
            rintro e w8 ⟨rfl, g8⟩
            go_wp2_with fail
            go_ret
            exact ⟨rfl, grownBy_trans HW.out g8⟩
end Go.Proofs.YtmgbkcfocbbofabGreatDoor
