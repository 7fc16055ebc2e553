/-
  The document's DivMod of a number below 0 with a rest.
-/
import Derived.Test.YtdfliaogmlpefaaGreatDoorRdm
import Derived.Test.YtdfliaogmlpefaaGreatDoorRga
import Derived.Deep.RegionWith
namespace Go.Proofs.YtdfliaogmlpefaaGreatDoor
open Go.RowKit Go.Lib Go.Sort
set_option maxHeartbeats 3200000
set_option maxRecDepth 1000000
theorem rDivMod_negneg (m1 m2 : ByteArray) (h1 : may true m1 = true) (h2 : may true m2 = true) (h0 : m2.size ≠ 0) (hfl : val (bN m1) % val (bN m2) ≠ 0) (w : World) :
    Calls Tryz.prog 69 #[whole true m1, whole true m2] w (DmR (num true m1) (num true m2) w) := by
  have W1 := words_wdt true m1 h1
  have W2 := words_wdt true m2 h2
  have HWW : Hid (∀ m w, m = m1 ∨ m = m2 → Calls Tryz.prog 113 #[.string m] w fun e w' => ∃ v, e = .returned v ∧ WdT w w' v m) := (by
    intro m w hm
    rcases hm with rfl | rfl
    · exact W1 w
    · exact W2 w)
  have HVP : Hid (0 < val (bN m2)) := val_pos h2 h0
  have HOF : Hid (∀ W : World, Calls Tryz.prog 47 #[.int .i64 1] W fun e w' => ∃ s, e = .returned (whole false s) ∧ IsZ 1 false s ∧ W.grownBy w' none) := fun W => by
    refine (rOf_any 1 (by omega) (by omega) W).mono ?_
    rintro e w' ⟨s, rfl, hs, g⟩
    exact ⟨s, rfl, ⟨rfl, hs⟩, g⟩
  have HPL : Hid (∀ (q : Int) (b1 : Bool) (s1 s2 : ByteArray), IsZ q b1 s1 → q.natAbs ≤ val (bN m1) → IsZ 1 false s2 → ∀ W : World, Calls Tryz.prog 72 #[whole b1 s1, whole false s2] W fun e w' => ∃ n s, e = .returned (whole n s) ∧ IsZ (q + 1) n s ∧ W.grownBy w' none) := fun q b1 s1 s2 z1 hq z2 W => by
    have hl1 := may_size h1
    obtain ⟨E, hE⟩ : ∃ E, E = 131072 := ⟨_, rfl⟩
    have m1' : may b1 s1 = true := z1.may (by rw [← hE]; exact bl_le (Nat.lt_of_le_of_lt hq (Nat.lt_of_lt_of_le (val8 m1) (Nat.pow_le_pow_right (by decide) (by omega)))))
    have m2' : may false s2 = true := z2.may (by decide)
    have := rPlus_z b1 false s1 s2 m1' m2' W
    rw [z1.num, z2.num] at this
    exact this
  have HMN : Hid (∀ (r : Nat) (s1 : ByteArray), IsZ (r : Int) false s1 → r ≤ val (bN m2) → ∀ W : World, Calls Tryz.prog 121 #[whole false m2, whole false s1] W fun e w' => ∃ n s, e = .returned (whole n s) ∧ IsZ (((val (bN m2) - r : Nat)) : Int) n s ∧ W.grownBy w' none) := fun r s1 z1 hr W => by
    have hl2 := may_size h2
    obtain ⟨E, hE⟩ : ∃ E, E = 131072 := ⟨_, rfl⟩
    have hb : val (bN m2) < 2 ^ E := Nat.lt_of_lt_of_le (val8 m2) (Nat.pow_le_pow_right (by decide) (by omega))
    have zz := (may_isz h2).2
    have z0 : IsZ (val (bN m2) : Int) false m2 := ⟨by simp, by
      refine zz.trans ?_
      rw [num_t, Int.natAbs_neg]⟩
    have m1' : may false m2 = true := z0.may (by rw [← hE]; exact bl_le hb)
    have m2' : may false s1 = true := z1.may (by rw [← hE]; exact bl_le (Nat.lt_of_le_of_lt hr hb))
    have := rMinus_z false false m2 s1 m1' m2' W
    rw [z0.num, z1.num, show (val (bN m2) : Int) - (r : Int) = ((val (bN m2) - r : Nat) : Int) by omega] at this
    exact this
  have HFL : Hid (val (bN m1) % val (bN m2) ≠ 0) := hfl
  have HZ1 : Hid (num true m1 / num true m2 = ((val (bN m1) / val (bN m2) : Nat) : Int) + 1) := (by rw [((div_num HVP.out).2 ⟨rfl, hfl⟩).1, if_neg (by decide)]; omega : num true m1 / num true m2 = ((val (bN m1) / val (bN m2) : Nat) : Int) + 1)
  have HZ2 : Hid (num true m1 % num true m2 = ((val (bN m2) - val (bN m1) % val (bN m2) : Nat) : Int)) := ((div_num HVP.out).2 ⟨rfl, hfl⟩).2
  clear W1 W2 h1 h2 h0 hfl
  go_enter Tryz.func69, Tryz.ntmps69
  go_wp2_with fail
  have HKK : Hid (∀ w', ((w.alloc (wObj true m1)).alloc (wObj true m2)).grownBy w' none → w'.cell? ⟨w.heap.size, 0, none⟩ = some (Value.bool true) ∧ w'.cell? ⟨w.heap.size, 1, none⟩ = some (Value.string m1) ∧ w'.cell? ⟨w.heap.size + 1, 0, none⟩ = some (Value.bool true) ∧ w'.cell? ⟨w.heap.size + 1, 1, none⟩ = some (Value.string m2)) :=
    fun w' hg => ⟨grownBy_cell hg (WBlk.c0 (b := .string m1) (old_alloc _ _ (heap_alloc_new _ _))) (by simp), grownBy_cell hg (WBlk.c1 (a := .bool true) (old_alloc _ _ (heap_alloc_new _ _))) (by simp), grownBy_cell hg (WBlk.c0 (b := .string m2) (heap_alloc2_new _ _ _)) (by simp), grownBy_cell hg (WBlk.c1 (a := .bool true) (heap_alloc2_new _ _ _)) (by simp)⟩
  go_region_held3 (fun w' => w'.cell? ⟨w.heap.size, 0, none⟩ = some (Value.bool true) ∧ w'.cell? ⟨w.heap.size, 1, none⟩ = some (Value.string m1) ∧ w'.cell? ⟨w.heap.size + 1, 0, none⟩ = some (Value.bool true) ∧ w'.cell? ⟨w.heap.size + 1, 1, none⟩ = some (Value.string m2))
    (first | (go_keep; done) | exact HKK.out _ (grownBy_trans (grow2 _ _ _) (by assumption)) | exact HKK.out _ (grow_drew (grow2 _ _ _)) | fail)
    (first
      | (go_at_call 113; refine (HWW.out _ _ (by first | exact .inl rfl | exact .inr rfl)).mono ?_; rintro e wA ⟨vA, rfl, hWA⟩; have GA : ((((w.alloc (wObj true m1)).alloc (wObj true m2)).alloc (wObj false eS)).alloc (wObj false eS)).grownBy wA none := (by first | exact grownBy_trans (by assumption) hWA.grown | exact grownBy_undrew hWA.grown | fail))
      | (go_at_call 120; refine (div_wdt (by assumption) (by assumption) HVP.out).mono ?_; rintro e wP ⟨vq, vr, Kq, Kr, rfl, dq, dr, rq, rr, tq, tr, nq, nr, lq, lr, hGK⟩; have GP : ((((w.alloc (wObj true m1)).alloc (wObj true m2)).alloc (wObj false eS)).alloc (wObj false eS)).grownBy wP none := grownBy_trans (by assumption) hGK)
      | fail)
  obtain ⟨ar, cr, hvr⟩ := dr.slice
  subst hvr
  obtain ⟨kr, hkr⟩ : ∃ kr, Kr.length = kr := ⟨_, rfl⟩
  have HKR : Hid (Kr.length = kr) := hkr
  have HQR : Hid (D4 wP (.slice ar Kr.length cr) Kr ∧ (∀ x ∈ Kr, x < B32) ∧ Kr.length ≤ 5000 ∧ nv B32 Kr = val (bN m1) % val (bN m2)) := ⟨dr, rr, lr, nr⟩
  have HM1 : Hid (∀ b : Bool, Calls Tryz.prog 95 #[.bool b, vq] wP fun e w' => ∃ bq s, e = .returned (whole bq s) ∧ IsZ (if b then -((val (bN m1) / val (bN m2) : Nat) : Int) else ((val (bN m1) / val (bN m2) : Nat) : Int)) bq s ∧ wP.grownBy w' none) := fun b => by
    have := made_any b wP vq Kq dq rq (by omega)
    rw [nq] at this
    refine this.mono ?_
    rintro e w' ⟨s, rfl, hs, g⟩
    exact ⟨_, s, rfl, isZ_made rfl hs, g⟩
  have HGP : Hid (((((w.alloc (wObj true m1)).alloc (wObj true m2)).alloc (wObj false eS)).alloc (wObj false eS)).grownBy wP none) := GP
  obtain ⟨c0, c1, c2, c3⟩ := HKK.out _ (grownBy_trans (grow2 _ _ _) GP)
  have hk0 : ((kr : Int) == 0) = false := by
    rw [beq_eq_false_iff_ne]
    intro e
    have : Kr.length = 0 := by omega
    rw [List.length_eq_zero_iff.1 this] at nr
    simp [nv] at nr
    exact HFL.out (by omega)
  rw [hkr] at HQR ⊢
  clear dq dr rq rr tq tr nq nr lq lr hGK GP GA HWW hkr
  go_wp2_with fail
  refine (HM1.out _).mono ?_
  rintro e w1 ⟨bq, sq, rfl, hsq, g1⟩
  have hG1 := grownBy_trans HGP.out g1
  have hM2 := made_any false w1 (.slice ar kr cr) Kr (HQR.out.1.kept g1) HQR.out.2.1 (by have := HQR.out.2.2.1; have := HKR.out; omega)
  rw [HQR.out.2.2.2, Bool.false_and] at hM2
  have HM2 : Hid (Calls Tryz.prog 95 #[.bool false, .slice ar kr cr] w1 fun e w' => ∃ s, e = .returned (whole false s) ∧ bN s = magN (val (bN m1) % val (bN m2)) ∧ w1.grownBy w' none) := hM2
  have HSQ : Hid (IsZ (if (true != true) then -((val (bN m1) / val (bN m2) : Nat) : Int) else ((val (bN m1) / val (bN m2) : Nat) : Int)) bq sq ∧ ((((w.alloc (wObj true m1)).alloc (wObj true m2)).alloc (wObj false eS)).alloc (wObj false eS)).grownBy w1 none) := ⟨by rw [bne_t]; exact hsq, hG1⟩
  clear hM2 hsq hG1 g1 HM1 c0 c1 c2 c3
  go_wp2_with fail
  refine HM2.out.mono ?_
  rintro e w2 ⟨sr, rfl, hsr, g2⟩
  have hG2 := grownBy_trans HSQ.out.2 g2
  have HSR : Hid (bN sr = magN (val (bN m1) % val (bN m2)) ∧ ((((w.alloc (wObj true m1)).alloc (wObj true m2)).alloc (wObj false eS)).alloc (wObj false eS)).grownBy w2 none) := ⟨hsr, hG2⟩
  have hG3 := grownBy_trans hG2 (grow2 w2 (wObj bq sq) (wObj false sr))
  have HG3 : Hid (((((w.alloc (wObj true m1)).alloc (wObj true m2)).alloc (wObj false eS)).alloc (wObj false eS)).grownBy ((w2.alloc (wObj bq sq)).alloc (wObj false sr)) none) := hG3
  obtain ⟨bA, bB, bC, bD⟩ := blks4 hG3
  have hsz : w.heap.size + 1 + 1 + 1 + 1 ≤ w2.heap.size := by have := hG2.size; simpa using this
  have bE : WBlk ((w2.alloc (wObj bq sq)).alloc (wObj false sr)) w2.heap.size (.bool bq) (.string sq) := at_alloc1 _ _ _
  have bF : WBlk ((w2.alloc (wObj bq sq)).alloc (wObj false sr)) (w2.heap.size + 1) (.bool false) (.string sr) := heap_alloc2_new _ _ _
  have a0 := bA.c0
  have b0 := bB.c0
  have e0 := bE.c0
  have e1 := bE.c1
  have f0 := bF.c0
  have f1 := bF.c1
  have x0 := bC.fr 0
  have x1 := bC.fr 1
  have y0 := bD.fr 0
  have y1 := bD.fr 1
  have z0 := bC.c0
  have z1 := bC.c1
  have v0 := bD.c0
  have v1 := bD.c1
  clear hsr g2 hG2 hG3 HM2
  go_wp2_with fail
  have HE : Hid (∀ w', ((w2.alloc (wObj bq sq)).alloc (wObj false sr)).grownBy w' none → w'.cell? ⟨w2.heap.size, 0, none⟩ = some (Value.bool bq) ∧ w'.cell? ⟨w2.heap.size, 1, none⟩ = some (Value.string sq)) := fun w' hg => ⟨grownBy_cell hg bE.c0 (by simp), grownBy_cell hg bE.c1 (by simp)⟩
  have HQB : Hid ((((val (bN m1) / val (bN m2) : Nat) : Int)).natAbs ≤ val (bN m1)) := (by rw [Int.natAbs_natCast]; exact Nat.div_le_self _ _ : (((val (bN m1) / val (bN m2) : Nat) : Int)).natAbs ≤ val (bN m1))
  have HSQ2 : Hid (IsZ ((val (bN m1) / val (bN m2) : Nat) : Int) bq sq) := HSQ.out.1
  have g3f := fun i => bE.fr i
  clear a0 b0 f0 f1 x0 x1 y0 y1 z0 z1 v0 v1
  go_region_with
    (first
      | (go_at_call 47; refine (HOF.out _).mono ?_; rintro e wA ⟨s1, rfl, hs1, gA⟩; have GA : ((w2.alloc (wObj bq sq)).alloc (wObj false sr)).grownBy wA none := (by first | exact gA | exact grownBy_undrew gA | fail); have hA0 := (HE.out _ GA).1; have hA1 := (HE.out _ GA).2)
      | (go_at_call 72; refine (HPL.out _ _ _ _ HSQ2.out HQB.out hs1 _).mono ?_; rintro e wB ⟨nq, tq, rfl, hq2, gB⟩; have GB : ((w2.alloc (wObj bq sq)).alloc (wObj false sr)).grownBy wB none := grownBy_trans GA (by first | exact gB | exact grownBy_undrew gB | fail); have bE2 : WBlk wB w2.heap.size (.bool bq) (.string sq) := bE.kept GB (by simp); have hc0 := bE2.c0; have hc1 := bE2.c1; have hf0 := bE2.fr 0; have hf1 := bE2.fr 1)
      | fail)
  all_goals
    have hG6 : ((w2.alloc (wObj bq sq)).alloc (wObj false sr)).grownBy wB none := GB
    have bE6 := bE2.put (.bool nq) (.string tq)
    have bB6 := ((bB.kept GB (by simp)).other (B' := w2.heap.size) (i := 0) (v := .bool nq) (by omega)).other (B' := w2.heap.size) (i := 1) (v := .string tq) (by omega)
    have bC6 := ((bC.kept GB (by simp)).other (B' := w2.heap.size) (i := 0) (v := .bool nq) (by omega)).other (B' := w2.heap.size) (i := 1) (v := .string tq) (by omega)
    have bD6 := ((bD.kept GB (by simp)).other (B' := w2.heap.size) (i := 0) (v := .bool nq) (by omega)).other (B' := w2.heap.size) (i := 1) (v := .string tq) (by omega)
    have bF6 := ((bF.kept GB (by simp)).other (B' := w2.heap.size) (i := 0) (v := .bool nq) (by omega)).other (B' := w2.heap.size) (i := 1) (v := .string tq) (by omega)
    have hW6 : w.grownBy ((wB.setCell ⟨w2.heap.size, 0, none⟩ (.bool nq)).setCell ⟨w2.heap.size, 1, none⟩ (.string tq)) none := grown_set (grown_set (grownBy_trans (grownBy_trans (grow4 _ _ _ _ _) HG3.out) GB) (by omega)) (by omega)
    obtain ⟨w6, hw6⟩ : ∃ w6, (wB.setCell ⟨w2.heap.size, 0, none⟩ (.bool nq)).setCell ⟨w2.heap.size, 1, none⟩ (.string tq) = w6 := ⟨_, rfl⟩
    rw [hw6] at bE6 bB6 bC6 bD6 bF6 hW6 ⊢
    have HS6 : Hid (∀ w', w6.grownBy w' none → w'.cell? ⟨w2.heap.size, 0, none⟩ = some (Value.bool nq) ∧ w'.cell? ⟨w2.heap.size, 1, none⟩ = some (Value.string tq) ∧ w'.cell? ⟨w.heap.size + 1, 0, none⟩ = some (Value.bool true) ∧ w'.cell? ⟨w.heap.size + 1, 1, none⟩ = some (Value.string m2) ∧ w'.cell? ⟨w2.heap.size + 1, 0, none⟩ = some (Value.bool false) ∧ w'.cell? ⟨w2.heap.size + 1, 1, none⟩ = some (Value.string sr)) := fun w' hg => ⟨grownBy_cell hg bE6.c0 (by simp), grownBy_cell hg bE6.c1 (by simp), grownBy_cell hg bB6.c0 (by simp), grownBy_cell hg bB6.c1 (by simp), grownBy_cell hg bF6.c0 (by simp), grownBy_cell hg bF6.c1 (by simp)⟩
    have HSR2 : Hid (IsZ ((val (bN m1) % val (bN m2) : Nat) : Int) false sr ∧ val (bN m1) % val (bN m2) ≤ val (bN m2)) := ⟨rest_z rfl HSR.out.1, Nat.le_of_lt (Nat.mod_lt _ HVP.out)⟩
    clear hA0 hA1 hc0 hc1 hf0 hf1 e0 e1 hw6 bE2
    go_wp2_with fail
    have k6 := HS6.out _ (World.grownBy.refl _ _)
    obtain ⟨q0, q1, q2, q3, q4, q5⟩ := k6
    go_region_with
      (first
        | (go_at_call 68; refine (rAbs_any true m2 _).mono ?_; rintro e wU ⟨rfl, gU⟩; have GU : w6.grownBy wU none := (by first | exact gU | exact grownBy_undrew gU | fail); obtain ⟨u0, u1, u2, u3, u4, u5⟩ := HS6.out _ GU)
        | (go_at_call 121; refine (HMN.out _ _ HSR2.out.1 HSR2.out.2 _).mono ?_; rintro e wV ⟨nr, tr, rfl, hr2, gV⟩; have GV : w6.grownBy wV none := grownBy_trans GU (by first | exact gV | exact grownBy_undrew gV | fail); obtain ⟨v0, v1, v2, v3, v4, v5⟩ := HS6.out _ GV; have bC7 : WBlk wV (w.heap.size + 1 + 1) (.bool false) (.string eS) := bC6.kept GV (by simp); have bD7 : WBlk wV (w.heap.size + 1 + 1 + 1) (.bool false) (.string eS) := bD6.kept GV (by simp); have k0 := bC7.c0; have k1 := bC7.c1; have k2 := bC7.fr 0; have k3 := bC7.fr 1; have l0 := bD7.c0; have l1 := bD7.c1; have l2 := bD7.fr 0; have l3 := bD7.fr 1)
        | fail)
    all_goals
      go_wp2_with fail
      refine bodyPost_ret (res_cell2 rfl _ _ (w.heap.size + 1 + 1) (w.heap.size + 1 + 1 + 1) _ _ _ _ _ _ _ _ rfl (((bC7.put _ _).other (by omega)).other (by omega)) rfl (((bD7.other (by omega)).other (by omega)).put _ _)) rfl ?_
      refine ⟨nq, tq, nr, tr, rfl, ?_, ?_, (grown_set (grown_set (grown_set (grown_set (grownBy_trans hW6 GV) (by omega)) (by omega)) (by omega)) (by omega))⟩
      · rw [HZ1.out]
        exact hq2
      · rw [HZ2.out]
        exact hr2
end Go.Proofs.YtdfliaogmlpefaaGreatDoor
