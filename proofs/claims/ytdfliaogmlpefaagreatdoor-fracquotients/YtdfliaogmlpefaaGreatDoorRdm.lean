/-
  The document's DivMod.
-/
import Derived.Test.YtdfliaogmlpefaaGreatDoorBunRdv
import Derived.Test.YtdfliaogmlpefaaGreatDoorBunDva
import Derived.Test.YtdfliaogmlpefaaGreatDoorBunPrg
namespace Go.Proofs.YtdfliaogmlpefaaGreatDoor
open Go.RowKit Go.Lib Go.Sort
set_option maxHeartbeats 3200000
set_option maxRecDepth 1000000
theorem res_cell2 {fn : Func} {p q : Tmp} (h : fn.results = #[.cell p 23, .cell q 23]) (tmps : Array Value) (w : World) (g g' : Nat) (t t' : TypeId) (a b a' b' : Value) (fr fr' : Nat × Nat)
    (hp : tmps.getD p undef = .pointer (some ⟨g, 0, none⟩)) (hg : w.heap[g]? = some (.cells #[a, b] t fr))
    (hq : tmps.getD q undef = .pointer (some ⟨g', 0, none⟩)) (hg' : w.heap[g']? = some (.cells #[a', b'] t' fr')) : (results fn tmps).run Tryz.prog w = .ok (.tuple #[.agg #[a, b], .agg #[a', b']]) w := by
  have hp' : tmps[p]?.getD undef = .pointer (some ⟨g, 0, none⟩) := by simpa using hp
  have hq' : tmps[q]?.getD undef = .pointer (some ⟨g', 0, none⟩) := by simpa using hq
  simp [results, h, hp', hq', asAddr, load_row w g t a b fr hg, load_row w g' t' a' b' fr' hg', Sem.run_bind, Result.andThen]
theorem div_wdt {w0 w1 w2 : World} {va vb : Value} {m1 m2 : ByteArray} (h1 : WdT w0 w1 va m1) (h2 : WdT w1 w2 vb m2) (h0 : 0 < val (bN m2)) :
    Calls Tryz.prog 120 #[va, vb] w2 (DvM w2 (val (bN m1)) (val (bN m2)) 5000) := by
  obtain ⟨A, dA, rA, lA, tA, vA, gA⟩ := h1
  obtain ⟨B, dB, rB, lB, tB, vB, gB⟩ := h2
  rw [← vA, ← vB]
  refine (divided_any w2 va vb A B (dA.kept gB) dB rA rB tA tB (by omega) (by omega) (fun e => ?_)).mono ?_
  · rw [← vB, List.length_eq_zero_iff.1 e] at h0
    simp [nv] at h0
  · rintro e w' ⟨vq, vr, Kq, Kr, rfl, dq, dr, rq, rr, tq, tr, nq, nr, lq, lr, g⟩
    exact ⟨vq, vr, Kq, Kr, rfl, dq, dr, rq, rr, tq, tr, nq, nr, by omega, by omega, g⟩
def DmR (x y : Int) (w : World) (e : Ending) (w' : World) : Prop := ∃ b s b' s', e = .returned (.tuple #[whole b s, whole b' s']) ∧ IsZ (x / y) b s ∧ IsZ (x % y) b' s' ∧ w.grownBy w' none
theorem rest_z {z : Int} {d : Nat} {s : ByteArray} (hz : z = (d : Int)) (hs : bN s = magN d) : IsZ z false s := isZ_made (b := false) hz hs
theorem trim_nil {K : List Nat} (t : Trim K) (h : nv B32 K = 0) : K.length = 0 := by
  refine Nat.eq_zero_of_not_pos fun hp => ?_
  have := trim_lo t 0 hp
  rw [h] at this
  simp at this
theorem rDivMod_pos (n2 : Bool) (m1 m2 : ByteArray) (h1 : may false m1 = true) (h2 : may n2 m2 = true) (h0 : m2.size ≠ 0) (w : World) :
    Calls Tryz.prog 69 #[whole false m1, whole n2 m2] w (DmR (num false m1) (num n2 m2) w) := by
  have W1 := words_wdt false m1 h1
  have W2 := words_wdt n2 m2 h2
  have HWW : Hid (∀ m w, m = m1 ∨ m = m2 → Calls Tryz.prog 113 #[.string m] w fun e w' => ∃ v, e = .returned v ∧ WdT w w' v m) := (by
    intro m w hm
    rcases hm with rfl | rfl
    · exact W1 w
    · exact W2 w)
  have HVP : Hid (0 < val (bN m2)) := val_pos h2 h0
  clear W1 W2 h1 h2 h0
  go_enter Tryz.func69, Tryz.ntmps69
  go_wp2_with fail
  have HKK : Hid (∀ w', ((w.alloc (wObj false m1)).alloc (wObj n2 m2)).grownBy w' none → w'.cell? ⟨w.heap.size, 0, none⟩ = some (Value.bool false) ∧ w'.cell? ⟨w.heap.size, 1, none⟩ = some (Value.string m1) ∧ w'.cell? ⟨w.heap.size + 1, 0, none⟩ = some (Value.bool n2) ∧ w'.cell? ⟨w.heap.size + 1, 1, none⟩ = some (Value.string m2)) :=
    fun w' hg => ⟨grownBy_cell hg (WBlk.c0 (b := .string m1) (old_alloc _ _ (heap_alloc_new _ _))) (by simp), grownBy_cell hg (WBlk.c1 (a := .bool false) (old_alloc _ _ (heap_alloc_new _ _))) (by simp), grownBy_cell hg (WBlk.c0 (b := .string m2) (heap_alloc2_new _ _ _)) (by simp), grownBy_cell hg (WBlk.c1 (a := .bool n2) (heap_alloc2_new _ _ _)) (by simp)⟩
  go_region_held3 (fun w' => w'.cell? ⟨w.heap.size, 0, none⟩ = some (Value.bool false) ∧ w'.cell? ⟨w.heap.size, 1, none⟩ = some (Value.string m1) ∧ w'.cell? ⟨w.heap.size + 1, 0, none⟩ = some (Value.bool n2) ∧ w'.cell? ⟨w.heap.size + 1, 1, none⟩ = some (Value.string m2))
    (first | (go_keep; done) | exact HKK.out _ (grownBy_trans (grow2 _ _ _) (by assumption)) | exact HKK.out _ (grow_drew (grow2 _ _ _)) | fail)
    (first
      | (go_at_call 113; refine (HWW.out _ _ (by first | exact .inl rfl | exact .inr rfl)).mono ?_; rintro e wA ⟨vA, rfl, hWA⟩; have GA : ((((w.alloc (wObj false m1)).alloc (wObj n2 m2)).alloc (wObj false eS)).alloc (wObj false eS)).grownBy wA none := (by first | exact grownBy_trans (by assumption) hWA.grown | exact grownBy_undrew hWA.grown | fail))
      | (go_at_call 120; refine (div_wdt (by assumption) (by assumption) HVP.out).mono ?_; rintro e wP ⟨vq, vr, Kq, Kr, rfl, dq, dr, rq, rr, tq, tr, nq, nr, lq, lr, hGK⟩; have GP : ((((w.alloc (wObj false m1)).alloc (wObj n2 m2)).alloc (wObj false eS)).alloc (wObj false eS)).grownBy wP none := grownBy_trans (by assumption) hGK)
      | fail)
  obtain ⟨ar, cr, hvr⟩ := dr.slice
  subst hvr
  obtain ⟨kr, hkr⟩ : ∃ kr, Kr.length = kr := ⟨_, rfl⟩
  have HKR : Hid (Kr.length = kr) := hkr
  have HQR : Hid (D4 wP (.slice ar Kr.length cr) Kr ∧ (∀ x ∈ Kr, x < B32) ∧ Kr.length ≤ 5000 ∧ nv B32 Kr = val (bN m1) % val (bN m2)) := ⟨dr, rr, lr, nr⟩
  have HM1 : Hid (∀ b : Bool, Calls Tryz.prog 95 #[.bool b, vq] wP fun e w' => ∃ bq s, e = .returned (whole bq s) ∧ IsZ (if b then -((val (bN m1) / val (bN m2) : Nat) : Int) else ((val (bN m1) / val (bN m2) : Nat) : Int)) bq s ∧ wP.grownBy w' none) := fun b => by
    have := made_any b wP vq Kq dq rq (by omega)
    rw [nq] at this
    refine this.mono ?_
    rintro e w' ⟨s, rfl, hs, g⟩
    exact ⟨_, s, rfl, isZ_made rfl hs, g⟩
  have HGP : Hid (((((w.alloc (wObj false m1)).alloc (wObj n2 m2)).alloc (wObj false eS)).alloc (wObj false eS)).grownBy wP none) := GP
  obtain ⟨c0, c1, c2, c3⟩ := HKK.out _ (grownBy_trans (grow2 _ _ _) GP)
  rw [hkr] at HQR ⊢
  clear dq dr rq rr tq tr nq nr lq lr hGK GP GA HWW hkr
  go_wp2_with fail
  refine (HM1.out _).mono ?_
  rintro e w1 ⟨bq, sq, rfl, hsq, g1⟩
  have hG1 := grownBy_trans HGP.out g1
  have hM2 := made_any false w1 (.slice ar kr cr) Kr (HQR.out.1.kept g1) HQR.out.2.1 (by have := HQR.out.2.2.1; have := HKR.out; omega)
  rw [HQR.out.2.2.2, Bool.false_and] at hM2
  have HM2 : Hid (Calls Tryz.prog 95 #[.bool false, .slice ar kr cr] w1 fun e w' => ∃ s, e = .returned (whole false s) ∧ bN s = magN (val (bN m1) % val (bN m2)) ∧ w1.grownBy w' none) := hM2
  have HSQ : Hid (IsZ (if (false != n2) then -((val (bN m1) / val (bN m2) : Nat) : Int) else ((val (bN m1) / val (bN m2) : Nat) : Int)) bq sq ∧ ((((w.alloc (wObj false m1)).alloc (wObj n2 m2)).alloc (wObj false eS)).alloc (wObj false eS)).grownBy w1 none) := ⟨by rw [bne_f]; exact hsq, hG1⟩
  clear hM2 hsq hG1 g1 HM1 c0 c1 c2 c3
  go_wp2_with fail
  refine HM2.out.mono ?_
  rintro e w2 ⟨sr, rfl, hsr, g2⟩
  have hG2 := grownBy_trans HSQ.out.2 g2
  have HSR : Hid (bN sr = magN (val (bN m1) % val (bN m2)) ∧ ((((w.alloc (wObj false m1)).alloc (wObj n2 m2)).alloc (wObj false eS)).alloc (wObj false eS)).grownBy w2 none) := ⟨hsr, hG2⟩
  have hG3 := grownBy_trans hG2 (grow2 w2 (wObj bq sq) (wObj false sr))
  have HG3 : Hid (((((w.alloc (wObj false m1)).alloc (wObj n2 m2)).alloc (wObj false eS)).alloc (wObj false eS)).grownBy ((w2.alloc (wObj bq sq)).alloc (wObj false sr)) none) := hG3
  obtain ⟨bA, bB, bC, bD⟩ := blks4 hG3
  have hsz : w.heap.size + 1 + 1 + 1 + 1 ≤ w2.heap.size := by have := hG2.size; simpa using this
  have bE : WBlk ((w2.alloc (wObj bq sq)).alloc (wObj false sr)) w2.heap.size (.bool bq) (.string sq) := at_alloc1 _ _ _
  have bF : WBlk ((w2.alloc (wObj bq sq)).alloc (wObj false sr)) (w2.heap.size + 1) (.bool false) (.string sr) := heap_alloc2_new _ _ _
  have a0 := bA.c0
  have e0 := bE.c0
  have e1 := bE.c1
  have f0 := bF.c0
  have f1 := bF.c1
  have x0 := bC.fr 0
  have x1 := bC.fr 1
  have y0 := bD.fr 0
  have y1 := bD.fr 1
  have z0 := bC.c0
  have z1 := bC.c1
  have v0 := bD.c0
  have v1 := bD.c1
  clear hsr g2 hG2 hG3 HM2
  go_wp2_with fail
  go_region
  go_wp2_with fail
  refine bodyPost_ret (res_cell2 rfl _ _ (w.heap.size + 1 + 1) (w.heap.size + 1 + 1 + 1) _ _ _ _ _ _ _ _ rfl (((bC.put _ _).other (by omega)).other (by omega)) rfl (((bD.other (by omega)).other (by omega)).put _ _)) rfl ?_
  refine ⟨bq, sq, false, sr, rfl, ?_, ?_, grow_drew (grown_set (grown_set (grown_set (grown_set (grownBy_trans (grow4 _ _ _ _ _) HG3.out) (by omega)) (by omega)) (by omega)) (by omega))⟩
  · rw [((div_num HVP.out).1 (.inl rfl)).1]
    exact HSQ.out.1
  · exact rest_z ((div_num HVP.out).1 (.inl rfl)).2 HSR.out.1
theorem rDivMod_flat (n2 : Bool) (m1 m2 : ByteArray) (h1 : may true m1 = true) (h2 : may n2 m2 = true) (h0 : m2.size ≠ 0) (hfl : val (bN m1) % val (bN m2) = 0) (w : World) :
    Calls Tryz.prog 69 #[whole true m1, whole n2 m2] w (DmR (num true m1) (num n2 m2) w) := by
  have W1 := words_wdt true m1 h1
  have W2 := words_wdt n2 m2 h2
  have HWW : Hid (∀ m w, m = m1 ∨ m = m2 → Calls Tryz.prog 113 #[.string m] w fun e w' => ∃ v, e = .returned v ∧ WdT w w' v m) := (by
    intro m w hm
    rcases hm with rfl | rfl
    · exact W1 w
    · exact W2 w)
  have HVP : Hid (0 < val (bN m2)) := val_pos h2 h0
  have HFL : Hid (val (bN m1) % val (bN m2) = 0) := hfl
  clear W1 W2 h1 h2 h0 hfl
  go_enter Tryz.func69, Tryz.ntmps69
  go_wp2_with fail
  have HKK : Hid (∀ w', ((w.alloc (wObj true m1)).alloc (wObj n2 m2)).grownBy w' none → w'.cell? ⟨w.heap.size, 0, none⟩ = some (Value.bool true) ∧ w'.cell? ⟨w.heap.size, 1, none⟩ = some (Value.string m1) ∧ w'.cell? ⟨w.heap.size + 1, 0, none⟩ = some (Value.bool n2) ∧ w'.cell? ⟨w.heap.size + 1, 1, none⟩ = some (Value.string m2)) :=
    fun w' hg => ⟨grownBy_cell hg (WBlk.c0 (b := .string m1) (old_alloc _ _ (heap_alloc_new _ _))) (by simp), grownBy_cell hg (WBlk.c1 (a := .bool true) (old_alloc _ _ (heap_alloc_new _ _))) (by simp), grownBy_cell hg (WBlk.c0 (b := .string m2) (heap_alloc2_new _ _ _)) (by simp), grownBy_cell hg (WBlk.c1 (a := .bool n2) (heap_alloc2_new _ _ _)) (by simp)⟩
  go_region_held3 (fun w' => w'.cell? ⟨w.heap.size, 0, none⟩ = some (Value.bool true) ∧ w'.cell? ⟨w.heap.size, 1, none⟩ = some (Value.string m1) ∧ w'.cell? ⟨w.heap.size + 1, 0, none⟩ = some (Value.bool n2) ∧ w'.cell? ⟨w.heap.size + 1, 1, none⟩ = some (Value.string m2))
    (first | (go_keep; done) | exact HKK.out _ (grownBy_trans (grow2 _ _ _) (by assumption)) | exact HKK.out _ (grow_drew (grow2 _ _ _)) | fail)
    (first
      | (go_at_call 113; refine (HWW.out _ _ (by first | exact .inl rfl | exact .inr rfl)).mono ?_; rintro e wA ⟨vA, rfl, hWA⟩; have GA : ((((w.alloc (wObj true m1)).alloc (wObj n2 m2)).alloc (wObj false eS)).alloc (wObj false eS)).grownBy wA none := (by first | exact grownBy_trans (by assumption) hWA.grown | exact grownBy_undrew hWA.grown | fail))
      | (go_at_call 120; refine (div_wdt (by assumption) (by assumption) HVP.out).mono ?_; rintro e wP ⟨vq, vr, Kq, Kr, rfl, dq, dr, rq, rr, tq, tr, nq, nr, lq, lr, hGK⟩; have GP : ((((w.alloc (wObj true m1)).alloc (wObj n2 m2)).alloc (wObj false eS)).alloc (wObj false eS)).grownBy wP none := grownBy_trans (by assumption) hGK)
      | fail)
  obtain ⟨ar, cr, hvr⟩ := dr.slice
  subst hvr
  obtain ⟨kr, hkr⟩ : ∃ kr, Kr.length = kr := ⟨_, rfl⟩
  have HKR : Hid (Kr.length = kr) := hkr
  have HQR : Hid (D4 wP (.slice ar Kr.length cr) Kr ∧ (∀ x ∈ Kr, x < B32) ∧ Kr.length ≤ 5000 ∧ nv B32 Kr = val (bN m1) % val (bN m2)) := ⟨dr, rr, lr, nr⟩
  have HM1 : Hid (∀ b : Bool, Calls Tryz.prog 95 #[.bool b, vq] wP fun e w' => ∃ bq s, e = .returned (whole bq s) ∧ IsZ (if b then -((val (bN m1) / val (bN m2) : Nat) : Int) else ((val (bN m1) / val (bN m2) : Nat) : Int)) bq s ∧ wP.grownBy w' none) := fun b => by
    have := made_any b wP vq Kq dq rq (by omega)
    rw [nq] at this
    refine this.mono ?_
    rintro e w' ⟨s, rfl, hs, g⟩
    exact ⟨_, s, rfl, isZ_made rfl hs, g⟩
  have HGP : Hid (((((w.alloc (wObj true m1)).alloc (wObj n2 m2)).alloc (wObj false eS)).alloc (wObj false eS)).grownBy wP none) := GP
  obtain ⟨c0, c1, c2, c3⟩ := HKK.out _ (grownBy_trans (grow2 _ _ _) GP)
  obtain rfl : kr = 0 := by rw [← hkr]; exact trim_nil tr (by rw [nr, HFL.out])
  rw [hkr] at HQR ⊢
  clear dq dr rq rr tq tr nq nr lq lr hGK GP GA HWW hkr
  go_wp2_with fail
  refine (HM1.out _).mono ?_
  rintro e w1 ⟨bq, sq, rfl, hsq, g1⟩
  have hG1 := grownBy_trans HGP.out g1
  have hM2 := made_any false w1 (.slice ar 0 cr) Kr (HQR.out.1.kept g1) HQR.out.2.1 (by have := HQR.out.2.2.1; have := HKR.out; omega)
  rw [HQR.out.2.2.2, Bool.false_and] at hM2
  have HM2 : Hid (Calls Tryz.prog 95 #[.bool false, .slice ar 0 cr] w1 fun e w' => ∃ s, e = .returned (whole false s) ∧ bN s = magN (val (bN m1) % val (bN m2)) ∧ w1.grownBy w' none) := hM2
  have HSQ : Hid (IsZ (if (true != n2) then -((val (bN m1) / val (bN m2) : Nat) : Int) else ((val (bN m1) / val (bN m2) : Nat) : Int)) bq sq ∧ ((((w.alloc (wObj true m1)).alloc (wObj n2 m2)).alloc (wObj false eS)).alloc (wObj false eS)).grownBy w1 none) := ⟨by rw [bne_t]; exact hsq, hG1⟩
  clear hM2 hsq hG1 g1 HM1 c0 c1 c2 c3
  go_wp2_with fail
  refine HM2.out.mono ?_
  rintro e w2 ⟨sr, rfl, hsr, g2⟩
  have hG2 := grownBy_trans HSQ.out.2 g2
  have HSR : Hid (bN sr = magN (val (bN m1) % val (bN m2)) ∧ ((((w.alloc (wObj true m1)).alloc (wObj n2 m2)).alloc (wObj false eS)).alloc (wObj false eS)).grownBy w2 none) := ⟨hsr, hG2⟩
  have hG3 := grownBy_trans hG2 (grow2 w2 (wObj bq sq) (wObj false sr))
  have HG3 : Hid (((((w.alloc (wObj true m1)).alloc (wObj n2 m2)).alloc (wObj false eS)).alloc (wObj false eS)).grownBy ((w2.alloc (wObj bq sq)).alloc (wObj false sr)) none) := hG3
  obtain ⟨bA, bB, bC, bD⟩ := blks4 hG3
  have hsz : w.heap.size + 1 + 1 + 1 + 1 ≤ w2.heap.size := by have := hG2.size; simpa using this
  have bE : WBlk ((w2.alloc (wObj bq sq)).alloc (wObj false sr)) w2.heap.size (.bool bq) (.string sq) := at_alloc1 _ _ _
  have bF : WBlk ((w2.alloc (wObj bq sq)).alloc (wObj false sr)) (w2.heap.size + 1) (.bool false) (.string sr) := heap_alloc2_new _ _ _
  have a0 := bA.c0
  have e0 := bE.c0
  have e1 := bE.c1
  have f0 := bF.c0
  have f1 := bF.c1
  have x0 := bC.fr 0
  have x1 := bC.fr 1
  have y0 := bD.fr 0
  have y1 := bD.fr 1
  have z0 := bC.c0
  have z1 := bC.c1
  have v0 := bD.c0
  have v1 := bD.c1
  clear hsr g2 hG2 hG3 HM2
  go_wp2_with fail
  go_region
  go_wp2_with fail
  refine bodyPost_ret (res_cell2 rfl _ _ (w.heap.size + 1 + 1) (w.heap.size + 1 + 1 + 1) _ _ _ _ _ _ _ _ rfl (((bC.put _ _).other (by omega)).other (by omega)) rfl (((bD.other (by omega)).other (by omega)).put _ _)) rfl ?_
  refine ⟨bq, sq, false, sr, rfl, ?_, ?_, grow_drew (grown_set (grown_set (grown_set (grown_set (grownBy_trans (grow4 _ _ _ _ _) HG3.out) (by omega)) (by omega)) (by omega)) (by omega))⟩
  · rw [((div_num HVP.out).1 (.inr HFL.out)).1]
    exact HSQ.out.1
  · exact rest_z ((div_num HVP.out).1 (.inr HFL.out)).2 HSR.out.1
end Go.Proofs.YtdfliaogmlpefaaGreatDoor
