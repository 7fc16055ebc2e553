/-
  The program's Root and Pow.
-/
import Derived.Test.YtkimgmgafkihaaaDoorTop
namespace Go.Proofs.YtkimgmgafkihaaaDoor
open Go.RowKit Go.Lib Go.Sort
set_option linter.unusedVariables false
set_option linter.unusedSimpArgs false
set_option maxHeartbeats 3200000
set_option maxRecDepth 1000000
def RootQ (w : World) (L : List Int) (r : Int) (e : Ending) (w' : World) : Prop :=
  w.grownBy w' none ∧ ∃ u n e2, e = .returned (.tuple #[u, .int .i64 n, .int .i64 e2]) ∧
    ((r ≠ 0 ∧ u = .slice none 0 0 ∧ n = 0 ∧ e2 = r) ∨
     (∃ m, r = 0 ∧ Cut (sh L) m ∧ coreOf (sh L) m = [] ∧ u = .slice none 0 0 ∧ n = 0 ∧ e2 = 7) ∨
     ∃ m p : Nat, r = 0 ∧ Cut (sh L) m ∧ 0 < (coreOf (sh L) m).length ∧ Rt (coreOf (sh L) m) p ∧ n = (((coreOf (sh L) m).length / p : Nat) : Int) ∧ e2 = 0 ∧ Fr w' w.heap.size u (inv (byOf (sh L) m) ++ (coreOf (sh L) m).take p ++ byOf (sh L) m))
theorem root_top (w : World) (v : Value) (L : List Int) (h : Ints w v L) (hl : L.length ≤ 1000000000000) :
    Calls Tryd.prog 18 #[v] w fun e w' => RootQ w L (chk [L]) e w' := by
  have HC := checked_one w v L h hl
  have HI : Hid (∀ w1, w.grownBy w1 none → Ints w1 v L) := fun w1 hg => h.kept hg
  have HOk : Hid (chk [L] = 0 → L.any noL = false ∧ L.length ≤ 4096) := fun h0 => chk_ok h0 L (by simp)
  obtain ⟨ab, c, rfl, _⟩ := h.reads
  clear h
  obtain ⟨r, hr⟩ : ∃ r, chk [L] = r := ⟨_, rfl⟩
  rw [hr] at HC HOk ⊢
  clear hr
  by_cases h0 : r = 0
  · subst h0
    have HS := fun w1 hg => short_fr w1 _ L (HI.out w1 hg) (by have := (HOk.out rfl).2; omega) (HOk.out rfl).1
    have HSl : Hid ((sh L).length ≤ 4096) := Nat.le_trans (sh_len L) (HOk.out rfl).2
    have HSn : Hid (∀ x ∈ sh L, noL x = false) := sh_letters (HOk.out rfl).1
    go_enter Tryd.func18, Tryd.ntmps18
    go_wp2_with fail
    refine HC.mono ?_
    rintro e w1 ⟨rfl, hg1⟩
    have HG1 : Hid (w.grownBy w1 none) := hg1
    clear hg1
    go_wp2_with fail
    refine (HS w1 HG1.out).mono ?_
    rintro e w2 ⟨rfl, hF, hG⟩
    have HG : Hid (w.grownBy w2 none) := grownBy_trans HG1.out hG
    have HP := parted_any w2 _ _ (sh L) rfl hF.ints (by have := HSl.out; omega) HSn.out
    clear hF hG
    go_wp2_with fail
    refine HP.mono ?_
    rintro e w3 ⟨m, u, v, hcut, rfl, hu, hv, hG3⟩
    have HCut : Hid (Cut (sh L) m) := hcut
    have HG3 : Hid (w.grownBy w3 none) := grownBy_trans HG.out hG3
    have HU : Hid (Ints w3 u (coreOf (sh L) m)) := hu
    have HV : Hid (Ints w3 v (byOf (sh L) m)) := hv
    have hcl := coreOf_len (sh L) m hcut.le
    have hbl := byOf_len (sh L) m hcut.le
    have hle := hcut.le
    have hsl := HSl.out
    have HBn : Hid ((byOf (sh L) m).any noL = false) := any_no fun x hx => HSn.out x (by_mem hx)
    obtain ⟨va, vc, rfl, _⟩ := hv.reads
    have HL3 : Hid ((coreOf (sh L) m).length + 2 * (byOf (sh L) m).length ≤ 4096) := by show _ ≤ _; omega
    clear hv hG3 hcut hcl hbl hle hsl
    by_cases hc0 : (coreOf (sh L) m).length = 0
    · have HE : Hid (coreOf (sh L) m = []) := List.length_eq_zero_iff.1 hc0
      obtain ⟨ua, uc, rfl, _⟩ := hu.reads
      rw [hc0] at HU ⊢
      clear hu hc0
      go_wp2_with fail
      refine bodyPost_ret (results_tmp3 rfl _ _ _) rfl ?_
      exact ⟨HG3.out, _, _, _, rfl, .inr (.inl ⟨m, rfl, HCut.out, HE.out, rfl, rfl, rfl⟩)⟩
    · have HPd := period_any w3 u (coreOf (sh L) m) HU.out (by omega) (by have := HL3.out; omega)
      obtain ⟨B, off, uc, rfl, huc⟩ : ∃ B off uc, u = .slice (some ⟨B, off, none⟩) (coreOf (sh L) m).length uc ∧ (coreOf (sh L) m).length ≤ uc := by
        rcases HU.out with ⟨_, e⟩ | ⟨B, off, uc, e, hc, _⟩ | ⟨e, _⟩
        · rw [e] at hc0; simp at hc0
        · exact ⟨B, off, uc, e, hc⟩
        · rw [e] at hc0; simp at hc0
      have HCp : Hid (0 < (coreOf (sh L) m).length) := by show 0 < _; omega
      have HSub : Hid (∀ p, p ≤ (coreOf (sh L) m).length → Ints w3 (.slice (some ⟨B, off, none⟩) p p) ((coreOf (sh L) m).take p)) := by
        intro p hp
        have := HU.out.sub 0 p p (by omega) (Nat.le_refl _)
        rwa [Nat.add_zero, List.drop_zero] at this
      have HQuo : Hid (∀ p : Nat, ((coreOf (sh L) m).length : Int).tdiv p = (((coreOf (sh L) m).length / p : Nat) : Int)) := fun p => rfl
      have HQ : Hid (∀ (p : Nat) (u : Value) (w' : World) (nn : Int), w3.grownBy w' none → Rt (coreOf (sh L) m) p → nn = (((coreOf (sh L) m).length / p : Nat) : Int) → Fr w' w3.heap.size u (inv (byOf (sh L) m) ++ (coreOf (sh L) m).take p ++ byOf (sh L) m) → RootQ w L 0 (.returned (.tuple #[u, .int .i64 nn, .int .i64 0])) w') := by
        intro p u w' nn hg hr hn hi
        exact ⟨grownBy_trans HG3.out hg, _, _, _, rfl, .inr (.inr ⟨m, p, rfl, HCut.out, HCp.out, hr, hn, rfl, hi.mono HG3.out.size⟩)⟩
      generalize coreOf (sh L) m = K at *
      generalize byOf (sh L) m = Bq at *
      obtain ⟨k, hk⟩ : ∃ k, K.length = k := ⟨_, rfl⟩
      have HKk : Unit → K.length = k := fun _ => hk
      rw [hk] at HPd HU huc HCp HSub HL3 HQuo hc0 ⊢
      have hk0 : ((k : Int) == 0) = false := by simpa using (show (k : Int) ≠ 0 by omega)
      have hkI : (k : Int) ≤ 4096 := by have := HL3.out; omega
      clear hu hk hc0
      go_wp2_with fail
      refine HPd.mono ?_
      rintro e w4 ⟨p, rfl, hRt, hG4⟩
      have HRt : Hid (Rt K p) := hRt
      have HG4 : Hid (w3.grownBy w4 none) := hG4
      have hp1 := hRt.1
      have hpk : p ≤ k := by rw [← HKk ()]; exact Nat.le_of_dvd (by rw [HKk ()]; exact HCp.out) hRt.2.1
      have hpI : (p : Int) ≤ k := by omega
      have hp0 : ((p : Int) == 0) = false := by simpa using (show (p : Int) ≠ 0 by omega)
      have hp00 : (p : Int) ≠ 0 := by omega
      have hpn : ¬ p = 0 := by omega
      have hpuc : p ≤ uc := by omega
      have hq := HQuo.out p
      have HCall : Hid (∀ w5, w4.grownBy w5 none → Calls Tryd.prog 29 #[.slice (some ⟨B, off, none⟩) p p, .slice va Bq.length vc] w5 fun e w' => ∃ v', e = .returned v' ∧ Own w' w5.heap.size v' (inv Bq ++ K.take p ++ Bq) ∧ w5.grownBy w' none) := by
        intro w5 hg
        refine around_any w5 _ _ _ _ ((HSub.out p hpk).kept (grownBy_trans HG4.out hg)) (HV.out.kept (grownBy_trans HG4.out hg)) ?_ HBn.out
        have := HL3.out
        rw [List.length_take]
        omega
      have HWq : Hid (IntKind.i64.wrap ((k : Int) / (p : Int)) = ((k / p : Nat) : Int)) := by
        show _ = _
        rw [← Int.natCast_ediv]
        have := Nat.div_le_self k p
        generalize k / p = z at *
        rw [IntKind.wrap_i64]
        omega
      clear hRt hG4
      go_wp2_with fail
      go_region_held3 (fun _ => True) (trivial) (first | (go_at_call 29; refine (HCall.out _ (grow_drew (World.grownBy.refl _ _))).mono ?_; rintro e w5 ⟨v5, rfl, hO5, hG5⟩; have HO5 : Hid (Own w5 w4.heap.size v5 (inv Bq ++ K.take p ++ Bq)) := hO5; have HG5 : Hid (w4.grownBy w5 none) := grownBy_undrew hG5; clear hO5 hG5) | fail)
      all_goals (
        go_wp2_with fail
        refine bodyPost_ret (results_tmp3 rfl _ _ _) rfl ?_
        exact HQ.out p _ _ _ (grownBy_trans HG4.out HG5.out) HRt.out (by rw [HKk ()]; exact HWq.out) (HO5.out.fr.mono HG4.out.size))
  · have hb : (r != 0) = true := by simpa using h0
    have HR : Hid (r ≠ 0) := h0
    clear h0
    go_enter Tryd.func18, Tryd.ntmps18
    go_wp2_with fail
    refine HC.mono ?_
    rintro e w' ⟨rfl, hg1⟩
    have HG1 : Hid (w.grownBy w' none) := hg1
    clear hg1
    go_wp2_with fail
    refine bodyPost_ret (results_tmp3 rfl _ _ _) rfl ?_
    exact ⟨HG1.out, _, _, _, rfl, .inl ⟨HR.out, rfl, rfl, rfl⟩⟩
def pwE (C B : List Int) (n : Int) : Int := if n = 0 ∨ C.length = 0 then 0 else if 4096 < n ∨ n < -4096 then 3 else if 4096 < 2 * B.length + n.natAbs * C.length then 3 else 0
def pwL (C B : List Int) (n : Int) : List Int := if n = 0 ∨ C.length = 0 then [] else inv B ++ rp (if n < 0 then inv C else C) n.natAbs ++ B
def PowQ (w : World) (L : List Int) (n r : Int) (e : Ending) (w' : World) : Prop :=
  w.grownBy w' none ∧ ∃ u e2, e = .returned (.tuple #[u, .int .i64 e2]) ∧
    ((r ≠ 0 ∧ u = .slice none 0 0 ∧ e2 = r) ∨
     ∃ m, r = 0 ∧ Cut (sh L) m ∧ e2 = pwE (coreOf (sh L) m) (byOf (sh L) m) n ∧ Fr w' w.heap.size u (if e2 = 0 then pwL (coreOf (sh L) m) (byOf (sh L) m) n else []))
theorem pow_top (w : World) (v : Value) (L : List Int) (n : Int) (h : Ints w v L) (hl : L.length ≤ 1000000000000) :
    Calls Tryd.prog 16 #[v, .int .i64 n] w fun e w' => PowQ w L n (chk [L]) e w' := by
  have HC := checked_one w v L h hl
  have HI : Hid (∀ w1, w.grownBy w1 none → Ints w1 v L) := fun w1 hg => h.kept hg
  have HOk : Hid (chk [L] = 0 → L.any noL = false ∧ L.length ≤ 4096) := fun h0 => chk_ok h0 L (by simp)
  obtain ⟨ab, c, rfl, _⟩ := h.reads
  clear h
  obtain ⟨r, hr⟩ : ∃ r, chk [L] = r := ⟨_, rfl⟩
  rw [hr] at HC HOk ⊢
  clear hr
  by_cases h0 : r = 0
  · subst h0
    have HS := fun w1 hg => short_fr w1 _ L (HI.out w1 hg) (by have := (HOk.out rfl).2; omega) (HOk.out rfl).1
    have HSl : Hid ((sh L).length ≤ 4096) := Nat.le_trans (sh_len L) (HOk.out rfl).2
    have HSn : Hid (∀ x ∈ sh L, noL x = false) := sh_letters (HOk.out rfl).1
    go_enter Tryd.func16, Tryd.ntmps16
    go_wp2_with fail
    refine HC.mono ?_
    rintro e w1 ⟨rfl, hg1⟩
    have HG1 : Hid (w.grownBy w1 none) := hg1
    clear hg1
    go_wp2_with fail
    refine (HS w1 HG1.out).mono ?_
    rintro e w2 ⟨rfl, hF, hG⟩
    have HG : Hid (w.grownBy w2 none) := grownBy_trans HG1.out hG
    have HP := parted_any w2 _ _ (sh L) rfl hF.ints (by have := HSl.out; omega) HSn.out
    clear hF hG
    go_wp2_with fail
    refine HP.mono ?_
    rintro e w3 ⟨m, u, v, hcut, rfl, hu, hv, hG3⟩
    have HCut : Hid (Cut (sh L) m) := hcut
    have HG3 : Hid (w.grownBy w3 none) := grownBy_trans HG.out hG3
    have HU : Hid (Ints w3 u (coreOf (sh L) m)) := hu
    have HV : Hid (Ints w3 v (byOf (sh L) m)) := hv
    have hcl := coreOf_len (sh L) m hcut.le
    have hbl := byOf_len (sh L) m hcut.le
    have hle := hcut.le
    have hsl := HSl.out
    have HBn : Hid ((byOf (sh L) m).any noL = false) := any_no fun x hx => HSn.out x (by_mem hx)
    have HCn : Hid ((coreOf (sh L) m).any noL = false) := any_no fun x hx => HSn.out x (core_mem hx)
    have HL3 : Hid ((coreOf (sh L) m).length + 2 * (byOf (sh L) m).length ≤ 4096) := by show _ ≤ _; omega
    clear hG3 hcut hcl hbl hle hsl
    have HQ : Hid (∀ u e2 w', w3.grownBy w' none → e2 = pwE (coreOf (sh L) m) (byOf (sh L) m) n → Fr w' w3.heap.size u (if e2 = 0 then pwL (coreOf (sh L) m) (byOf (sh L) m) n else []) → PowQ w L n 0 (.returned (.tuple #[u, .int .i64 e2])) w') := by
      intro u e2 w' hg he hf
      exact ⟨grownBy_trans HG3.out hg, u, e2, rfl, .inr ⟨m, rfl, HCut.out, he, hf.mono HG3.out.size⟩⟩
    generalize coreOf (sh L) m = C at *
    generalize byOf (sh L) m = B at *
    have HUR : Hid (Ints w3 u C) := hu
    have HVR : Hid (Ints w3 v B) := hv
    have hl3 := HL3.out
    obtain ⟨va, vc, rfl, _⟩ := hv.reads
    obtain ⟨ua, uc, rfl, _⟩ := hu.reads
    have hE : pwE C B n = if n = 0 ∨ C.length = 0 then 0 else if 4096 < n ∨ n < -4096 then 3 else if 4096 < 2 * B.length + n.natAbs * C.length then 3 else 0 := rfl
    have hLp : pwL C B n = if n = 0 ∨ C.length = 0 then [] else inv B ++ rp (if n < 0 then inv C else C) n.natAbs ++ B := rfl
    have HE : Hid (pwE C B n = if n = 0 ∨ C.length = 0 then 0 else if 4096 < n ∨ n < -4096 then 3 else if 4096 < 2 * B.length + n.natAbs * C.length then 3 else 0) := hE
    have HLp : Hid (pwL C B n = if n = 0 ∨ C.length = 0 then [] else inv B ++ rp (if n < 0 then inv C else C) n.natAbs ++ B) := hLp
    obtain ⟨k, hk⟩ : ∃ k, C.length = k := ⟨_, rfl⟩
    obtain ⟨b, hb⟩ : ∃ b, B.length = b := ⟨_, rfl⟩
    have HK : Unit → C.length = k ∧ B.length = b := fun _ => ⟨hk, hb⟩
    rw [hk, hb] at HE hl3 HL3
    rw [hk] at HLp HU HUR ⊢
    rw [hb] at HV HVR ⊢
    have hkI : (k : Int) ≤ 4096 := by omega
    have hbI : (b : Int) ≤ 4096 := by omega
    clear hu hv hE hLp hk hb
    by_cases hn0 : n = 0
    · subst hn0
      go_wp2_with fail
      go_ret2
      refine HQ.out _ _ _ (grow1 _ _) (by rw [HE.out]; simp) ?_
      rw [if_pos rfl, HLp.out]; simp only [true_or, or_true, if_true]
      exact (Own.empty w3 (0, 0)).fr
    · have hnb : (n == 0) = false := by simpa using hn0
      by_cases hk0 : k = 0
      · subst hk0
        go_wp2_with fail
        go_ret2
        refine HQ.out _ _ _ (grow1 _ _) (by rw [HE.out]; simp) ?_
        rw [if_pos rfl, HLp.out]; simp only [true_or, or_true, if_true]
        exact (Own.empty w3 (0, 0)).fr
      · have hkb : ((k : Int) == 0) = false := by simpa using (show (k : Int) ≠ 0 by omega)
        have HNO : Hid (¬ (n = 0 ∨ k = 0)) := by show ¬ _; omega
        by_cases hbig : 4096 < n ∨ n < -4096
        · have HB3 : Hid (pwE C B n = 3) := by show _ = _; rw [HE.out, if_neg HNO.out, if_pos hbig]
          rcases hbig with hb1 | hb1
          · go_wp2_with fail
            go_ret2
            refine HQ.out _ _ _ (grow0 _) HB3.out.symm ?_
            rw [if_neg (by decide)]
            exact Fr.nil _ _
          · go_wp2_with fail
            go_ret2
            refine HQ.out _ _ _ (grow0 _) HB3.out.symm ?_
            rw [if_neg (by decide)]
            exact Fr.nil _ _
        · have hn1 : n ≤ 4096 := by omega
          have hn2 : -4096 ≤ n := by omega
          have HE2 : Hid (pwE C B n = if 4096 < 2 * b + n.natAbs * k then 3 else 0) := by
            show _ = _
            rw [HE.out, if_neg HNO.out, if_neg (by omega)]
          have HLp2 : Hid (pwL C B n = inv B ++ rp (if n < 0 then inv C else C) n.natAbs ++ B) := by
            show _ = _
            rw [HLp.out, if_neg HNO.out]
          have HRep : Hid (∀ w4 vC D q, w3.grownBy w4 none → Ints w4 vC D → D.length = k → 1 ≤ q → q ≤ 4096 → q * k ≤ 4096 → Calls Tryd.prog 30 #[vC, .int .i64 (q : Int)] w4 fun e w' => ∃ c, e = .returned (.slice (some ⟨w4.heap.size, 0, none⟩) (D.length * q) (D.length * q)) ∧ Own w' w4.heap.size (.slice (some ⟨w4.heap.size, 0, none⟩) (D.length * q) c) (rp D q) ∧ w4.grownBy w' none) := by
            intro w4 vC D q hg hi hd h1 h2 h3
            exact repeat_any w4 vC D q hi (by omega) (by omega) h1 (by omega) (by rw [hd, Nat.mul_comm]; omega)
          have HAr : Hid (∀ w5 D q v5, w3.grownBy w5 none → Ints w5 v5 (rp D q) → (rp D q).length + 2 * b ≤ 4096 → Calls Tryd.prog 29 #[v5, .slice va b vc] w5 fun e w' => ∃ v', e = .returned v' ∧ Own w' w5.heap.size v' (inv B ++ rp D q ++ B) ∧ w5.grownBy w' none) := by
            intro w5 D q v5 hg hi hlen
            exact around_any w5 _ _ _ _ hi (HVR.out.kept hg) (by rw [(HK ()).2]; omega) HBn.out
          by_cases hneg : n < 0
          · obtain ⟨q, hq⟩ : ∃ q : Nat, n = -(q : Int) := ⟨n.natAbs, by omega⟩
            subst hq
            have hq1 : 1 ≤ q := by omega
            have hqI : (q : Int) ≤ 4096 := by omega
            have HInv := inverse_any w3 _ C HUR.out (by rw [(HK ()).1]; omega) HCn.out
            rw [(HK ()).1] at HInv
            have hnq : -(-(q : Int)) = q := by omega
            have HN : Hid ((-(q : Int)).natAbs = q ∧ (if -(q : Int) < 0 then inv C else C) = inv C) := ⟨by omega, if_pos hneg⟩
            obtain ⟨z, hz⟩ : ∃ z, q * k = z := ⟨_, rfl⟩
            have hzI : (q : Int) * k = z := by rw [← hz]; simp
            have hzb : z ≤ 16777216 := by rw [← hz]; exact Nat.mul_le_mul (show q ≤ 4096 by omega) (show k ≤ 4096 by omega)
            have hzbI : (z : Int) ≤ 16777216 := by omega
            have HZ : Unit → q * k = z := fun _ => hz
            clear hz
            by_cases hbg : 4096 < 2 * b + z
            · have hbgI : 4096 < 2 * (b : Int) + z := by omega
              go_wp2_with fail
              refine HInv.mono ?_
              rintro e w4 ⟨rfl, hO4, hG4⟩
              have HG4 : Hid (w3.grownBy w4 none) := hG4
              clear hO4 hG4
              go_wp2_with fail
              go_ret2
              refine HQ.out _ _ _ HG4.out (by rw [HE2.out, HN.out.1, HZ (), if_pos hbg]) ?_
              rw [if_neg (by decide)]
              exact Fr.nil _ _
            · have hbgI : 2 * (b : Int) + z ≤ 4096 := by omega
              go_wp2_with fail
              refine HInv.mono ?_
              rintro e w4 ⟨rfl, hO4, hG4⟩
              have HG4 : Hid (w3.grownBy w4 none) := hG4
              have HO4 : Hid (Own w4 w3.heap.size (.slice (some ⟨w3.heap.size, 0, none⟩) k k) (inv C)) := hO4
              clear hO4 hG4
              go_wp2_with fail
              refine (HRep.out w4 _ (inv C) q HG4.out HO4.out.ints (by rw [inv_len]; exact (HK ()).1) hq1 (by omega) (by rw [HZ ()]; omega)).mono ?_
              rintro e w5 ⟨c5, rfl, hO5, hG5⟩
              have HG5 : Hid (w3.grownBy w5 none) := grownBy_trans HG4.out hG5
              have HO5 : Hid (Ints w5 (.slice (some ⟨w4.heap.size, 0, none⟩) ((inv C).length * q) ((inv C).length * q)) (rp (inv C) q)) := (hO5.cut (by rw [rp_len])).ints
              clear hO5 hG5
              go_wp2_with fail
              refine (HAr.out w5 (inv C) q _ HG5.out HO5.out (by rw [rp_len, inv_len, (HK ()).1, Nat.mul_comm, HZ ()]; omega)).mono ?_
              rintro e w6 ⟨v6, rfl, hO6, hG6⟩
              have HG6 : Hid (w3.grownBy w6 none) := grownBy_trans HG5.out hG6
              have HO6 : Hid (Fr w6 w3.heap.size v6 (inv B ++ rp (inv C) q ++ B)) := hO6.fr.mono HG5.out.size
              clear hO6 hG6
              go_wp2_with fail
              go_ret2
              refine HQ.out _ _ _ HG6.out (by rw [HE2.out, HN.out.1, HZ (), if_neg hbg]) ?_
              rw [if_pos rfl, HLp2.out, HN.out.1, HN.out.2]
              exact HO6.out
          · obtain ⟨q, hq⟩ : ∃ q : Nat, n = (q : Int) := ⟨n.natAbs, by omega⟩
            subst hq
            have hq1 : 1 ≤ q := by omega
            have hqI : (q : Int) ≤ 4096 := by omega
            have HN : Hid ((q : Int).natAbs = q ∧ (if (q : Int) < 0 then inv C else C) = C) := ⟨by omega, if_neg hneg⟩
            obtain ⟨z, hz⟩ : ∃ z, q * k = z := ⟨_, rfl⟩
            have hzI : (q : Int) * k = z := by rw [← hz]; simp
            have hzb : z ≤ 16777216 := by rw [← hz]; exact Nat.mul_le_mul (show q ≤ 4096 by omega) (show k ≤ 4096 by omega)
            have hzbI : (z : Int) ≤ 16777216 := by omega
            have HZ : Unit → q * k = z := fun _ => hz
            clear hz
            by_cases hbg : 4096 < 2 * b + z
            · have hbgI : 4096 < 2 * (b : Int) + z := by omega
              go_wp2_with fail
              go_ret2
              refine HQ.out _ _ _ (grow0 _) (by rw [HE2.out, HN.out.1, HZ (), if_pos hbg]) ?_
              rw [if_neg (by decide)]
              exact Fr.nil _ _
            · have hbgI : 2 * (b : Int) + z ≤ 4096 := by omega
              go_wp2_with fail
              refine (HRep.out w3 _ C q (grow0 _) HUR.out (HK ()).1 hq1 (by omega) (by rw [HZ ()]; omega)).mono ?_
              rintro e w5 ⟨c5, rfl, hO5, hG5⟩
              have HG5 : Hid (w3.grownBy w5 none) := hG5
              have HO5 : Hid (Ints w5 (.slice (some ⟨w3.heap.size, 0, none⟩) (C.length * q) (C.length * q)) (rp C q)) := (hO5.cut (by rw [rp_len])).ints
              clear hO5 hG5
              go_wp2_with fail
              refine (HAr.out w5 C q _ HG5.out HO5.out (by rw [rp_len, (HK ()).1, Nat.mul_comm, HZ ()]; omega)).mono ?_
              rintro e w6 ⟨v6, rfl, hO6, hG6⟩
              have HG6 : Hid (w3.grownBy w6 none) := grownBy_trans HG5.out hG6
              have HO6 : Hid (Fr w6 w3.heap.size v6 (inv B ++ rp C q ++ B)) := hO6.fr.mono HG5.out.size
              clear hO6 hG6
              go_wp2_with fail
              go_ret2
              refine HQ.out _ _ _ HG6.out (by rw [HE2.out, HN.out.1, HZ (), if_neg hbg]) ?_
              rw [if_pos rfl, HLp2.out, HN.out.1, HN.out.2]
              exact HO6.out
  · have hb : (r != 0) = true := by simpa using h0
    have HR : Hid (r ≠ 0) := h0
    clear h0
    go_enter Tryd.func16, Tryd.ntmps16
    go_wp2_with fail
    refine HC.mono ?_
    rintro e w' ⟨rfl, hg1⟩
    have HG1 : Hid (w.grownBy w' none) := hg1
    clear hg1
    go_wp2_with fail
    go_ret2
    exact ⟨HG1.out, _, _, rfl, .inl ⟨HR.out, rfl, rfl⟩⟩
end Go.Proofs.YtkimgmgafkihaaaDoor
