/-
  The program's goOn.
-/
import Derived.Test.YtkimgmgafkihaaaDoorNxa
namespace Go.Proofs.YtkimgmgafkihaaaDoor
open Go.RowKit Go.Lib Go.Sort
set_option linter.unusedVariables false
set_option linter.unusedSimpArgs false
set_option maxHeartbeats 3200000
set_option maxRecDepth 1000000
theorem cancel_wide (x y : Int) (hx : -64 ≤ x ∧ x ≤ 64) (hy : -65 ≤ y ∧ y ≤ 65) (w : World) : Calls Tryd.prog 36 #[.int .i64 x, .int .i64 y] w fun e w' => e = .returned (.bool (x + y == 0)) ∧ w' = w := by
  obtain ⟨h1, h2⟩ := hx
  obtain ⟨h3, h4⟩ := hy
  go_enter Tryd.func36, Tryd.ntmps36
  go_wp2
  go_ret
  exact ⟨rfl, rfl⟩
theorem aft_in {k : Int} (h : -64 ≤ k ∧ k ≤ 64) : -64 ≤ aft k ∧ aft k ≤ 65 := by unfold aft; split <;> omega
def cnd (W : List Int) (i : Nat) : Int := if 0 < i ∧ W[i - 1]?.getD 0 + aft (W[i]?.getD 0) = 0 then aft (aft (W[i]?.getD 0)) else aft (W[i]?.getD 0)
def goF (l : Int) (W : List Int) : Nat → Option (List Int)
  | 0 => none
  | i + 1 => if cnd W i ≤ l then some (W.take i ++ [cnd W i] ++ List.replicate (W.length - (i + 1)) (fst1 (cnd W i))) else goF l W i
def L64 (W : List Int) : Prop := ∀ i, i < W.length → -64 ≤ W[i]?.getD 0 ∧ W[i]?.getD 0 ≤ 64
theorem cnd_low {W : List Int} {i : Nat} (h : L64 W) (hi : i < W.length) : -64 ≤ cnd W i := by
  have h1 := h i hi
  unfold cnd
  split
  · next hc =>
    have h2 := h (i - 1) (by omega)
    have := hc.2
    unfold aft at *
    split <;> split at this <;> omega
  · exact (aft_in h1).1
theorem take_set1 (W : List Int) (j : Nat) (k : Int) (h : j < W.length) : (W.set j k).take (j + 1) = W.take j ++ [k] := by
  rw [List.take_set, List.take_succ_eq_append_getElem h, List.set_append_right _ _ (by simp; omega)]
  have e : j - (W.take j).length = 0 := by simp; omega
  rw [e, List.set_cons_zero]
theorem goOn_own (w : World) (g n c : Nat) (l : Int) (W : List Int) (hn : n = W.length) (hO : Pil w g W) (hnc : n ≤ c) (hc : c ≤ 1000000) (hW : L64 W) (hl : l ≤ 64) :
    Calls Tryd.prog 24 #[.slice (some ⟨g, 0, none⟩) n c, .int .i64 l] w fun e w' => e = .returned (.bool (goF l W n).isSome) ∧ Pil w' g ((goF l W n).getD W) ∧ w.grownBy w' (some g) := by
  have HN : Unit → W.length = n := fun _ => hn.symm
  have HO : Hid (Pil w g W) := hO
  have HW : Hid (L64 W) := hW
  have hnI : (n : Int) ≤ 1000000 := by omega
  clear hO hn hW
  obtain ⟨r, hr⟩ : ∃ r, goF l W n = r := ⟨_, rfl⟩
  have HR : Hid (goF l W n = r) := hr
  rw [hr]
  clear hr
  go_enter Tryd.func24, Tryd.ntmps24
  go_wp2_with fail
  go_loopw [5] (fun s wr => ∃ i : Nat, i ≤ n ∧ s = .int .i64 ((i : Int) - 1) ∧ goF l W i = r ∧ w = wr) (fun s _ => match s with | .int _ i => (i + 1).toNat | _ => 0)
  case atStart => exact ⟨n, by omega, num_eq (by omega), HR.out, rfl⟩
  case round =>
    obtain ⟨i, hi, rfl, hg, rfl⟩ := hrel
    have HG : Hid (goF l W i = r) := hg
    clear hg HR
    rcases i with _ | j
    · have HE : Hid (r = none) := HG.out.symm
      rw [show ((0 : Nat) : Int) - 1 = -1 from rfl]
      go_wp2_with fail
      go_ret
      rw [HE.out]
      exact ⟨rfl, HO.out, World.grownBy.refl _ _⟩
    · have hjn : j < n := by omega
      have hjI : (j : Int) < n := by omega
      have hj0 : (0 : Int) ≤ j := by omega
      rw [show ((j + 1 : Nat) : Int) - 1 = (j : Int) by omega]
      have c1 := HO.out.cell j (by rw [HN ()]; exact hjn)
      have f1 := HO.out.frozen j
      have HX : Hid (-64 ≤ W[j]?.getD 0 ∧ W[j]?.getD 0 ≤ 64) := HW.out j (by rw [HN ()]; exact hjn)
      have HK : Hid (cnd W j = if 0 < j ∧ W[j - 1]?.getD 0 + aft (W[j]?.getD 0) = 0 then aft (aft (W[j]?.getD 0)) else aft (W[j]?.getD 0)) := rfl
      have HKl : Hid (-64 ≤ cnd W j) := cnd_low HW.out (by rw [HN ()]; exact hjn)
      have HG2 : Hid ((if cnd W j ≤ l then some (W.take j ++ [cnd W j] ++ List.replicate (W.length - (j + 1)) (fst1 (cnd W j))) else goF l W j) = r) := HG.out
      clear HG
      obtain ⟨kk, hkk⟩ : ∃ kk, cnd W j = kk := ⟨_, rfl⟩
      rw [hkk] at HK HKl HG2
      clear hkk
      obtain ⟨x, hx⟩ : ∃ x, W[j]?.getD 0 = x := ⟨_, rfl⟩
      rw [hx] at c1 HX HK
      clear hx
      go_wp2_with fail
      refine (after_any x ⟨by have := HX.out; omega, by have := HX.out; omega⟩ _).mono ?_
      rintro e w' ⟨rfl, hw⟩
      obtain rfl := hw.symm
      have HY : Hid (-64 ≤ aft x ∧ aft x ≤ 65) := aft_in HX.out
      obtain ⟨y, hy⟩ : ∃ y, aft x = y := ⟨_, rfl⟩
      rw [hy] at HY HK
      rw [hy]
      clear hy
      by_cases hj1 : 0 < j
      · obtain ⟨q, hq⟩ : ∃ q, j - 1 = q := ⟨_, rfl⟩
        have hwq : IntKind.i64.wrap ((j : Int) - 1) = (q : Int) := by rw [IntKind.wrap_i64]; omega
        have hqI : (q : Int) < n := by omega
        have c2 := HO.out.cell q (by rw [HN ()]; omega)
        have HZ : Hid (-64 ≤ W[q]?.getD 0 ∧ W[q]?.getD 0 ≤ 64) := HW.out q (by rw [HN ()]; omega)
        rw [hq] at HK
        obtain ⟨z, hz⟩ : ∃ z, W[q]?.getD 0 = z := ⟨_, rfl⟩
        rw [hz] at c2 HZ HK
        clear hz
        have hj1I : decide (0 < (j : Int)) = true := decide_eq_true (by omega)
        go_wp2_with fail
        refine (cancel_wide z y HZ.out ⟨by have := HY.out; omega, by have := HY.out; omega⟩ _).mono ?_
        rintro e w' ⟨rfl, hw⟩
        obtain rfl := hw.symm
        by_cases hzy : z + y = 0
        · have hb : (z + y == 0) = true := by simpa using hzy
          have HK2 : Hid (aft y = kk) := by have h := HK.out; rw [if_pos ⟨hj1, hzy⟩] at h; exact h.symm
          rw [hb]
          clear hb HK hzy
          go_wp2_with fail
          refine (after_any y ⟨by have := HY.out; omega, by have := HY.out; omega⟩ _).mono ?_
          rintro e w' ⟨rfl, hw⟩
          obtain rfl := hw.symm
          rw [HK2.out]
          clear HK2
          by_cases hkl : kk ≤ l
          · have hkb : decide (kk ≤ l) = true := decide_eq_true hkl
            have HO2 : Hid (Pil (w.setCell ⟨g, j, none⟩ (.int .i64 kk)) g (W.set j kk)) := HO.out.set j kk
            have hwj : IntKind.i64.wrap ((j : Int) + 1) = ((j + 1 : Nat) : Int) := by rw [IntKind.wrap_i64]; omega
            have HE : Hid (r = some (W.take j ++ [kk] ++ List.replicate (n - (j + 1)) (fst1 kk))) := by have h := HG2.out; rw [if_pos hkl, HN ()] at h; exact h.symm
            go_wp2_with fail
            all_goals refine (begin_own _ g n (j + 1) (n - (j + 1)) _ _ kk (W.set j kk) (by rw [List.length_set, HN ()]) HO2.out (by omega) (by omega) (by first | (left; omega) | (right; simp)) (by omega) ⟨HKl.out, by omega⟩).mono ?_
            all_goals rintro e w2 ⟨rfl, hB, hC⟩
            all_goals have HB : Hid (Pil w2 g ((W.set j kk).take (j + 1) ++ List.replicate (n - (j + 1)) (fst1 kk))) := hB
            all_goals have HC : Hid ((w.setCell ⟨g, j, none⟩ (.int .i64 kk)).grownBy w2 (some g)) := hC
            all_goals clear hB hC
            all_goals rw [take_set1 W j kk (by rw [HN ()]; exact hjn)] at HB
            all_goals go_wp2_with fail
            all_goals go_ret
            all_goals rw [HE.out]
            all_goals exact ⟨rfl, HB.out, grownBy_trans (grownBy_setCell _ _ _ _) HC.out⟩
          · have hkb : decide (kk ≤ l) = false := decide_eq_false hkl
            have HE : Hid (goF l W j = r) := by have h := HG2.out; rw [if_neg hkl] at h; exact h
            go_wp2_with fail
            go_roundw
            case rel => exact ⟨j, by omega, num_eq (by omega), HE.out, trivial⟩
            case measure => simp; omega
        · have hb : (z + y == 0) = false := by simpa using hzy
          obtain rfl : kk = y := by have h := HK.out; rw [if_neg (fun h => hzy h.2)] at h; exact h
          rw [hb]
          clear hb HK hzy
          by_cases hkl : kk ≤ l
          · have hkb : decide (kk ≤ l) = true := decide_eq_true hkl
            have HO2 : Hid (Pil (w.setCell ⟨g, j, none⟩ (.int .i64 kk)) g (W.set j kk)) := HO.out.set j kk
            have hwj : IntKind.i64.wrap ((j : Int) + 1) = ((j + 1 : Nat) : Int) := by rw [IntKind.wrap_i64]; omega
            have HE : Hid (r = some (W.take j ++ [kk] ++ List.replicate (n - (j + 1)) (fst1 kk))) := by have h := HG2.out; rw [if_pos hkl, HN ()] at h; exact h.symm
            go_wp2_with fail
            all_goals refine (begin_own _ g n (j + 1) (n - (j + 1)) _ _ kk (W.set j kk) (by rw [List.length_set, HN ()]) HO2.out (by omega) (by omega) (by first | (left; omega) | (right; simp)) (by omega) ⟨HKl.out, by omega⟩).mono ?_
            all_goals rintro e w2 ⟨rfl, hB, hC⟩
            all_goals have HB : Hid (Pil w2 g ((W.set j kk).take (j + 1) ++ List.replicate (n - (j + 1)) (fst1 kk))) := hB
            all_goals have HC : Hid ((w.setCell ⟨g, j, none⟩ (.int .i64 kk)).grownBy w2 (some g)) := hC
            all_goals clear hB hC
            all_goals rw [take_set1 W j kk (by rw [HN ()]; exact hjn)] at HB
            all_goals go_wp2_with fail
            all_goals go_ret
            all_goals rw [HE.out]
            all_goals exact ⟨rfl, HB.out, grownBy_trans (grownBy_setCell _ _ _ _) HC.out⟩
          · have hkb : decide (kk ≤ l) = false := decide_eq_false hkl
            have HE : Hid (goF l W j = r) := by have h := HG2.out; rw [if_neg hkl] at h; exact h
            go_wp2_with fail
            go_roundw
            case rel => exact ⟨j, by omega, num_eq (by omega), HE.out, trivial⟩
            case measure => simp; omega
      · have hj1I : decide (0 < (j : Int)) = false := decide_eq_false (by omega)
        obtain rfl : kk = y := by have h := HK.out; rw [if_neg (fun h => hj1 h.1)] at h; exact h
        clear HK
        by_cases hkl : kk ≤ l
        · have hkb : decide (kk ≤ l) = true := decide_eq_true hkl
          have HO2 : Hid (Pil (w.setCell ⟨g, j, none⟩ (.int .i64 kk)) g (W.set j kk)) := HO.out.set j kk
          have hwj : IntKind.i64.wrap ((j : Int) + 1) = ((j + 1 : Nat) : Int) := by rw [IntKind.wrap_i64]; omega
          have HE : Hid (r = some (W.take j ++ [kk] ++ List.replicate (n - (j + 1)) (fst1 kk))) := by have h := HG2.out; rw [if_pos hkl, HN ()] at h; exact h.symm
          go_wp2_with fail
          all_goals refine (begin_own _ g n (j + 1) (n - (j + 1)) _ _ kk (W.set j kk) (by rw [List.length_set, HN ()]) HO2.out (by omega) (by omega) (by first | (left; omega) | (right; simp)) (by omega) ⟨HKl.out, by omega⟩).mono ?_
          all_goals rintro e w2 ⟨rfl, hB, hC⟩
          all_goals have HB : Hid (Pil w2 g ((W.set j kk).take (j + 1) ++ List.replicate (n - (j + 1)) (fst1 kk))) := hB
          all_goals have HC : Hid ((w.setCell ⟨g, j, none⟩ (.int .i64 kk)).grownBy w2 (some g)) := hC
          all_goals clear hB hC
          all_goals rw [take_set1 W j kk (by rw [HN ()]; exact hjn)] at HB
          all_goals go_wp2_with fail
          all_goals go_ret
          all_goals rw [HE.out]
          all_goals exact ⟨rfl, HB.out, grownBy_trans (grownBy_setCell _ _ _ _) HC.out⟩
        · have hkb : decide (kk ≤ l) = false := decide_eq_false hkl
          have HE : Hid (goF l W j = r) := by have h := HG2.out; rw [if_neg hkl] at h; exact h
          go_wp2_with fail
          go_roundw
          case rel => exact ⟨j, by omega, num_eq (by omega), HE.out, trivial⟩
          case measure => simp
end Go.Proofs.YtkimgmgafkihaaaDoor
