/-
  The program's inverse, with slices.Reverse.
-/
import Derived.Test.YtkimgmgafkihaaaDoorCpy
namespace Go.Proofs.YtkimgmgafkihaaaDoor
open Go.RowKit Go.Lib Go.Sort
set_option linter.unusedVariables false
set_option maxHeartbeats 1600000
set_option maxRecDepth 1000000
theorem getD_set (K : List Int) (i j : Nat) (x : Int) (hi : i < K.length) : (K.set i x)[j]?.getD 0 = if i = j then x else K[j]?.getD 0 := by
  rw [List.getElem?_set]
  split
  · subst_vars; rfl
  · rfl
def RvI (L K : List Int) (i : Nat) : Prop := K.length = L.length ∧ ∀ k, k < L.length → K[k]?.getD 0 = if k < i ∨ L.length - i ≤ k then L[L.length - 1 - k]?.getD 0 else L[k]?.getD 0
theorem RvI.step {L K : List Int} {i : Nat} (h : RvI L K i) (hi : i < L.length - 1 - i) : RvI L ((K.set i (K[L.length - 1 - i]?.getD 0)).set (L.length - 1 - i) (K[i]?.getD 0)) (i + 1) := by
  refine ⟨by simp [h.1], fun k hk => ?_⟩
  have h0 := h.1
  rw [getD_set _ _ _ _ (by rw [List.length_set]; omega), getD_set _ _ _ _ (by omega)]
  have hA := h.2 i (by omega)
  have hB := h.2 (L.length - 1 - i) (by omega)
  rw [if_neg (by omega)] at hA hB
  by_cases e1 : L.length - 1 - i = k
  · rw [if_pos e1, hA, if_pos (by omega)]
    congr 2
    omega
  · rw [if_neg e1]
    by_cases e2 : i = k
    · rw [if_pos e2, hB, if_pos (by omega), e2]
    · rw [if_neg e2, h.2 k hk]
      by_cases e3 : k < i ∨ L.length - i ≤ k
      · rw [if_pos e3, if_pos (by omega)]
      · rw [if_neg e3, if_neg (by omega)]
theorem RvI.done {L K : List Int} {i : Nat} (h : RvI L K i) (hi : L.length - 1 - i ≤ i) : K = L.reverse := by
  apply same_prefix (by simp [h.1])
  intro k hk
  rw [h.1] at hk
  rw [h.2 k hk, List.getElem?_reverse hk]
  split
  · rfl
  · congr 2
    omega
theorem reverse_own (w : World) (base g n c : Nat) (L : List Int) (hn : n = L.length) (hO : Own w base (.slice (some ⟨g, 0, none⟩) n c) L) (hnc : n ≤ c) (hl : n ≤ 1000000) :
    Calls Tryd.prog 40 #[.slice (some ⟨g, 0, none⟩) n c] w fun e w' => e = .returned (.tuple #[]) ∧ Own w' base (.slice (some ⟨g, 0, none⟩) n c) L.reverse ∧ w.grownBy w' (some g) := by
  have HN : Unit → L.length = n := fun _ => hn.symm
  have hnI : (n : Int) ≤ 1000000 := by omega
  have HO0 : Hid (Own w base (.slice (some ⟨g, 0, none⟩) n c) L) := hO
  clear hO hn hl
  go_enter Tryd.func40, Tryd.ntmps40
  go_wp2
  go_loopw [2, 3] (fun s t wr => ∃ (i : Nat) (K : List Int), i ≤ n ∧ s = .int .i64 i ∧ t = .int .i64 ((n : Int) - 1 - i) ∧ RvI L K i ∧ Own wr base (.slice (some ⟨g, 0, none⟩) n c) K ∧ w.grownBy wr (some g)) (fun s _ _ => match s with | .int _ i => n - i.toNat | _ => 0)
  case atStart => exact ⟨0, L, by omega, rfl, num_eq (by omega), ⟨rfl, fun k hk => by rw [if_neg (by omega)]⟩, HO0.out, World.grownBy.refl _ _⟩
  case round =>
    obtain ⟨i, K, hi, rfl, rfl, hK, hO, hG⟩ := hrel
    have HK : Hid (RvI L K i) := hK
    have HO : Hid (Own wr base (.slice (some ⟨g, 0, none⟩) n c) K) := hO
    have HG : Hid (w.grownBy wr (some g)) := hG
    clear hK hO hG
    have hKl : K.length = n := by have := HK.out.1; rw [HN ()] at this; exact this
    by_cases hlt : i < n - 1 - i
    · obtain ⟨j, hj⟩ : ∃ j : Nat, n - 1 - i = j := ⟨_, rfl⟩
      have hjI : (n : Int) - 1 - i = j := by omega
      rw [hj] at hlt
      have hjn : j < n := by omega
      have hltI : (i : Int) < j := by omega
      have hjnI : (j : Int) < n := by omega
      have hinI : (i : Int) < n := by omega
      have c1 := HO.out.cell i (by omega)
      have c2 := HO.out.cell j (by omega)
      have f1 := HO.out.frozen i
      have f2 := HO.out.frozen j
      have HS : Hid (RvI L ((K.set i (K[j]?.getD 0)).set j (K[i]?.getD 0)) (i + 1)) := by
        have := HK.out.step (by rw [HN ()]; omega)
        rw [HN (), hj] at this
        exact this
      have HJ : Unit → n - 1 - i = j := fun _ => hj
      rw [hjI]
      clear hj
      clear hKl
      obtain ⟨x, hx⟩ : ∃ x, K[i]?.getD 0 = x := ⟨_, rfl⟩
      obtain ⟨y, hy⟩ : ∃ y, K[j]?.getD 0 = y := ⟨_, rfl⟩
      rw [hx] at c1 HS
      rw [hy] at c2 HS
      have HO2 : Hid (Own ((wr.setCell ⟨g, i, none⟩ (.int .i64 y)).setCell ⟨g, j, none⟩ (.int .i64 x)) base (.slice (some ⟨g, 0, none⟩) n c) ((K.set i y).set j x)) := (HO.out.set i y).set j x
      clear hx hy hjI
      go_wp2
      go_region
      all_goals go_wp2
      go_roundw
      case rel => exact ⟨i + 1, _, by omega, num_eq (by omega), num_eq (by have := HJ (); omega), HS.out, HO2.out.kept0 (grow_drew (grow0 _)), grow_drew (grownBy_trans HG.out (grownBy_trans (grownBy_setCell _ _ _ _) (grownBy_setCell _ _ _ _)))⟩
      case measure => simp; omega
    · have HD : Hid (K = L.reverse) := HK.out.done (by rw [HN ()]; omega)
      have hltI : ¬ ((i : Int) < (n : Int) - 1 - i) := by omega
      clear hKl
      go_wp2
      refine bodyPost_end (results_none rfl _ _ _) rfl ?_
      have h1 := HD.out
      have h2 := HO.out
      rw [h1] at h2
      exact ⟨rfl, h2, HG.out⟩
def NgI (L K : List Int) (i : Nat) : Prop := K.length = L.length ∧ ∀ k, k < L.length → K[k]?.getD 0 = if k < i then -(L[k]?.getD 0) else L[k]?.getD 0
theorem NgI.step {L K : List Int} {i : Nat} (h : NgI L K i) (hi : i < L.length) : NgI L (K.set i (-(K[i]?.getD 0))) (i + 1) := by
  refine ⟨by simp [h.1], fun k hk => ?_⟩
  rw [getD_set _ _ _ _ (by rw [h.1]; exact hi)]
  have h1 := h.2 i hi
  rw [if_neg (by omega)] at h1
  by_cases e : i = k
  · subst e
    rw [if_pos rfl, if_pos (by omega), h1]
  · rw [if_neg e, h.2 k hk]
    by_cases e2 : k < i
    · rw [if_pos e2, if_pos (by omega)]
    · rw [if_neg e2, if_neg (by omega)]
theorem NgI.done {L K : List Int} (h : NgI L K L.length) : K = L.map (fun k => -k) := by
  apply same_prefix (by simp [h.1])
  intro k hk
  rw [h.1] at hk
  rw [h.2 k hk, if_pos hk, List.getElem?_map, List.getElem?_eq_getElem hk]
  rfl
theorem inv_eq (L : List Int) : L.reverse.map (fun k => -k) = inv L := by simp [inv]
theorem NgI.small {L K : List Int} {i : Nat} (h : NgI L K i) (hL : ∀ x ∈ L, noL x = false) (k : Nat) (hk : k < L.length) : -64 ≤ K[k]?.getD 0 ∧ K[k]?.getD 0 ≤ 64 := by
  rw [h.2 k hk, List.getElem?_eq_getElem hk]
  have := noL_no (hL _ (List.getElem_mem hk))
  simp only [Option.getD_some]
  split <;> omega
theorem inverse_any (w : World) (v : Value) (L : List Int) (h : Ints w v L) (hl : L.length ≤ 1000000) (hL : L.any noL = false) :
    Calls Tryd.prog 28 #[v] w fun e w' => e = .returned (.slice (some ⟨w.heap.size, 0, none⟩) L.length L.length) ∧ Own w' w.heap.size (.slice (some ⟨w.heap.size, 0, none⟩) L.length L.length) (inv L) ∧ w.grownBy w' none := by
  have HL : Hid (∀ x ∈ L.reverse, noL x = false) := fun x hx => by
    have := List.any_eq_false.1 hL x (by simpa using hx)
    simpa using this
  obtain ⟨w1, hmk, ho1, hg1⟩ := make_zeros w L.length (by omega)
  have HI1 : Hid (Ints w1 v L) := h.kept hg1
  have HO1 : Hid (Own w1 w.heap.size (.slice (some ⟨w.heap.size, 0, none⟩) L.length L.length) (List.replicate L.length 0)) := ho1
  have HG1 : Hid (w.grownBy w1 none) := hg1
  obtain ⟨ab, c, rfl, _⟩ := h.reads
  obtain ⟨n, hn⟩ : ∃ n, L.length = n := ⟨_, rfl⟩
  have HN : Unit → L.length = n := fun _ => hn
  have hnI : (n : Int) ≤ 1000000 := by omega
  rw [hn] at HI1 HO1 hmk ⊢
  have HZ : Hid ((List.replicate n (0 : Int)).take 0 ++ L.take (min L.length n) ++ (List.replicate n 0).drop (0 + min L.length n) = L) := by
    show _ = _
    rw [HN (), Nat.min_self, ← HN (), List.take_length, List.drop_eq_nil_of_le (by simp)]
    simp
  have hmn : ((min L.length n : Nat) : Int) = n := by rw [hn]; omega
  clear h hl hn hL ho1 hg1
  obtain ⟨w2, hcp, ho2, hg2⟩ := run_copy_ints w1 w.heap.size w.heap.size n n (List.replicate n 0) HO1.out 0 n n (by simp) _ L HI1.out 3 (by omega)
  rw [HZ.out] at ho2
  rw [hmn] at hcp
  have HO2 : Hid (Own w2 w.heap.size (.slice (some ⟨w.heap.size, 0, none⟩) n n) L) := ho2
  have HG2 : Hid (w.grownBy w2 none) := grownBy_new HG1.out (Nat.le_refl _) hg2
  clear ho2 hg2 hmn
  go_enter Tryd.func28, Tryd.ntmps28
  go_wp2_with fail
  refine (reverse_own w2 w.heap.size w.heap.size n n L (HN ()).symm HO2.out (Nat.le_refl _) (by omega)).mono ?_
  rintro e w3 ⟨rfl, ho3, hg3⟩
  have HO3 : Hid (Own w3 w.heap.size (.slice (some ⟨w.heap.size, 0, none⟩) n n) L.reverse) := ho3
  have HG3 : Hid (w.grownBy w3 none) := grownBy_new HG2.out (Nat.le_refl _) hg3
  clear ho3 hg3
  have HRl : Unit → L.reverse.length = n := fun _ => by rw [List.length_reverse]; exact HN ()
  have HINV : Hid (L.reverse.map (fun k => -k) = inv L) := inv_eq L
  generalize L.reverse = R at *
  go_wp2_with fail
  go_loopw [15] (fun s wr => ∃ (i : Nat) (K : List Int), i ≤ n ∧ s = .int .i64 i ∧ NgI R K i ∧ Own wr w.heap.size (.slice (some ⟨w.heap.size, 0, none⟩) n n) K ∧ w.grownBy wr none) (fun s _ => match s with | .int _ i => n - i.toNat | _ => 0)
  case atStart => exact ⟨0, R, by omega, rfl, ⟨rfl, fun k hk => by rw [if_neg (by omega)]⟩, HO3.out, HG3.out⟩
  case round =>
    obtain ⟨i, K, hi, rfl, hK, hO, hG⟩ := hrel
    have HK : Hid (NgI R K i) := hK
    have HO : Hid (Own wr w.heap.size (.slice (some ⟨w.heap.size, 0, none⟩) n n) K) := hO
    have HG : Hid (w.grownBy wr none) := hG
    clear hK hO hG
    by_cases hlt : i < n
    · have hltI : (i : Int) < n := by omega
      have hKl : i < K.length := by rw [HK.out.1, HRl ()]; exact hlt
      have c1 := HO.out.cell i hKl
      have f1 := HO.out.frozen i
      have HS : Hid (NgI R (K.set i (-(K[i]?.getD 0))) (i + 1)) := HK.out.step (by rw [HRl ()]; exact hlt)
      obtain ⟨b1, b2⟩ := HK.out.small HL.out i (by rw [HRl ()]; exact hlt)
      have HO2 : Hid (∀ x, Own (wr.setCell ⟨w.heap.size, i, none⟩ (.int .i64 x)) w.heap.size (.slice (some ⟨w.heap.size, 0, none⟩) n n) (K.set i x)) := fun x => HO.out.set i x
      clear hKl
      generalize K[i]?.getD 0 = x at *
      go_wp2
      go_roundw
      case rel =>
        refine ⟨i + 1, K.set i (-x), by omega, num_eq (by omega), HS.out, ?_, grown_set HG.out (Nat.le_refl _)⟩
        have := HO2.out (-x)
        simpa using this
      case measure => simp; omega
    · have e : i = n := by omega
      subst e
      go_wp2
      go_ret
      have h1 := HK.out
      rw [← HRl ()] at h1
      have h2 := h1.done
      rw [HINV.out] at h2
      rw [← h2]
      exact ⟨rfl, HO.out, HG.out⟩
end Go.Proofs.YtkimgmgafkihaaaDoor
