/-
  WordsNames' walk.
-/
import Derived.Test.YtndadkfekngheabDoorNma
import Derived.Test.YtndadkfekngheabDoorCou
import Derived.Test.YtndadkfekngheabDoorKno
namespace Go.Proofs.YtndadkfekngheabDoor
open Go.RowKit Go.Lib Go.Sort
set_option linter.unusedVariables false
set_option linter.unusedSimpArgs false
set_option maxHeartbeats 3200000
set_option maxRecDepth 1000000
def On (n i : Nat) (K : List Int) : Prop := K.length = n ∧ ∀ j, j < i → K[j]?.getD 0 = 1
theorem On.step {n i : Nat} {K : List Int} (h : On n i K) (hi : i < n) : On n (i + 1) (K.set i 1) := by
  refine ⟨by rw [List.length_set]; exact h.1, fun j hj => ?_⟩
  by_cases e : i = j
  · subst e
    rw [List.getElem?_set_self (by rw [h.1]; exact hi)]
    rfl
  · rw [List.getElem?_set_ne e]
    exact h.2 j (by omega)
theorem On.all {n : Nat} {K : List Int} (h : On n n K) : K = ons n := by
  apply List.ext_getElem (by rw [h.1, ons_len])
  intro i h1 h2
  have a := h.2 i (by rw [← h.1]; exact h1)
  have b := ons_at n i (by rw [← h.1]; exact h1)
  rw [List.getElem?_eq_getElem h1] at a
  rw [List.getElem?_eq_getElem h2] at b
  simp only [Option.getD_some] at a b
  rw [a, b]
theorem make_long (w : World) : ∃ n, n = 4097 ∧ ∃ w', (Instr.makeSlice 22 (.int .i64 4097) (.int .i64 4097)).run Tryd.prog w = .ok (.slice (some ⟨w.heap.size, 0, none⟩) n n) w' ∧ (∃ K, On n 0 K ∧ Own w' w.heap.size (.slice (some ⟨w.heap.size, 0, none⟩) n n) K) ∧ w.grownBy w' none := by
  obtain ⟨w', h1, h2, h3⟩ := make_zeros w 4097 (by omega)
  exact ⟨4097, rfl, w', h1, ⟨_, ⟨List.length_replicate .., fun j hj => by omega⟩, h2⟩, h3⟩
theorem names_any (w : World) (ht : Tab w) : Calls Tryd.prog 3 #[] w fun e w' => e = .returned (.bool true) ∧ w.grownBy w' none := by
  have HT : Hid (∀ w', w.grownBy w' none → Tab w') := fun w' hg => ht.kept hg
  obtain ⟨n, hn, w1, hmk, ⟨K0, hK0, hO0⟩, hg0⟩ := make_long w
  have HK0 : Hid (On n 0 K0) := hK0
  have HO0 : Hid (Own w1 w.heap.size (.slice (some ⟨w.heap.size, 0, none⟩) n n) K0) := hO0
  have HG0 : Hid (w.grownBy w1 none) := hg0
  have HN : Unit → n = 4097 := fun _ => hn
  have hnI : (n : Int) ≤ 4097 := by omega
  have hn1 : (1 : Int) ≤ n := by omega
  have hn2 : ¬ n = 1 := by omega
  obtain ⟨m, hm⟩ : ∃ m, n - 1 = m := ⟨_, rfl⟩
  have HM : Unit → m = 4096 := fun _ => by omega
  have hmI : (m : Int) = 4096 := by omega
  clear hK0 hO0 hg0 ht hn
  go_enter Tryd.func3, Tryd.ntmps3
  go_wp2_with fail
  clear hmk
  go_loopw [2] (fun s wr => ∃ (i : Nat) (K : List Int), i ≤ n ∧ s = .int .i64 i ∧ On n i K ∧ Own wr w.heap.size (.slice (some ⟨w.heap.size, 0, none⟩) n n) K ∧ w.grownBy wr none) (fun s _ => match s with | .int _ i => n - i.toNat | _ => 0)
  case atStart => exact ⟨0, K0, by omega, rfl, HK0.out, HO0.out, HG0.out⟩
  case round =>
    obtain ⟨i, K, hi, rfl, hK, hO, hG⟩ := hrel
    have HK : Hid (On n i K) := hK
    have HO : Hid (Own wr w.heap.size (.slice (some ⟨w.heap.size, 0, none⟩) n n) K) := hO
    have HG : Hid (w.grownBy wr none) := hG
    clear hK hO hG
    by_cases hlt : i < n
    · have hltI : (i : Int) < n := by omega
      have hKl : i < K.length := by rw [HK.out.1]; exact hlt
      have c1 := HO.out.cell i hKl
      have f1 := HO.out.frozen i
      clear hKl
      go_wp2_with fail
      go_roundw
      case rel => exact ⟨i + 1, K.set i 1, by omega, num_eq (by omega), HK.out.step hlt, HO.out.set i 1, grown_set HG.out (Nat.le_refl _)⟩
      case measure => simp; omega
    · obtain rfl : i = n := by omega
      have hKe := HK.out.all
      subst hKe
      have HI : Hid (∀ w', wr.grownBy w' none → Ints w' (.slice (some ⟨w.heap.size, 0, none⟩) i i) (ons i)) := fun w' hg => HO.out.ints.kept hg
      have HJ : Hid (∀ w', wr.grownBy w' none → Ints w' (.slice (some ⟨w.heap.size, 1, none⟩) m m) (ons m)) := by
        intro w' hg
        have := (HI.out w' hg).sub 1 m m (by rw [ons_len]; omega) (Nat.le_refl _)
        have e : ((ons i).drop 1).take m = ons m := by
          unfold ons
          rw [List.drop_replicate, List.take_replicate]
          congr 1
          omega
        rw [e, Nat.zero_add] at this
        exact this
      clear HK HO HK0 HO0
      go_wp2_with fail
      refine (n_short wr _ m (HJ.out wr (grow0 _)) (HM ())).mono ?_
      rintro e w2 ⟨ab, ac, rfl, hg2⟩
      have HG2 : Hid (wr.grownBy w2 none) := hg2
      clear hg2
      go_wp2_with fail
      refine (n_long w2 _ i (HI.out w2 HG2.out) (HN ())).mono ?_
      rintro e w3 ⟨v3, rfl, hg3⟩
      have HG3 : Hid (wr.grownBy w3 none) := grownBy_trans HG2.out hg3
      clear hg3
      go_wp2_with fail
      have es : ∀ (u : World) (o : Obj), (u.alloc o).heap.size = u.heap.size + 1 := fun u o => by simp
      have HM4 := n_mul (w3.alloc (.cells #[.int .i64 1] 3)) (.slice (some ⟨w.heap.size, 1, none⟩) m m) (.slice (some ⟨w3.heap.size, 0, none⟩) 1 1) m (HJ.out _ (grownBy_trans HG3.out (grow1 _ _))) (ints_lit w3 [1]) (HM ())
      rw [es] at HM4
      refine HM4.mono ?_
      rintro e w4 ⟨v4, rfl, hg4⟩
      have HG4 : Hid (wr.grownBy w4 none) := grownBy_trans HG3.out (grownBy_trans (grow1 _ _) hg4)
      clear hg4 HM4
      have HM5 := n_mul2 (w4.alloc (.cells #[.int .i64 0] 3)) (.slice (some ⟨w.heap.size, 0, none⟩) i i) (.slice (some ⟨w4.heap.size, 0, none⟩) 1 1) i (HI.out _ (grownBy_trans HG4.out (grow1 _ _))) (ints_lit w4 [0]) (HN ())
      rw [es] at HM5
      have HM5' : Hid (Calls Tryd.prog 5 #[.slice (some ⟨w4.heap.size + 1, 0, none⟩) 2 2] ((w4.alloc (.cells #[.int .i64 0] 3)).alloc (.cells #[.slice (some ⟨w.heap.size, 0, none⟩) i i, .slice (some ⟨w4.heap.size, 0, none⟩) 1 1] 22)) fun e w' => ∃ v', e = .returned (.tuple #[v', .int .i64 2]) ∧ (w4.alloc (.cells #[.int .i64 0] 3)).grownBy w' none) := HM5
      clear HM5 es
      go_wp2_with fail
      refine HM5'.out.mono ?_
      rintro e w5 ⟨v5, rfl, hg5⟩
      have HG5 : Hid (w.grownBy w5 none) := grownBy_trans HG.out (grownBy_trans HG4.out (grownBy_trans (grow1 _ _) hg5))
      clear hg5 HM5' HI HJ HG2 HG3 HG4
      go_wp2_with fail
      refine (n_pow _ _ (ints_lit w5 [1])).mono ?_
      rintro e w6 ⟨v6, rfl, hg6⟩
      have HG6 : Hid (w.grownBy w6 none) := grownBy_trans HG5.out (grownBy_trans (grow1 _ _) hg6)
      clear hg6 HG5
      go_wp2_with fail
      refine (n_pow2 _ _ (ints_lit w6 [1, -1])).mono ?_
      rintro e w7 ⟨bb, bc, rfl, hg7⟩
      have HG7 : Hid (w.grownBy w7 none) := grownBy_trans HG6.out (grownBy_trans (grow1 _ _) hg7)
      clear hg7 HG6
      go_wp2_with fail
      refine (count_64 w7).mono ?_
      rintro e w8 ⟨rfl, hw⟩
      obtain rfl := hw.symm
      go_wp2_with fail
      refine (count_one w7).mono ?_
      rintro e w8 ⟨rfl, hw⟩
      obtain rfl := hw.symm
      go_wp2_with (go_at_call 8; refine (num_any _ _).mono ?_; rintro e w' ⟨rfl, hw⟩; obtain rfl := hw.symm)
      refine (check_any _ _ [65] (ints_lit w7 [65]) (by simp)).mono ?_
      rw [show chk [[65]] = 2 by decide]
      rintro e w8 ⟨rfl, hg8⟩
      have HG8 : Hid (w.grownBy w8 none) := grownBy_trans HG7.out (grownBy_trans (grow1 _ _) hg8)
      clear hg8 HG7
      go_wp2_with (go_at_call 8; refine (num_any _ _).mono ?_; rintro e w' ⟨rfl, hw⟩; obtain rfl := hw.symm)
      refine (check_any _ _ [-64, 64] (ints_lit w8 [-64, 64]) (by simp)).mono ?_
      rw [show chk [[-64, 64]] = 0 by decide]
      rintro e w9 ⟨rfl, hg9⟩
      have HG9 : Hid (w.grownBy w9 none) := grownBy_trans HG8.out (grownBy_trans (grow1 _ _) hg9)
      clear hg9 HG8
      go_wp2_with (go_at_call 8; refine (num_any _ _).mono ?_; rintro e w' ⟨rfl, hw⟩; obtain rfl := hw.symm)
      refine (known_any w9 (HT.out w9 HG9.out)).mono ?_
      rintro e w10 ⟨rfl, hg10⟩
      have HG10 : Hid (w.grownBy w10 none) := grownBy_trans HG9.out hg10
      clear hg10 HG9
      go_wp2_with fail
      go_ret
      exact ⟨rfl, HG10.out⟩
end Go.Proofs.YtndadkfekngheabDoor
