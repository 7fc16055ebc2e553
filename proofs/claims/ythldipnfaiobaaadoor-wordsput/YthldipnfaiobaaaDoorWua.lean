/-
  The law WordsPut: its walk.
-/
import Derived.Test.YthldipnfaiobaaaDoorPue
import Derived.Test.YthldipnfaiobaaaDoorWpb
namespace Go.Proofs.YthldipnfaiobaaaDoor
open Go.RowKit Go.Lib Go.Sort
set_option linter.unusedVariables false
set_option linter.unusedSimpArgs false
set_option maxHeartbeats 3200000
set_option maxRecDepth 1000000
theorem flat_le {Ms : List (List Int)} {b : Nat} (h : ∀ l ∈ Ms, l.length ≤ b) : Ms.flatten.length ≤ Ms.length * b := by
  induction Ms with
  | nil => simp
  | cons a l ih =>
    have h1 := h a (by simp)
    have h2 := ih fun x hx => h x (by simp [hx])
    rw [List.flatten_cons, List.length_append, List.length_cons, Nat.succ_mul]
    omega
theorem img_len {Ls : List (List Int)} {b : Nat} (h : ∀ j, j < Ls.length → (Ls[j]?.getD []).length ≤ b) (y : Int) : (img Ls y).length ≤ b := by
  have key : ∀ j : Nat, (Ls[j]?.getD []).length ≤ b := by
    intro j
    rcases Nat.lt_or_ge j Ls.length with hj | hj
    · exact h j hj
    · rw [List.getElem?_eq_none hj]
      simp
  unfold img
  split
  · exact Nat.le_trans (sh_len _) (key _)
  · rw [inv_len]
    exact Nat.le_trans (sh_len _) (key _)
theorem putL_len (L : List Int) (Ls : List (List Int)) : (putL L Ls).length ≤ 4096 := by
  unfold putL
  split
  · split
    · exact tldL_len _
    · simp
  · simp
theorem wput_many (w : World) (v s : Value) (L : List Int) (Ls : List (List Int)) (h : Ints w v L) (hs : IntsL w s Ls) (hl : 70 < Ls.length) (hl2 : Ls.length ≤ 1000000000000000) (ht : Tab w) :
    Calls Tryd.prog 6 #[v, s] w fun e w' => e = .returned (.bool true) ∧ w.grownBy w' none := by
  have HK := known_any w ht
  obtain ⟨va, vc, rfl, _⟩ := h.reads
  obtain ⟨sa, sc, rfl, _⟩ := hs.reads
  have hlI : (70 : Int) < Ls.length := by omega
  have hl3 : (Ls.length : Int) ≤ 1000000000000000 := by omega
  clear h hl hl2 hs
  generalize Ls.length = k at *
  generalize L.length = n at *
  go_enter Tryd.func6, Tryd.ntmps6
  go_wp2_with fail
  refine HK.mono ?_
  rintro e w2 ⟨rfl, g2⟩
  have G2 : Hid (w.grownBy w2 none) := g2
  clear g2
  go_wp2_with fail
  go_ret
  exact ⟨rfl, G2.out⟩
theorem wput_much (w : World) (v s : Value) (L : List Int) (Ls : List (List Int)) (h : Ints w v L) (hs : IntsL w s Ls) (hl : Ls.length ≤ 70) (hl2 : ∀ M ∈ Ls, M.length ≤ 1000000000000000) (hln : L.length ≤ 1000000000000000) (ht : Tab w) (hm : 9000 < muchN Ls ∨ 9000 < min L.length 10000 ∨ (200 < L.length ∧ 9000 < min L.length 10000 + min L.length 10000 + min L.length 10000)) :
    Calls Tryd.prog 6 #[v, s] w fun e w' => e = .returned (.bool true) ∧ w.grownBy w' none := by
  have HK : Hid (∀ w', w.grownBy w' none → Calls Tryd.prog 10 #[] w' fun e w2 => e = .returned (.bool true) ∧ w'.grownBy w2 none) := fun w' hg => known_any w' (ht.kept hg)
  have HM1 := much_any w s Ls hs (by omega) hl2
  have HM2 : Hid (∀ w1, w.grownBy w1 none → Calls Tryd.prog 9 #[.slice (some ⟨w1.heap.size, 0, none⟩) 1 1] (w1.alloc (.cells #[v] 22)) fun e w' => e = .returned (.bool (decide (9000 < min L.length 10000))) ∧ w' = w1.alloc (.cells #[v] 22)) := fun w1 hg => by
    have := much_any _ _ [L] (intsL1 (h.kept hg)) (by simp) (by simpa using hln)
    rw [show muchN [L] = min L.length 10000 by simp [muchN]] at this
    exact this
  have HM3 : Hid (∀ w1, w.grownBy w1 none → Calls Tryd.prog 9 #[.slice (some ⟨w1.heap.size, 0, none⟩) 3 3] (w1.alloc (.cells #[v, v, v] 22)) fun e w' => e = .returned (.bool (decide (9000 < min L.length 10000 + min L.length 10000 + min L.length 10000))) ∧ w' = w1.alloc (.cells #[v, v, v] 22)) := fun w1 hg => by
    have := much_any _ _ [L, L, L] (intsL3 (h.kept hg) (h.kept hg) (h.kept hg)) (by simp) (by simpa using hln)
    rw [show muchN [L, L, L] = min L.length 10000 + min L.length 10000 + min L.length 10000 by simp [muchN]; omega] at this
    exact this
  obtain ⟨va, vc, rfl, _⟩ := h.reads
  obtain ⟨sa, sc, rfl, _⟩ := hs.reads
  have hkI : (Ls.length : Int) ≤ 70 := by omega
  have hnI : (L.length : Int) ≤ 1000000000000000 := by omega
  clear h hl hl2 hs ht
  generalize Ls.length = k at *
  generalize L.length = n at *
  obtain ⟨b1, hb1⟩ : ∃ b1, decide (9000 < muchN Ls) = b1 := ⟨_, rfl⟩
  rw [hb1] at HM1
  cases b1 with
  | true =>
    go_enter Tryd.func6, Tryd.ntmps6
    go_wp2_with fail
    refine HM1.mono ?_
    rintro e w1 ⟨rfl, hw⟩
    obtain rfl := hw.symm
    clear hw
    go_wp2_with fail
    refine (HK.out w (grow0 w)).mono ?_
    rintro e w2 ⟨rfl, g2⟩
    have G2 : Hid (w.grownBy w2 none) := g2
    clear g2
    go_wp2_with fail
    go_ret
    exact ⟨rfl, G2.out⟩
  | false =>
    by_cases h2 : 9000 < min n 10000
    · rw [decide_eq_true h2] at HM2
      clear hm
      go_enter Tryd.func6, Tryd.ntmps6
      go_wp2_with fail
      refine HM1.mono ?_
      rintro e w1 ⟨rfl, hw⟩
      obtain rfl := hw.symm
      clear hw
      go_wp2_with fail
      refine (HM2.out w (grow0 w)).mono ?_
      rintro e w1 ⟨rfl, rfl⟩
      go_wp2_with fail
      refine (HK.out _ (grow1 _ _)).mono ?_
      rintro e w2 ⟨rfl, g2⟩
      have G2 : Hid (w.grownBy w2 none) := grownBy_trans (grow1 _ _) g2
      clear g2
      go_wp2_with fail
      go_ret
      exact ⟨rfl, G2.out⟩
    · have h3 : 200 < n ∧ 9000 < min n 10000 + min n 10000 + min n 10000 := by
        rcases hm with h | h | h
        · exact absurd h (of_decide_eq_false hb1)
        · exact absurd h h2
        · exact h
      rw [decide_eq_false h2] at HM2
      rw [decide_eq_true h3.2] at HM3
      have h3I : (200 : Int) < n := by omega
      clear hm
      go_enter Tryd.func6, Tryd.ntmps6
      go_wp2_with fail
      refine HM1.mono ?_
      rintro e w1 ⟨rfl, hw⟩
      obtain rfl := hw.symm
      clear hw
      go_wp2_with fail
      refine (HM2.out w (grow0 w)).mono ?_
      rintro e w1 ⟨rfl, rfl⟩
      have G1 : Hid (w.grownBy (w.alloc (.cells #[.slice va n vc] 22)) none) := grow1 _ _
      generalize w.alloc (.cells #[.slice va n vc] 22) = w1 at *
      go_wp2_with fail
      refine (HM3.out w1 G1.out).mono ?_
      rintro e w2 ⟨rfl, rfl⟩
      have G2 : Hid (w.grownBy (w1.alloc (.cells #[.slice va n vc, .slice va n vc, .slice va n vc] 22)) none) := grownBy_trans G1.out (grow1 _ _)
      generalize w1.alloc (.cells #[.slice va n vc, .slice va n vc, .slice va n vc] 22) = w2 at *
      go_wp2_with fail
      refine (HK.out w2 G2.out).mono ?_
      rintro e w3 ⟨rfl, g3⟩
      have G3 : Hid (w.grownBy w3 none) := grownBy_trans G2.out g3
      clear g3
      go_wp2_with fail
      go_ret
      exact ⟨rfl, G3.out⟩
end Go.Proofs.YthldipnfaiobaaaDoor
