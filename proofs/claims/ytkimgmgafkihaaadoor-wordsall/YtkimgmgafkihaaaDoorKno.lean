/-
  The law's known: some of the chapter's rows.
-/
import Derived.Test.YtkimgmgafkihaaaDoorTxt
namespace Go.Proofs.YtkimgmgafkihaaaDoor
open Go.RowKit Go.Lib Go.Sort
set_option linter.unusedVariables false
set_option linter.unusedSimpArgs false
set_option maxHeartbeats 3200000
set_option maxRecDepth 1000000
theorem ints_lit (w : World) (L : List Int) : Ints (w.alloc (.cells (L.map enc8).toArray 3)) (.slice (some ⟨w.heap.size, 0, none⟩) L.length L.length) L := by
  refine .inr (.inl ⟨w.heap.size, 0, L.length, rfl, Nat.le_refl _, fun j hj => ?_⟩)
  rw [Nat.zero_add]
  refine cell_new ?_
  rw [List.getElem?_toArray, List.getElem?_map, List.getElem?_eq_getElem hj]
  rfl
theorem same_lit {w w1 : World} {u : Value} {L : List Int} (h : Ints w u L) (hg : w.grownBy w1 none) (hl : L.length ≤ 100000) :
    Calls Tryd.prog 9 #[u, .slice (some ⟨w1.heap.size, 0, none⟩) L.length L.length] (w1.alloc (.cells (L.map enc8).toArray 3)) fun e w' => e = .returned (.bool true) ∧ w.grownBy w' none := by
  refine (rSame_any _ u _ L L (h.kept (grownBy_trans hg (grow1 _ _))) (ints_lit w1 L) (by omega) (by omega)).mono ?_
  rintro e w' ⟨rfl, hg2⟩
  exact ⟨by simp, grownBy_trans hg (grownBy_trans (grow1 _ _) hg2)⟩
theorem all_ok (w : World) (l m : Nat) (h1 : 1 ≤ l) (h2 : l ≤ 64) (h3 : m ≤ 4096) :
    Calls Tryd.prog 7 #[.int .i64 (l : Int), .int .i64 (m : Int)] w fun e w' => e = .returned (.tuple #[.func (.func 12) #[] #[.pointer (some ⟨w.heap.size + 1, 0, none⟩), .pointer (some ⟨w.heap.size, 0, none⟩)], .int .i64 0]) ∧ w' = (w.alloc (.cells #[.int .i64 (l : Int)] 3)).alloc (.cells #[.int .i64 (m : Int)] 3) := by
  have a1 : (1 : Int) ≤ l := by omega
  have a2 : (l : Int) ≤ 64 := by omega
  have a3 : (m : Int) ≤ 4096 := by omega
  go_enter Tryd.func7, Tryd.ntmps7
  go_wp2
  go_ret2
  exact ⟨rfl, rfl⟩
theorem k_short (w : World) : Calls Tryd.prog 15 #[.slice (some ⟨w.heap.size, 0, none⟩) 5 5] (w.alloc (.cells #[.int .i64 1, .int .i64 2, .int .i64 (-2), .int .i64 (-1), .int .i64 3] 3)) fun e w' => ∃ v, e = .returned (.tuple #[v, .int .i64 0]) ∧ Ints w' v [3] ∧ w.grownBy w' none := by
  refine (short_top _ _ [1, 2, -2, -1, 3] (ints_lit w [1, 2, -2, -1, 3]) (by decide)).mono ?_
  rintro e w' ⟨hg, v, rfl, hf⟩
  exact ⟨v, rfl, hf.ints, grownBy_trans (grow1 _ _) hg⟩
theorem cut_1 : Cut (sh [1, 2, -1]) 1 := by
  refine ⟨fun k hk => ?_, ?_⟩
  · obtain rfl : k = 0 := by omega
    decide
  · decide
theorem k_pow (w : World) : Calls Tryd.prog 16 #[.slice (some ⟨w.heap.size, 0, none⟩) 3 3, .int .i64 3] (w.alloc (.cells #[.int .i64 1, .int .i64 2, .int .i64 (-1)] 3)) fun e w' => ∃ v, e = .returned (.tuple #[v, .int .i64 0]) ∧ Ints w' v [1, 2, 2, 2, -1] ∧ w.grownBy w' none := by
  refine (pow_top _ _ [1, 2, -1] 3 (ints_lit w [1, 2, -1]) (by decide)).mono ?_
  rintro e w' ⟨hg, v, e2, rfl, h⟩
  rcases h with ⟨h, _⟩ | ⟨m, _, hc, he, hf⟩
  · exact absurd (show chk [[1, 2, -1]] = 0 by decide) h
  · obtain rfl := hc.uniq cut_1
    obtain rfl : e2 = 0 := he.trans (by decide)
    exact ⟨v, rfl, hf.ints, grownBy_trans (grow1 _ _) hg⟩
theorem cut_2 : Cut (sh [-1, 2, 3, 1]) 1 := by
  refine ⟨fun k hk => ?_, ?_⟩
  · obtain rfl : k = 0 := by omega
    decide
  · decide
theorem k_core (w : World) : Calls Tryd.prog 17 #[.slice (some ⟨w.heap.size, 0, none⟩) 4 4] (w.alloc (.cells #[.int .i64 (-1), .int .i64 2, .int .i64 3, .int .i64 1] 3)) fun e w' => ∃ u v, e = .returned (.tuple #[u, v, .int .i64 0]) ∧ Ints w' u [2, 3] ∧ Ints w' v [1] ∧ w.grownBy w' none := by
  refine (core_top _ _ [-1, 2, 3, 1] (ints_lit w [-1, 2, 3, 1]) (by decide)).mono ?_
  rintro e w' ⟨hg, u, v, rfl, h⟩
  rcases h with ⟨h, _⟩ | ⟨m, _, hc, hu, hv⟩
  · exact absurd (show chk [[-1, 2, 3, 1]] = 0 by decide) h
  · obtain rfl := hc.uniq cut_2
    exact ⟨u, v, rfl, hu.ints, hv.ints, grownBy_trans (grow1 _ _) hg⟩
theorem cut_3 : Cut (sh [-1, 2, 2, 1]) 1 := by
  refine ⟨fun k hk => ?_, ?_⟩
  · obtain rfl : k = 0 := by omega
    decide
  · decide
theorem rt_1 : Rt [2, 2] 1 := ⟨by omega, by simp, fun j hj => by
  obtain rfl : j = 0 := by simp at hj; omega
  decide, fun q hq _ _ => hq⟩
theorem k_root (w : World) : Calls Tryd.prog 18 #[.slice (some ⟨w.heap.size, 0, none⟩) 4 4] (w.alloc (.cells #[.int .i64 (-1), .int .i64 2, .int .i64 2, .int .i64 1] 3)) fun e w' => ∃ u, e = .returned (.tuple #[u, .int .i64 2, .int .i64 0]) ∧ Ints w' u [-1, 2, 1] ∧ w.grownBy w' none := by
  refine (root_top _ _ [-1, 2, 2, 1] (ints_lit w [-1, 2, 2, 1]) (by decide)).mono ?_
  rintro e w' ⟨hg, u, n, e2, rfl, h⟩
  rcases h with ⟨h, _⟩ | ⟨m, _, hc, he, _⟩ | ⟨m, p, _, hc, _, hr, hn, rfl, hu⟩
  · exact absurd (show chk [[-1, 2, 2, 1]] = 0 by decide) h
  · obtain rfl := hc.uniq cut_3
    exact absurd he (by decide)
  · obtain rfl := hc.uniq cut_3
    have e1 : coreOf (sh [-1, 2, 2, 1]) 1 = [2, 2] := by decide
    rw [e1] at hr hn hu
    obtain rfl := hr.uniq rt_1
    subst hn
    exact ⟨u, rfl, hu.ints, grownBy_trans (grow1 _ _) hg⟩
theorem tx_1 : txB [1, -12] = ⟨#[49, 32, 45, 49, 50]⟩ := by kernel_rfl
theorem k_text (w : World) (ht : Tab w) : Calls Tryd.prog 19 #[.slice (some ⟨w.heap.size, 0, none⟩) 2 2] (w.alloc (.cells #[.int .i64 1, .int .i64 (-12)] 3)) fun e w' => e = .returned (.tuple #[.string ⟨#[49, 32, 45, 49, 50]⟩, .int .i64 0]) ∧ w.grownBy w' none := by
  refine (text_top _ _ [1, -12] (ints_lit w [1, -12]) (by decide) (ht.kept (grow1 _ _))).mono ?_
  rintro e w' ⟨hg, rfl⟩
  refine ⟨?_, grownBy_trans (grow1 _ _) hg⟩
  rw [show chk [[1, -12]] = 0 by decide, if_pos rfl, tx_1]
theorem k_all (w : World) : Calls Tryd.prog 7 #[.int .i64 1, .int .i64 2] w fun e w' => ∃ a b, e = .returned (.tuple #[.func (.func 12) #[] #[a, b], .int .i64 0]) ∧ w.grownBy w' none := by
  refine (all_ok w 1 2 (by omega) (by omega) (by omega)).mono ?_
  rintro e w' ⟨rfl, rfl⟩
  exact ⟨_, _, rfl, grow2 _ _ _⟩
theorem known_any (w : World) (ht : Tab w) : Calls Tryd.prog 8 #[] w fun e w' => e = .returned (.bool true) ∧ w.grownBy w' none := by
  have HT : Hid (Tab w) := ht
  clear ht
  go_enter Tryd.func8, Tryd.ntmps8
  go_wp2_with fail
  refine (k_short w).mono ?_
  rintro e w1 ⟨a, rfl, ha, g1⟩
  have HA : Hid (Ints w1 a [3]) := ha
  have G1 : Hid (w.grownBy w1 none) := g1
  clear ha g1
  go_wp2_with fail
  refine (k_pow w1).mono ?_
  rintro e w2 ⟨b, rfl, hb, g2⟩
  have HB : Hid (Ints w2 b [1, 2, 2, 2, -1]) := hb
  have G2 : Hid (w1.grownBy w2 none) := g2
  clear hb g2
  go_wp2_with fail
  refine (k_core w2).mono ?_
  rintro e w3 ⟨c, d, rfl, hc, hd, g3⟩
  have HC : Hid (Ints w3 c [2, 3]) := hc
  have HD : Hid (Ints w3 d [1]) := hd
  have G3 : Hid (w2.grownBy w3 none) := g3
  clear hc hd g3
  go_wp2_with fail
  refine (k_root w3).mono ?_
  rintro e w4 ⟨x, rfl, hx, g4⟩
  have HX : Hid (Ints w4 x [-1, 2, 1]) := hx
  have G4 : Hid (w3.grownBy w4 none) := g4
  clear hx g4
  have HT4 : Hid (Tab w4) := ((((HT.out.kept G1.out).kept G2.out).kept G3.out).kept G4.out)
  go_wp2_with fail
  refine (k_text w4 HT4.out).mono ?_
  rintro e w5 ⟨rfl, g5⟩
  have G5 : Hid (w4.grownBy w5 none) := g5
  clear g5
  go_wp2_with fail
  refine (k_all w5).mono ?_
  rintro e w6 ⟨p1, p2, rfl, g6⟩
  have G6 : Hid (w5.grownBy w6 none) := g6
  clear g6
  have HA6 : Hid (Ints w6 a [3]) := HA.out.kept (grownBy_trans G2.out (grownBy_trans G3.out (grownBy_trans G4.out (grownBy_trans G5.out G6.out))))
  have HB6 : Hid (Ints w6 b [1, 2, 2, 2, -1]) := HB.out.kept (grownBy_trans G3.out (grownBy_trans G4.out (grownBy_trans G5.out G6.out)))
  have HC6 : Hid (Ints w6 c [2, 3]) := HC.out.kept (grownBy_trans G4.out (grownBy_trans G5.out G6.out))
  have HD6 : Hid (Ints w6 d [1]) := HD.out.kept (grownBy_trans G4.out (grownBy_trans G5.out G6.out))
  have HX6 : Hid (Ints w6 x [-1, 2, 1]) := HX.out.kept (grownBy_trans G5.out G6.out)
  have G06 : Hid (w.grownBy w6 none) := grownBy_trans G1.out (grownBy_trans G2.out (grownBy_trans G3.out (grownBy_trans G4.out (grownBy_trans G5.out G6.out))))
  clear HA HB HC HD HX G1 G2 G3 G4 G5 G6 HT HT4
  have S0 : Hid (w6.grownBy w6 none) := grow0 w6
  have hq : ∀ w, (binOp .neq 30 (.func (.func 12) #[] #[p1, p2]) .nilFunc).run Tryd.prog w = .ok (.bool true) w := fun w => by kernel_rfl
  go_wp2_with fail
  refine (same_lit HA6.out S0.out (by decide)).mono ?_
  rintro e s1 ⟨rfl, hs⟩
  have S1 : Hid (w6.grownBy s1 none) := hs
  clear hs
  go_wp2_with fail
  refine (num_any 0 _).mono ?_
  rintro e nw ⟨rfl, hw⟩
  obtain rfl := hw.symm
  clear hw
  go_wp2_with fail
  refine (same_lit HB6.out S1.out (by decide)).mono ?_
  rintro e s2 ⟨rfl, hs⟩
  have S2 : Hid (w6.grownBy s2 none) := hs
  clear hs
  go_wp2_with fail
  refine (num_any 0 _).mono ?_
  rintro e nw ⟨rfl, hw⟩
  obtain rfl := hw.symm
  clear hw
  go_wp2_with fail
  refine (same_lit HC6.out S2.out (by decide)).mono ?_
  rintro e s3 ⟨rfl, hs⟩
  have S3 : Hid (w6.grownBy s3 none) := hs
  clear hs
  go_wp2_with fail
  refine (same_lit HD6.out S3.out (by decide)).mono ?_
  rintro e s4 ⟨rfl, hs⟩
  have S4 : Hid (w6.grownBy s4 none) := hs
  clear hs
  go_wp2_with fail
  refine (num_any 0 _).mono ?_
  rintro e nw ⟨rfl, hw⟩
  obtain rfl := hw.symm
  clear hw
  go_wp2_with fail
  refine (same_lit HX6.out S4.out (by decide)).mono ?_
  rintro e s5 ⟨rfl, hs⟩
  have S5 : Hid (w6.grownBy s5 none) := hs
  clear hs
  go_wp2_with fail
  refine (num_any 0 _).mono ?_
  rintro e nw ⟨rfl, hw⟩
  obtain rfl := hw.symm
  clear hw
  go_wp2_with fail
  refine (num_any 0 _).mono ?_
  rintro e nw ⟨rfl, hw⟩
  obtain rfl := hw.symm
  clear hw
  go_wp2_with fail
  refine (num_any 0 _).mono ?_
  rintro e nw ⟨rfl, hw⟩
  obtain rfl := hw.symm
  clear hw
  go_wp2_with fail
  go_ret
  exact ⟨rfl, grownBy_trans G06.out S5.out⟩
end Go.Proofs.YtkimgmgafkihaaaDoor
