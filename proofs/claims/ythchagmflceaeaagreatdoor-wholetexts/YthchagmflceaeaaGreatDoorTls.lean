/-
  The walk over WholeTells.
-/
import Derived.Test.YthchagmflceaeaaGreatDoorWks
namespace Go.Proofs.YthchagmflceaeaaGreatDoor
open Go.RowKit Go.Lib Go.Sort

theorem dw_one (w : World) (a : Bool) (x : ByteArray) : DW (w.alloc (.cells #[.bool a, .string x] 23)) (.slice (some ⟨w.heap.size, 0, none⟩) 1 1) [(a, x)] := by
  refine ⟨w.heap.size, 0, 1, rfl, by simp, fun j p hj => ?_⟩
  match j, hj with
  | 0, hj => simp at hj; subst hj; simp
  | j + 1, hj => simp at hj

set_option maxHeartbeats 3200000 in
set_option maxRecDepth 1000000 in
theorem tells_bad (neg : Bool) (mag : ByteArray) (hm : mag.size ≤ maxLen) (hb : may neg mag = false) (i n : Int) (h0 : -9223372036854775808 ≤ n) (h1 : n ≤ 9223372036854775807) (w : World) (htab : Lib.TabIs Tryz.prog w "internal/strconv.uint64pow10" .u64 Lib.pow10Tab) :
    Calls Tryz.prog 3 #[whole neg mag, .int .i64 i, .int .i64 n] w fun e w' => e = .returned (.bool true) ∧ w.grownBy w' none := by
  obtain ⟨gp, hgp⟩ := pow10_g
  have HT : Hid (∀ w', w.grownBy w' none → Lib.TabIs Tryz.prog w' "internal/strconv.uint64pow10" .u64 Lib.pow10Tab) := fun w' hg => tab_kept hgp htab hg
  clear htab hgp
  go_enter Tryz.func3, Tryz.ntmps3
  go_wp2_with fail
  refine (neg_no neg mag hm hb _).mono ?_
  rintro e w1 ⟨rfl, g1⟩
  have b1 : WBlk w1 w.heap.size (.bool neg) (.string mag) := WBlk.kept (heap_alloc_new _ _) g1 (by simp)
  have G1 := grownBy_trans (grow1 _ _) g1
  have c0 := (b1.kept (grow1 w1 (wObj false eS)) (by simp)).c0
  have c1 := (b1.kept (grow1 w1 (wObj false eS)) (by simp)).c1
  clear g1
  go_wp2_with fail
  refine (abs_no neg mag hm hb _).mono ?_
  rintro e w2 ⟨rfl, g2⟩
  have k2 : WBlk w2 w1.heap.size (.bool false) (.string eS) := WBlk.kept (heap_alloc_new _ _) g2 (by simp)
  have b2 := b1.kept (grownBy_trans (grow1 _ _) g2) (by simp)
  have G2 := grownBy_trans G1 (grownBy_trans (grow1 _ _) g2)
  clear g2 G1 b1 c0 c1
  have c0 := (b2.kept (grow1 w2 (wObj false eS)) (by simp)).c0
  have c1 := (b2.kept (grow1 w2 (wObj false eS)) (by simp)).c1
  go_wp2_with fail
  refine (small_no neg mag hm hb _).mono ?_
  rintro e w3 ⟨rfl, g3⟩
  have j3 : WBlk w3 w2.heap.size (.bool false) (.string eS) := WBlk.kept (heap_alloc_new _ _) g3 (by simp)
  have k3 := k2.kept (grownBy_trans (grow1 _ _) g3) (by simp)
  have b3 := b2.kept (grownBy_trans (grow1 _ _) g3) (by simp)
  have G3 := grownBy_trans G2 (grownBy_trans (grow1 _ _) g3)
  clear g3 G2 b2 k2 c0 c1
  have c0 := b3.c0
  have c1 := b3.c1
  go_wp2_with fail
  refine (bit_no neg mag hm hb i _).mono ?_
  rintro e w4 ⟨rfl, g4⟩
  have j4 := j3.kept g4 (by simp)
  have k4 := k3.kept g4 (by simp)
  have b4 := b3.kept g4 (by simp)
  have G4 := grownBy_trans G3 g4
  clear g4 G3 b3 k3 j3 c0 c1
  go_wp2_with fail
  refine (of_any n h0 h1 _).mono ?_
  rintro e w5 ⟨s, rfl, hs, g5⟩
  go_wp2_with fail
  refine (rOf_any n h0 h1 _).mono ?_
  rintro e w6 ⟨s', rfl, hs', g6⟩
  obtain rfl : s = s' := bN_inj (hs.trans hs'.symm)
  have j6 := j4.kept (grownBy_trans g5 g6) (by simp)
  have k6 := k4.kept (grownBy_trans g5 g6) (by simp)
  have b6 := b4.kept (grownBy_trans g5 g6) (by simp)
  have G6 := grownBy_trans G4 (grownBy_trans g5 g6)
  clear g5 g6 G4 b4 k4 j4 hs hs'
  have c0 := b6.c0
  have c1 := b6.c1
  go_wp2_with fail
  refine (bad_any _ _ _ (dw_one w6 neg mag) (by simp) (by intro p hp; simp at hp; subst hp; exact hm)).mono ?_
  rintro e w7 ⟨rfl, g7⟩
  have hmb : mayAll [(neg, mag)] = false := by simp [mayAll, hb]
  rw [hmb]
  have g7 := grownBy_trans (grow1 _ _) g7
  have HKK : Hid (∀ w', w7.grownBy w' none → w'.cell? ⟨w.heap.size, 0, none⟩ = some (Value.bool neg) ∧ w'.cell? ⟨w.heap.size, 1, none⟩ = some (Value.string mag) ∧ w'.cell? ⟨w1.heap.size, 0, none⟩ = some (Value.bool false) ∧ w'.cell? ⟨w1.heap.size, 1, none⟩ = some (Value.string eS) ∧ w'.cell? ⟨w2.heap.size, 0, none⟩ = some (Value.bool false) ∧ w'.cell? ⟨w2.heap.size, 1, none⟩ = some (Value.string eS)) :=
    fun w' hg => ⟨((b6.kept g7 (by simp)).kept hg (by simp)).c0, ((b6.kept g7 (by simp)).kept hg (by simp)).c1, ((k6.kept g7 (by simp)).kept hg (by simp)).c0, ((k6.kept g7 (by simp)).kept hg (by simp)).c1, ((j6.kept g7 (by simp)).kept hg (by simp)).c0, ((j6.kept g7 (by simp)).kept hg (by simp)).c1⟩
  have HG7 : Hid (w.grownBy w7 none) := grownBy_trans G6 g7
  clear g7 G6 b6 k6 j6 c0 c1 hmb
  obtain ⟨c0, c1, c2, c3, c4, c5⟩ := HKK.out _ (World.grownBy.refl _ _)
  go_wp2_with (go_at_call 16; refine (num_any _ _).mono ?_; rintro e w' ⟨rfl, rfl⟩)
  refine (check_any neg mag hm _).mono ?_
  rw [chk_no hb]
  rintro e w' ⟨rfl, rfl⟩
  clear c0 c1 c2 c3 c4 c5
  obtain ⟨c0, c1, c2, c3, c4, c5⟩ := HKK.out _ (grow1 w7 (wObj neg mag))
  go_wp2_with (go_at_call 16; refine (num_any _ _).mono ?_; rintro e w' ⟨rfl, rfl⟩)
  refine (arg_yes _).mono ?_
  rintro e w' ⟨rfl, rfl⟩
  clear c0 c1 c2 c3 c4 c5
  obtain ⟨c0, c1, c2, c3, c4, c5⟩ := HKK.out _ (grow2 w7 (wObj neg mag) (wObj false eS))
  go_wp2_with (go_at_call 16; refine (num_any _ _).mono ?_; rintro e w' ⟨rfl, rfl⟩)
  refine (arg_yes _).mono ?_
  rintro e w' ⟨rfl, rfl⟩
  clear c0 c1 c2 c3 c4 c5
  obtain ⟨c0, c1, c2, c3, c4, c5⟩ := HKK.out _ (grow3 w7 (wObj neg mag) (wObj false eS) (wObj false eS))
  go_wp2_with (go_at_call 16; refine (num_any _ _).mono ?_; rintro e w' ⟨rfl, rfl⟩)
  refine (sign_no neg mag hm hb _).mono ?_
  rintro e w8 ⟨rfl, g8⟩
  have G8 := grownBy_trans (grow3 w7 (wObj neg mag) (wObj false eS) (wObj false eS)) g8
  clear c0 c1 c2 c3 c4 c5
  obtain ⟨c0, c1, c2, c3, c4, c5⟩ := HKK.out _ G8
  clear g8
  go_wp2_with (go_at_call 16; refine (num_any _ _).mono ?_; rintro e w' ⟨rfl, rfl⟩)
  refine (bits_no neg mag hm hb _).mono ?_
  rintro e w9 ⟨rfl, g9⟩
  have G9 := grownBy_trans HG7.out (grownBy_trans G8 g9)
  clear g9 G8 c0 c1 c2 c3 c4 c5
  go_wp2_with (go_at_call 16; refine (num_any _ _).mono ?_; rintro e w' ⟨rfl, rfl⟩)
  refine (works_any _ (HT.out _ G9)).mono ?_
  rintro e wA ⟨rfl, gA⟩
  have HGA : Hid (w.grownBy wA none) := grownBy_trans G9 gA
  clear gA G9
  go_wp2_with fail
  go_ret
  exact ⟨rfl, HGA.out⟩
end Go.Proofs.YthchagmflceaeaaGreatDoor
