/-
  The walk over WholeEdges.
-/
import Derived.Test.YtmgbkcfocbbofabGreatDoorEdw
import Derived.Test.YtmgbkcfocbbofabGreatDoorWks
namespace Go.Proofs.YtmgbkcfocbbofabGreatDoor
open Go.RowKit Go.Lib Go.Sort

theorem bN_append (a b : ByteArray) : bN (a ++ b) = bN a ++ bN b := by simp [bN]
set_option maxHeartbeats 6400000 in
set_option maxRecDepth 1000000 in
theorem edges_any (w : World) (htab : Lib.TabIs Tryz.prog w "internal/strconv.uint64pow10" .u64 Lib.pow10Tab) :
    Calls Tryz.prog 5 #[] w fun e w' => e = .returned (.bool true) ∧ w.grownBy w' none := by
  obtain ⟨gp, hgp⟩ := pow10_g
  have HT : Hid (∀ w', w.grownBy w' none → Lib.TabIs Tryz.prog w' "internal/strconv.uint64pow10" .u64 Lib.pow10Tab) := fun w' hg => tab_kept hgp htab hg
  clear htab hgp
  obtain ⟨N1, hN1⟩ : ∃ N : Nat, N = 16384 := ⟨_, rfl⟩
  obtain ⟨N2, hN2⟩ : ∃ N : Nat, N = 40000 := ⟨_, rfl⟩
  obtain ⟨N3, hN3⟩ : ∃ N : Nat, N = 40001 := ⟨_, rfl⟩
  obtain ⟨N4, hN4⟩ : ∃ N : Nat, N = 39456 := ⟨_, rfl⟩
  have HN : Hid (N1 = 16384 ∧ N2 = 40000 ∧ N3 = 40001 ∧ N4 = 39456) := ⟨hN1, hN2, hN3, hN4⟩
  have HM1 : Hid (∀ w, Calls Tryz.prog 23 #[.string ⟨#[255]⟩, .int .i64 16384] w fun e w' => ∃ m, e = .returned (.string m) ∧ Rep N1 255 m ∧ w.grownBy w' none) := fun w => many_rep 255 (by decide) ⟨#[255]⟩ rfl rfl 16384 N1 (by omega) (by omega) w
  have HM2 : Hid (∀ w, Calls Tryz.prog 23 #[.string ⟨#[0]⟩, .int .i64 16384] w fun e w' => ∃ m, e = .returned (.string m) ∧ Rep N1 0 m ∧ w.grownBy w' none) := fun w => many_rep 0 (by decide) ⟨#[0]⟩ rfl rfl 16384 N1 (by omega) (by omega) w
  have HM3 : Hid (∀ w, Calls Tryz.prog 23 #[.string ⟨#[57]⟩, .int .i64 40000] w fun e w' => ∃ m, e = .returned (.string m) ∧ Rep N2 57 m ∧ w.grownBy w' none) := fun w => many_rep 57 (by decide) ⟨#[57]⟩ rfl rfl 40000 N2 (by omega) (by omega) w
  have HM4 : Hid (∀ w, Calls Tryz.prog 23 #[.string ⟨#[57]⟩, .int .i64 40001] w fun e w' => ∃ m, e = .returned (.string m) ∧ Rep N3 57 m ∧ w.grownBy w' none) := fun w => many_rep 57 (by decide) ⟨#[57]⟩ rfl rfl 40001 N3 (by omega) (by omega) w
  have HM5 : Hid (∀ w, Calls Tryz.prog 23 #[.string ⟨#[48]⟩, .int .i64 39456] w fun e w' => ∃ m, e = .returned (.string m) ∧ Rep N4 48 m ∧ w.grownBy w' none) := fun w => many_rep 48 (by decide) ⟨#[48]⟩ rfl rfl 39456 N4 (by omega) (by omega) w
  clear hN1 hN2 hN3 hN4
  go_enter Tryz.func5, Tryz.ntmps5
  go_wp2_with fail
  refine (HM1.out _).mono ?_
  rintro e w1 ⟨mt, rfl, ht, g1⟩
  have RT : Hid (Rep N1 255 mt) := ht
  have HG : Hid (w.grownBy ((w1.alloc (wObj false mt)).alloc (wObj false one1)) none) := grownBy_trans g1 (grow2 _ _ _)
  have ktop : Hid (WBlk ((w1.alloc (wObj false mt)).alloc (wObj false one1)) w1.heap.size (.bool false) (.string mt)) := at_alloc1 _ _ _
  have kone : Hid (WBlk ((w1.alloc (wObj false mt)).alloc (wObj false one1)) (w1.heap.size + 1) (.bool false) (.string one1)) := heap_alloc2_new _ _ _
  clear ht g1 HM1
  go_wp2_with fail
  refine (HM2.out _).mono ?_
  rintro e w2 ⟨ml, rfl, hl, g2⟩
  have hms : ml.size = 16384 := (rep_size hl).trans HN.out.1
  have hls : (⟨#[1]⟩ ++ ml : ByteArray).size = 16385 := by
    rw [ByteArray.size_append, hms]
    rfl
  have RL : Hid ((⟨#[1]⟩ ++ ml : ByteArray).size = 16385) := hls
  clear hls hl HM2
  replace ktop : Hid (WBlk (w2.alloc (wObj false (⟨#[1]⟩ ++ ml))) w1.heap.size (.bool false) (.string mt)) := ktop.out.kept (grownBy_trans g2 (grow1 _ _)) (by simp)
  replace kone : Hid (WBlk (w2.alloc (wObj false (⟨#[1]⟩ ++ ml))) (w1.heap.size + 1) (.bool false) (.string one1)) := kone.out.kept (grownBy_trans g2 (grow1 _ _)) (by simp)
  replace HG : Hid (w.grownBy (w2.alloc (wObj false (⟨#[1]⟩ ++ ml))) none) := grownBy_trans HG.out (grownBy_trans g2 (grow1 _ _))
  have klong : Hid (WBlk (w2.alloc (wObj false (⟨#[1]⟩ ++ ml))) w2.heap.size (.bool false) (.string (⟨#[1]⟩ ++ ml))) := heap_alloc_new _ _
  clear g2
  have ctop0 := ktop.out.c0
  have ctop1 := ktop.out.c1
  have cone0 := kone.out.c0
  have cone1 := kone.out.c1
  go_wp2_with fail
  clear ctop0 ctop1 cone0 cone1
  refine (edge_add HN.out.1 RT.out _).mono ?_
  rintro e w3 ⟨rfl, g3⟩
  replace ktop : Hid (WBlk (w3.alloc (wObj false eS)) w1.heap.size (.bool false) (.string mt)) := ktop.out.kept (grownBy_trans g3 (grow1 _ _)) (by simp)
  replace kone : Hid (WBlk (w3.alloc (wObj false eS)) (w1.heap.size + 1) (.bool false) (.string one1)) := kone.out.kept (grownBy_trans g3 (grow1 _ _)) (by simp)
  replace klong : Hid (WBlk (w3.alloc (wObj false eS)) w2.heap.size (.bool false) (.string (⟨#[1]⟩ ++ ml))) := klong.out.kept (grownBy_trans g3 (grow1 _ _)) (by simp)
  replace HG : Hid (w.grownBy (w3.alloc (wObj false eS)) none) := grownBy_trans HG.out (grownBy_trans g3 (grow1 _ _))
  have ksum : Hid (WBlk (w3.alloc (wObj false eS)) w3.heap.size (.bool false) (.string eS)) := heap_alloc_new _ _
  clear g3
  have ctop0 := ktop.out.c0
  have ctop1 := ktop.out.c1
  have cone0 := kone.out.c0
  have cone1 := kone.out.c1
  go_wp2_with fail
  clear ctop0 ctop1 cone0 cone1
  refine (edge_sub HN.out.1 RT.out _).mono ?_
  rintro e w4 ⟨rfl, g4⟩
  replace ktop : Hid (WBlk (w4.alloc (wObj false eS)) w1.heap.size (.bool false) (.string mt)) := ktop.out.kept (grownBy_trans g4 (grow1 _ _)) (by simp)
  replace kone : Hid (WBlk (w4.alloc (wObj false eS)) (w1.heap.size + 1) (.bool false) (.string one1)) := kone.out.kept (grownBy_trans g4 (grow1 _ _)) (by simp)
  replace klong : Hid (WBlk (w4.alloc (wObj false eS)) w2.heap.size (.bool false) (.string (⟨#[1]⟩ ++ ml))) := klong.out.kept (grownBy_trans g4 (grow1 _ _)) (by simp)
  replace ksum : Hid (WBlk (w4.alloc (wObj false eS)) w3.heap.size (.bool false) (.string eS)) := ksum.out.kept (grownBy_trans g4 (grow1 _ _)) (by simp)
  replace HG : Hid (w.grownBy (w4.alloc (wObj false eS)) none) := grownBy_trans HG.out (grownBy_trans g4 (grow1 _ _))
  have kless : Hid (WBlk (w4.alloc (wObj false eS)) w4.heap.size (.bool false) (.string eS)) := heap_alloc_new _ _
  clear g4
  have ctop0 := ktop.out.c0
  have ctop1 := ktop.out.c1
  go_wp2_with fail
  clear ctop0 ctop1
  refine (edge_self HN.out.1 RT.out _).mono ?_
  rintro e w5 ⟨rfl, g5⟩
  replace ktop : Hid (WBlk (w5.alloc (wObj false eS)) w1.heap.size (.bool false) (.string mt)) := ktop.out.kept (grownBy_trans g5 (grow1 _ _)) (by simp)
  replace kone : Hid (WBlk (w5.alloc (wObj false eS)) (w1.heap.size + 1) (.bool false) (.string one1)) := kone.out.kept (grownBy_trans g5 (grow1 _ _)) (by simp)
  replace klong : Hid (WBlk (w5.alloc (wObj false eS)) w2.heap.size (.bool false) (.string (⟨#[1]⟩ ++ ml))) := klong.out.kept (grownBy_trans g5 (grow1 _ _)) (by simp)
  replace ksum : Hid (WBlk (w5.alloc (wObj false eS)) w3.heap.size (.bool false) (.string eS)) := ksum.out.kept (grownBy_trans g5 (grow1 _ _)) (by simp)
  replace kless : Hid (WBlk (w5.alloc (wObj false eS)) w4.heap.size (.bool false) (.string eS)) := kless.out.kept (grownBy_trans g5 (grow1 _ _)) (by simp)
  replace HG : Hid (w.grownBy (w5.alloc (wObj false eS)) none) := grownBy_trans HG.out (grownBy_trans g5 (grow1 _ _))
  have knought : Hid (WBlk (w5.alloc (wObj false eS)) w5.heap.size (.bool false) (.string eS)) := heap_alloc_new _ _
  clear g5
  have cone0 := kone.out.c0
  have cone1 := kone.out.c1
  go_wp2_with fail
  clear cone0 cone1
  refine (edge_high _).mono ?_
  rintro e w6 ⟨nh, sh, rfl, hsh, g6⟩
  replace ktop : Hid (WBlk (w6.alloc (wObj nh sh)) w1.heap.size (.bool false) (.string mt)) := ktop.out.kept (grownBy_trans g6 (grow1 _ _)) (by simp)
  replace kone : Hid (WBlk (w6.alloc (wObj nh sh)) (w1.heap.size + 1) (.bool false) (.string one1)) := kone.out.kept (grownBy_trans g6 (grow1 _ _)) (by simp)
  replace klong : Hid (WBlk (w6.alloc (wObj nh sh)) w2.heap.size (.bool false) (.string (⟨#[1]⟩ ++ ml))) := klong.out.kept (grownBy_trans g6 (grow1 _ _)) (by simp)
  replace ksum : Hid (WBlk (w6.alloc (wObj nh sh)) w3.heap.size (.bool false) (.string eS)) := ksum.out.kept (grownBy_trans g6 (grow1 _ _)) (by simp)
  replace kless : Hid (WBlk (w6.alloc (wObj nh sh)) w4.heap.size (.bool false) (.string eS)) := kless.out.kept (grownBy_trans g6 (grow1 _ _)) (by simp)
  replace knought : Hid (WBlk (w6.alloc (wObj nh sh)) w5.heap.size (.bool false) (.string eS)) := knought.out.kept (grownBy_trans g6 (grow1 _ _)) (by simp)
  replace HG : Hid (w.grownBy (w6.alloc (wObj nh sh)) none) := grownBy_trans HG.out (grownBy_trans g6 (grow1 _ _))
  have khigh : Hid (WBlk (w6.alloc (wObj nh sh)) w6.heap.size (.bool nh) (.string sh)) := heap_alloc_new _ _
  clear g6
  have RH : Hid (sh.size = 16384) := hsh
  clear hsh
  have cone0 := kone.out.c0
  have cone1 := kone.out.c1
  go_wp2_with fail
  clear cone0 cone1
  refine (edge_none _).mono ?_
  rintro e w7 ⟨rfl, g7⟩
  replace ktop : Hid (WBlk (w7.alloc (wObj false eS)) w1.heap.size (.bool false) (.string mt)) := ktop.out.kept (grownBy_trans g7 (grow1 _ _)) (by simp)
  replace kone : Hid (WBlk (w7.alloc (wObj false eS)) (w1.heap.size + 1) (.bool false) (.string one1)) := kone.out.kept (grownBy_trans g7 (grow1 _ _)) (by simp)
  replace klong : Hid (WBlk (w7.alloc (wObj false eS)) w2.heap.size (.bool false) (.string (⟨#[1]⟩ ++ ml))) := klong.out.kept (grownBy_trans g7 (grow1 _ _)) (by simp)
  replace ksum : Hid (WBlk (w7.alloc (wObj false eS)) w3.heap.size (.bool false) (.string eS)) := ksum.out.kept (grownBy_trans g7 (grow1 _ _)) (by simp)
  replace kless : Hid (WBlk (w7.alloc (wObj false eS)) w4.heap.size (.bool false) (.string eS)) := kless.out.kept (grownBy_trans g7 (grow1 _ _)) (by simp)
  replace knought : Hid (WBlk (w7.alloc (wObj false eS)) w5.heap.size (.bool false) (.string eS)) := knought.out.kept (grownBy_trans g7 (grow1 _ _)) (by simp)
  replace khigh : Hid (WBlk (w7.alloc (wObj false eS)) w6.heap.size (.bool nh) (.string sh)) := khigh.out.kept (grownBy_trans g7 (grow1 _ _)) (by simp)
  replace HG : Hid (w.grownBy (w7.alloc (wObj false eS)) none) := grownBy_trans HG.out (grownBy_trans g7 (grow1 _ _))
  have knone : Hid (WBlk (w7.alloc (wObj false eS)) w7.heap.size (.bool false) (.string eS)) := heap_alloc_new _ _
  clear g7
  go_wp2_with fail
  refine (edge_two _).mono ?_
  rintro e w8 ⟨rfl, g8⟩
  replace ktop : Hid (WBlk (w8.alloc (wObj false eS)) w1.heap.size (.bool false) (.string mt)) := ktop.out.kept (grownBy_trans g8 (grow1 _ _)) (by simp)
  replace kone : Hid (WBlk (w8.alloc (wObj false eS)) (w1.heap.size + 1) (.bool false) (.string one1)) := kone.out.kept (grownBy_trans g8 (grow1 _ _)) (by simp)
  replace klong : Hid (WBlk (w8.alloc (wObj false eS)) w2.heap.size (.bool false) (.string (⟨#[1]⟩ ++ ml))) := klong.out.kept (grownBy_trans g8 (grow1 _ _)) (by simp)
  replace ksum : Hid (WBlk (w8.alloc (wObj false eS)) w3.heap.size (.bool false) (.string eS)) := ksum.out.kept (grownBy_trans g8 (grow1 _ _)) (by simp)
  replace kless : Hid (WBlk (w8.alloc (wObj false eS)) w4.heap.size (.bool false) (.string eS)) := kless.out.kept (grownBy_trans g8 (grow1 _ _)) (by simp)
  replace knought : Hid (WBlk (w8.alloc (wObj false eS)) w5.heap.size (.bool false) (.string eS)) := knought.out.kept (grownBy_trans g8 (grow1 _ _)) (by simp)
  replace khigh : Hid (WBlk (w8.alloc (wObj false eS)) w6.heap.size (.bool nh) (.string sh)) := khigh.out.kept (grownBy_trans g8 (grow1 _ _)) (by simp)
  replace knone : Hid (WBlk (w8.alloc (wObj false eS)) w7.heap.size (.bool false) (.string eS)) := knone.out.kept (grownBy_trans g8 (grow1 _ _)) (by simp)
  replace HG : Hid (w.grownBy (w8.alloc (wObj false eS)) none) := grownBy_trans HG.out (grownBy_trans g8 (grow1 _ _))
  have ktwo : Hid (WBlk (w8.alloc (wObj false eS)) w8.heap.size (.bool false) (.string eS)) := heap_alloc_new _ _
  clear g8
  have clong0 := klong.out.c0
  have clong1 := klong.out.c1
  have cone0 := kone.out.c0
  have cone1 := kone.out.c1
  go_wp2_with fail
  clear clong0 clong1 cone0 cone1
  refine (edge_addx RL.out _).mono ?_
  rintro e w9 ⟨rfl, g9⟩
  replace ktop : Hid (WBlk (w9.alloc (wObj false eS)) w1.heap.size (.bool false) (.string mt)) := ktop.out.kept (grownBy_trans g9 (grow1 _ _)) (by simp)
  replace kone : Hid (WBlk (w9.alloc (wObj false eS)) (w1.heap.size + 1) (.bool false) (.string one1)) := kone.out.kept (grownBy_trans g9 (grow1 _ _)) (by simp)
  replace klong : Hid (WBlk (w9.alloc (wObj false eS)) w2.heap.size (.bool false) (.string (⟨#[1]⟩ ++ ml))) := klong.out.kept (grownBy_trans g9 (grow1 _ _)) (by simp)
  replace ksum : Hid (WBlk (w9.alloc (wObj false eS)) w3.heap.size (.bool false) (.string eS)) := ksum.out.kept (grownBy_trans g9 (grow1 _ _)) (by simp)
  replace kless : Hid (WBlk (w9.alloc (wObj false eS)) w4.heap.size (.bool false) (.string eS)) := kless.out.kept (grownBy_trans g9 (grow1 _ _)) (by simp)
  replace knought : Hid (WBlk (w9.alloc (wObj false eS)) w5.heap.size (.bool false) (.string eS)) := knought.out.kept (grownBy_trans g9 (grow1 _ _)) (by simp)
  replace khigh : Hid (WBlk (w9.alloc (wObj false eS)) w6.heap.size (.bool nh) (.string sh)) := khigh.out.kept (grownBy_trans g9 (grow1 _ _)) (by simp)
  replace knone : Hid (WBlk (w9.alloc (wObj false eS)) w7.heap.size (.bool false) (.string eS)) := knone.out.kept (grownBy_trans g9 (grow1 _ _)) (by simp)
  replace ktwo : Hid (WBlk (w9.alloc (wObj false eS)) w8.heap.size (.bool false) (.string eS)) := ktwo.out.kept (grownBy_trans g9 (grow1 _ _)) (by simp)
  replace HG : Hid (w.grownBy (w9.alloc (wObj false eS)) none) := grownBy_trans HG.out (grownBy_trans g9 (grow1 _ _))
  have kx : Hid (WBlk (w9.alloc (wObj false eS)) w9.heap.size (.bool false) (.string eS)) := heap_alloc_new _ _
  clear g9
  go_wp2_with fail
  refine (edge_pow _).mono ?_
  rintro e w10 ⟨rfl, g10⟩
  replace ktop : Hid (WBlk (w10.alloc (wObj false eS)) w1.heap.size (.bool false) (.string mt)) := ktop.out.kept (grownBy_trans g10 (grow1 _ _)) (by simp)
  replace kone : Hid (WBlk (w10.alloc (wObj false eS)) (w1.heap.size + 1) (.bool false) (.string one1)) := kone.out.kept (grownBy_trans g10 (grow1 _ _)) (by simp)
  replace klong : Hid (WBlk (w10.alloc (wObj false eS)) w2.heap.size (.bool false) (.string (⟨#[1]⟩ ++ ml))) := klong.out.kept (grownBy_trans g10 (grow1 _ _)) (by simp)
  replace ksum : Hid (WBlk (w10.alloc (wObj false eS)) w3.heap.size (.bool false) (.string eS)) := ksum.out.kept (grownBy_trans g10 (grow1 _ _)) (by simp)
  replace kless : Hid (WBlk (w10.alloc (wObj false eS)) w4.heap.size (.bool false) (.string eS)) := kless.out.kept (grownBy_trans g10 (grow1 _ _)) (by simp)
  replace knought : Hid (WBlk (w10.alloc (wObj false eS)) w5.heap.size (.bool false) (.string eS)) := knought.out.kept (grownBy_trans g10 (grow1 _ _)) (by simp)
  replace khigh : Hid (WBlk (w10.alloc (wObj false eS)) w6.heap.size (.bool nh) (.string sh)) := khigh.out.kept (grownBy_trans g10 (grow1 _ _)) (by simp)
  replace knone : Hid (WBlk (w10.alloc (wObj false eS)) w7.heap.size (.bool false) (.string eS)) := knone.out.kept (grownBy_trans g10 (grow1 _ _)) (by simp)
  replace ktwo : Hid (WBlk (w10.alloc (wObj false eS)) w8.heap.size (.bool false) (.string eS)) := ktwo.out.kept (grownBy_trans g10 (grow1 _ _)) (by simp)
  replace kx : Hid (WBlk (w10.alloc (wObj false eS)) w9.heap.size (.bool false) (.string eS)) := kx.out.kept (grownBy_trans g10 (grow1 _ _)) (by simp)
  replace HG : Hid (w.grownBy (w10.alloc (wObj false eS)) none) := grownBy_trans HG.out (grownBy_trans g10 (grow1 _ _))
  have ky : Hid (WBlk (w10.alloc (wObj false eS)) w10.heap.size (.bool false) (.string eS)) := heap_alloc_new _ _
  clear g10
  have ctop0 := ktop.out.c0
  have ctop1 := ktop.out.c1
  have cone0 := kone.out.c0
  have cone1 := kone.out.c1
  go_wp2_with fail
  clear ctop0 ctop1 cone0 cone1
  refine (edge_sum HN.out.1 RT.out _ _).mono ?_
  rintro e w11 ⟨rfl, g11⟩
  replace ktop : Hid (WBlk (w11.alloc (wObj false mt)) w1.heap.size (.bool false) (.string mt)) := ktop.out.kept (grownBy_trans (grow1 _ _) (grownBy_trans g11 (grow1 _ _))) (by simp)
  replace kone : Hid (WBlk (w11.alloc (wObj false mt)) (w1.heap.size + 1) (.bool false) (.string one1)) := kone.out.kept (grownBy_trans (grow1 _ _) (grownBy_trans g11 (grow1 _ _))) (by simp)
  replace klong : Hid (WBlk (w11.alloc (wObj false mt)) w2.heap.size (.bool false) (.string (⟨#[1]⟩ ++ ml))) := klong.out.kept (grownBy_trans (grow1 _ _) (grownBy_trans g11 (grow1 _ _))) (by simp)
  replace ksum : Hid (WBlk (w11.alloc (wObj false mt)) w3.heap.size (.bool false) (.string eS)) := ksum.out.kept (grownBy_trans (grow1 _ _) (grownBy_trans g11 (grow1 _ _))) (by simp)
  replace kless : Hid (WBlk (w11.alloc (wObj false mt)) w4.heap.size (.bool false) (.string eS)) := kless.out.kept (grownBy_trans (grow1 _ _) (grownBy_trans g11 (grow1 _ _))) (by simp)
  replace knought : Hid (WBlk (w11.alloc (wObj false mt)) w5.heap.size (.bool false) (.string eS)) := knought.out.kept (grownBy_trans (grow1 _ _) (grownBy_trans g11 (grow1 _ _))) (by simp)
  replace khigh : Hid (WBlk (w11.alloc (wObj false mt)) w6.heap.size (.bool nh) (.string sh)) := khigh.out.kept (grownBy_trans (grow1 _ _) (grownBy_trans g11 (grow1 _ _))) (by simp)
  replace knone : Hid (WBlk (w11.alloc (wObj false mt)) w7.heap.size (.bool false) (.string eS)) := knone.out.kept (grownBy_trans (grow1 _ _) (grownBy_trans g11 (grow1 _ _))) (by simp)
  replace ktwo : Hid (WBlk (w11.alloc (wObj false mt)) w8.heap.size (.bool false) (.string eS)) := ktwo.out.kept (grownBy_trans (grow1 _ _) (grownBy_trans g11 (grow1 _ _))) (by simp)
  replace kx : Hid (WBlk (w11.alloc (wObj false mt)) w9.heap.size (.bool false) (.string eS)) := kx.out.kept (grownBy_trans (grow1 _ _) (grownBy_trans g11 (grow1 _ _))) (by simp)
  replace ky : Hid (WBlk (w11.alloc (wObj false mt)) w10.heap.size (.bool false) (.string eS)) := ky.out.kept (grownBy_trans (grow1 _ _) (grownBy_trans g11 (grow1 _ _))) (by simp)
  replace HG : Hid (w.grownBy (w11.alloc (wObj false mt)) none) := grownBy_trans HG.out (grownBy_trans (grow1 _ _) (grownBy_trans g11 (grow1 _ _)))
  have kz : Hid (WBlk (w11.alloc (wObj false mt)) w11.heap.size (.bool false) (.string mt)) := heap_alloc_new _ _
  clear g11
  have csum0 := ksum.out.c0
  have csum1 := ksum.out.c1
  have cless0 := kless.out.c0
  have cless1 := kless.out.c1
  have cnought0 := knought.out.c0
  have cnought1 := knought.out.c1
  have chigh0 := khigh.out.c0
  have chigh1 := khigh.out.c1
  have cnone0 := knone.out.c0
  have cnone1 := knone.out.c1
  have ctwo0 := ktwo.out.c0
  have ctwo1 := ktwo.out.c1
  have cx0 := kx.out.c0
  have cx1 := kx.out.c1
  have cy0 := ky.out.c0
  have cy1 := ky.out.c1
  have cz0 := kz.out.c0
  have cz1 := kz.out.c1
  have ctop0 := ktop.out.c0
  have ctop1 := ktop.out.c1
  have clong0 := klong.out.c0
  have clong1 := klong.out.c1
  have hsh := RH.out
  have hshI : (sh.size : Int) = 16384 := by omega
  go_wp2_with (first | (go_at_call 6; refine (num_any _ _).mono ?_; rintro e w' ⟨rfl, rfl⟩) | fail)
  clear csum0 csum1 cless0 cless1 cnought0 cnought1 chigh0 chigh1 cnone0 cnone1 ctwo0 ctwo1 cx0 cx1 cy0 cy1 cz0 cz1 ctop0 ctop1 clong0 clong1
  clear hsh hshI
  clear ksum
  clear kless
  clear knought
  clear khigh
  clear knone
  clear ktwo
  clear kx
  clear ky
  clear kz
  clear kone
  refine (edge_long RL.out _).mono ?_
  rintro e w' ⟨rfl, rfl⟩
  replace ktop : Hid (WBlk ((w11.alloc (wObj false mt)).alloc (wObj false (⟨#[1]⟩ ++ ml))) w1.heap.size (.bool false) (.string mt)) := ktop.out.kept (grow1 _ _) (by simp)
  replace klong : Hid (WBlk ((w11.alloc (wObj false mt)).alloc (wObj false (⟨#[1]⟩ ++ ml))) w2.heap.size (.bool false) (.string (⟨#[1]⟩ ++ ml))) := klong.out.kept (grow1 _ _) (by simp)
  replace HG : Hid (w.grownBy ((w11.alloc (wObj false mt)).alloc (wObj false (⟨#[1]⟩ ++ ml))) none) := grownBy_trans HG.out (grow1 _ _)
  have ctop0 := ktop.out.c0
  have ctop1 := ktop.out.c1
  go_wp2_with (first | (go_at_call 6; refine (num_any _ _).mono ?_; rintro e w' ⟨rfl, rfl⟩) | fail)
  clear ctop0 ctop1
  refine (edge_top HN.out.1 RT.out _).mono ?_
  rintro e w' ⟨rfl, rfl⟩
  replace ktop : Hid (WBlk (((w11.alloc (wObj false mt)).alloc (wObj false (⟨#[1]⟩ ++ ml))).alloc (wObj false mt)) w1.heap.size (.bool false) (.string mt)) := ktop.out.kept (grow1 _ _) (by simp)
  replace klong : Hid (WBlk (((w11.alloc (wObj false mt)).alloc (wObj false (⟨#[1]⟩ ++ ml))).alloc (wObj false mt)) w2.heap.size (.bool false) (.string (⟨#[1]⟩ ++ ml))) := klong.out.kept (grow1 _ _) (by simp)
  replace HG : Hid (w.grownBy (((w11.alloc (wObj false mt)).alloc (wObj false (⟨#[1]⟩ ++ ml))).alloc (wObj false mt)) none) := grownBy_trans HG.out (grow1 _ _)
  have ctop0 := ktop.out.c0
  have ctop1 := ktop.out.c1
  go_wp2_with (first | (go_at_call 6; refine (num_any _ _).mono ?_; rintro e w' ⟨rfl, rfl⟩) | fail)
  clear ctop0 ctop1
  refine (edge_bits HN.out.1 RT.out _).mono ?_
  rintro e w12 ⟨rfl, g12⟩
  replace HG : Hid (w.grownBy w12 none) := grownBy_trans HG.out g12
  clear g12 ktop klong RT RL hms
  go_wp2_with fail
  refine (HM3.out _).mono ?_
  rintro e w13 ⟨m9, rfl, hm9, g13⟩
  go_wp2_with fail
  refine (edge_nines HN.out.2.1 hm9 _).mono ?_
  rintro e w14 ⟨rfl, g14⟩
  replace HG : Hid (w.grownBy (w14.alloc (wObj false eS)) none) := grownBy_trans HG.out (grownBy_trans (grownBy_trans g13 g14) (grow1 _ _))
  have ka : Hid (WBlk (w14.alloc (wObj false eS)) w14.heap.size (.bool false) (.string eS)) := heap_alloc_new _ _
  clear g13 g14 hm9
  go_wp2_with fail
  refine (HM4.out _).mono ?_
  rintro e w15 ⟨m8, rfl, hm8, g15⟩
  go_wp2_with fail
  refine (edge_past HN.out.2.2.1 hm8 _).mono ?_
  rintro e w16 ⟨rfl, g16⟩
  replace ka : Hid (WBlk (w16.alloc (wObj false eS)) w14.heap.size (.bool false) (.string eS)) := ka.out.kept (grownBy_trans (grownBy_trans g15 g16) (grow1 _ _)) (by simp)
  replace HG : Hid (w.grownBy (w16.alloc (wObj false eS)) none) := grownBy_trans HG.out (grownBy_trans (grownBy_trans g15 g16) (grow1 _ _))
  have kb : Hid (WBlk (w16.alloc (wObj false eS)) w16.heap.size (.bool false) (.string eS)) := heap_alloc_new _ _
  clear g15 g16 hm8
  go_wp2_with fail
  refine (HM5.out _).mono ?_
  rintro e w17 ⟨m7, rfl, hm7, g17⟩
  have hms : m7.size = 39456 := (rep_size hm7).trans HN.out.2.2.2
  go_wp2_with fail
  refine (edge_ten HN.out.2.2.2 (show bN (⟨#[49]⟩ ++ m7) = 49 :: List.replicate N4 48 by rw [bN_append, show bN m7 = _ from hm7]; rfl) _).mono ?_
  rintro e w18 ⟨nc, sc, rfl, hsc, g18⟩
  replace ka : Hid (WBlk (w18.alloc (wObj nc sc)) w14.heap.size (.bool false) (.string eS)) := ka.out.kept (grownBy_trans (grownBy_trans g17 g18) (grow1 _ _)) (by simp)
  replace kb : Hid (WBlk (w18.alloc (wObj nc sc)) w16.heap.size (.bool false) (.string eS)) := kb.out.kept (grownBy_trans (grownBy_trans g17 g18) (grow1 _ _)) (by simp)
  replace HG : Hid (w.grownBy (w18.alloc (wObj nc sc)) none) := grownBy_trans HG.out (grownBy_trans (grownBy_trans g17 g18) (grow1 _ _))
  have kc : Hid (WBlk (w18.alloc (wObj nc sc)) w18.heap.size (.bool nc) (.string sc)) := heap_alloc_new _ _
  clear g17 g18 hm7
  have ca0 := ka.out.c0
  have ca1 := ka.out.c1
  have cb0 := kb.out.c0
  have cb1 := kb.out.c1
  have cc0 := kc.out.c0
  have cc1 := kc.out.c1
  have hscI : (sc.size : Int) = 16384 := by omega
  go_wp2_with (first | (go_at_call 6; refine (num_any _ _).mono ?_; rintro e w' ⟨rfl, rfl⟩) | fail)
  refine (works_any _ (HT.out _ HG.out)).mono ?_
  rintro e w19 ⟨rfl, g19⟩
  go_wp2_with fail
  go_ret
  exact ⟨rfl, grownBy_trans HG.out g19⟩
end Go.Proofs.YtmgbkcfocbbofabGreatDoor
