/-
  FracOne.
  FracOne.
-/
import Derived.Test.YtdfliaogmlpefaaGreatDoorBunFre
import Derived.Deep.RegionWith
import Derived.Deep.RegionHeld3
namespace Go.Proofs.YtdfliaogmlpefaaGreatDoor
open Go.RowKit Go.Lib Go.Sort
set_option linter.unusedVariables false
set_option linter.unusedSimpArgs false
set_option maxHeartbeats 12800000
set_option maxRecDepth 1000000
theorem one_none0 (n d ni di na da nb db nc nd : Bool) (s t si ti sa ta sb tb sc sd : ByteArray) (x gs : Int) (w : World)
    (HL : Hid (∀ (W : World) (B : Nat), W.heap[B]? = some (.cells #[.bool n, .string s, .bool d, .string t] 25 (0, 0)) → Calls Tryz.prog 9 #[.int .i64 1100, .slice (some ⟨B, 0, none⟩) 1 1] W fun e w' => e = .returned (.bool false) ∧ W.grownBy w' none))
    (H1 : Hid (∀ w, Calls Tryz.prog 11 #[frac n s d t] w fun e w' => e = .returned (.bool true) ∧ w.grownBy w' none))
    (H2 : Hid (∀ w, Calls Tryz.prog 12 #[frac n s d t] w fun e w' => e = .returned (.tuple #[frac na sa da ta, .int .i64 0]) ∧ w.grownBy w' none))
    (H3 : Hid (∀ w, Calls Tryz.prog 13 #[frac n s d t] w fun e w' => e = .returned (.tuple #[frac nb sb db tb, .int .i64 0]) ∧ w.grownBy w' none))
    (H4 : Hid (∀ w, Calls Tryz.prog 14 #[frac n s d t] w fun e w' => e = .returned (.tuple #[whole nc sc, .int .i64 0]) ∧ w.grownBy w' none))
    (H5 : Hid (∀ w, Calls Tryz.prog 15 #[frac n s d t] w fun e w' => e = .returned (.tuple #[whole nd sd, .int .i64 0]) ∧ w.grownBy w' none))
    (H6 : Hid (∀ w, Calls Tryz.prog 16 #[frac n s d t] w fun e w' => e = .returned (.tuple #[frac false eS false eS, .int .i64 7]) ∧ w.grownBy w' none))
    (H7 : Hid (∀ w, Calls Tryz.prog 17 #[.int .i64 x, .int .i64 0] w fun e w' => e = .returned (.tuple #[frac false eS false eS, .int .i64 5]) ∧ w.grownBy w' none))
    (H9 : Hid (∀ w, Calls Tryz.prog 19 #[.int .i64 x] w fun e w' => e = .returned (frac ni si di ti) ∧ w.grownBy w' none))
    (H10 : Hid (∀ w, Calls Tryz.prog 20 #[.int .i64 x] w fun e w' => e = .returned (frac ni si di ti) ∧ w.grownBy w' none))
    (H11 : Hid (∀ w, Calls Tryz.prog 23 #[frac n s d t] w fun e w' => e = .returned (.tuple #[frac false eS false eS, .bool false]) ∧ w.grownBy w' none))
    (H12 : Hid (∀ w, Calls Tryz.prog 24 #[frac n s d t] w fun e w' => e = .returned (frac na sa da ta) ∧ w.grownBy w' none))
    (H13 : Hid (∀ w, Calls Tryz.prog 25 #[frac n s d t] w fun e w' => e = .returned (frac nb sb db tb) ∧ w.grownBy w' none))
    (H14 : Hid (∀ w, Calls Tryz.prog 26 #[frac n s d t] w fun e w' => e = .returned (whole nc sc) ∧ w.grownBy w' none))
    (H15 : Hid (∀ w, Calls Tryz.prog 27 #[frac n s d t] w fun e w' => e = .returned (whole nd sd) ∧ w.grownBy w' none))
    (H16 : Hid (∀ w, Calls Tryz.prog 21 #[frac na sa da ta, .int .i64 0, frac na sa da ta, .bool true] w fun e w' => e = .returned (.bool true) ∧ w.grownBy w' none))
    (H17 : Hid (∀ w, Calls Tryz.prog 21 #[frac nb sb db tb, .int .i64 0, frac nb sb db tb, .bool true] w fun e w' => e = .returned (.bool true) ∧ w.grownBy w' none))
    (H18 : Hid (∀ w, Calls Tryz.prog 22 #[frac n s d t] w fun e w' => e = .returned (.int .i64 gs) ∧ w.grownBy w' none))
    (H19 : Hid (∀ w, Calls Tryz.prog 28 #[frac n s d t] w fun e w' => e = .returned (.int .i64 gs) ∧ w.grownBy w' none))
    (HK : Hid (∀ W, w.grownBy W none → Calls Tryz.prog 10 #[] W fun e w' => e = .returned (.bool true) ∧ W.grownBy w' none)) :
    Calls Tryz.prog 3 #[frac n s d t, .int .i64 x, .int .i64 0] w fun e w' => e = .returned (.bool true) ∧ w.grownBy w' none := by
  go_enter Tryz.func3, Tryz.ntmps3
  go_wp2_with fail
  refine (HL.out _ _ ?hb).mono ?_
  case hb => exact heap_alloc2_new _ _ _
  rintro e w1 ⟨rfl, g⟩
  have Xb1 : Hid (QBlk w1 w.heap.size (.bool n) (.string s) (.bool d) (.string t)) := QBlk.kept (at_alloc1 _ _ _) g (by simp)
  have HG1 : Hid (w.grownBy w1 none) := grownBy_trans (grow2 _ _ _) g
  clear g HL
  have xc0 := Xb1.out.c0
  have xc1 := Xb1.out.c1
  have xc2 := Xb1.out.c2
  have xc3 := Xb1.out.c3
  have xl := Xb1.out.lt
  go_wp2_with fail
  refine (H1.out _).mono ?_
  rintro e w2 ⟨rfl, g⟩
  have Xb2 : Hid (QBlk w2 w.heap.size (.bool n) (.string s) (.bool d) (.string t)) := Xb1.out.kept g (by simp)
  have HG2 : Hid (w.grownBy w2 none) := grownBy_trans HG1.out g
  clear g HG1 Xb1 xc0 xc1 xc2 xc3 xl
  have xc0 := Xb2.out.c0
  have xc1 := Xb2.out.c1
  have xc2 := Xb2.out.c2
  have xc3 := Xb2.out.c3
  have xl := Xb2.out.lt
  go_wp2_with fail
  refine (H2.out _).mono ?_
  rintro e w3 ⟨rfl, g⟩
  have Xb3 : Hid (QBlk w3 w.heap.size (.bool n) (.string s) (.bool d) (.string t)) := Xb2.out.kept g (by simp)
  have HG3 : Hid (w.grownBy w3 none) := grownBy_trans HG2.out g
  clear g HG2 Xb2 xc0 xc1 xc2 xc3 xl
  have xc0 := Xb3.out.c0
  have xc1 := Xb3.out.c1
  have xc2 := Xb3.out.c2
  have xc3 := Xb3.out.c3
  have xl := Xb3.out.lt
  go_wp2_with fail
  refine (H3.out _).mono ?_
  rintro e w4 ⟨rfl, g⟩
  have Xb4 : Hid (QBlk w4 w.heap.size (.bool n) (.string s) (.bool d) (.string t)) := Xb3.out.kept (grownBy_trans (grow1 _ _) g) (by simp)
  have Ab4 : Hid (QBlk w4 w3.heap.size (.bool na) (.string sa) (.bool da) (.string ta)) := QBlk.kept (heap_alloc_new _ _) g (by simp)
  have HG4 : Hid (w.grownBy w4 none) := grownBy_trans HG3.out (grownBy_trans (grow1 _ _) g)
  clear g HG3 Xb3 xc0 xc1 xc2 xc3 xl
  have xc0 := Xb4.out.c0
  have xc1 := Xb4.out.c1
  have xc2 := Xb4.out.c2
  have xc3 := Xb4.out.c3
  have xl := Xb4.out.lt
  go_wp2_with fail
  refine (H4.out _).mono ?_
  rintro e w5 ⟨rfl, g⟩
  have Xb5 : Hid (QBlk w5 w.heap.size (.bool n) (.string s) (.bool d) (.string t)) := Xb4.out.kept (grownBy_trans (grow1 _ _) g) (by simp)
  have Ab5 : Hid (QBlk w5 w3.heap.size (.bool na) (.string sa) (.bool da) (.string ta)) := Ab4.out.kept (grownBy_trans (grow1 _ _) g) (by simp)
  have Bb5 : Hid (QBlk w5 w4.heap.size (.bool nb) (.string sb) (.bool db) (.string tb)) := QBlk.kept (heap_alloc_new _ _) g (by simp)
  have HG5 : Hid (w.grownBy w5 none) := grownBy_trans HG4.out (grownBy_trans (grow1 _ _) g)
  clear g HG4 Xb4 Ab4 xc0 xc1 xc2 xc3 xl
  have xc0 := Xb5.out.c0
  have xc1 := Xb5.out.c1
  have xc2 := Xb5.out.c2
  have xc3 := Xb5.out.c3
  have xl := Xb5.out.lt
  go_wp2_with fail
  refine (H5.out _).mono ?_
  rintro e w6 ⟨rfl, g⟩
  have Xb6 : Hid (QBlk w6 w.heap.size (.bool n) (.string s) (.bool d) (.string t)) := Xb5.out.kept (grownBy_trans (grow1 _ _) g) (by simp)
  have Ab6 : Hid (QBlk w6 w3.heap.size (.bool na) (.string sa) (.bool da) (.string ta)) := Ab5.out.kept (grownBy_trans (grow1 _ _) g) (by simp)
  have Bb6 : Hid (QBlk w6 w4.heap.size (.bool nb) (.string sb) (.bool db) (.string tb)) := Bb5.out.kept (grownBy_trans (grow1 _ _) g) (by simp)
  have Cb6 : Hid (WBlk w6 w5.heap.size (.bool nc) (.string sc)) := WBlk.kept (heap_alloc_new _ _) g (by simp)
  have HG6 : Hid (w.grownBy w6 none) := grownBy_trans HG5.out (grownBy_trans (grow1 _ _) g)
  clear g HG5 Xb5 Ab5 Bb5 xc0 xc1 xc2 xc3 xl
  have xc0 := Xb6.out.c0
  have xc1 := Xb6.out.c1
  have xc2 := Xb6.out.c2
  have xc3 := Xb6.out.c3
  have xl := Xb6.out.lt
  go_wp2_with fail
  refine (H6.out _).mono ?_
  rintro e w7 ⟨rfl, g⟩
  have Xb7 : Hid (QBlk w7 w.heap.size (.bool n) (.string s) (.bool d) (.string t)) := Xb6.out.kept (grownBy_trans (grow1 _ _) g) (by simp)
  have Ab7 : Hid (QBlk w7 w3.heap.size (.bool na) (.string sa) (.bool da) (.string ta)) := Ab6.out.kept (grownBy_trans (grow1 _ _) g) (by simp)
  have Bb7 : Hid (QBlk w7 w4.heap.size (.bool nb) (.string sb) (.bool db) (.string tb)) := Bb6.out.kept (grownBy_trans (grow1 _ _) g) (by simp)
  have Cb7 : Hid (WBlk w7 w5.heap.size (.bool nc) (.string sc)) := Cb6.out.kept (grownBy_trans (grow1 _ _) g) (by simp)
  have Db7 : Hid (WBlk w7 w6.heap.size (.bool nd) (.string sd)) := WBlk.kept (heap_alloc_new _ _) g (by simp)
  have HG7 : Hid (w.grownBy w7 none) := grownBy_trans HG6.out (grownBy_trans (grow1 _ _) g)
  clear g HG6 Xb6 Ab6 Bb6 Cb6 xc0 xc1 xc2 xc3 xl
  go_wp2_with fail
  refine (H7.out _).mono ?_
  rintro e w8 ⟨rfl, g⟩
  have Xb8 : Hid (QBlk w8 w.heap.size (.bool n) (.string s) (.bool d) (.string t)) := Xb7.out.kept (grownBy_trans (grow1 _ _) g) (by simp)
  have Ab8 : Hid (QBlk w8 w3.heap.size (.bool na) (.string sa) (.bool da) (.string ta)) := Ab7.out.kept (grownBy_trans (grow1 _ _) g) (by simp)
  have Bb8 : Hid (QBlk w8 w4.heap.size (.bool nb) (.string sb) (.bool db) (.string tb)) := Bb7.out.kept (grownBy_trans (grow1 _ _) g) (by simp)
  have Cb8 : Hid (WBlk w8 w5.heap.size (.bool nc) (.string sc)) := Cb7.out.kept (grownBy_trans (grow1 _ _) g) (by simp)
  have Db8 : Hid (WBlk w8 w6.heap.size (.bool nd) (.string sd)) := Db7.out.kept (grownBy_trans (grow1 _ _) g) (by simp)
  have Rb8 : Hid (QBlk w8 w7.heap.size (.bool false) (.string eS) (.bool false) (.string eS)) := QBlk.kept (heap_alloc_new _ _) g (by simp)
  have HG8 : Hid (w.grownBy w8 none) := grownBy_trans HG7.out (grownBy_trans (grow1 _ _) g)
  clear g HG7 Xb7 Ab7 Bb7 Cb7 Db7
  have HT : Hid (∀ w', (w8.alloc (qObj false eS false eS)).grownBy w' none → w'.cell? ⟨w8.heap.size, 0, none⟩ = some (.bool false) ∧ w'.cell? ⟨w8.heap.size, 1, none⟩ = some (.string eS) ∧ w'.cell? ⟨w8.heap.size, 2, none⟩ = some (.bool false) ∧ w'.cell? ⟨w8.heap.size, 3, none⟩ = some (.string eS)) := fun w' g => by
    have h : QBlk w' w8.heap.size (.bool false) (.string eS) (.bool false) (.string eS) := QBlk.kept (heap_alloc_new _ _) g (by simp)
    exact ⟨h.c0, h.c1, h.c2, h.c3⟩
  go_wp2_with fail
  refine wp_region_held_drew (S := fun w' => w'.cell? ⟨w8.heap.size, 0, none⟩ = some (.bool false) ∧ w'.cell? ⟨w8.heap.size, 1, none⟩ = some (.string eS) ∧ w'.cell? ⟨w8.heap.size, 2, none⟩ = some (.bool false) ∧ w'.cell? ⟨w8.heap.size, 3, none⟩ = some (.string eS)) (by kernel_rfl) (HT.out _ (grow_drew (World.grownBy.refl _ _))) (fun hHeld => ?_)
  refine wpAnyH_take (i := 0) (v := ?_) rfl (by kernel_rfl) (by kernel_rfl) (by kernel_rfl) (fun _ _ _ h => h) (Or.inl ⟨by kernel_rfl, ?_⟩) (by assumption) ?_
  rotate_left
  · (intro w hSw; (try dsimp only at hSw); go_simp; try (with_reducible rfl))
  refine wpAnyH_take (i := 1) (v := ?_) rfl (by kernel_rfl) (by kernel_rfl) (by kernel_rfl) (fun _ _ _ h => h) (Or.inl ⟨by kernel_rfl, ?_⟩) (by assumption) ?_
  rotate_left
  · (intro w hSw; (try dsimp only at hSw); go_simp; try (with_reducible rfl))
  refine wpAnyH_take (i := 2) (v := ?_) rfl (by kernel_rfl) (by kernel_rfl) (by kernel_rfl) (fun _ _ _ h => h) (Or.inl ⟨by kernel_rfl, ?_⟩) (by assumption) ?_
  rotate_left
  · (intro w hSw; (try dsimp only at hSw); go_simp; try (with_reducible rfl))
  refine wpAnyH_take (i := 3) (v := ?_) rfl (by kernel_rfl) (by kernel_rfl) (by kernel_rfl) (fun _ _ _ h => h) (Or.inl ⟨by kernel_rfl, ?_⟩) (by assumption) ?_
  rotate_left
  · (intro w hSw; (try dsimp only at hSw); go_simp; try (with_reducible rfl))
  refine wpAnyH_take (i := 4) (v := ?_) rfl (by kernel_rfl) (by kernel_rfl) (by kernel_rfl) (fun _ _ _ h => h) (Or.inl ⟨by kernel_rfl, ?_⟩) (by assumption) ?_
  rotate_left
  · (intro w hSw; (try dsimp only at hSw); go_simp; try (with_reducible rfl))
  refine wpAnyH_take (i := 5) (v := ?_) rfl (by kernel_rfl) (by kernel_rfl) (by kernel_rfl) (fun _ _ _ h => h) (Or.inl ⟨by kernel_rfl, ?_⟩) (by assumption) ?_
  rotate_left
  · (intro w hSw; (try dsimp only at hSw); go_simp; try (with_reducible rfl))
  refine wpAnyH_take (i := 6) (v := ?_) rfl (by kernel_rfl) (by kernel_rfl) (by kernel_rfl) (fun _ _ _ h => h) (Or.inl ⟨by kernel_rfl, ?_⟩) (by assumption) ?_
  rotate_left
  · (intro w hSw; (try dsimp only at hSw); go_simp; try (with_reducible rfl))
  refine wpAnyH_take (i := 7) (v := ?_) rfl (by kernel_rfl) (by kernel_rfl) (by kernel_rfl) (fun _ _ _ h => h) (Or.inl ⟨by kernel_rfl, ?_⟩) (by assumption) ?_
  rotate_left
  · (intro w hSw; (try dsimp only at hSw); go_simp; try (with_reducible rfl))
  refine wpAnyH_take (i := 8) (v := ?_) rfl (by kernel_rfl) (by kernel_rfl) (by kernel_rfl) (fun _ _ _ h => h) (Or.inl ⟨by kernel_rfl, ?_⟩) (by assumption) ?_
  rotate_left
  · (intro w hSw; (try dsimp only at hSw); go_simp; try (with_reducible rfl))
  refine wpAnyH_take (i := 9) (v := ?_) rfl (by kernel_rfl) (by kernel_rfl) (by kernel_rfl) (fun _ _ _ h => h) (Or.inl ⟨by kernel_rfl, ?_⟩) (by assumption) ?_
  rotate_left
  · (intro w hSw; (try dsimp only at hSw); go_simp; try (with_reducible rfl))
  refine wpAnyH_take (i := 10) (v := ?_) rfl (by kernel_rfl) (by kernel_rfl) (by kernel_rfl) (fun _ _ _ h => h) (Or.inl ⟨by kernel_rfl, ?_⟩) (by assumption) ?_
  rotate_left
  · (intro w hSw; (try dsimp only at hSw); go_simp; try (with_reducible rfl))
  refine wpAnyH_take (i := 11) (v := ?_) rfl (by kernel_rfl) (by kernel_rfl) (by kernel_rfl) (fun _ _ _ h => h) (Or.inl ⟨by kernel_rfl, ?_⟩) (by assumption) ?_
  rotate_left
  · (intro w hSw; (try dsimp only at hSw); go_simp; try (with_reducible rfl))
  refine wpAnyH_take (i := 12) (v := ?_) rfl (by kernel_rfl) (by kernel_rfl) (by kernel_rfl) (fun _ _ _ h => h) (Or.inl ⟨by kernel_rfl, ?_⟩) (by assumption) ?_
  rotate_left
  · (intro w hSw; (try dsimp only at hSw); go_simp; try (with_reducible rfl))
  refine wpAnyH_take (i := 13) (v := ?_) rfl (by kernel_rfl) (by kernel_rfl) (by kernel_rfl) (fun _ _ _ h => h) (Or.inl ⟨by kernel_rfl, ?_⟩) (by assumption) ?_
  rotate_left
  · (intro w hSw; (try dsimp only at hSw); go_simp; try (with_reducible rfl))
  refine wpAnyH_take (i := 14) (v := ?_) rfl (by kernel_rfl) (by kernel_rfl) (by kernel_rfl) (fun _ _ _ h => h) (Or.inl ⟨by kernel_rfl, ?_⟩) (by assumption) ?_
  rotate_left
  · (intro w hSw; (try dsimp only at hSw); go_simp; try (with_reducible rfl))
  refine wpAnyH_take (i := 15) (v := undef) rfl (by kernel_rfl) (by kernel_rfl) (by kernel_rfl) (fun _ _ _ h => h) (Or.inr ⟨by kernel_rfl, rfl⟩) (by assumption) ?_
  refine wpAnyH_take (i := 16) (v := undef) rfl (by kernel_rfl) (by kernel_rfl) (by kernel_rfl) (fun _ _ _ h => h) (Or.inr ⟨by kernel_rfl, rfl⟩) (by assumption) ?_
  refine wpAnyH_take (i := 17) (v := undef) rfl (by kernel_rfl) (by kernel_rfl) (by kernel_rfl) (fun _ _ _ h => h) (Or.inr ⟨by kernel_rfl, rfl⟩) (by assumption) ?_
  refine wpAnyH_take (i := 18) (v := undef) rfl (by kernel_rfl) (by kernel_rfl) (by kernel_rfl) (fun _ _ _ h => h) (Or.inr ⟨by kernel_rfl, rfl⟩) (by assumption) ?_
  refine wpAnyH_take (i := 19) (v := undef) rfl (by kernel_rfl) (by kernel_rfl) (by kernel_rfl) (fun _ _ _ h => h) (Or.inr ⟨by kernel_rfl, rfl⟩) (by assumption) ?_
  refine wpAnyH_take (i := 20) (v := undef) rfl (by kernel_rfl) (by kernel_rfl) (by kernel_rfl) (fun _ _ _ h => h) (Or.inr ⟨by kernel_rfl, rfl⟩) (by assumption) ?_
  refine wpAnyH_take (i := 21) (v := undef) rfl (by kernel_rfl) (by kernel_rfl) (by kernel_rfl) (fun _ _ _ h => h) (Or.inr ⟨by kernel_rfl, rfl⟩) (by assumption) ?_
  refine wpAnyH_take (i := 22) (v := undef) rfl (by kernel_rfl) (by kernel_rfl) (by kernel_rfl) (fun _ _ _ h => h) (Or.inr ⟨by kernel_rfl, rfl⟩) (by assumption) ?_
  refine wpAnyH_take (i := 23) (v := undef) rfl (by kernel_rfl) (by kernel_rfl) (by kernel_rfl) (fun _ _ _ h => h) (Or.inr ⟨by kernel_rfl, rfl⟩) (by assumption) ?_
  refine wpAnyH_take (i := 24) (v := ?_) rfl (by kernel_rfl) (by kernel_rfl) (by kernel_rfl) (fun _ _ _ h => h) (Or.inl ⟨by kernel_rfl, ?_⟩) (by assumption) ?_
  rotate_left
  · (intro w hSw; (try dsimp only at hSw); go_simp; try (with_reducible rfl))
  refine wpAnyH_take (i := 25) (v := ?_) rfl (by kernel_rfl) (by kernel_rfl) (by kernel_rfl) (fun _ _ _ h => h) (Or.inl ⟨by kernel_rfl, ?_⟩) (by assumption) ?_
  rotate_left
  · (intro w hSw; (try dsimp only at hSw); go_simp; try (with_reducible rfl))
  refine wpAnyH_take (i := 26) (v := ?_) rfl (by kernel_rfl) (by kernel_rfl) (by kernel_rfl) (fun _ _ _ h => h) (Or.inl ⟨by kernel_rfl, ?_⟩) (by assumption) ?_
  rotate_left
  · (intro w hSw; (try dsimp only at hSw); go_simp; try (with_reducible rfl))
  refine wpAnyH_take (i := 27) (v := ?_) rfl (by kernel_rfl) (by kernel_rfl) (by kernel_rfl) (fun _ _ _ h => h) (Or.inl ⟨by kernel_rfl, ?_⟩) (by assumption) ?_
  rotate_left
  · (intro w hSw; (try dsimp only at hSw); go_simp; try (with_reducible rfl))
  refine wpAnyH_take (i := 29) (v := ?_) rfl (by kernel_rfl) (by kernel_rfl) (by kernel_rfl) (fun _ _ _ h => h) (Or.inl ⟨by kernel_rfl, ?_⟩) (by assumption) ?_
  rotate_left
  · (intro w hSw; (try dsimp only at hSw); go_simp; try (with_reducible rfl))
  refine wpAnyH_ready (rs := [28]) (by kernel_rfl) (by simp) ?_
  refine AllReadyH.cons rfl (fun K hK => ?_) AllReadyH.nil
  go_simp
  refine (H9.out _).mono ?_
  rintro e u1 ⟨rfl, g⟩
  have U1G : (w8.alloc (qObj false eS false eS)).grownBy u1 none := (by first | exact g | exact grownBy_undrew g)
  clear g
  go_wp2_with fail
  refine hK.out _ _ (HT.out _ U1G) (fun hHeld => ?_)
  clear hK K
  refine wpAnyH_ready (rs := [30]) (by kernel_rfl) (by simp) ?_
  refine AllReadyH.cons rfl (fun K hK => ?_) AllReadyH.nil
  go_simp
  refine (H10.out _).mono ?_
  rintro e w9 ⟨rfl, g⟩
  have W9G : (w8.alloc (qObj false eS false eS)).grownBy w9 none := grownBy_trans U1G g
  clear g
  go_wp2_with fail
  refine hK.out _ _ (HT.out _ W9G) (fun hHeld => ?_)
  clear hK K
  refine wpAnyH_take (i := 31) (v := ?_) rfl (by kernel_rfl) (by kernel_rfl) (by kernel_rfl) (fun _ _ _ h => h) (Or.inl ⟨by kernel_rfl, ?_⟩) (by assumption) ?_
  rotate_left
  · (intro w hSw; (try dsimp only at hSw); go_simp; try (with_reducible rfl))
  refine wpAnyH_take (i := 32) (v := ?_) rfl (by kernel_rfl) (by kernel_rfl) (by kernel_rfl) (fun _ _ _ h => h) (Or.inl ⟨by kernel_rfl, ?_⟩) (by assumption) ?_
  rotate_left
  · (intro w hSw; (try dsimp only at hSw); go_simp; try (with_reducible rfl))
  refine wpAnyH_done (by kernel_rfl) ?_ _
  have U1 := U1G
  have U2 := W9G
  all_goals (
    have g := U2
    have Xb9 : Hid (QBlk w9 w.heap.size (.bool n) (.string s) (.bool d) (.string t)) := Xb8.out.kept (grownBy_trans (grow1 _ _) g) (by simp)
    have Ab9 : Hid (QBlk w9 w3.heap.size (.bool na) (.string sa) (.bool da) (.string ta)) := Ab8.out.kept (grownBy_trans (grow1 _ _) g) (by simp)
    have Bb9 : Hid (QBlk w9 w4.heap.size (.bool nb) (.string sb) (.bool db) (.string tb)) := Bb8.out.kept (grownBy_trans (grow1 _ _) g) (by simp)
    have Cb9 : Hid (WBlk w9 w5.heap.size (.bool nc) (.string sc)) := Cb8.out.kept (grownBy_trans (grow1 _ _) g) (by simp)
    have Db9 : Hid (WBlk w9 w6.heap.size (.bool nd) (.string sd)) := Db8.out.kept (grownBy_trans (grow1 _ _) g) (by simp)
    have Rb9 : Hid (QBlk w9 w7.heap.size (.bool false) (.string eS) (.bool false) (.string eS)) := Rb8.out.kept (grownBy_trans (grow1 _ _) g) (by simp)
    have Sb9 : Hid (QBlk w9 w8.heap.size (.bool false) (.string eS) (.bool false) (.string eS)) := QBlk.kept (heap_alloc_new _ _) g (by simp)
    have HG9 : Hid (w.grownBy w9 none) := grownBy_trans HG8.out (grownBy_trans (grow1 _ _) g)
    clear g U1 U2 HG8 Xb8 Ab8 Bb8 Cb8 Db8 Rb8
    have xc0 := Xb9.out.c0
    have xc1 := Xb9.out.c1
    have xc2 := Xb9.out.c2
    have xc3 := Xb9.out.c3
    have xl := Xb9.out.lt
    go_wp2_with fail
    refine (H11.out _).mono ?_
    rintro e w10 ⟨rfl, g⟩
    have Xb10 : Hid (QBlk w10 w.heap.size (.bool n) (.string s) (.bool d) (.string t)) := Xb9.out.kept g (by simp)
    have Ab10 : Hid (QBlk w10 w3.heap.size (.bool na) (.string sa) (.bool da) (.string ta)) := Ab9.out.kept g (by simp)
    have Bb10 : Hid (QBlk w10 w4.heap.size (.bool nb) (.string sb) (.bool db) (.string tb)) := Bb9.out.kept g (by simp)
    have Cb10 : Hid (WBlk w10 w5.heap.size (.bool nc) (.string sc)) := Cb9.out.kept g (by simp)
    have Db10 : Hid (WBlk w10 w6.heap.size (.bool nd) (.string sd)) := Db9.out.kept g (by simp)
    have Rb10 : Hid (QBlk w10 w7.heap.size (.bool false) (.string eS) (.bool false) (.string eS)) := Rb9.out.kept g (by simp)
    have Sb10 : Hid (QBlk w10 w8.heap.size (.bool false) (.string eS) (.bool false) (.string eS)) := Sb9.out.kept g (by simp)
    have HG10 : Hid (w.grownBy w10 none) := grownBy_trans HG9.out g
    clear g HG9 Xb9 Ab9 Bb9 Cb9 Db9 Rb9 Sb9 xc0 xc1 xc2 xc3 xl
    have rc0 := Rb10.out.c0
    have rc1 := Rb10.out.c1
    have rc2 := Rb10.out.c2
    have rc3 := Rb10.out.c3
    have rl := Rb10.out.lt
    have HZ : Hid (∀ w', (w10.alloc (qObj false eS false eS)).grownBy w' none → w'.cell? ⟨w3.heap.size, 0, none⟩ = some (.bool na) ∧ w'.cell? ⟨w3.heap.size, 1, none⟩ = some (.string sa) ∧ w'.cell? ⟨w3.heap.size, 2, none⟩ = some (.bool da) ∧ w'.cell? ⟨w3.heap.size, 3, none⟩ = some (.string ta) ∧ w'.cell? ⟨w4.heap.size, 0, none⟩ = some (.bool nb) ∧ w'.cell? ⟨w4.heap.size, 1, none⟩ = some (.string sb) ∧ w'.cell? ⟨w4.heap.size, 2, none⟩ = some (.bool db) ∧ w'.cell? ⟨w4.heap.size, 3, none⟩ = some (.string tb) ∧ w'.cell? ⟨w5.heap.size, 0, none⟩ = some (.bool nc) ∧ w'.cell? ⟨w5.heap.size, 1, none⟩ = some (.string sc) ∧ w'.cell? ⟨w6.heap.size, 0, none⟩ = some (.bool nd) ∧ w'.cell? ⟨w6.heap.size, 1, none⟩ = some (.string sd) ∧ w'.cell? ⟨w.heap.size, 0, none⟩ = some (.bool n) ∧ w'.cell? ⟨w.heap.size, 1, none⟩ = some (.string s) ∧ w'.cell? ⟨w.heap.size, 2, none⟩ = some (.bool d) ∧ w'.cell? ⟨w.heap.size, 3, none⟩ = some (.string t)) := fun w' g => ⟨(Ab10.out.kept (grownBy_trans (grow1 _ _) g) (by simp)).c0, (Ab10.out.kept (grownBy_trans (grow1 _ _) g) (by simp)).c1, (Ab10.out.kept (grownBy_trans (grow1 _ _) g) (by simp)).c2, (Ab10.out.kept (grownBy_trans (grow1 _ _) g) (by simp)).c3, (Bb10.out.kept (grownBy_trans (grow1 _ _) g) (by simp)).c0, (Bb10.out.kept (grownBy_trans (grow1 _ _) g) (by simp)).c1, (Bb10.out.kept (grownBy_trans (grow1 _ _) g) (by simp)).c2, (Bb10.out.kept (grownBy_trans (grow1 _ _) g) (by simp)).c3, (Cb10.out.kept (grownBy_trans (grow1 _ _) g) (by simp)).c0, (Cb10.out.kept (grownBy_trans (grow1 _ _) g) (by simp)).c1, (Db10.out.kept (grownBy_trans (grow1 _ _) g) (by simp)).c0, (Db10.out.kept (grownBy_trans (grow1 _ _) g) (by simp)).c1, (Xb10.out.kept (grownBy_trans (grow1 _ _) g) (by simp)).c0, (Xb10.out.kept (grownBy_trans (grow1 _ _) g) (by simp)).c1, (Xb10.out.kept (grownBy_trans (grow1 _ _) g) (by simp)).c2, (Xb10.out.kept (grownBy_trans (grow1 _ _) g) (by simp)).c3⟩
    go_wp2_with fail
    clear rc0 rc1 rc2 rc3 rl
    go_region_held3 (fun w' => w'.cell? ⟨w3.heap.size, 0, none⟩ = some (.bool na) ∧ w'.cell? ⟨w3.heap.size, 1, none⟩ = some (.string sa) ∧ w'.cell? ⟨w3.heap.size, 2, none⟩ = some (.bool da) ∧ w'.cell? ⟨w3.heap.size, 3, none⟩ = some (.string ta) ∧ w'.cell? ⟨w4.heap.size, 0, none⟩ = some (.bool nb) ∧ w'.cell? ⟨w4.heap.size, 1, none⟩ = some (.string sb) ∧ w'.cell? ⟨w4.heap.size, 2, none⟩ = some (.bool db) ∧ w'.cell? ⟨w4.heap.size, 3, none⟩ = some (.string tb) ∧ w'.cell? ⟨w5.heap.size, 0, none⟩ = some (.bool nc) ∧ w'.cell? ⟨w5.heap.size, 1, none⟩ = some (.string sc) ∧ w'.cell? ⟨w6.heap.size, 0, none⟩ = some (.bool nd) ∧ w'.cell? ⟨w6.heap.size, 1, none⟩ = some (.string sd) ∧ w'.cell? ⟨w.heap.size, 0, none⟩ = some (.bool n) ∧ w'.cell? ⟨w.heap.size, 1, none⟩ = some (.string s) ∧ w'.cell? ⟨w.heap.size, 2, none⟩ = some (.bool d) ∧ w'.cell? ⟨w.heap.size, 3, none⟩ = some (.string t))
      (first | (go_keep; done) | with_reducible exact HZ.out _ (by assumption) | with_reducible exact HZ.out _ (grow_drew (World.grownBy.refl _ _)) | fail)
      (first
        | (go_at_call 24; refine (H12.out _).mono ?_; rintro e v1 ⟨rfl, g⟩; have V1 : (w10.alloc (qObj false eS false eS)).grownBy v1 none := (by first | exact g | exact grownBy_undrew g); clear g)
        | (go_at_call 25; refine (H13.out _).mono ?_; rintro e v3 ⟨rfl, g⟩; have V3 : (w10.alloc (qObj false eS false eS)).grownBy v3 none := grownBy_trans V2 g; clear g)
        | (go_at_call 21; first | (have _q := V3; refine (H17.out _).mono ?_; rintro e v4 ⟨rfl, g⟩; have V4 : (w10.alloc (qObj false eS false eS)).grownBy v4 none := grownBy_trans V3 g; clear g) | (refine (H16.out _).mono ?_; rintro e v2 ⟨rfl, g⟩; have V2 : (w10.alloc (qObj false eS false eS)).grownBy v2 none := grownBy_trans V1 g; clear g))
        | (go_at_call 26; refine (H14.out _).mono ?_; rintro e v5 ⟨rfl, g⟩; have V5 : (w10.alloc (qObj false eS false eS)).grownBy v5 none := grownBy_trans V4 g; clear g)
        | (go_at_call 27; refine (H15.out _).mono ?_; rintro e v6 ⟨rfl, g⟩; have V6 : (w10.alloc (qObj false eS false eS)).grownBy v6 none := grownBy_trans V5 g; clear g)
        | (go_at_call 22; refine (H18.out _).mono ?_; rintro e v7 ⟨rfl, g⟩; have V7 : (w10.alloc (qObj false eS false eS)).grownBy v7 none := grownBy_trans V6 g; clear g)
        | (go_at_call 28; refine (H19.out _).mono ?_; rintro e v8 ⟨rfl, g⟩; have V8 : (w10.alloc (qObj false eS false eS)).grownBy v8 none := grownBy_trans V7 g; clear g)
        | (go_at_call 10; refine (HK.out _ (grownBy_trans HG10.out (grownBy_trans (grow1 _ _) V8))).mono ?_; rintro e v9 ⟨rfl, g⟩; have V9 : (w10.alloc (qObj false eS false eS)).grownBy v9 none := grownBy_trans V8 g; clear g)
        | fail)
    go_wp2_with fail
    go_ret
    exact ⟨rfl, grownBy_trans HG10.out (grownBy_trans (grow1 _ _) V9)⟩)
theorem one_none1 (n d ni di na da nb db nc nd ns ds : Bool) (s t si ti sa ta sb tb sc sd ss ts : ByteArray) (x m gs : Int) (hm : ¬ m = 0) (w : World)
    (HL : Hid (∀ (W : World) (B : Nat), W.heap[B]? = some (.cells #[.bool n, .string s, .bool d, .string t] 25 (0, 0)) → Calls Tryz.prog 9 #[.int .i64 1100, .slice (some ⟨B, 0, none⟩) 1 1] W fun e w' => e = .returned (.bool false) ∧ W.grownBy w' none))
    (H1 : Hid (∀ w, Calls Tryz.prog 11 #[frac n s d t] w fun e w' => e = .returned (.bool true) ∧ w.grownBy w' none))
    (H2 : Hid (∀ w, Calls Tryz.prog 12 #[frac n s d t] w fun e w' => e = .returned (.tuple #[frac na sa da ta, .int .i64 0]) ∧ w.grownBy w' none))
    (H3 : Hid (∀ w, Calls Tryz.prog 13 #[frac n s d t] w fun e w' => e = .returned (.tuple #[frac nb sb db tb, .int .i64 0]) ∧ w.grownBy w' none))
    (H4 : Hid (∀ w, Calls Tryz.prog 14 #[frac n s d t] w fun e w' => e = .returned (.tuple #[whole nc sc, .int .i64 0]) ∧ w.grownBy w' none))
    (H5 : Hid (∀ w, Calls Tryz.prog 15 #[frac n s d t] w fun e w' => e = .returned (.tuple #[whole nd sd, .int .i64 0]) ∧ w.grownBy w' none))
    (H6 : Hid (∀ w, Calls Tryz.prog 16 #[frac n s d t] w fun e w' => e = .returned (.tuple #[frac false eS false eS, .int .i64 7]) ∧ w.grownBy w' none))
    (H7 : Hid (∀ w, Calls Tryz.prog 17 #[.int .i64 x, .int .i64 m] w fun e w' => e = .returned (.tuple #[frac ns ss ds ts, .int .i64 0]) ∧ w.grownBy w' none))
    (H8 : Hid (∀ w, Calls Tryz.prog 18 #[.int .i64 x, .int .i64 m] w fun e w' => e = .returned (frac ns ss ds ts) ∧ w.grownBy w' none))
    (H9 : Hid (∀ w, Calls Tryz.prog 19 #[.int .i64 x] w fun e w' => e = .returned (frac ni si di ti) ∧ w.grownBy w' none))
    (H10 : Hid (∀ w, Calls Tryz.prog 20 #[.int .i64 x] w fun e w' => e = .returned (frac ni si di ti) ∧ w.grownBy w' none))
    (H11 : Hid (∀ w, Calls Tryz.prog 23 #[frac n s d t] w fun e w' => e = .returned (.tuple #[frac false eS false eS, .bool false]) ∧ w.grownBy w' none))
    (H12 : Hid (∀ w, Calls Tryz.prog 24 #[frac n s d t] w fun e w' => e = .returned (frac na sa da ta) ∧ w.grownBy w' none))
    (H13 : Hid (∀ w, Calls Tryz.prog 25 #[frac n s d t] w fun e w' => e = .returned (frac nb sb db tb) ∧ w.grownBy w' none))
    (H14 : Hid (∀ w, Calls Tryz.prog 26 #[frac n s d t] w fun e w' => e = .returned (whole nc sc) ∧ w.grownBy w' none))
    (H15 : Hid (∀ w, Calls Tryz.prog 27 #[frac n s d t] w fun e w' => e = .returned (whole nd sd) ∧ w.grownBy w' none))
    (H16 : Hid (∀ w, Calls Tryz.prog 21 #[frac na sa da ta, .int .i64 0, frac na sa da ta, .bool true] w fun e w' => e = .returned (.bool true) ∧ w.grownBy w' none))
    (H17 : Hid (∀ w, Calls Tryz.prog 21 #[frac nb sb db tb, .int .i64 0, frac nb sb db tb, .bool true] w fun e w' => e = .returned (.bool true) ∧ w.grownBy w' none))
    (H18 : Hid (∀ w, Calls Tryz.prog 22 #[frac n s d t] w fun e w' => e = .returned (.int .i64 gs) ∧ w.grownBy w' none))
    (H19 : Hid (∀ w, Calls Tryz.prog 28 #[frac n s d t] w fun e w' => e = .returned (.int .i64 gs) ∧ w.grownBy w' none))
    (HK : Hid (∀ W, w.grownBy W none → Calls Tryz.prog 10 #[] W fun e w' => e = .returned (.bool true) ∧ W.grownBy w' none)) :
    Calls Tryz.prog 3 #[frac n s d t, .int .i64 x, .int .i64 m] w fun e w' => e = .returned (.bool true) ∧ w.grownBy w' none := by
  go_enter Tryz.func3, Tryz.ntmps3
  go_wp2_with fail
  refine (HL.out _ _ ?hb).mono ?_
  case hb => exact heap_alloc2_new _ _ _
  rintro e w1 ⟨rfl, g⟩
  have Xb1 : Hid (QBlk w1 w.heap.size (.bool n) (.string s) (.bool d) (.string t)) := QBlk.kept (at_alloc1 _ _ _) g (by simp)
  have HG1 : Hid (w.grownBy w1 none) := grownBy_trans (grow2 _ _ _) g
  clear g HL
  have xc0 := Xb1.out.c0
  have xc1 := Xb1.out.c1
  have xc2 := Xb1.out.c2
  have xc3 := Xb1.out.c3
  have xl := Xb1.out.lt
  go_wp2_with fail
  refine (H1.out _).mono ?_
  rintro e w2 ⟨rfl, g⟩
  have Xb2 : Hid (QBlk w2 w.heap.size (.bool n) (.string s) (.bool d) (.string t)) := Xb1.out.kept g (by simp)
  have HG2 : Hid (w.grownBy w2 none) := grownBy_trans HG1.out g
  clear g HG1 Xb1 xc0 xc1 xc2 xc3 xl
  have xc0 := Xb2.out.c0
  have xc1 := Xb2.out.c1
  have xc2 := Xb2.out.c2
  have xc3 := Xb2.out.c3
  have xl := Xb2.out.lt
  go_wp2_with fail
  refine (H2.out _).mono ?_
  rintro e w3 ⟨rfl, g⟩
  have Xb3 : Hid (QBlk w3 w.heap.size (.bool n) (.string s) (.bool d) (.string t)) := Xb2.out.kept g (by simp)
  have HG3 : Hid (w.grownBy w3 none) := grownBy_trans HG2.out g
  clear g HG2 Xb2 xc0 xc1 xc2 xc3 xl
  have xc0 := Xb3.out.c0
  have xc1 := Xb3.out.c1
  have xc2 := Xb3.out.c2
  have xc3 := Xb3.out.c3
  have xl := Xb3.out.lt
  go_wp2_with fail
  refine (H3.out _).mono ?_
  rintro e w4 ⟨rfl, g⟩
  have Xb4 : Hid (QBlk w4 w.heap.size (.bool n) (.string s) (.bool d) (.string t)) := Xb3.out.kept (grownBy_trans (grow1 _ _) g) (by simp)
  have Ab4 : Hid (QBlk w4 w3.heap.size (.bool na) (.string sa) (.bool da) (.string ta)) := QBlk.kept (heap_alloc_new _ _) g (by simp)
  have HG4 : Hid (w.grownBy w4 none) := grownBy_trans HG3.out (grownBy_trans (grow1 _ _) g)
  clear g HG3 Xb3 xc0 xc1 xc2 xc3 xl
  have xc0 := Xb4.out.c0
  have xc1 := Xb4.out.c1
  have xc2 := Xb4.out.c2
  have xc3 := Xb4.out.c3
  have xl := Xb4.out.lt
  go_wp2_with fail
  refine (H4.out _).mono ?_
  rintro e w5 ⟨rfl, g⟩
  have Xb5 : Hid (QBlk w5 w.heap.size (.bool n) (.string s) (.bool d) (.string t)) := Xb4.out.kept (grownBy_trans (grow1 _ _) g) (by simp)
  have Ab5 : Hid (QBlk w5 w3.heap.size (.bool na) (.string sa) (.bool da) (.string ta)) := Ab4.out.kept (grownBy_trans (grow1 _ _) g) (by simp)
  have Bb5 : Hid (QBlk w5 w4.heap.size (.bool nb) (.string sb) (.bool db) (.string tb)) := QBlk.kept (heap_alloc_new _ _) g (by simp)
  have HG5 : Hid (w.grownBy w5 none) := grownBy_trans HG4.out (grownBy_trans (grow1 _ _) g)
  clear g HG4 Xb4 Ab4 xc0 xc1 xc2 xc3 xl
  have xc0 := Xb5.out.c0
  have xc1 := Xb5.out.c1
  have xc2 := Xb5.out.c2
  have xc3 := Xb5.out.c3
  have xl := Xb5.out.lt
  go_wp2_with fail
  refine (H5.out _).mono ?_
  rintro e w6 ⟨rfl, g⟩
  have Xb6 : Hid (QBlk w6 w.heap.size (.bool n) (.string s) (.bool d) (.string t)) := Xb5.out.kept (grownBy_trans (grow1 _ _) g) (by simp)
  have Ab6 : Hid (QBlk w6 w3.heap.size (.bool na) (.string sa) (.bool da) (.string ta)) := Ab5.out.kept (grownBy_trans (grow1 _ _) g) (by simp)
  have Bb6 : Hid (QBlk w6 w4.heap.size (.bool nb) (.string sb) (.bool db) (.string tb)) := Bb5.out.kept (grownBy_trans (grow1 _ _) g) (by simp)
  have Cb6 : Hid (WBlk w6 w5.heap.size (.bool nc) (.string sc)) := WBlk.kept (heap_alloc_new _ _) g (by simp)
  have HG6 : Hid (w.grownBy w6 none) := grownBy_trans HG5.out (grownBy_trans (grow1 _ _) g)
  clear g HG5 Xb5 Ab5 Bb5 xc0 xc1 xc2 xc3 xl
  have xc0 := Xb6.out.c0
  have xc1 := Xb6.out.c1
  have xc2 := Xb6.out.c2
  have xc3 := Xb6.out.c3
  have xl := Xb6.out.lt
  go_wp2_with fail
  refine (H6.out _).mono ?_
  rintro e w7 ⟨rfl, g⟩
  have Xb7 : Hid (QBlk w7 w.heap.size (.bool n) (.string s) (.bool d) (.string t)) := Xb6.out.kept (grownBy_trans (grow1 _ _) g) (by simp)
  have Ab7 : Hid (QBlk w7 w3.heap.size (.bool na) (.string sa) (.bool da) (.string ta)) := Ab6.out.kept (grownBy_trans (grow1 _ _) g) (by simp)
  have Bb7 : Hid (QBlk w7 w4.heap.size (.bool nb) (.string sb) (.bool db) (.string tb)) := Bb6.out.kept (grownBy_trans (grow1 _ _) g) (by simp)
  have Cb7 : Hid (WBlk w7 w5.heap.size (.bool nc) (.string sc)) := Cb6.out.kept (grownBy_trans (grow1 _ _) g) (by simp)
  have Db7 : Hid (WBlk w7 w6.heap.size (.bool nd) (.string sd)) := WBlk.kept (heap_alloc_new _ _) g (by simp)
  have HG7 : Hid (w.grownBy w7 none) := grownBy_trans HG6.out (grownBy_trans (grow1 _ _) g)
  clear g HG6 Xb6 Ab6 Bb6 Cb6 xc0 xc1 xc2 xc3 xl
  go_wp2_with fail
  refine (H7.out _).mono ?_
  rintro e w8 ⟨rfl, g⟩
  have Xb8 : Hid (QBlk w8 w.heap.size (.bool n) (.string s) (.bool d) (.string t)) := Xb7.out.kept (grownBy_trans (grow1 _ _) g) (by simp)
  have Ab8 : Hid (QBlk w8 w3.heap.size (.bool na) (.string sa) (.bool da) (.string ta)) := Ab7.out.kept (grownBy_trans (grow1 _ _) g) (by simp)
  have Bb8 : Hid (QBlk w8 w4.heap.size (.bool nb) (.string sb) (.bool db) (.string tb)) := Bb7.out.kept (grownBy_trans (grow1 _ _) g) (by simp)
  have Cb8 : Hid (WBlk w8 w5.heap.size (.bool nc) (.string sc)) := Cb7.out.kept (grownBy_trans (grow1 _ _) g) (by simp)
  have Db8 : Hid (WBlk w8 w6.heap.size (.bool nd) (.string sd)) := Db7.out.kept (grownBy_trans (grow1 _ _) g) (by simp)
  have Rb8 : Hid (QBlk w8 w7.heap.size (.bool false) (.string eS) (.bool false) (.string eS)) := QBlk.kept (heap_alloc_new _ _) g (by simp)
  have HG8 : Hid (w.grownBy w8 none) := grownBy_trans HG7.out (grownBy_trans (grow1 _ _) g)
  clear g HG7 Xb7 Ab7 Bb7 Cb7 Db7
  have HT : Hid (∀ w', (w8.alloc (qObj ns ss ds ts)).grownBy w' none → w'.cell? ⟨w8.heap.size, 0, none⟩ = some (.bool ns) ∧ w'.cell? ⟨w8.heap.size, 1, none⟩ = some (.string ss) ∧ w'.cell? ⟨w8.heap.size, 2, none⟩ = some (.bool ds) ∧ w'.cell? ⟨w8.heap.size, 3, none⟩ = some (.string ts)) := fun w' g => by
    have h : QBlk w' w8.heap.size (.bool ns) (.string ss) (.bool ds) (.string ts) := QBlk.kept (heap_alloc_new _ _) g (by simp)
    exact ⟨h.c0, h.c1, h.c2, h.c3⟩
  go_wp2_with fail
  refine wp_region_held_drew (S := fun w' => w'.cell? ⟨w8.heap.size, 0, none⟩ = some (.bool ns) ∧ w'.cell? ⟨w8.heap.size, 1, none⟩ = some (.string ss) ∧ w'.cell? ⟨w8.heap.size, 2, none⟩ = some (.bool ds) ∧ w'.cell? ⟨w8.heap.size, 3, none⟩ = some (.string ts)) (by kernel_rfl) (HT.out _ (grow_drew (World.grownBy.refl _ _))) (fun hHeld => ?_)
  refine wpAnyH_take (i := 0) (v := ?_) rfl (by kernel_rfl) (by kernel_rfl) (by kernel_rfl) (fun _ _ _ h => h) (Or.inl ⟨by kernel_rfl, ?_⟩) (by assumption) ?_
  rotate_left
  · (intro w hSw; (try dsimp only at hSw); go_simp; try (with_reducible rfl))
  refine wpAnyH_take (i := 1) (v := .bool false) rfl (by kernel_rfl) (by kernel_rfl) (by kernel_rfl) (fun _ _ _ h => h) (Or.inl ⟨by kernel_rfl, ?_⟩) (by assumption) ?_
  · (intro w hSw; (try dsimp only at hSw); first | (go_simp; done) | (go_simp; simp [hm]; done))
  refine wpAnyH_take (i := 2) (v := ?_) rfl (by kernel_rfl) (by kernel_rfl) (by kernel_rfl) (fun _ _ _ h => h) (Or.inl ⟨by kernel_rfl, ?_⟩) (by assumption) ?_
  rotate_left
  · (intro w hSw; (try dsimp only at hSw); go_simp; try (with_reducible rfl))
  refine wpAnyH_take (i := 3) (v := undef) rfl (by kernel_rfl) (by kernel_rfl) (by kernel_rfl) (fun _ _ _ h => h) (Or.inr ⟨by kernel_rfl, rfl⟩) (by assumption) ?_
  refine wpAnyH_take (i := 4) (v := undef) rfl (by kernel_rfl) (by kernel_rfl) (by kernel_rfl) (fun _ _ _ h => h) (Or.inr ⟨by kernel_rfl, rfl⟩) (by assumption) ?_
  refine wpAnyH_take (i := 5) (v := undef) rfl (by kernel_rfl) (by kernel_rfl) (by kernel_rfl) (fun _ _ _ h => h) (Or.inr ⟨by kernel_rfl, rfl⟩) (by assumption) ?_
  refine wpAnyH_take (i := 6) (v := undef) rfl (by kernel_rfl) (by kernel_rfl) (by kernel_rfl) (fun _ _ _ h => h) (Or.inr ⟨by kernel_rfl, rfl⟩) (by assumption) ?_
  refine wpAnyH_take (i := 7) (v := undef) rfl (by kernel_rfl) (by kernel_rfl) (by kernel_rfl) (fun _ _ _ h => h) (Or.inr ⟨by kernel_rfl, rfl⟩) (by assumption) ?_
  refine wpAnyH_take (i := 8) (v := undef) rfl (by kernel_rfl) (by kernel_rfl) (by kernel_rfl) (fun _ _ _ h => h) (Or.inr ⟨by kernel_rfl, rfl⟩) (by assumption) ?_
  refine wpAnyH_take (i := 9) (v := undef) rfl (by kernel_rfl) (by kernel_rfl) (by kernel_rfl) (fun _ _ _ h => h) (Or.inr ⟨by kernel_rfl, rfl⟩) (by assumption) ?_
  refine wpAnyH_take (i := 10) (v := ?_) rfl (by kernel_rfl) (by kernel_rfl) (by kernel_rfl) (fun _ _ _ h => h) (Or.inl ⟨by kernel_rfl, ?_⟩) (by assumption) ?_
  rotate_left
  · (intro w hSw; (try dsimp only at hSw); go_simp; try (with_reducible rfl))
  refine wpAnyH_take (i := 11) (v := ?_) rfl (by kernel_rfl) (by kernel_rfl) (by kernel_rfl) (fun _ _ _ h => h) (Or.inl ⟨by kernel_rfl, ?_⟩) (by assumption) ?_
  rotate_left
  · (intro w hSw; (try dsimp only at hSw); go_simp; try (with_reducible rfl))
  refine wpAnyH_take (i := 12) (v := ?_) rfl (by kernel_rfl) (by kernel_rfl) (by kernel_rfl) (fun _ _ _ h => h) (Or.inl ⟨by kernel_rfl, ?_⟩) (by assumption) ?_
  rotate_left
  · (intro w hSw; (try dsimp only at hSw); go_simp; try (with_reducible rfl))
  refine wpAnyH_take (i := 13) (v := .bool true) rfl (by kernel_rfl) (by kernel_rfl) (by kernel_rfl) (fun _ _ _ h => h) (Or.inl ⟨by kernel_rfl, ?_⟩) (by assumption) ?_
  · (intro w hSw; (try dsimp only at hSw); first | (go_simp; done) | (go_simp; simp [hm]; done))
  refine wpAnyH_take (i := 14) (v := ?_) rfl (by kernel_rfl) (by kernel_rfl) (by kernel_rfl) (fun _ _ _ h => h) (Or.inl ⟨by kernel_rfl, ?_⟩) (by assumption) ?_
  rotate_left
  · (intro w hSw; (try dsimp only at hSw); go_simp; try (with_reducible rfl))
  refine wpAnyH_take (i := 15) (v := ?_) rfl (by kernel_rfl) (by kernel_rfl) (by kernel_rfl) (fun _ _ _ h => h) (Or.inl ⟨by kernel_rfl, ?_⟩) (by assumption) ?_
  rotate_left
  · (intro w hSw; (try dsimp only at hSw); go_simp; try (with_reducible rfl))
  refine wpAnyH_take (i := 16) (v := ?_) rfl (by kernel_rfl) (by kernel_rfl) (by kernel_rfl) (fun _ _ _ h => h) (Or.inl ⟨by kernel_rfl, ?_⟩) (by assumption) ?_
  rotate_left
  · (intro w hSw; (try dsimp only at hSw); go_simp; try (with_reducible rfl))
  refine wpAnyH_take (i := 17) (v := ?_) rfl (by kernel_rfl) (by kernel_rfl) (by kernel_rfl) (fun _ _ _ h => h) (Or.inl ⟨by kernel_rfl, ?_⟩) (by assumption) ?_
  rotate_left
  · (intro w hSw; (try dsimp only at hSw); go_simp; try (with_reducible rfl))
  refine wpAnyH_ready (rs := [18]) (by kernel_rfl) (by simp) ?_
  refine AllReadyH.cons rfl (fun K hK => ?_) AllReadyH.nil
  go_simp
  refine (H8.out _).mono ?_
  rintro e u0 ⟨rfl, g⟩
  have U0G : (w8.alloc (qObj ns ss ds ts)).grownBy u0 none := (by first | exact g | exact grownBy_undrew g)
  clear g
  go_wp2_with fail
  refine hK.out _ _ (HT.out _ U0G) (fun hHeld => ?_)
  clear hK K
  refine wpAnyH_take (i := 19) (v := ?_) rfl (by kernel_rfl) (by kernel_rfl) (by kernel_rfl) (fun _ _ _ h => h) (Or.inl ⟨by kernel_rfl, ?_⟩) (by assumption) ?_
  rotate_left
  · (intro w hSw; (try dsimp only at hSw); go_simp; try (with_reducible rfl))
  refine wpAnyH_take (i := 20) (v := ?_) rfl (by kernel_rfl) (by kernel_rfl) (by kernel_rfl) (fun _ _ _ h => h) (Or.inl ⟨by kernel_rfl, ?_⟩) (by assumption) ?_
  rotate_left
  · (intro w hSw; (try dsimp only at hSw); go_simp; try (with_reducible rfl))
  refine wpAnyH_take (i := 21) (v := ?_) rfl (by kernel_rfl) (by kernel_rfl) (by kernel_rfl) (fun _ _ _ h => h) (Or.inl ⟨by kernel_rfl, ?_⟩) (by assumption) ?_
  rotate_left
  · (intro w hSw; (try dsimp only at hSw); go_simp; try (with_reducible rfl))
  refine wpAnyH_take (i := 22) (v := ?_) rfl (by kernel_rfl) (by kernel_rfl) (by kernel_rfl) (fun _ _ _ h => h) (Or.inl ⟨by kernel_rfl, ?_⟩) (by assumption) ?_
  rotate_left
  · (intro w hSw; (try dsimp only at hSw); go_simp; try (with_reducible rfl))
  refine wpAnyH_take (i := 23) (v := ?_) rfl (by kernel_rfl) (by kernel_rfl) (by kernel_rfl) (fun _ _ _ h => h) (Or.inl ⟨by kernel_rfl, ?_⟩) (by assumption) ?_
  rotate_left
  · (intro w hSw; (try dsimp only at hSw); go_simp; try (with_reducible rfl))
  refine wpAnyH_take (i := 24) (v := ?_) rfl (by kernel_rfl) (by kernel_rfl) (by kernel_rfl) (fun _ _ _ h => h) (Or.inl ⟨by kernel_rfl, ?_⟩) (by assumption) ?_
  rotate_left
  · (intro w hSw; (try dsimp only at hSw); go_simp; try (with_reducible rfl))
  refine wpAnyH_take (i := 25) (v := ?_) rfl (by kernel_rfl) (by kernel_rfl) (by kernel_rfl) (fun _ _ _ h => h) (Or.inl ⟨by kernel_rfl, ?_⟩) (by assumption) ?_
  rotate_left
  · (intro w hSw; (try dsimp only at hSw); go_simp; try (with_reducible rfl))
  refine wpAnyH_take (i := 26) (v := ?_) rfl (by kernel_rfl) (by kernel_rfl) (by kernel_rfl) (fun _ _ _ h => h) (Or.inl ⟨by kernel_rfl, ?_⟩) (by assumption) ?_
  rotate_left
  · (intro w hSw; (try dsimp only at hSw); go_simp; try (with_reducible rfl))
  refine wpAnyH_take (i := 27) (v := ?_) rfl (by kernel_rfl) (by kernel_rfl) (by kernel_rfl) (fun _ _ _ h => h) (Or.inl ⟨by kernel_rfl, ?_⟩) (by assumption) ?_
  rotate_left
  · (intro w hSw; (try dsimp only at hSw); go_simp; try (with_reducible rfl))
  refine wpAnyH_take (i := 29) (v := ?_) rfl (by kernel_rfl) (by kernel_rfl) (by kernel_rfl) (fun _ _ _ h => h) (Or.inl ⟨by kernel_rfl, ?_⟩) (by assumption) ?_
  rotate_left
  · (intro w hSw; (try dsimp only at hSw); go_simp; try (with_reducible rfl))
  refine wpAnyH_ready (rs := [28]) (by kernel_rfl) (by simp) ?_
  refine AllReadyH.cons rfl (fun K hK => ?_) AllReadyH.nil
  go_simp
  refine (H9.out _).mono ?_
  rintro e u1 ⟨rfl, g⟩
  have U1G : (w8.alloc (qObj ns ss ds ts)).grownBy u1 none := grownBy_trans U0G g
  clear g
  go_wp2_with fail
  refine hK.out _ _ (HT.out _ U1G) (fun hHeld => ?_)
  clear hK K
  refine wpAnyH_ready (rs := [30]) (by kernel_rfl) (by simp) ?_
  refine AllReadyH.cons rfl (fun K hK => ?_) AllReadyH.nil
  go_simp
  refine (H10.out _).mono ?_
  rintro e w9 ⟨rfl, g⟩
  have W9G : (w8.alloc (qObj ns ss ds ts)).grownBy w9 none := grownBy_trans U1G g
  clear g
  go_wp2_with fail
  refine hK.out _ _ (HT.out _ W9G) (fun hHeld => ?_)
  clear hK K
  refine wpAnyH_take (i := 31) (v := ?_) rfl (by kernel_rfl) (by kernel_rfl) (by kernel_rfl) (fun _ _ _ h => h) (Or.inl ⟨by kernel_rfl, ?_⟩) (by assumption) ?_
  rotate_left
  · (intro w hSw; (try dsimp only at hSw); go_simp; try (with_reducible rfl))
  refine wpAnyH_take (i := 32) (v := ?_) rfl (by kernel_rfl) (by kernel_rfl) (by kernel_rfl) (fun _ _ _ h => h) (Or.inl ⟨by kernel_rfl, ?_⟩) (by assumption) ?_
  rotate_left
  · (intro w hSw; (try dsimp only at hSw); go_simp; try (with_reducible rfl))
  refine wpAnyH_done (by kernel_rfl) ?_ _
  have U1 := U1G
  have U2 := W9G
  all_goals (
    have g := U2
    have Xb9 : Hid (QBlk w9 w.heap.size (.bool n) (.string s) (.bool d) (.string t)) := Xb8.out.kept (grownBy_trans (grow1 _ _) g) (by simp)
    have Ab9 : Hid (QBlk w9 w3.heap.size (.bool na) (.string sa) (.bool da) (.string ta)) := Ab8.out.kept (grownBy_trans (grow1 _ _) g) (by simp)
    have Bb9 : Hid (QBlk w9 w4.heap.size (.bool nb) (.string sb) (.bool db) (.string tb)) := Bb8.out.kept (grownBy_trans (grow1 _ _) g) (by simp)
    have Cb9 : Hid (WBlk w9 w5.heap.size (.bool nc) (.string sc)) := Cb8.out.kept (grownBy_trans (grow1 _ _) g) (by simp)
    have Db9 : Hid (WBlk w9 w6.heap.size (.bool nd) (.string sd)) := Db8.out.kept (grownBy_trans (grow1 _ _) g) (by simp)
    have Rb9 : Hid (QBlk w9 w7.heap.size (.bool false) (.string eS) (.bool false) (.string eS)) := Rb8.out.kept (grownBy_trans (grow1 _ _) g) (by simp)
    have Sb9 : Hid (QBlk w9 w8.heap.size (.bool ns) (.string ss) (.bool ds) (.string ts)) := QBlk.kept (heap_alloc_new _ _) g (by simp)
    have HG9 : Hid (w.grownBy w9 none) := grownBy_trans HG8.out (grownBy_trans (grow1 _ _) g)
    clear g U1 U2 HG8 Xb8 Ab8 Bb8 Cb8 Db8 Rb8
    have xc0 := Xb9.out.c0
    have xc1 := Xb9.out.c1
    have xc2 := Xb9.out.c2
    have xc3 := Xb9.out.c3
    have xl := Xb9.out.lt
    go_wp2_with fail
    refine (H11.out _).mono ?_
    rintro e w10 ⟨rfl, g⟩
    have Xb10 : Hid (QBlk w10 w.heap.size (.bool n) (.string s) (.bool d) (.string t)) := Xb9.out.kept g (by simp)
    have Ab10 : Hid (QBlk w10 w3.heap.size (.bool na) (.string sa) (.bool da) (.string ta)) := Ab9.out.kept g (by simp)
    have Bb10 : Hid (QBlk w10 w4.heap.size (.bool nb) (.string sb) (.bool db) (.string tb)) := Bb9.out.kept g (by simp)
    have Cb10 : Hid (WBlk w10 w5.heap.size (.bool nc) (.string sc)) := Cb9.out.kept g (by simp)
    have Db10 : Hid (WBlk w10 w6.heap.size (.bool nd) (.string sd)) := Db9.out.kept g (by simp)
    have Rb10 : Hid (QBlk w10 w7.heap.size (.bool false) (.string eS) (.bool false) (.string eS)) := Rb9.out.kept g (by simp)
    have Sb10 : Hid (QBlk w10 w8.heap.size (.bool ns) (.string ss) (.bool ds) (.string ts)) := Sb9.out.kept g (by simp)
    have HG10 : Hid (w.grownBy w10 none) := grownBy_trans HG9.out g
    clear g HG9 Xb9 Ab9 Bb9 Cb9 Db9 Rb9 Sb9 xc0 xc1 xc2 xc3 xl
    have rc0 := Rb10.out.c0
    have rc1 := Rb10.out.c1
    have rc2 := Rb10.out.c2
    have rc3 := Rb10.out.c3
    have rl := Rb10.out.lt
    have HZ : Hid (∀ w', (w10.alloc (qObj false eS false eS)).grownBy w' none → w'.cell? ⟨w3.heap.size, 0, none⟩ = some (.bool na) ∧ w'.cell? ⟨w3.heap.size, 1, none⟩ = some (.string sa) ∧ w'.cell? ⟨w3.heap.size, 2, none⟩ = some (.bool da) ∧ w'.cell? ⟨w3.heap.size, 3, none⟩ = some (.string ta) ∧ w'.cell? ⟨w4.heap.size, 0, none⟩ = some (.bool nb) ∧ w'.cell? ⟨w4.heap.size, 1, none⟩ = some (.string sb) ∧ w'.cell? ⟨w4.heap.size, 2, none⟩ = some (.bool db) ∧ w'.cell? ⟨w4.heap.size, 3, none⟩ = some (.string tb) ∧ w'.cell? ⟨w5.heap.size, 0, none⟩ = some (.bool nc) ∧ w'.cell? ⟨w5.heap.size, 1, none⟩ = some (.string sc) ∧ w'.cell? ⟨w6.heap.size, 0, none⟩ = some (.bool nd) ∧ w'.cell? ⟨w6.heap.size, 1, none⟩ = some (.string sd) ∧ w'.cell? ⟨w.heap.size, 0, none⟩ = some (.bool n) ∧ w'.cell? ⟨w.heap.size, 1, none⟩ = some (.string s) ∧ w'.cell? ⟨w.heap.size, 2, none⟩ = some (.bool d) ∧ w'.cell? ⟨w.heap.size, 3, none⟩ = some (.string t)) := fun w' g => ⟨(Ab10.out.kept (grownBy_trans (grow1 _ _) g) (by simp)).c0, (Ab10.out.kept (grownBy_trans (grow1 _ _) g) (by simp)).c1, (Ab10.out.kept (grownBy_trans (grow1 _ _) g) (by simp)).c2, (Ab10.out.kept (grownBy_trans (grow1 _ _) g) (by simp)).c3, (Bb10.out.kept (grownBy_trans (grow1 _ _) g) (by simp)).c0, (Bb10.out.kept (grownBy_trans (grow1 _ _) g) (by simp)).c1, (Bb10.out.kept (grownBy_trans (grow1 _ _) g) (by simp)).c2, (Bb10.out.kept (grownBy_trans (grow1 _ _) g) (by simp)).c3, (Cb10.out.kept (grownBy_trans (grow1 _ _) g) (by simp)).c0, (Cb10.out.kept (grownBy_trans (grow1 _ _) g) (by simp)).c1, (Db10.out.kept (grownBy_trans (grow1 _ _) g) (by simp)).c0, (Db10.out.kept (grownBy_trans (grow1 _ _) g) (by simp)).c1, (Xb10.out.kept (grownBy_trans (grow1 _ _) g) (by simp)).c0, (Xb10.out.kept (grownBy_trans (grow1 _ _) g) (by simp)).c1, (Xb10.out.kept (grownBy_trans (grow1 _ _) g) (by simp)).c2, (Xb10.out.kept (grownBy_trans (grow1 _ _) g) (by simp)).c3⟩
    go_wp2_with fail
    clear rc0 rc1 rc2 rc3 rl
    go_region_held3 (fun w' => w'.cell? ⟨w3.heap.size, 0, none⟩ = some (.bool na) ∧ w'.cell? ⟨w3.heap.size, 1, none⟩ = some (.string sa) ∧ w'.cell? ⟨w3.heap.size, 2, none⟩ = some (.bool da) ∧ w'.cell? ⟨w3.heap.size, 3, none⟩ = some (.string ta) ∧ w'.cell? ⟨w4.heap.size, 0, none⟩ = some (.bool nb) ∧ w'.cell? ⟨w4.heap.size, 1, none⟩ = some (.string sb) ∧ w'.cell? ⟨w4.heap.size, 2, none⟩ = some (.bool db) ∧ w'.cell? ⟨w4.heap.size, 3, none⟩ = some (.string tb) ∧ w'.cell? ⟨w5.heap.size, 0, none⟩ = some (.bool nc) ∧ w'.cell? ⟨w5.heap.size, 1, none⟩ = some (.string sc) ∧ w'.cell? ⟨w6.heap.size, 0, none⟩ = some (.bool nd) ∧ w'.cell? ⟨w6.heap.size, 1, none⟩ = some (.string sd) ∧ w'.cell? ⟨w.heap.size, 0, none⟩ = some (.bool n) ∧ w'.cell? ⟨w.heap.size, 1, none⟩ = some (.string s) ∧ w'.cell? ⟨w.heap.size, 2, none⟩ = some (.bool d) ∧ w'.cell? ⟨w.heap.size, 3, none⟩ = some (.string t))
      (first | (go_keep; done) | with_reducible exact HZ.out _ (by assumption) | with_reducible exact HZ.out _ (grow_drew (World.grownBy.refl _ _)) | fail)
      (first
        | (go_at_call 24; refine (H12.out _).mono ?_; rintro e v1 ⟨rfl, g⟩; have V1 : (w10.alloc (qObj false eS false eS)).grownBy v1 none := (by first | exact g | exact grownBy_undrew g); clear g)
        | (go_at_call 25; refine (H13.out _).mono ?_; rintro e v3 ⟨rfl, g⟩; have V3 : (w10.alloc (qObj false eS false eS)).grownBy v3 none := grownBy_trans V2 g; clear g)
        | (go_at_call 21; first | (have _q := V3; refine (H17.out _).mono ?_; rintro e v4 ⟨rfl, g⟩; have V4 : (w10.alloc (qObj false eS false eS)).grownBy v4 none := grownBy_trans V3 g; clear g) | (refine (H16.out _).mono ?_; rintro e v2 ⟨rfl, g⟩; have V2 : (w10.alloc (qObj false eS false eS)).grownBy v2 none := grownBy_trans V1 g; clear g))
        | (go_at_call 26; refine (H14.out _).mono ?_; rintro e v5 ⟨rfl, g⟩; have V5 : (w10.alloc (qObj false eS false eS)).grownBy v5 none := grownBy_trans V4 g; clear g)
        | (go_at_call 27; refine (H15.out _).mono ?_; rintro e v6 ⟨rfl, g⟩; have V6 : (w10.alloc (qObj false eS false eS)).grownBy v6 none := grownBy_trans V5 g; clear g)
        | (go_at_call 22; refine (H18.out _).mono ?_; rintro e v7 ⟨rfl, g⟩; have V7 : (w10.alloc (qObj false eS false eS)).grownBy v7 none := grownBy_trans V6 g; clear g)
        | (go_at_call 28; refine (H19.out _).mono ?_; rintro e v8 ⟨rfl, g⟩; have V8 : (w10.alloc (qObj false eS false eS)).grownBy v8 none := grownBy_trans V7 g; clear g)
        | (go_at_call 10; refine (HK.out _ (grownBy_trans HG10.out (grownBy_trans (grow1 _ _) V8))).mono ?_; rintro e v9 ⟨rfl, g⟩; have V9 : (w10.alloc (qObj false eS false eS)).grownBy v9 none := grownBy_trans V8 g; clear g)
        | fail)
    go_wp2_with fail
    go_ret
    exact ⟨rfl, grownBy_trans HG10.out (grownBy_trans (grow1 _ _) V9)⟩)
end Go.Proofs.YtdfliaogmlpefaaGreatDoor
