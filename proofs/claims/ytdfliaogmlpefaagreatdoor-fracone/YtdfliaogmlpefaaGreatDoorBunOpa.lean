/-
  FracOne.
  FracOne.
-/
import Derived.Test.YtdfliaogmlpefaaGreatDoorBunFre
import Derived.Deep.RegionWith
import Derived.Deep.RegionHeld3
namespace Go.Proofs.YtdfliaogmlpefaaGreatDoor
open Go.RowKit Go.Lib Go.Sort
set_option linter.unusedVariables false
set_option linter.unusedSimpArgs false
set_option maxHeartbeats 12800000
set_option maxRecDepth 1000000
theorem one_bad0 (n d ni di : Bool) (s t si ti : ByteArray) (x : Int) (w : World)
    (HL : Hid (∀ (W : World) (B : Nat), W.heap[B]? = some (.cells #[.bool n, .string s, .bool d, .string t] 25 (0, 0)) → Calls Tryz.prog 9 #[.int .i64 1100, .slice (some ⟨B, 0, none⟩) 1 1] W fun e w' => e = .returned (.bool false) ∧ W.grownBy w' none))
    (H1 : Hid (∀ w, Calls Tryz.prog 11 #[frac n s d t] w fun e w' => e = .returned (.bool false) ∧ w.grownBy w' none))
    (H2 : Hid (∀ w, Calls Tryz.prog 12 #[frac n s d t] w fun e w' => e = .returned (.tuple #[frac false eS false eS, .int .i64 2]) ∧ w.grownBy w' none))
    (H3 : Hid (∀ w, Calls Tryz.prog 13 #[frac n s d t] w fun e w' => e = .returned (.tuple #[frac false eS false eS, .int .i64 2]) ∧ w.grownBy w' none))
    (H4 : Hid (∀ w, Calls Tryz.prog 14 #[frac n s d t] w fun e w' => e = .returned (.tuple #[whole false eS, .int .i64 2]) ∧ w.grownBy w' none))
    (H5 : Hid (∀ w, Calls Tryz.prog 15 #[frac n s d t] w fun e w' => e = .returned (.tuple #[whole false eS, .int .i64 2]) ∧ w.grownBy w' none))
    (H6 : Hid (∀ w, Calls Tryz.prog 16 #[frac n s d t] w fun e w' => e = .returned (.tuple #[frac false eS false eS, .int .i64 2]) ∧ w.grownBy w' none))
    (H7 : Hid (∀ w, Calls Tryz.prog 17 #[.int .i64 x, .int .i64 0] w fun e w' => e = .returned (.tuple #[frac false eS false eS, .int .i64 5]) ∧ w.grownBy w' none))
    (H9 : Hid (∀ w, Calls Tryz.prog 19 #[.int .i64 x] w fun e w' => e = .returned (frac ni si di ti) ∧ w.grownBy w' none))
    (H10 : Hid (∀ w, Calls Tryz.prog 20 #[.int .i64 x] w fun e w' => e = .returned (frac ni si di ti) ∧ w.grownBy w' none))
    (H16 : Hid (∀ w, Calls Tryz.prog 21 #[frac false eS false eS, .int .i64 2, frac n s d t, .bool false] w fun e w' => e = .returned (.bool true) ∧ w.grownBy w' none))
    (H18 : Hid (∀ w, Calls Tryz.prog 22 #[frac n s d t] w fun e w' => e = .returned (.int .i64 0) ∧ w.grownBy w' none))
    (HK : Hid (∀ W, w.grownBy W none → Calls Tryz.prog 10 #[] W fun e w' => e = .returned (.bool true) ∧ W.grownBy w' none)) :
    Calls Tryz.prog 3 #[frac n s d t, .int .i64 x, .int .i64 0] w fun e w' => e = .returned (.bool true) ∧ w.grownBy w' none := by
  go_enter Tryz.func3, Tryz.ntmps3
  go_wp2_with fail
  refine (HL.out _ _ ?hb).mono ?_
  case hb => exact heap_alloc2_new _ _ _
  rintro e w1 ⟨rfl, g⟩
  have Xb1 : Hid (QBlk w1 w.heap.size (.bool n) (.string s) (.bool d) (.string t)) := QBlk.kept (at_alloc1 _ _ _) g (by simp)
  have HG1 : Hid (w.grownBy w1 none) := grownBy_trans (grow2 _ _ _) g
  clear g HL
  have xc0 := Xb1.out.c0
  have xc1 := Xb1.out.c1
  have xc2 := Xb1.out.c2
  have xc3 := Xb1.out.c3
  have xl := Xb1.out.lt
  go_wp2_with fail
  refine (H1.out _).mono ?_
  rintro e w2 ⟨rfl, g⟩
  have Xb2 : Hid (QBlk w2 w.heap.size (.bool n) (.string s) (.bool d) (.string t)) := Xb1.out.kept g (by simp)
  have HG2 : Hid (w.grownBy w2 none) := grownBy_trans HG1.out g
  clear g HG1 Xb1 xc0 xc1 xc2 xc3 xl
  have xc0 := Xb2.out.c0
  have xc1 := Xb2.out.c1
  have xc2 := Xb2.out.c2
  have xc3 := Xb2.out.c3
  have xl := Xb2.out.lt
  go_wp2_with fail
  refine (H2.out _).mono ?_
  rintro e w3 ⟨rfl, g⟩
  have Xb3 : Hid (QBlk w3 w.heap.size (.bool n) (.string s) (.bool d) (.string t)) := Xb2.out.kept g (by simp)
  have HG3 : Hid (w.grownBy w3 none) := grownBy_trans HG2.out g
  clear g HG2 Xb2 xc0 xc1 xc2 xc3 xl
  have xc0 := Xb3.out.c0
  have xc1 := Xb3.out.c1
  have xc2 := Xb3.out.c2
  have xc3 := Xb3.out.c3
  have xl := Xb3.out.lt
  go_wp2_with fail
  refine (H3.out _).mono ?_
  rintro e w4 ⟨rfl, g⟩
  have Xb4 : Hid (QBlk w4 w.heap.size (.bool n) (.string s) (.bool d) (.string t)) := Xb3.out.kept (grownBy_trans (grow1 _ _) g) (by simp)
  have Ab4 : Hid (QBlk w4 w3.heap.size (.bool false) (.string eS) (.bool false) (.string eS)) := QBlk.kept (heap_alloc_new _ _) g (by simp)
  have HG4 : Hid (w.grownBy w4 none) := grownBy_trans HG3.out (grownBy_trans (grow1 _ _) g)
  clear g HG3 Xb3 xc0 xc1 xc2 xc3 xl
  have xc0 := Xb4.out.c0
  have xc1 := Xb4.out.c1
  have xc2 := Xb4.out.c2
  have xc3 := Xb4.out.c3
  have xl := Xb4.out.lt
  go_wp2_with fail
  refine (H4.out _).mono ?_
  rintro e w5 ⟨rfl, g⟩
  have Xb5 : Hid (QBlk w5 w.heap.size (.bool n) (.string s) (.bool d) (.string t)) := Xb4.out.kept (grownBy_trans (grow1 _ _) g) (by simp)
  have Ab5 : Hid (QBlk w5 w3.heap.size (.bool false) (.string eS) (.bool false) (.string eS)) := Ab4.out.kept (grownBy_trans (grow1 _ _) g) (by simp)
  have Bb5 : Hid (QBlk w5 w4.heap.size (.bool false) (.string eS) (.bool false) (.string eS)) := QBlk.kept (heap_alloc_new _ _) g (by simp)
  have HG5 : Hid (w.grownBy w5 none) := grownBy_trans HG4.out (grownBy_trans (grow1 _ _) g)
  clear g HG4 Xb4 Ab4 xc0 xc1 xc2 xc3 xl
  have xc0 := Xb5.out.c0
  have xc1 := Xb5.out.c1
  have xc2 := Xb5.out.c2
  have xc3 := Xb5.out.c3
  have xl := Xb5.out.lt
  go_wp2_with fail
  refine (H5.out _).mono ?_
  rintro e w6 ⟨rfl, g⟩
  have Xb6 : Hid (QBlk w6 w.heap.size (.bool n) (.string s) (.bool d) (.string t)) := Xb5.out.kept (grownBy_trans (grow1 _ _) g) (by simp)
  have Ab6 : Hid (QBlk w6 w3.heap.size (.bool false) (.string eS) (.bool false) (.string eS)) := Ab5.out.kept (grownBy_trans (grow1 _ _) g) (by simp)
  have Bb6 : Hid (QBlk w6 w4.heap.size (.bool false) (.string eS) (.bool false) (.string eS)) := Bb5.out.kept (grownBy_trans (grow1 _ _) g) (by simp)
  have Cb6 : Hid (WBlk w6 w5.heap.size (.bool false) (.string eS)) := WBlk.kept (heap_alloc_new _ _) g (by simp)
  have HG6 : Hid (w.grownBy w6 none) := grownBy_trans HG5.out (grownBy_trans (grow1 _ _) g)
  clear g HG5 Xb5 Ab5 Bb5 xc0 xc1 xc2 xc3 xl
  have xc0 := Xb6.out.c0
  have xc1 := Xb6.out.c1
  have xc2 := Xb6.out.c2
  have xc3 := Xb6.out.c3
  have xl := Xb6.out.lt
  go_wp2_with fail
  refine (H6.out _).mono ?_
  rintro e w7 ⟨rfl, g⟩
  have Xb7 : Hid (QBlk w7 w.heap.size (.bool n) (.string s) (.bool d) (.string t)) := Xb6.out.kept (grownBy_trans (grow1 _ _) g) (by simp)
  have Ab7 : Hid (QBlk w7 w3.heap.size (.bool false) (.string eS) (.bool false) (.string eS)) := Ab6.out.kept (grownBy_trans (grow1 _ _) g) (by simp)
  have Bb7 : Hid (QBlk w7 w4.heap.size (.bool false) (.string eS) (.bool false) (.string eS)) := Bb6.out.kept (grownBy_trans (grow1 _ _) g) (by simp)
  have Cb7 : Hid (WBlk w7 w5.heap.size (.bool false) (.string eS)) := Cb6.out.kept (grownBy_trans (grow1 _ _) g) (by simp)
  have Db7 : Hid (WBlk w7 w6.heap.size (.bool false) (.string eS)) := WBlk.kept (heap_alloc_new _ _) g (by simp)
  have HG7 : Hid (w.grownBy w7 none) := grownBy_trans HG6.out (grownBy_trans (grow1 _ _) g)
  clear g HG6 Xb6 Ab6 Bb6 Cb6 xc0 xc1 xc2 xc3 xl
  go_wp2_with fail
  refine (H7.out _).mono ?_
  rintro e w8 ⟨rfl, g⟩
  have Xb8 : Hid (QBlk w8 w.heap.size (.bool n) (.string s) (.bool d) (.string t)) := Xb7.out.kept (grownBy_trans (grow1 _ _) g) (by simp)
  have Ab8 : Hid (QBlk w8 w3.heap.size (.bool false) (.string eS) (.bool false) (.string eS)) := Ab7.out.kept (grownBy_trans (grow1 _ _) g) (by simp)
  have Bb8 : Hid (QBlk w8 w4.heap.size (.bool false) (.string eS) (.bool false) (.string eS)) := Bb7.out.kept (grownBy_trans (grow1 _ _) g) (by simp)
  have Cb8 : Hid (WBlk w8 w5.heap.size (.bool false) (.string eS)) := Cb7.out.kept (grownBy_trans (grow1 _ _) g) (by simp)
  have Db8 : Hid (WBlk w8 w6.heap.size (.bool false) (.string eS)) := Db7.out.kept (grownBy_trans (grow1 _ _) g) (by simp)
  have Rb8 : Hid (QBlk w8 w7.heap.size (.bool false) (.string eS) (.bool false) (.string eS)) := QBlk.kept (heap_alloc_new _ _) g (by simp)
  have HG8 : Hid (w.grownBy w8 none) := grownBy_trans HG7.out (grownBy_trans (grow1 _ _) g)
  clear g HG7 Xb7 Ab7 Bb7 Cb7 Db7
  have HT : Hid (∀ w', (w8.alloc (qObj false eS false eS)).grownBy w' none → w'.cell? ⟨w8.heap.size, 0, none⟩ = some (.bool false) ∧ w'.cell? ⟨w8.heap.size, 1, none⟩ = some (.string eS) ∧ w'.cell? ⟨w8.heap.size, 2, none⟩ = some (.bool false) ∧ w'.cell? ⟨w8.heap.size, 3, none⟩ = some (.string eS)) := fun w' g => by
    have h : QBlk w' w8.heap.size (.bool false) (.string eS) (.bool false) (.string eS) := QBlk.kept (heap_alloc_new _ _) g (by simp)
    exact ⟨h.c0, h.c1, h.c2, h.c3⟩
  go_wp2_with fail
  refine wp_region_held_drew (S := fun w' => w'.cell? ⟨w8.heap.size, 0, none⟩ = some (.bool false) ∧ w'.cell? ⟨w8.heap.size, 1, none⟩ = some (.string eS) ∧ w'.cell? ⟨w8.heap.size, 2, none⟩ = some (.bool false) ∧ w'.cell? ⟨w8.heap.size, 3, none⟩ = some (.string eS)) (by kernel_rfl) (HT.out _ (grow_drew (World.grownBy.refl _ _))) (fun hHeld => ?_)
  refine wpAnyH_take (i := 0) (v := ?_) rfl (by kernel_rfl) (by kernel_rfl) (by kernel_rfl) (fun _ _ _ h => h) (Or.inl ⟨by kernel_rfl, ?_⟩) (by assumption) ?_
  rotate_left
  · (intro w hSw; (try dsimp only at hSw); go_simp; try (with_reducible rfl))
  refine wpAnyH_take (i := 1) (v := ?_) rfl (by kernel_rfl) (by kernel_rfl) (by kernel_rfl) (fun _ _ _ h => h) (Or.inl ⟨by kernel_rfl, ?_⟩) (by assumption) ?_
  rotate_left
  · (intro w hSw; (try dsimp only at hSw); go_simp; try (with_reducible rfl))
  refine wpAnyH_take (i := 2) (v := ?_) rfl (by kernel_rfl) (by kernel_rfl) (by kernel_rfl) (fun _ _ _ h => h) (Or.inl ⟨by kernel_rfl, ?_⟩) (by assumption) ?_
  rotate_left
  · (intro w hSw; (try dsimp only at hSw); go_simp; try (with_reducible rfl))
  refine wpAnyH_take (i := 3) (v := ?_) rfl (by kernel_rfl) (by kernel_rfl) (by kernel_rfl) (fun _ _ _ h => h) (Or.inl ⟨by kernel_rfl, ?_⟩) (by assumption) ?_
  rotate_left
  · (intro w hSw; (try dsimp only at hSw); go_simp; try (with_reducible rfl))
  refine wpAnyH_take (i := 4) (v := ?_) rfl (by kernel_rfl) (by kernel_rfl) (by kernel_rfl) (fun _ _ _ h => h) (Or.inl ⟨by kernel_rfl, ?_⟩) (by assumption) ?_
  rotate_left
  · (intro w hSw; (try dsimp only at hSw); go_simp; try (with_reducible rfl))
  refine wpAnyH_take (i := 5) (v := ?_) rfl (by kernel_rfl) (by kernel_rfl) (by kernel_rfl) (fun _ _ _ h => h) (Or.inl ⟨by kernel_rfl, ?_⟩) (by assumption) ?_
  rotate_left
  · (intro w hSw; (try dsimp only at hSw); go_simp; try (with_reducible rfl))
  refine wpAnyH_take (i := 6) (v := ?_) rfl (by kernel_rfl) (by kernel_rfl) (by kernel_rfl) (fun _ _ _ h => h) (Or.inl ⟨by kernel_rfl, ?_⟩) (by assumption) ?_
  rotate_left
  · (intro w hSw; (try dsimp only at hSw); go_simp; try (with_reducible rfl))
  refine wpAnyH_take (i := 7) (v := ?_) rfl (by kernel_rfl) (by kernel_rfl) (by kernel_rfl) (fun _ _ _ h => h) (Or.inl ⟨by kernel_rfl, ?_⟩) (by assumption) ?_
  rotate_left
  · (intro w hSw; (try dsimp only at hSw); go_simp; try (with_reducible rfl))
  refine wpAnyH_take (i := 8) (v := ?_) rfl (by kernel_rfl) (by kernel_rfl) (by kernel_rfl) (fun _ _ _ h => h) (Or.inl ⟨by kernel_rfl, ?_⟩) (by assumption) ?_
  rotate_left
  · (intro w hSw; (try dsimp only at hSw); go_simp; try (with_reducible rfl))
  refine wpAnyH_take (i := 9) (v := ?_) rfl (by kernel_rfl) (by kernel_rfl) (by kernel_rfl) (fun _ _ _ h => h) (Or.inl ⟨by kernel_rfl, ?_⟩) (by assumption) ?_
  rotate_left
  · (intro w hSw; (try dsimp only at hSw); go_simp; try (with_reducible rfl))
  refine wpAnyH_take (i := 10) (v := ?_) rfl (by kernel_rfl) (by kernel_rfl) (by kernel_rfl) (fun _ _ _ h => h) (Or.inl ⟨by kernel_rfl, ?_⟩) (by assumption) ?_
  rotate_left
  · (intro w hSw; (try dsimp only at hSw); go_simp; try (with_reducible rfl))
  refine wpAnyH_take (i := 11) (v := ?_) rfl (by kernel_rfl) (by kernel_rfl) (by kernel_rfl) (fun _ _ _ h => h) (Or.inl ⟨by kernel_rfl, ?_⟩) (by assumption) ?_
  rotate_left
  · (intro w hSw; (try dsimp only at hSw); go_simp; try (with_reducible rfl))
  refine wpAnyH_take (i := 12) (v := ?_) rfl (by kernel_rfl) (by kernel_rfl) (by kernel_rfl) (fun _ _ _ h => h) (Or.inl ⟨by kernel_rfl, ?_⟩) (by assumption) ?_
  rotate_left
  · (intro w hSw; (try dsimp only at hSw); go_simp; try (with_reducible rfl))
  refine wpAnyH_take (i := 13) (v := ?_) rfl (by kernel_rfl) (by kernel_rfl) (by kernel_rfl) (fun _ _ _ h => h) (Or.inl ⟨by kernel_rfl, ?_⟩) (by assumption) ?_
  rotate_left
  · (intro w hSw; (try dsimp only at hSw); go_simp; try (with_reducible rfl))
  refine wpAnyH_take (i := 14) (v := ?_) rfl (by kernel_rfl) (by kernel_rfl) (by kernel_rfl) (fun _ _ _ h => h) (Or.inl ⟨by kernel_rfl, ?_⟩) (by assumption) ?_
  rotate_left
  · (intro w hSw; (try dsimp only at hSw); go_simp; try (with_reducible rfl))
  refine wpAnyH_take (i := 15) (v := undef) rfl (by kernel_rfl) (by kernel_rfl) (by kernel_rfl) (fun _ _ _ h => h) (Or.inr ⟨by kernel_rfl, rfl⟩) (by assumption) ?_
  refine wpAnyH_take (i := 16) (v := undef) rfl (by kernel_rfl) (by kernel_rfl) (by kernel_rfl) (fun _ _ _ h => h) (Or.inr ⟨by kernel_rfl, rfl⟩) (by assumption) ?_
  refine wpAnyH_take (i := 17) (v := undef) rfl (by kernel_rfl) (by kernel_rfl) (by kernel_rfl) (fun _ _ _ h => h) (Or.inr ⟨by kernel_rfl, rfl⟩) (by assumption) ?_
  refine wpAnyH_take (i := 18) (v := undef) rfl (by kernel_rfl) (by kernel_rfl) (by kernel_rfl) (fun _ _ _ h => h) (Or.inr ⟨by kernel_rfl, rfl⟩) (by assumption) ?_
  refine wpAnyH_take (i := 19) (v := undef) rfl (by kernel_rfl) (by kernel_rfl) (by kernel_rfl) (fun _ _ _ h => h) (Or.inr ⟨by kernel_rfl, rfl⟩) (by assumption) ?_
  refine wpAnyH_take (i := 20) (v := undef) rfl (by kernel_rfl) (by kernel_rfl) (by kernel_rfl) (fun _ _ _ h => h) (Or.inr ⟨by kernel_rfl, rfl⟩) (by assumption) ?_
  refine wpAnyH_take (i := 21) (v := undef) rfl (by kernel_rfl) (by kernel_rfl) (by kernel_rfl) (fun _ _ _ h => h) (Or.inr ⟨by kernel_rfl, rfl⟩) (by assumption) ?_
  refine wpAnyH_take (i := 22) (v := undef) rfl (by kernel_rfl) (by kernel_rfl) (by kernel_rfl) (fun _ _ _ h => h) (Or.inr ⟨by kernel_rfl, rfl⟩) (by assumption) ?_
  refine wpAnyH_take (i := 23) (v := undef) rfl (by kernel_rfl) (by kernel_rfl) (by kernel_rfl) (fun _ _ _ h => h) (Or.inr ⟨by kernel_rfl, rfl⟩) (by assumption) ?_
  refine wpAnyH_take (i := 24) (v := ?_) rfl (by kernel_rfl) (by kernel_rfl) (by kernel_rfl) (fun _ _ _ h => h) (Or.inl ⟨by kernel_rfl, ?_⟩) (by assumption) ?_
  rotate_left
  · (intro w hSw; (try dsimp only at hSw); go_simp; try (with_reducible rfl))
  refine wpAnyH_take (i := 25) (v := ?_) rfl (by kernel_rfl) (by kernel_rfl) (by kernel_rfl) (fun _ _ _ h => h) (Or.inl ⟨by kernel_rfl, ?_⟩) (by assumption) ?_
  rotate_left
  · (intro w hSw; (try dsimp only at hSw); go_simp; try (with_reducible rfl))
  refine wpAnyH_take (i := 26) (v := ?_) rfl (by kernel_rfl) (by kernel_rfl) (by kernel_rfl) (fun _ _ _ h => h) (Or.inl ⟨by kernel_rfl, ?_⟩) (by assumption) ?_
  rotate_left
  · (intro w hSw; (try dsimp only at hSw); go_simp; try (with_reducible rfl))
  refine wpAnyH_take (i := 27) (v := ?_) rfl (by kernel_rfl) (by kernel_rfl) (by kernel_rfl) (fun _ _ _ h => h) (Or.inl ⟨by kernel_rfl, ?_⟩) (by assumption) ?_
  rotate_left
  · (intro w hSw; (try dsimp only at hSw); go_simp; try (with_reducible rfl))
  refine wpAnyH_take (i := 29) (v := ?_) rfl (by kernel_rfl) (by kernel_rfl) (by kernel_rfl) (fun _ _ _ h => h) (Or.inl ⟨by kernel_rfl, ?_⟩) (by assumption) ?_
  rotate_left
  · (intro w hSw; (try dsimp only at hSw); go_simp; try (with_reducible rfl))
  refine wpAnyH_ready (rs := [28]) (by kernel_rfl) (by simp) ?_
  refine AllReadyH.cons rfl (fun K hK => ?_) AllReadyH.nil
  go_simp
  refine (H9.out _).mono ?_
  rintro e u1 ⟨rfl, g⟩
  have U1G : (w8.alloc (qObj false eS false eS)).grownBy u1 none := (by first | exact g | exact grownBy_undrew g)
  clear g
  go_wp2_with fail
  refine hK.out _ _ (HT.out _ U1G) (fun hHeld => ?_)
  clear hK K
  refine wpAnyH_ready (rs := [30]) (by kernel_rfl) (by simp) ?_
  refine AllReadyH.cons rfl (fun K hK => ?_) AllReadyH.nil
  go_simp
  refine (H10.out _).mono ?_
  rintro e w9 ⟨rfl, g⟩
  have W9G : (w8.alloc (qObj false eS false eS)).grownBy w9 none := grownBy_trans U1G g
  clear g
  go_wp2_with fail
  refine hK.out _ _ (HT.out _ W9G) (fun hHeld => ?_)
  clear hK K
  refine wpAnyH_take (i := 31) (v := ?_) rfl (by kernel_rfl) (by kernel_rfl) (by kernel_rfl) (fun _ _ _ h => h) (Or.inl ⟨by kernel_rfl, ?_⟩) (by assumption) ?_
  rotate_left
  · (intro w hSw; (try dsimp only at hSw); go_simp; try (with_reducible rfl))
  refine wpAnyH_take (i := 32) (v := ?_) rfl (by kernel_rfl) (by kernel_rfl) (by kernel_rfl) (fun _ _ _ h => h) (Or.inl ⟨by kernel_rfl, ?_⟩) (by assumption) ?_
  rotate_left
  · (intro w hSw; (try dsimp only at hSw); go_simp; try (with_reducible rfl))
  refine wpAnyH_done (by kernel_rfl) ?_ _
  have U1 := U1G
  have U2 := W9G
  all_goals (
    have g := U2
    have Xb9 : Hid (QBlk w9 w.heap.size (.bool n) (.string s) (.bool d) (.string t)) := Xb8.out.kept (grownBy_trans (grow1 _ _) g) (by simp)
    have Ab9 : Hid (QBlk w9 w3.heap.size (.bool false) (.string eS) (.bool false) (.string eS)) := Ab8.out.kept (grownBy_trans (grow1 _ _) g) (by simp)
    have Bb9 : Hid (QBlk w9 w4.heap.size (.bool false) (.string eS) (.bool false) (.string eS)) := Bb8.out.kept (grownBy_trans (grow1 _ _) g) (by simp)
    have Cb9 : Hid (WBlk w9 w5.heap.size (.bool false) (.string eS)) := Cb8.out.kept (grownBy_trans (grow1 _ _) g) (by simp)
    have Db9 : Hid (WBlk w9 w6.heap.size (.bool false) (.string eS)) := Db8.out.kept (grownBy_trans (grow1 _ _) g) (by simp)
    have Rb9 : Hid (QBlk w9 w7.heap.size (.bool false) (.string eS) (.bool false) (.string eS)) := Rb8.out.kept (grownBy_trans (grow1 _ _) g) (by simp)
    have Sb9 : Hid (QBlk w9 w8.heap.size (.bool false) (.string eS) (.bool false) (.string eS)) := QBlk.kept (heap_alloc_new _ _) g (by simp)
    have HG9 : Hid (w.grownBy w9 none) := grownBy_trans HG8.out (grownBy_trans (grow1 _ _) g)
    clear g U1 U2 HG8 Xb8 Ab8 Bb8 Cb8 Db8 Rb8
    have ac0 := Ab9.out.c0
    have ac1 := Ab9.out.c1
    have ac2 := Ab9.out.c2
    have ac3 := Ab9.out.c3
    have al := Ab9.out.lt
    have xc0 := Xb9.out.c0
    have xc1 := Xb9.out.c1
    have xc2 := Xb9.out.c2
    have xc3 := Xb9.out.c3
    have xl := Xb9.out.lt
    go_wp2_with fail
    refine (H16.out _).mono ?_
    rintro e w10 ⟨rfl, g⟩
    have Xb10 : Hid (QBlk w10 w.heap.size (.bool n) (.string s) (.bool d) (.string t)) := Xb9.out.kept g (by simp)
    have Ab10 : Hid (QBlk w10 w3.heap.size (.bool false) (.string eS) (.bool false) (.string eS)) := Ab9.out.kept g (by simp)
    have Bb10 : Hid (QBlk w10 w4.heap.size (.bool false) (.string eS) (.bool false) (.string eS)) := Bb9.out.kept g (by simp)
    have Cb10 : Hid (WBlk w10 w5.heap.size (.bool false) (.string eS)) := Cb9.out.kept g (by simp)
    have Db10 : Hid (WBlk w10 w6.heap.size (.bool false) (.string eS)) := Db9.out.kept g (by simp)
    have Rb10 : Hid (QBlk w10 w7.heap.size (.bool false) (.string eS) (.bool false) (.string eS)) := Rb9.out.kept g (by simp)
    have Sb10 : Hid (QBlk w10 w8.heap.size (.bool false) (.string eS) (.bool false) (.string eS)) := Sb9.out.kept g (by simp)
    have HG10 : Hid (w.grownBy w10 none) := grownBy_trans HG9.out g
    clear g HG9 Xb9 Ab9 Bb9 Cb9 Db9 Rb9 Sb9 ac0 ac1 ac2 ac3 al xc0 xc1 xc2 xc3 xl
    have bc0 := Bb10.out.c0
    have bc1 := Bb10.out.c1
    have bc2 := Bb10.out.c2
    have bc3 := Bb10.out.c3
    have bl := Bb10.out.lt
    have xc0 := Xb10.out.c0
    have xc1 := Xb10.out.c1
    have xc2 := Xb10.out.c2
    have xc3 := Xb10.out.c3
    have xl := Xb10.out.lt
    go_wp2_with fail
    refine (H16.out _).mono ?_
    rintro e w11 ⟨rfl, g⟩
    have Xb11 : Hid (QBlk w11 w.heap.size (.bool n) (.string s) (.bool d) (.string t)) := Xb10.out.kept g (by simp)
    have Ab11 : Hid (QBlk w11 w3.heap.size (.bool false) (.string eS) (.bool false) (.string eS)) := Ab10.out.kept g (by simp)
    have Bb11 : Hid (QBlk w11 w4.heap.size (.bool false) (.string eS) (.bool false) (.string eS)) := Bb10.out.kept g (by simp)
    have Cb11 : Hid (WBlk w11 w5.heap.size (.bool false) (.string eS)) := Cb10.out.kept g (by simp)
    have Db11 : Hid (WBlk w11 w6.heap.size (.bool false) (.string eS)) := Db10.out.kept g (by simp)
    have Rb11 : Hid (QBlk w11 w7.heap.size (.bool false) (.string eS) (.bool false) (.string eS)) := Rb10.out.kept g (by simp)
    have Sb11 : Hid (QBlk w11 w8.heap.size (.bool false) (.string eS) (.bool false) (.string eS)) := Sb10.out.kept g (by simp)
    have HG11 : Hid (w.grownBy w11 none) := grownBy_trans HG10.out g
    clear g HG10 Xb10 Ab10 Bb10 Cb10 Db10 Rb10 Sb10 bc0 bc1 bc2 bc3 bl xc0 xc1 xc2 xc3 xl
    have cc0 := Cb11.out.c0
    have cc1 := Cb11.out.c1
    have cl := Cb11.out.lt
    have dc0 := Db11.out.c0
    have dc1 := Db11.out.c1
    have dl := Db11.out.lt
    have rc0 := Rb11.out.c0
    have rc1 := Rb11.out.c1
    have rc2 := Rb11.out.c2
    have rc3 := Rb11.out.c3
    have rl := Rb11.out.lt
    have xc0 := Xb11.out.c0
    have xc1 := Xb11.out.c1
    have xc2 := Xb11.out.c2
    have xc3 := Xb11.out.c3
    have xl := Xb11.out.lt
    go_wp2_with fail
    refine (H18.out _).mono ?_
    rintro e w12 ⟨rfl, g⟩
    have Xb12 : Hid (QBlk w12 w.heap.size (.bool n) (.string s) (.bool d) (.string t)) := Xb11.out.kept g (by simp)
    have Ab12 : Hid (QBlk w12 w3.heap.size (.bool false) (.string eS) (.bool false) (.string eS)) := Ab11.out.kept g (by simp)
    have Bb12 : Hid (QBlk w12 w4.heap.size (.bool false) (.string eS) (.bool false) (.string eS)) := Bb11.out.kept g (by simp)
    have Cb12 : Hid (WBlk w12 w5.heap.size (.bool false) (.string eS)) := Cb11.out.kept g (by simp)
    have Db12 : Hid (WBlk w12 w6.heap.size (.bool false) (.string eS)) := Db11.out.kept g (by simp)
    have Rb12 : Hid (QBlk w12 w7.heap.size (.bool false) (.string eS) (.bool false) (.string eS)) := Rb11.out.kept g (by simp)
    have Sb12 : Hid (QBlk w12 w8.heap.size (.bool false) (.string eS) (.bool false) (.string eS)) := Sb11.out.kept g (by simp)
    have HG12 : Hid (w.grownBy w12 none) := grownBy_trans HG11.out g
    clear g HG11 Xb11 Ab11 Bb11 Cb11 Db11 Rb11 Sb11 cc0 cc1 cl dc0 dc1 dl rc0 rc1 rc2 rc3 rl xc0 xc1 xc2 xc3 xl
    go_wp2_with fail
    refine (HK.out _ HG12.out).mono ?_
    rintro e w13 ⟨rfl, g⟩
    go_wp2_with fail
    go_ret
    exact ⟨rfl, grownBy_trans HG12.out g⟩)
theorem one_bad1 (n d ni di ns ds : Bool) (s t si ti ss ts : ByteArray) (x m : Int) (hm : ¬ m = 0) (w : World)
    (HL : Hid (∀ (W : World) (B : Nat), W.heap[B]? = some (.cells #[.bool n, .string s, .bool d, .string t] 25 (0, 0)) → Calls Tryz.prog 9 #[.int .i64 1100, .slice (some ⟨B, 0, none⟩) 1 1] W fun e w' => e = .returned (.bool false) ∧ W.grownBy w' none))
    (H1 : Hid (∀ w, Calls Tryz.prog 11 #[frac n s d t] w fun e w' => e = .returned (.bool false) ∧ w.grownBy w' none))
    (H2 : Hid (∀ w, Calls Tryz.prog 12 #[frac n s d t] w fun e w' => e = .returned (.tuple #[frac false eS false eS, .int .i64 2]) ∧ w.grownBy w' none))
    (H3 : Hid (∀ w, Calls Tryz.prog 13 #[frac n s d t] w fun e w' => e = .returned (.tuple #[frac false eS false eS, .int .i64 2]) ∧ w.grownBy w' none))
    (H4 : Hid (∀ w, Calls Tryz.prog 14 #[frac n s d t] w fun e w' => e = .returned (.tuple #[whole false eS, .int .i64 2]) ∧ w.grownBy w' none))
    (H5 : Hid (∀ w, Calls Tryz.prog 15 #[frac n s d t] w fun e w' => e = .returned (.tuple #[whole false eS, .int .i64 2]) ∧ w.grownBy w' none))
    (H6 : Hid (∀ w, Calls Tryz.prog 16 #[frac n s d t] w fun e w' => e = .returned (.tuple #[frac false eS false eS, .int .i64 2]) ∧ w.grownBy w' none))
    (H7 : Hid (∀ w, Calls Tryz.prog 17 #[.int .i64 x, .int .i64 m] w fun e w' => e = .returned (.tuple #[frac ns ss ds ts, .int .i64 0]) ∧ w.grownBy w' none))
    (H8 : Hid (∀ w, Calls Tryz.prog 18 #[.int .i64 x, .int .i64 m] w fun e w' => e = .returned (frac ns ss ds ts) ∧ w.grownBy w' none))
    (H9 : Hid (∀ w, Calls Tryz.prog 19 #[.int .i64 x] w fun e w' => e = .returned (frac ni si di ti) ∧ w.grownBy w' none))
    (H10 : Hid (∀ w, Calls Tryz.prog 20 #[.int .i64 x] w fun e w' => e = .returned (frac ni si di ti) ∧ w.grownBy w' none))
    (H16 : Hid (∀ w, Calls Tryz.prog 21 #[frac false eS false eS, .int .i64 2, frac n s d t, .bool false] w fun e w' => e = .returned (.bool true) ∧ w.grownBy w' none))
    (H18 : Hid (∀ w, Calls Tryz.prog 22 #[frac n s d t] w fun e w' => e = .returned (.int .i64 0) ∧ w.grownBy w' none))
    (HK : Hid (∀ W, w.grownBy W none → Calls Tryz.prog 10 #[] W fun e w' => e = .returned (.bool true) ∧ W.grownBy w' none)) :
    Calls Tryz.prog 3 #[frac n s d t, .int .i64 x, .int .i64 m] w fun e w' => e = .returned (.bool true) ∧ w.grownBy w' none := by
  go_enter Tryz.func3, Tryz.ntmps3
  go_wp2_with fail
  refine (HL.out _ _ ?hb).mono ?_
  case hb => exact heap_alloc2_new _ _ _
  rintro e w1 ⟨rfl, g⟩
  have Xb1 : Hid (QBlk w1 w.heap.size (.bool n) (.string s) (.bool d) (.string t)) := QBlk.kept (at_alloc1 _ _ _) g (by simp)
  have HG1 : Hid (w.grownBy w1 none) := grownBy_trans (grow2 _ _ _) g
  clear g HL
  have xc0 := Xb1.out.c0
  have xc1 := Xb1.out.c1
  have xc2 := Xb1.out.c2
  have xc3 := Xb1.out.c3
  have xl := Xb1.out.lt
  go_wp2_with fail
  refine (H1.out _).mono ?_
  rintro e w2 ⟨rfl, g⟩
  have Xb2 : Hid (QBlk w2 w.heap.size (.bool n) (.string s) (.bool d) (.string t)) := Xb1.out.kept g (by simp)
  have HG2 : Hid (w.grownBy w2 none) := grownBy_trans HG1.out g
  clear g HG1 Xb1 xc0 xc1 xc2 xc3 xl
  have xc0 := Xb2.out.c0
  have xc1 := Xb2.out.c1
  have xc2 := Xb2.out.c2
  have xc3 := Xb2.out.c3
  have xl := Xb2.out.lt
  go_wp2_with fail
  refine (H2.out _).mono ?_
  rintro e w3 ⟨rfl, g⟩
  have Xb3 : Hid (QBlk w3 w.heap.size (.bool n) (.string s) (.bool d) (.string t)) := Xb2.out.kept g (by simp)
  have HG3 : Hid (w.grownBy w3 none) := grownBy_trans HG2.out g
  clear g HG2 Xb2 xc0 xc1 xc2 xc3 xl
  have xc0 := Xb3.out.c0
  have xc1 := Xb3.out.c1
  have xc2 := Xb3.out.c2
  have xc3 := Xb3.out.c3
  have xl := Xb3.out.lt
  go_wp2_with fail
  refine (H3.out _).mono ?_
  rintro e w4 ⟨rfl, g⟩
  have Xb4 : Hid (QBlk w4 w.heap.size (.bool n) (.string s) (.bool d) (.string t)) := Xb3.out.kept (grownBy_trans (grow1 _ _) g) (by simp)
  have Ab4 : Hid (QBlk w4 w3.heap.size (.bool false) (.string eS) (.bool false) (.string eS)) := QBlk.kept (heap_alloc_new _ _) g (by simp)
  have HG4 : Hid (w.grownBy w4 none) := grownBy_trans HG3.out (grownBy_trans (grow1 _ _) g)
  clear g HG3 Xb3 xc0 xc1 xc2 xc3 xl
  have xc0 := Xb4.out.c0
  have xc1 := Xb4.out.c1
  have xc2 := Xb4.out.c2
  have xc3 := Xb4.out.c3
  have xl := Xb4.out.lt
  go_wp2_with fail
  refine (H4.out _).mono ?_
  rintro e w5 ⟨rfl, g⟩
  have Xb5 : Hid (QBlk w5 w.heap.size (.bool n) (.string s) (.bool d) (.string t)) := Xb4.out.kept (grownBy_trans (grow1 _ _) g) (by simp)
  have Ab5 : Hid (QBlk w5 w3.heap.size (.bool false) (.string eS) (.bool false) (.string eS)) := Ab4.out.kept (grownBy_trans (grow1 _ _) g) (by simp)
  have Bb5 : Hid (QBlk w5 w4.heap.size (.bool false) (.string eS) (.bool false) (.string eS)) := QBlk.kept (heap_alloc_new _ _) g (by simp)
  have HG5 : Hid (w.grownBy w5 none) := grownBy_trans HG4.out (grownBy_trans (grow1 _ _) g)
  clear g HG4 Xb4 Ab4 xc0 xc1 xc2 xc3 xl
  have xc0 := Xb5.out.c0
  have xc1 := Xb5.out.c1
  have xc2 := Xb5.out.c2
  have xc3 := Xb5.out.c3
  have xl := Xb5.out.lt
  go_wp2_with fail
  refine (H5.out _).mono ?_
  rintro e w6 ⟨rfl, g⟩
  have Xb6 : Hid (QBlk w6 w.heap.size (.bool n) (.string s) (.bool d) (.string t)) := Xb5.out.kept (grownBy_trans (grow1 _ _) g) (by simp)
  have Ab6 : Hid (QBlk w6 w3.heap.size (.bool false) (.string eS) (.bool false) (.string eS)) := Ab5.out.kept (grownBy_trans (grow1 _ _) g) (by simp)
  have Bb6 : Hid (QBlk w6 w4.heap.size (.bool false) (.string eS) (.bool false) (.string eS)) := Bb5.out.kept (grownBy_trans (grow1 _ _) g) (by simp)
  have Cb6 : Hid (WBlk w6 w5.heap.size (.bool false) (.string eS)) := WBlk.kept (heap_alloc_new _ _) g (by simp)
  have HG6 : Hid (w.grownBy w6 none) := grownBy_trans HG5.out (grownBy_trans (grow1 _ _) g)
  clear g HG5 Xb5 Ab5 Bb5 xc0 xc1 xc2 xc3 xl
  have xc0 := Xb6.out.c0
  have xc1 := Xb6.out.c1
  have xc2 := Xb6.out.c2
  have xc3 := Xb6.out.c3
  have xl := Xb6.out.lt
  go_wp2_with fail
  refine (H6.out _).mono ?_
  rintro e w7 ⟨rfl, g⟩
  have Xb7 : Hid (QBlk w7 w.heap.size (.bool n) (.string s) (.bool d) (.string t)) := Xb6.out.kept (grownBy_trans (grow1 _ _) g) (by simp)
  have Ab7 : Hid (QBlk w7 w3.heap.size (.bool false) (.string eS) (.bool false) (.string eS)) := Ab6.out.kept (grownBy_trans (grow1 _ _) g) (by simp)
  have Bb7 : Hid (QBlk w7 w4.heap.size (.bool false) (.string eS) (.bool false) (.string eS)) := Bb6.out.kept (grownBy_trans (grow1 _ _) g) (by simp)
  have Cb7 : Hid (WBlk w7 w5.heap.size (.bool false) (.string eS)) := Cb6.out.kept (grownBy_trans (grow1 _ _) g) (by simp)
  have Db7 : Hid (WBlk w7 w6.heap.size (.bool false) (.string eS)) := WBlk.kept (heap_alloc_new _ _) g (by simp)
  have HG7 : Hid (w.grownBy w7 none) := grownBy_trans HG6.out (grownBy_trans (grow1 _ _) g)
  clear g HG6 Xb6 Ab6 Bb6 Cb6 xc0 xc1 xc2 xc3 xl
  go_wp2_with fail
  refine (H7.out _).mono ?_
  rintro e w8 ⟨rfl, g⟩
  have Xb8 : Hid (QBlk w8 w.heap.size (.bool n) (.string s) (.bool d) (.string t)) := Xb7.out.kept (grownBy_trans (grow1 _ _) g) (by simp)
  have Ab8 : Hid (QBlk w8 w3.heap.size (.bool false) (.string eS) (.bool false) (.string eS)) := Ab7.out.kept (grownBy_trans (grow1 _ _) g) (by simp)
  have Bb8 : Hid (QBlk w8 w4.heap.size (.bool false) (.string eS) (.bool false) (.string eS)) := Bb7.out.kept (grownBy_trans (grow1 _ _) g) (by simp)
  have Cb8 : Hid (WBlk w8 w5.heap.size (.bool false) (.string eS)) := Cb7.out.kept (grownBy_trans (grow1 _ _) g) (by simp)
  have Db8 : Hid (WBlk w8 w6.heap.size (.bool false) (.string eS)) := Db7.out.kept (grownBy_trans (grow1 _ _) g) (by simp)
  have Rb8 : Hid (QBlk w8 w7.heap.size (.bool false) (.string eS) (.bool false) (.string eS)) := QBlk.kept (heap_alloc_new _ _) g (by simp)
  have HG8 : Hid (w.grownBy w8 none) := grownBy_trans HG7.out (grownBy_trans (grow1 _ _) g)
  clear g HG7 Xb7 Ab7 Bb7 Cb7 Db7
  have HT : Hid (∀ w', (w8.alloc (qObj ns ss ds ts)).grownBy w' none → w'.cell? ⟨w8.heap.size, 0, none⟩ = some (.bool ns) ∧ w'.cell? ⟨w8.heap.size, 1, none⟩ = some (.string ss) ∧ w'.cell? ⟨w8.heap.size, 2, none⟩ = some (.bool ds) ∧ w'.cell? ⟨w8.heap.size, 3, none⟩ = some (.string ts)) := fun w' g => by
    have h : QBlk w' w8.heap.size (.bool ns) (.string ss) (.bool ds) (.string ts) := QBlk.kept (heap_alloc_new _ _) g (by simp)
    exact ⟨h.c0, h.c1, h.c2, h.c3⟩
  go_wp2_with fail
  refine wp_region_held_drew (S := fun w' => w'.cell? ⟨w8.heap.size, 0, none⟩ = some (.bool ns) ∧ w'.cell? ⟨w8.heap.size, 1, none⟩ = some (.string ss) ∧ w'.cell? ⟨w8.heap.size, 2, none⟩ = some (.bool ds) ∧ w'.cell? ⟨w8.heap.size, 3, none⟩ = some (.string ts)) (by kernel_rfl) (HT.out _ (grow_drew (World.grownBy.refl _ _))) (fun hHeld => ?_)
  refine wpAnyH_take (i := 0) (v := ?_) rfl (by kernel_rfl) (by kernel_rfl) (by kernel_rfl) (fun _ _ _ h => h) (Or.inl ⟨by kernel_rfl, ?_⟩) (by assumption) ?_
  rotate_left
  · (intro w hSw; (try dsimp only at hSw); go_simp; try (with_reducible rfl))
  refine wpAnyH_take (i := 1) (v := .bool false) rfl (by kernel_rfl) (by kernel_rfl) (by kernel_rfl) (fun _ _ _ h => h) (Or.inl ⟨by kernel_rfl, ?_⟩) (by assumption) ?_
  · (intro w hSw; (try dsimp only at hSw); first | (go_simp; done) | (go_simp; simp [hm]; done))
  refine wpAnyH_take (i := 2) (v := ?_) rfl (by kernel_rfl) (by kernel_rfl) (by kernel_rfl) (fun _ _ _ h => h) (Or.inl ⟨by kernel_rfl, ?_⟩) (by assumption) ?_
  rotate_left
  · (intro w hSw; (try dsimp only at hSw); go_simp; try (with_reducible rfl))
  refine wpAnyH_take (i := 3) (v := undef) rfl (by kernel_rfl) (by kernel_rfl) (by kernel_rfl) (fun _ _ _ h => h) (Or.inr ⟨by kernel_rfl, rfl⟩) (by assumption) ?_
  refine wpAnyH_take (i := 4) (v := undef) rfl (by kernel_rfl) (by kernel_rfl) (by kernel_rfl) (fun _ _ _ h => h) (Or.inr ⟨by kernel_rfl, rfl⟩) (by assumption) ?_
  refine wpAnyH_take (i := 5) (v := undef) rfl (by kernel_rfl) (by kernel_rfl) (by kernel_rfl) (fun _ _ _ h => h) (Or.inr ⟨by kernel_rfl, rfl⟩) (by assumption) ?_
  refine wpAnyH_take (i := 6) (v := undef) rfl (by kernel_rfl) (by kernel_rfl) (by kernel_rfl) (fun _ _ _ h => h) (Or.inr ⟨by kernel_rfl, rfl⟩) (by assumption) ?_
  refine wpAnyH_take (i := 7) (v := undef) rfl (by kernel_rfl) (by kernel_rfl) (by kernel_rfl) (fun _ _ _ h => h) (Or.inr ⟨by kernel_rfl, rfl⟩) (by assumption) ?_
  refine wpAnyH_take (i := 8) (v := undef) rfl (by kernel_rfl) (by kernel_rfl) (by kernel_rfl) (fun _ _ _ h => h) (Or.inr ⟨by kernel_rfl, rfl⟩) (by assumption) ?_
  refine wpAnyH_take (i := 9) (v := undef) rfl (by kernel_rfl) (by kernel_rfl) (by kernel_rfl) (fun _ _ _ h => h) (Or.inr ⟨by kernel_rfl, rfl⟩) (by assumption) ?_
  refine wpAnyH_take (i := 10) (v := ?_) rfl (by kernel_rfl) (by kernel_rfl) (by kernel_rfl) (fun _ _ _ h => h) (Or.inl ⟨by kernel_rfl, ?_⟩) (by assumption) ?_
  rotate_left
  · (intro w hSw; (try dsimp only at hSw); go_simp; try (with_reducible rfl))
  refine wpAnyH_take (i := 11) (v := ?_) rfl (by kernel_rfl) (by kernel_rfl) (by kernel_rfl) (fun _ _ _ h => h) (Or.inl ⟨by kernel_rfl, ?_⟩) (by assumption) ?_
  rotate_left
  · (intro w hSw; (try dsimp only at hSw); go_simp; try (with_reducible rfl))
  refine wpAnyH_take (i := 12) (v := ?_) rfl (by kernel_rfl) (by kernel_rfl) (by kernel_rfl) (fun _ _ _ h => h) (Or.inl ⟨by kernel_rfl, ?_⟩) (by assumption) ?_
  rotate_left
  · (intro w hSw; (try dsimp only at hSw); go_simp; try (with_reducible rfl))
  refine wpAnyH_take (i := 13) (v := .bool true) rfl (by kernel_rfl) (by kernel_rfl) (by kernel_rfl) (fun _ _ _ h => h) (Or.inl ⟨by kernel_rfl, ?_⟩) (by assumption) ?_
  · (intro w hSw; (try dsimp only at hSw); first | (go_simp; done) | (go_simp; simp [hm]; done))
  refine wpAnyH_take (i := 14) (v := ?_) rfl (by kernel_rfl) (by kernel_rfl) (by kernel_rfl) (fun _ _ _ h => h) (Or.inl ⟨by kernel_rfl, ?_⟩) (by assumption) ?_
  rotate_left
  · (intro w hSw; (try dsimp only at hSw); go_simp; try (with_reducible rfl))
  refine wpAnyH_take (i := 15) (v := ?_) rfl (by kernel_rfl) (by kernel_rfl) (by kernel_rfl) (fun _ _ _ h => h) (Or.inl ⟨by kernel_rfl, ?_⟩) (by assumption) ?_
  rotate_left
  · (intro w hSw; (try dsimp only at hSw); go_simp; try (with_reducible rfl))
  refine wpAnyH_take (i := 16) (v := ?_) rfl (by kernel_rfl) (by kernel_rfl) (by kernel_rfl) (fun _ _ _ h => h) (Or.inl ⟨by kernel_rfl, ?_⟩) (by assumption) ?_
  rotate_left
  · (intro w hSw; (try dsimp only at hSw); go_simp; try (with_reducible rfl))
  refine wpAnyH_take (i := 17) (v := ?_) rfl (by kernel_rfl) (by kernel_rfl) (by kernel_rfl) (fun _ _ _ h => h) (Or.inl ⟨by kernel_rfl, ?_⟩) (by assumption) ?_
  rotate_left
  · (intro w hSw; (try dsimp only at hSw); go_simp; try (with_reducible rfl))
  refine wpAnyH_ready (rs := [18]) (by kernel_rfl) (by simp) ?_
  refine AllReadyH.cons rfl (fun K hK => ?_) AllReadyH.nil
  go_simp
  refine (H8.out _).mono ?_
  rintro e u0 ⟨rfl, g⟩
  have U0G : (w8.alloc (qObj ns ss ds ts)).grownBy u0 none := (by first | exact g | exact grownBy_undrew g)
  clear g
  go_wp2_with fail
  refine hK.out _ _ (HT.out _ U0G) (fun hHeld => ?_)
  clear hK K
  refine wpAnyH_take (i := 19) (v := ?_) rfl (by kernel_rfl) (by kernel_rfl) (by kernel_rfl) (fun _ _ _ h => h) (Or.inl ⟨by kernel_rfl, ?_⟩) (by assumption) ?_
  rotate_left
  · (intro w hSw; (try dsimp only at hSw); go_simp; try (with_reducible rfl))
  refine wpAnyH_take (i := 20) (v := ?_) rfl (by kernel_rfl) (by kernel_rfl) (by kernel_rfl) (fun _ _ _ h => h) (Or.inl ⟨by kernel_rfl, ?_⟩) (by assumption) ?_
  rotate_left
  · (intro w hSw; (try dsimp only at hSw); go_simp; try (with_reducible rfl))
  refine wpAnyH_take (i := 21) (v := ?_) rfl (by kernel_rfl) (by kernel_rfl) (by kernel_rfl) (fun _ _ _ h => h) (Or.inl ⟨by kernel_rfl, ?_⟩) (by assumption) ?_
  rotate_left
  · (intro w hSw; (try dsimp only at hSw); go_simp; try (with_reducible rfl))
  refine wpAnyH_take (i := 22) (v := ?_) rfl (by kernel_rfl) (by kernel_rfl) (by kernel_rfl) (fun _ _ _ h => h) (Or.inl ⟨by kernel_rfl, ?_⟩) (by assumption) ?_
  rotate_left
  · (intro w hSw; (try dsimp only at hSw); go_simp; try (with_reducible rfl))
  refine wpAnyH_take (i := 23) (v := ?_) rfl (by kernel_rfl) (by kernel_rfl) (by kernel_rfl) (fun _ _ _ h => h) (Or.inl ⟨by kernel_rfl, ?_⟩) (by assumption) ?_
  rotate_left
  · (intro w hSw; (try dsimp only at hSw); go_simp; try (with_reducible rfl))
  refine wpAnyH_take (i := 24) (v := ?_) rfl (by kernel_rfl) (by kernel_rfl) (by kernel_rfl) (fun _ _ _ h => h) (Or.inl ⟨by kernel_rfl, ?_⟩) (by assumption) ?_
  rotate_left
  · (intro w hSw; (try dsimp only at hSw); go_simp; try (with_reducible rfl))
  refine wpAnyH_take (i := 25) (v := ?_) rfl (by kernel_rfl) (by kernel_rfl) (by kernel_rfl) (fun _ _ _ h => h) (Or.inl ⟨by kernel_rfl, ?_⟩) (by assumption) ?_
  rotate_left
  · (intro w hSw; (try dsimp only at hSw); go_simp; try (with_reducible rfl))
  refine wpAnyH_take (i := 26) (v := ?_) rfl (by kernel_rfl) (by kernel_rfl) (by kernel_rfl) (fun _ _ _ h => h) (Or.inl ⟨by kernel_rfl, ?_⟩) (by assumption) ?_
  rotate_left
  · (intro w hSw; (try dsimp only at hSw); go_simp; try (with_reducible rfl))
  refine wpAnyH_take (i := 27) (v := ?_) rfl (by kernel_rfl) (by kernel_rfl) (by kernel_rfl) (fun _ _ _ h => h) (Or.inl ⟨by kernel_rfl, ?_⟩) (by assumption) ?_
  rotate_left
  · (intro w hSw; (try dsimp only at hSw); go_simp; try (with_reducible rfl))
  refine wpAnyH_take (i := 29) (v := ?_) rfl (by kernel_rfl) (by kernel_rfl) (by kernel_rfl) (fun _ _ _ h => h) (Or.inl ⟨by kernel_rfl, ?_⟩) (by assumption) ?_
  rotate_left
  · (intro w hSw; (try dsimp only at hSw); go_simp; try (with_reducible rfl))
  refine wpAnyH_ready (rs := [28]) (by kernel_rfl) (by simp) ?_
  refine AllReadyH.cons rfl (fun K hK => ?_) AllReadyH.nil
  go_simp
  refine (H9.out _).mono ?_
  rintro e u1 ⟨rfl, g⟩
  have U1G : (w8.alloc (qObj ns ss ds ts)).grownBy u1 none := grownBy_trans U0G g
  clear g
  go_wp2_with fail
  refine hK.out _ _ (HT.out _ U1G) (fun hHeld => ?_)
  clear hK K
  refine wpAnyH_ready (rs := [30]) (by kernel_rfl) (by simp) ?_
  refine AllReadyH.cons rfl (fun K hK => ?_) AllReadyH.nil
  go_simp
  refine (H10.out _).mono ?_
  rintro e w9 ⟨rfl, g⟩
  have W9G : (w8.alloc (qObj ns ss ds ts)).grownBy w9 none := grownBy_trans U1G g
  clear g
  go_wp2_with fail
  refine hK.out _ _ (HT.out _ W9G) (fun hHeld => ?_)
  clear hK K
  refine wpAnyH_take (i := 31) (v := ?_) rfl (by kernel_rfl) (by kernel_rfl) (by kernel_rfl) (fun _ _ _ h => h) (Or.inl ⟨by kernel_rfl, ?_⟩) (by assumption) ?_
  rotate_left
  · (intro w hSw; (try dsimp only at hSw); go_simp; try (with_reducible rfl))
  refine wpAnyH_take (i := 32) (v := ?_) rfl (by kernel_rfl) (by kernel_rfl) (by kernel_rfl) (fun _ _ _ h => h) (Or.inl ⟨by kernel_rfl, ?_⟩) (by assumption) ?_
  rotate_left
  · (intro w hSw; (try dsimp only at hSw); go_simp; try (with_reducible rfl))
  refine wpAnyH_done (by kernel_rfl) ?_ _
  have U1 := U1G
  have U2 := W9G
  all_goals (
    have g := U2
    have Xb9 : Hid (QBlk w9 w.heap.size (.bool n) (.string s) (.bool d) (.string t)) := Xb8.out.kept (grownBy_trans (grow1 _ _) g) (by simp)
    have Ab9 : Hid (QBlk w9 w3.heap.size (.bool false) (.string eS) (.bool false) (.string eS)) := Ab8.out.kept (grownBy_trans (grow1 _ _) g) (by simp)
    have Bb9 : Hid (QBlk w9 w4.heap.size (.bool false) (.string eS) (.bool false) (.string eS)) := Bb8.out.kept (grownBy_trans (grow1 _ _) g) (by simp)
    have Cb9 : Hid (WBlk w9 w5.heap.size (.bool false) (.string eS)) := Cb8.out.kept (grownBy_trans (grow1 _ _) g) (by simp)
    have Db9 : Hid (WBlk w9 w6.heap.size (.bool false) (.string eS)) := Db8.out.kept (grownBy_trans (grow1 _ _) g) (by simp)
    have Rb9 : Hid (QBlk w9 w7.heap.size (.bool false) (.string eS) (.bool false) (.string eS)) := Rb8.out.kept (grownBy_trans (grow1 _ _) g) (by simp)
    have Sb9 : Hid (QBlk w9 w8.heap.size (.bool ns) (.string ss) (.bool ds) (.string ts)) := QBlk.kept (heap_alloc_new _ _) g (by simp)
    have HG9 : Hid (w.grownBy w9 none) := grownBy_trans HG8.out (grownBy_trans (grow1 _ _) g)
    clear g U1 U2 HG8 Xb8 Ab8 Bb8 Cb8 Db8 Rb8
    have ac0 := Ab9.out.c0
    have ac1 := Ab9.out.c1
    have ac2 := Ab9.out.c2
    have ac3 := Ab9.out.c3
    have al := Ab9.out.lt
    have xc0 := Xb9.out.c0
    have xc1 := Xb9.out.c1
    have xc2 := Xb9.out.c2
    have xc3 := Xb9.out.c3
    have xl := Xb9.out.lt
    go_wp2_with fail
    refine (H16.out _).mono ?_
    rintro e w10 ⟨rfl, g⟩
    have Xb10 : Hid (QBlk w10 w.heap.size (.bool n) (.string s) (.bool d) (.string t)) := Xb9.out.kept g (by simp)
    have Ab10 : Hid (QBlk w10 w3.heap.size (.bool false) (.string eS) (.bool false) (.string eS)) := Ab9.out.kept g (by simp)
    have Bb10 : Hid (QBlk w10 w4.heap.size (.bool false) (.string eS) (.bool false) (.string eS)) := Bb9.out.kept g (by simp)
    have Cb10 : Hid (WBlk w10 w5.heap.size (.bool false) (.string eS)) := Cb9.out.kept g (by simp)
    have Db10 : Hid (WBlk w10 w6.heap.size (.bool false) (.string eS)) := Db9.out.kept g (by simp)
    have Rb10 : Hid (QBlk w10 w7.heap.size (.bool false) (.string eS) (.bool false) (.string eS)) := Rb9.out.kept g (by simp)
    have Sb10 : Hid (QBlk w10 w8.heap.size (.bool ns) (.string ss) (.bool ds) (.string ts)) := Sb9.out.kept g (by simp)
    have HG10 : Hid (w.grownBy w10 none) := grownBy_trans HG9.out g
    clear g HG9 Xb9 Ab9 Bb9 Cb9 Db9 Rb9 Sb9 ac0 ac1 ac2 ac3 al xc0 xc1 xc2 xc3 xl
    have bc0 := Bb10.out.c0
    have bc1 := Bb10.out.c1
    have bc2 := Bb10.out.c2
    have bc3 := Bb10.out.c3
    have bl := Bb10.out.lt
    have xc0 := Xb10.out.c0
    have xc1 := Xb10.out.c1
    have xc2 := Xb10.out.c2
    have xc3 := Xb10.out.c3
    have xl := Xb10.out.lt
    go_wp2_with fail
    refine (H16.out _).mono ?_
    rintro e w11 ⟨rfl, g⟩
    have Xb11 : Hid (QBlk w11 w.heap.size (.bool n) (.string s) (.bool d) (.string t)) := Xb10.out.kept g (by simp)
    have Ab11 : Hid (QBlk w11 w3.heap.size (.bool false) (.string eS) (.bool false) (.string eS)) := Ab10.out.kept g (by simp)
    have Bb11 : Hid (QBlk w11 w4.heap.size (.bool false) (.string eS) (.bool false) (.string eS)) := Bb10.out.kept g (by simp)
    have Cb11 : Hid (WBlk w11 w5.heap.size (.bool false) (.string eS)) := Cb10.out.kept g (by simp)
    have Db11 : Hid (WBlk w11 w6.heap.size (.bool false) (.string eS)) := Db10.out.kept g (by simp)
    have Rb11 : Hid (QBlk w11 w7.heap.size (.bool false) (.string eS) (.bool false) (.string eS)) := Rb10.out.kept g (by simp)
    have Sb11 : Hid (QBlk w11 w8.heap.size (.bool ns) (.string ss) (.bool ds) (.string ts)) := Sb10.out.kept g (by simp)
    have HG11 : Hid (w.grownBy w11 none) := grownBy_trans HG10.out g
    clear g HG10 Xb10 Ab10 Bb10 Cb10 Db10 Rb10 Sb10 bc0 bc1 bc2 bc3 bl xc0 xc1 xc2 xc3 xl
    have cc0 := Cb11.out.c0
    have cc1 := Cb11.out.c1
    have cl := Cb11.out.lt
    have dc0 := Db11.out.c0
    have dc1 := Db11.out.c1
    have dl := Db11.out.lt
    have rc0 := Rb11.out.c0
    have rc1 := Rb11.out.c1
    have rc2 := Rb11.out.c2
    have rc3 := Rb11.out.c3
    have rl := Rb11.out.lt
    have xc0 := Xb11.out.c0
    have xc1 := Xb11.out.c1
    have xc2 := Xb11.out.c2
    have xc3 := Xb11.out.c3
    have xl := Xb11.out.lt
    go_wp2_with fail
    refine (H18.out _).mono ?_
    rintro e w12 ⟨rfl, g⟩
    have Xb12 : Hid (QBlk w12 w.heap.size (.bool n) (.string s) (.bool d) (.string t)) := Xb11.out.kept g (by simp)
    have Ab12 : Hid (QBlk w12 w3.heap.size (.bool false) (.string eS) (.bool false) (.string eS)) := Ab11.out.kept g (by simp)
    have Bb12 : Hid (QBlk w12 w4.heap.size (.bool false) (.string eS) (.bool false) (.string eS)) := Bb11.out.kept g (by simp)
    have Cb12 : Hid (WBlk w12 w5.heap.size (.bool false) (.string eS)) := Cb11.out.kept g (by simp)
    have Db12 : Hid (WBlk w12 w6.heap.size (.bool false) (.string eS)) := Db11.out.kept g (by simp)
    have Rb12 : Hid (QBlk w12 w7.heap.size (.bool false) (.string eS) (.bool false) (.string eS)) := Rb11.out.kept g (by simp)
    have Sb12 : Hid (QBlk w12 w8.heap.size (.bool ns) (.string ss) (.bool ds) (.string ts)) := Sb11.out.kept g (by simp)
    have HG12 : Hid (w.grownBy w12 none) := grownBy_trans HG11.out g
    clear g HG11 Xb11 Ab11 Bb11 Cb11 Db11 Rb11 Sb11 cc0 cc1 cl dc0 dc1 dl rc0 rc1 rc2 rc3 rl xc0 xc1 xc2 xc3 xl
    go_wp2_with fail
    refine (HK.out _ HG12.out).mono ?_
    rintro e w13 ⟨rfl, g⟩
    go_wp2_with fail
    go_ret
    exact ⟨rfl, grownBy_trans HG12.out g⟩)
end Go.Proofs.YtdfliaogmlpefaaGreatDoor
