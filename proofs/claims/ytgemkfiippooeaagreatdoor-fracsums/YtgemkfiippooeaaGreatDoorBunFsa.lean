/-
  FracSums, of what may not be.
  FracSums, of what may not be.
  FracSums, of what may not be.
  FracSums, of what is too long.
  The laws' long, of fractions.
-/
import Derived.Test.YtgemkfiippooeaaGreatDoorBunFre
import Derived.Deep.RegionWith
namespace Go.Proofs.YtgemkfiippooeaaGreatDoor
open Go.RowKit Go.Lib Go.Sort
set_option linter.unusedVariables false

set_option maxHeartbeats 6400000 in
set_option maxRecDepth 1000000 in
theorem sums_bad1 (n d n2 d2 : Bool) (s t s2 t2 : ByteArray) (w : World)
    (HL : Hid (∀ (W : World) (B : Nat), W.heap[B]? = some (.cells #[.bool n, .string s, .bool d, .string t, .bool n2, .string s2, .bool d2, .string t2] 25 (0, 0)) → Calls Tryz.prog 7 #[.int .i64 1100, .slice (some ⟨B, 0, none⟩) 2 2] W fun e w' => e = .returned (.bool false) ∧ W.grownBy w' none))
    (HM : Hid (∀ a b c f r (w : World), (a = n ∧ b = s ∧ c = d ∧ f = t ∧ r = false) ∨ (a = n2 ∧ b = s2 ∧ c = d2 ∧ f = t2 ∧ r = true) → Calls Tryz.prog 9 #[frac a b c f] w fun e w' => e = .returned (.bool r) ∧ w.grownBy w' none))
    (HP : Hid (∀ a b c f r (w : World), (a = n ∧ b = s ∧ c = d ∧ f = t ∧ r = false) ∨ (a = n2 ∧ b = s2 ∧ c = d2 ∧ f = t2 ∧ r = true) → Calls Tryz.prog 15 #[frac a b c f] w fun e w' => e = .returned (.bool r) ∧ w.grownBy w' none))
    (HAdd : Hid (∀ w, Calls Tryz.prog 10 #[frac n s d t, frac n2 s2 d2 t2] w fun e w' => e = .returned (.tuple #[frac false eS false eS, .int .i64 2]) ∧ w.grownBy w' none))
    (HSub : Hid (∀ w, Calls Tryz.prog 11 #[frac n s d t, frac n2 s2 d2 t2] w fun e w' => e = .returned (.tuple #[frac false eS false eS, .int .i64 2]) ∧ w.grownBy w' none))
    (HMul : Hid (∀ w, Calls Tryz.prog 12 #[frac n s d t, frac n2 s2 d2 t2] w fun e w' => e = .returned (.tuple #[frac false eS false eS, .int .i64 2]) ∧ w.grownBy w' none))
    (HDiv : Hid (∀ w, Calls Tryz.prog 13 #[frac n s d t, frac n2 s2 d2 t2] w fun e w' => e = .returned (.tuple #[frac false eS false eS, .int .i64 2]) ∧ w.grownBy w' none))
    (HCmp : Hid (∀ w, Calls Tryz.prog 14 #[frac n s d t, frac n2 s2 d2 t2] w fun e w' => e = .returned (.tuple #[.int .i64 0, .int .i64 2]) ∧ w.grownBy w' none))
    (HTo : Hid (∀ w, Calls Tryz.prog 16 #[frac false eS false eS, .int .i64 2, frac n s d t, .bool false] w fun e w' => e = .returned (.bool true) ∧ w.grownBy w' none))
    (HK : Hid (∀ W, w.grownBy W none → Calls Tryz.prog 8 #[] W fun e w' => e = .returned (.bool true) ∧ W.grownBy w' none)) :
    Calls Tryz.prog 3 #[frac n s d t, frac n2 s2 d2 t2] w fun e w' => e = .returned (.bool true) ∧ w.grownBy w' none := by
  go_enter Tryz.func3, Tryz.ntmps3
  go_wp2_with fail
  refine (HL.out _ _ ?hb).mono ?_
  case hb => first | exact at_alloc3 _ _ _ _ | (have := at_alloc3 w (qObj n s d t) (qObj n2 s2 d2 t2) (.cells #[.bool n, .string s, .bool d, .string t, .bool n2, .string s2, .bool d2, .string t2] 25); simpa using this)
  rintro e w1 ⟨rfl, g1⟩
  have X1 : Hid (Two w1 w.heap.size (w.heap.size + 1) n d n2 d2 s t s2 t2) := Two.kept ⟨old_alloc _ _ (at_alloc1 _ _ _), at_alloc2 _ _ _ _⟩ g1
  have HG1 : Hid (w.grownBy w1 none) := grownBy_trans (grow3 _ _ _ _) g1
  clear g1 HL
  go_wp2_with fail
  go_region_held3 (fun w' => w'.cell? ⟨w.heap.size, 0, none⟩ = some (.bool n) ∧ w'.cell? ⟨w.heap.size, 1, none⟩ = some (.string s) ∧ w'.cell? ⟨w.heap.size, 2, none⟩ = some (.bool d) ∧ w'.cell? ⟨w.heap.size, 3, none⟩ = some (.string t) ∧ w'.cell? ⟨w.heap.size + 1, 0, none⟩ = some (.bool n2) ∧ w'.cell? ⟨w.heap.size + 1, 1, none⟩ = some (.string s2) ∧ w'.cell? ⟨w.heap.size + 1, 2, none⟩ = some (.bool d2) ∧ w'.cell? ⟨w.heap.size + 1, 3, none⟩ = some (.string t2))
    (first | (go_keep; done) | exact (X1.out.kept (by assumption)).cells | exact (X1.out.kept (grow_drew (World.grownBy.refl _ _))).cells | fail)
    (first
      | (go_at_call 9; first | (have _q := GA; refine (HM.out _ _ _ _ _ _ (by exact .inr ⟨rfl, rfl, rfl, rfl, rfl⟩)).mono ?_; rintro e w2 ⟨rfl, gB⟩; have GB : w1.grownBy w2 none := grownBy_trans GA gB) | (refine (HM.out _ _ _ _ _ _ (by exact .inl ⟨rfl, rfl, rfl, rfl, rfl⟩)).mono ?_; rintro e wA ⟨rfl, gA⟩; have GA : w1.grownBy wA none := (by first | exact gA | exact grownBy_undrew gA)))
      | fail)
  have X2 : Hid (Two w2 w.heap.size (w.heap.size + 1) n d n2 d2 s t s2 t2) := X1.out.kept GB
  have HG2 : Hid (w.grownBy w2 none) := grownBy_trans HG1.out GB
  clear gA GA gB GB X1 HG1 HM
  obtain ⟨x0, x1, x2, x3, y0, y1, y2, y3⟩ := X2.out.cells
  have xl := X2.out.1.lt
  have yl := X2.out.2.lt
  go_wp2_with fail
  refine (HAdd.out _).mono ?_
  rintro e w3 ⟨rfl, g3⟩
  have X3 : Hid (Two w3 w.heap.size (w.heap.size + 1) n d n2 d2 s t s2 t2) := X2.out.kept g3
  have HG3 : Hid (w.grownBy w3 none) := grownBy_trans HG2.out g3
  clear g3 X2 HG2 HAdd
  clear x0 x1 x2 x3 y0 y1 y2 y3 xl yl
  obtain ⟨x0, x1, x2, x3, y0, y1, y2, y3⟩ := X3.out.cells
  have xl := X3.out.1.lt
  have yl := X3.out.2.lt
  go_wp2_with fail
  refine (HSub.out _).mono ?_
  rintro e w4 ⟨rfl, g⟩
  have X4 : Hid (Two w4 w.heap.size (w.heap.size + 1) n d n2 d2 s t s2 t2) := X3.out.kept (grownBy_trans (grow1 _ _) g)
  have HG4 : Hid (w.grownBy w4 none) := grownBy_trans HG3.out (grownBy_trans (grow1 _ _) g)
  have A4 : Hid (QBlk w4 w3.heap.size (.bool false) (.string eS) (.bool false) (.string eS)) := QBlk.kept (heap_alloc_new _ _) g (by simp)
  clear g X3 HG3 HSub
  clear x0 x1 x2 x3 y0 y1 y2 y3 xl yl
  obtain ⟨x0, x1, x2, x3, y0, y1, y2, y3⟩ := X4.out.cells
  have xl := X4.out.1.lt
  have yl := X4.out.2.lt
  go_wp2_with fail
  refine (HMul.out _).mono ?_
  rintro e w5 ⟨rfl, g⟩
  have X5 : Hid (Two w5 w.heap.size (w.heap.size + 1) n d n2 d2 s t s2 t2) := X4.out.kept (grownBy_trans (grow1 _ _) g)
  have HG5 : Hid (w.grownBy w5 none) := grownBy_trans HG4.out (grownBy_trans (grow1 _ _) g)
  have A5 : Hid (QBlk w5 w3.heap.size (.bool false) (.string eS) (.bool false) (.string eS)) := A4.out.kept (grownBy_trans (grow1 _ _) g) (by simp)
  have B5 : Hid (QBlk w5 w4.heap.size (.bool false) (.string eS) (.bool false) (.string eS)) := QBlk.kept (heap_alloc_new _ _) g (by simp)
  clear g X4 HG4 HMul A4
  clear x0 x1 x2 x3 y0 y1 y2 y3 xl yl
  obtain ⟨x0, x1, x2, x3, y0, y1, y2, y3⟩ := X5.out.cells
  have xl := X5.out.1.lt
  have yl := X5.out.2.lt
  go_wp2_with fail
  refine (HDiv.out _).mono ?_
  rintro e w6 ⟨rfl, g⟩
  have X6 : Hid (Two w6 w.heap.size (w.heap.size + 1) n d n2 d2 s t s2 t2) := X5.out.kept (grownBy_trans (grow1 _ _) g)
  have HG6 : Hid (w.grownBy w6 none) := grownBy_trans HG5.out (grownBy_trans (grow1 _ _) g)
  have A6 : Hid (QBlk w6 w3.heap.size (.bool false) (.string eS) (.bool false) (.string eS)) := A5.out.kept (grownBy_trans (grow1 _ _) g) (by simp)
  have B6 : Hid (QBlk w6 w4.heap.size (.bool false) (.string eS) (.bool false) (.string eS)) := B5.out.kept (grownBy_trans (grow1 _ _) g) (by simp)
  have C6 : Hid (QBlk w6 w5.heap.size (.bool false) (.string eS) (.bool false) (.string eS)) := QBlk.kept (heap_alloc_new _ _) g (by simp)
  clear g X5 HG5 HDiv A5 B5
  clear x0 x1 x2 x3 y0 y1 y2 y3 xl yl
  obtain ⟨x0, x1, x2, x3, y0, y1, y2, y3⟩ := X6.out.cells
  have xl := X6.out.1.lt
  have yl := X6.out.2.lt
  go_wp2_with fail
  refine (HCmp.out _).mono ?_
  rintro e w7 ⟨rfl, g⟩
  have X7 : Hid (Two w7 w.heap.size (w.heap.size + 1) n d n2 d2 s t s2 t2) := X6.out.kept (grownBy_trans (grow1 _ _) g)
  have HG7 : Hid (w.grownBy w7 none) := grownBy_trans HG6.out (grownBy_trans (grow1 _ _) g)
  have A7 : Hid (QBlk w7 w3.heap.size (.bool false) (.string eS) (.bool false) (.string eS)) := A6.out.kept (grownBy_trans (grow1 _ _) g) (by simp)
  have B7 : Hid (QBlk w7 w4.heap.size (.bool false) (.string eS) (.bool false) (.string eS)) := B6.out.kept (grownBy_trans (grow1 _ _) g) (by simp)
  have C7 : Hid (QBlk w7 w5.heap.size (.bool false) (.string eS) (.bool false) (.string eS)) := C6.out.kept (grownBy_trans (grow1 _ _) g) (by simp)
  have D7 : Hid (QBlk w7 w6.heap.size (.bool false) (.string eS) (.bool false) (.string eS)) := QBlk.kept (heap_alloc_new _ _) g (by simp)
  clear g X6 HG6 HCmp A6 B6 C6
  clear x0 x1 x2 x3 y0 y1 y2 y3 xl yl
  obtain ⟨x0, x1, x2, x3, y0, y1, y2, y3⟩ := X7.out.cells
  have xl := X7.out.1.lt
  have yl := X7.out.2.lt
  go_wp2_with fail
  refine (HP.out _ _ _ _ _ _ (by exact .inl ⟨rfl, rfl, rfl, rfl, rfl⟩)).mono ?_
  rintro e w8 ⟨rfl, g⟩
  have X8 : Hid (Two w8 w.heap.size (w.heap.size + 1) n d n2 d2 s t s2 t2) := X7.out.kept g
  have HG8 : Hid (w.grownBy w8 none) := grownBy_trans HG7.out g
  have A8 : Hid (QBlk w8 w3.heap.size (.bool false) (.string eS) (.bool false) (.string eS)) := A7.out.kept g (by simp)
  have B8 : Hid (QBlk w8 w4.heap.size (.bool false) (.string eS) (.bool false) (.string eS)) := B7.out.kept g (by simp)
  have C8 : Hid (QBlk w8 w5.heap.size (.bool false) (.string eS) (.bool false) (.string eS)) := C7.out.kept g (by simp)
  have D8 : Hid (QBlk w8 w6.heap.size (.bool false) (.string eS) (.bool false) (.string eS)) := D7.out.kept g (by simp)
  clear g X7 HG7 A7 B7 C7 D7
  clear x0 x1 x2 x3 y0 y1 y2 y3 xl yl
  obtain ⟨x0, x1, x2, x3, y0, y1, y2, y3⟩ := X8.out.cells
  have xl := X8.out.1.lt
  have yl := X8.out.2.lt
  go_wp2_with fail
  refine (HP.out _ _ _ _ _ _ (by exact .inr ⟨rfl, rfl, rfl, rfl, rfl⟩)).mono ?_
  rintro e w9 ⟨rfl, g⟩
  have X9 : Hid (Two w9 w.heap.size (w.heap.size + 1) n d n2 d2 s t s2 t2) := X8.out.kept g
  have HG9 : Hid (w.grownBy w9 none) := grownBy_trans HG8.out g
  have A9 : Hid (QBlk w9 w3.heap.size (.bool false) (.string eS) (.bool false) (.string eS)) := A8.out.kept g (by simp)
  have B9 : Hid (QBlk w9 w4.heap.size (.bool false) (.string eS) (.bool false) (.string eS)) := B8.out.kept g (by simp)
  have C9 : Hid (QBlk w9 w5.heap.size (.bool false) (.string eS) (.bool false) (.string eS)) := C8.out.kept g (by simp)
  have D9 : Hid (QBlk w9 w6.heap.size (.bool false) (.string eS) (.bool false) (.string eS)) := D8.out.kept g (by simp)
  clear g X8 HG8 A8 B8 C8 D8
  clear x0 x1 x2 x3 y0 y1 y2 y3 xl yl
  clear HP
  obtain ⟨x0, x1, x2, x3, y0, y1, y2, y3⟩ := X9.out.cells
  have xl := X9.out.1.lt
  have yl := X9.out.2.lt
  obtain ⟨a0, a1, a2, a3⟩ := (⟨A9.out.c0, A9.out.c1, A9.out.c2, A9.out.c3⟩ : _ ∧ _ ∧ _ ∧ _)
  go_wp2_with fail
  refine (HTo.out _).mono ?_
  rintro e w10 ⟨rfl, g⟩
  have X10 : Hid (Two w10 w.heap.size (w.heap.size + 1) n d n2 d2 s t s2 t2) := X9.out.kept g
  have HG10 : Hid (w.grownBy w10 none) := grownBy_trans HG9.out g
  have A10 : Hid (QBlk w10 w3.heap.size (.bool false) (.string eS) (.bool false) (.string eS)) := A9.out.kept g (by simp)
  have B10 : Hid (QBlk w10 w4.heap.size (.bool false) (.string eS) (.bool false) (.string eS)) := B9.out.kept g (by simp)
  have C10 : Hid (QBlk w10 w5.heap.size (.bool false) (.string eS) (.bool false) (.string eS)) := C9.out.kept g (by simp)
  have D10 : Hid (QBlk w10 w6.heap.size (.bool false) (.string eS) (.bool false) (.string eS)) := D9.out.kept g (by simp)
  clear g a0 a1 a2 a3 X9 HG9 A9 B9 C9 D9
  clear x0 x1 x2 x3 y0 y1 y2 y3 xl yl
  obtain ⟨x0, x1, x2, x3, y0, y1, y2, y3⟩ := X10.out.cells
  have xl := X10.out.1.lt
  have yl := X10.out.2.lt
  obtain ⟨a0, a1, a2, a3⟩ := (⟨B10.out.c0, B10.out.c1, B10.out.c2, B10.out.c3⟩ : _ ∧ _ ∧ _ ∧ _)
  go_wp2_with fail
  refine (HTo.out _).mono ?_
  rintro e w11 ⟨rfl, g⟩
  have X11 : Hid (Two w11 w.heap.size (w.heap.size + 1) n d n2 d2 s t s2 t2) := X10.out.kept g
  have HG11 : Hid (w.grownBy w11 none) := grownBy_trans HG10.out g
  have A11 : Hid (QBlk w11 w3.heap.size (.bool false) (.string eS) (.bool false) (.string eS)) := A10.out.kept g (by simp)
  have B11 : Hid (QBlk w11 w4.heap.size (.bool false) (.string eS) (.bool false) (.string eS)) := B10.out.kept g (by simp)
  have C11 : Hid (QBlk w11 w5.heap.size (.bool false) (.string eS) (.bool false) (.string eS)) := C10.out.kept g (by simp)
  have D11 : Hid (QBlk w11 w6.heap.size (.bool false) (.string eS) (.bool false) (.string eS)) := D10.out.kept g (by simp)
  clear g a0 a1 a2 a3 X10 HG10 A10 B10 C10 D10
  clear x0 x1 x2 x3 y0 y1 y2 y3 xl yl
  obtain ⟨x0, x1, x2, x3, y0, y1, y2, y3⟩ := X11.out.cells
  have xl := X11.out.1.lt
  have yl := X11.out.2.lt
  obtain ⟨a0, a1, a2, a3⟩ := (⟨C11.out.c0, C11.out.c1, C11.out.c2, C11.out.c3⟩ : _ ∧ _ ∧ _ ∧ _)
  go_wp2_with fail
  refine (HTo.out _).mono ?_
  rintro e w12 ⟨rfl, g⟩
  have X12 : Hid (Two w12 w.heap.size (w.heap.size + 1) n d n2 d2 s t s2 t2) := X11.out.kept g
  have HG12 : Hid (w.grownBy w12 none) := grownBy_trans HG11.out g
  have A12 : Hid (QBlk w12 w3.heap.size (.bool false) (.string eS) (.bool false) (.string eS)) := A11.out.kept g (by simp)
  have B12 : Hid (QBlk w12 w4.heap.size (.bool false) (.string eS) (.bool false) (.string eS)) := B11.out.kept g (by simp)
  have C12 : Hid (QBlk w12 w5.heap.size (.bool false) (.string eS) (.bool false) (.string eS)) := C11.out.kept g (by simp)
  have D12 : Hid (QBlk w12 w6.heap.size (.bool false) (.string eS) (.bool false) (.string eS)) := D11.out.kept g (by simp)
  clear g a0 a1 a2 a3 X11 HG11 A11 B11 C11 D11
  clear x0 x1 x2 x3 y0 y1 y2 y3 xl yl
  obtain ⟨x0, x1, x2, x3, y0, y1, y2, y3⟩ := X12.out.cells
  have xl := X12.out.1.lt
  have yl := X12.out.2.lt
  obtain ⟨a0, a1, a2, a3⟩ := (⟨D12.out.c0, D12.out.c1, D12.out.c2, D12.out.c3⟩ : _ ∧ _ ∧ _ ∧ _)
  go_wp2_with fail
  refine (HTo.out _).mono ?_
  rintro e w13 ⟨rfl, g⟩
  have X13 : Hid (Two w13 w.heap.size (w.heap.size + 1) n d n2 d2 s t s2 t2) := X12.out.kept g
  have HG13 : Hid (w.grownBy w13 none) := grownBy_trans HG12.out g
  have A13 : Hid (QBlk w13 w3.heap.size (.bool false) (.string eS) (.bool false) (.string eS)) := A12.out.kept g (by simp)
  have B13 : Hid (QBlk w13 w4.heap.size (.bool false) (.string eS) (.bool false) (.string eS)) := B12.out.kept g (by simp)
  have C13 : Hid (QBlk w13 w5.heap.size (.bool false) (.string eS) (.bool false) (.string eS)) := C12.out.kept g (by simp)
  have D13 : Hid (QBlk w13 w6.heap.size (.bool false) (.string eS) (.bool false) (.string eS)) := D12.out.kept g (by simp)
  clear g a0 a1 a2 a3 X12 HG12 A12 B12 C12 D12
  clear x0 x1 x2 x3 y0 y1 y2 y3 xl yl
  go_wp2_with fail
  refine (HK.out _ HG13.out).mono ?_
  rintro e w14 ⟨rfl, g⟩
  go_wp2_with fail
  go_ret
  exact ⟨rfl, grownBy_trans HG13.out g⟩
end Go.Proofs.YtgemkfiippooeaaGreatDoor

namespace Go.Proofs.YtgemkfiippooeaaGreatDoor
open Go.RowKit Go.Lib Go.Sort
set_option linter.unusedVariables false

set_option maxHeartbeats 6400000 in
set_option maxRecDepth 1000000 in
theorem sums_bad2 (n d n2 d2 : Bool) (s t s2 t2 : ByteArray) (w : World)
    (HL : Hid (∀ (W : World) (B : Nat), W.heap[B]? = some (.cells #[.bool n, .string s, .bool d, .string t, .bool n2, .string s2, .bool d2, .string t2] 25 (0, 0)) → Calls Tryz.prog 7 #[.int .i64 1100, .slice (some ⟨B, 0, none⟩) 2 2] W fun e w' => e = .returned (.bool false) ∧ W.grownBy w' none))
    (HM : Hid (∀ a b c f r (w : World), (a = n ∧ b = s ∧ c = d ∧ f = t ∧ r = true) ∨ (a = n2 ∧ b = s2 ∧ c = d2 ∧ f = t2 ∧ r = false) → Calls Tryz.prog 9 #[frac a b c f] w fun e w' => e = .returned (.bool r) ∧ w.grownBy w' none))
    (HP : Hid (∀ a b c f r (w : World), (a = n ∧ b = s ∧ c = d ∧ f = t ∧ r = true) ∨ (a = n2 ∧ b = s2 ∧ c = d2 ∧ f = t2 ∧ r = false) → Calls Tryz.prog 15 #[frac a b c f] w fun e w' => e = .returned (.bool r) ∧ w.grownBy w' none))
    (HAdd : Hid (∀ w, Calls Tryz.prog 10 #[frac n s d t, frac n2 s2 d2 t2] w fun e w' => e = .returned (.tuple #[frac false eS false eS, .int .i64 2]) ∧ w.grownBy w' none))
    (HSub : Hid (∀ w, Calls Tryz.prog 11 #[frac n s d t, frac n2 s2 d2 t2] w fun e w' => e = .returned (.tuple #[frac false eS false eS, .int .i64 2]) ∧ w.grownBy w' none))
    (HMul : Hid (∀ w, Calls Tryz.prog 12 #[frac n s d t, frac n2 s2 d2 t2] w fun e w' => e = .returned (.tuple #[frac false eS false eS, .int .i64 2]) ∧ w.grownBy w' none))
    (HDiv : Hid (∀ w, Calls Tryz.prog 13 #[frac n s d t, frac n2 s2 d2 t2] w fun e w' => e = .returned (.tuple #[frac false eS false eS, .int .i64 2]) ∧ w.grownBy w' none))
    (HCmp : Hid (∀ w, Calls Tryz.prog 14 #[frac n s d t, frac n2 s2 d2 t2] w fun e w' => e = .returned (.tuple #[.int .i64 0, .int .i64 2]) ∧ w.grownBy w' none))
    (HTo : Hid (∀ w, Calls Tryz.prog 16 #[frac false eS false eS, .int .i64 2, frac n s d t, .bool false] w fun e w' => e = .returned (.bool true) ∧ w.grownBy w' none))
    (HK : Hid (∀ W, w.grownBy W none → Calls Tryz.prog 8 #[] W fun e w' => e = .returned (.bool true) ∧ W.grownBy w' none)) :
    Calls Tryz.prog 3 #[frac n s d t, frac n2 s2 d2 t2] w fun e w' => e = .returned (.bool true) ∧ w.grownBy w' none := by
  go_enter Tryz.func3, Tryz.ntmps3
  go_wp2_with fail
  refine (HL.out _ _ ?hb).mono ?_
  case hb => first | exact at_alloc3 _ _ _ _ | (have := at_alloc3 w (qObj n s d t) (qObj n2 s2 d2 t2) (.cells #[.bool n, .string s, .bool d, .string t, .bool n2, .string s2, .bool d2, .string t2] 25); simpa using this)
  rintro e w1 ⟨rfl, g1⟩
  have X1 : Hid (Two w1 w.heap.size (w.heap.size + 1) n d n2 d2 s t s2 t2) := Two.kept ⟨old_alloc _ _ (at_alloc1 _ _ _), at_alloc2 _ _ _ _⟩ g1
  have HG1 : Hid (w.grownBy w1 none) := grownBy_trans (grow3 _ _ _ _) g1
  clear g1 HL
  go_wp2_with fail
  go_region_held3 (fun w' => w'.cell? ⟨w.heap.size, 0, none⟩ = some (.bool n) ∧ w'.cell? ⟨w.heap.size, 1, none⟩ = some (.string s) ∧ w'.cell? ⟨w.heap.size, 2, none⟩ = some (.bool d) ∧ w'.cell? ⟨w.heap.size, 3, none⟩ = some (.string t) ∧ w'.cell? ⟨w.heap.size + 1, 0, none⟩ = some (.bool n2) ∧ w'.cell? ⟨w.heap.size + 1, 1, none⟩ = some (.string s2) ∧ w'.cell? ⟨w.heap.size + 1, 2, none⟩ = some (.bool d2) ∧ w'.cell? ⟨w.heap.size + 1, 3, none⟩ = some (.string t2))
    (first | (go_keep; done) | exact (X1.out.kept (by assumption)).cells | exact (X1.out.kept (grow_drew (World.grownBy.refl _ _))).cells | fail)
    (first
      | (go_at_call 9; first | (have _q := GA; refine (HM.out _ _ _ _ _ _ (by exact .inr ⟨rfl, rfl, rfl, rfl, rfl⟩)).mono ?_; rintro e w2 ⟨rfl, gB⟩; have GB : w1.grownBy w2 none := grownBy_trans GA gB) | (refine (HM.out _ _ _ _ _ _ (by exact .inl ⟨rfl, rfl, rfl, rfl, rfl⟩)).mono ?_; rintro e wA ⟨rfl, gA⟩; have GA : w1.grownBy wA none := (by first | exact gA | exact grownBy_undrew gA)))
      | fail)
  have X2 : Hid (Two w2 w.heap.size (w.heap.size + 1) n d n2 d2 s t s2 t2) := X1.out.kept GB
  have HG2 : Hid (w.grownBy w2 none) := grownBy_trans HG1.out GB
  clear gA GA gB GB X1 HG1 HM
  obtain ⟨x0, x1, x2, x3, y0, y1, y2, y3⟩ := X2.out.cells
  have xl := X2.out.1.lt
  have yl := X2.out.2.lt
  go_wp2_with fail
  refine (HAdd.out _).mono ?_
  rintro e w3 ⟨rfl, g3⟩
  have X3 : Hid (Two w3 w.heap.size (w.heap.size + 1) n d n2 d2 s t s2 t2) := X2.out.kept g3
  have HG3 : Hid (w.grownBy w3 none) := grownBy_trans HG2.out g3
  clear g3 X2 HG2 HAdd
  clear x0 x1 x2 x3 y0 y1 y2 y3 xl yl
  obtain ⟨x0, x1, x2, x3, y0, y1, y2, y3⟩ := X3.out.cells
  have xl := X3.out.1.lt
  have yl := X3.out.2.lt
  go_wp2_with fail
  refine (HSub.out _).mono ?_
  rintro e w4 ⟨rfl, g⟩
  have X4 : Hid (Two w4 w.heap.size (w.heap.size + 1) n d n2 d2 s t s2 t2) := X3.out.kept (grownBy_trans (grow1 _ _) g)
  have HG4 : Hid (w.grownBy w4 none) := grownBy_trans HG3.out (grownBy_trans (grow1 _ _) g)
  have A4 : Hid (QBlk w4 w3.heap.size (.bool false) (.string eS) (.bool false) (.string eS)) := QBlk.kept (heap_alloc_new _ _) g (by simp)
  clear g X3 HG3 HSub
  clear x0 x1 x2 x3 y0 y1 y2 y3 xl yl
  obtain ⟨x0, x1, x2, x3, y0, y1, y2, y3⟩ := X4.out.cells
  have xl := X4.out.1.lt
  have yl := X4.out.2.lt
  go_wp2_with fail
  refine (HMul.out _).mono ?_
  rintro e w5 ⟨rfl, g⟩
  have X5 : Hid (Two w5 w.heap.size (w.heap.size + 1) n d n2 d2 s t s2 t2) := X4.out.kept (grownBy_trans (grow1 _ _) g)
  have HG5 : Hid (w.grownBy w5 none) := grownBy_trans HG4.out (grownBy_trans (grow1 _ _) g)
  have A5 : Hid (QBlk w5 w3.heap.size (.bool false) (.string eS) (.bool false) (.string eS)) := A4.out.kept (grownBy_trans (grow1 _ _) g) (by simp)
  have B5 : Hid (QBlk w5 w4.heap.size (.bool false) (.string eS) (.bool false) (.string eS)) := QBlk.kept (heap_alloc_new _ _) g (by simp)
  clear g X4 HG4 HMul A4
  clear x0 x1 x2 x3 y0 y1 y2 y3 xl yl
  obtain ⟨x0, x1, x2, x3, y0, y1, y2, y3⟩ := X5.out.cells
  have xl := X5.out.1.lt
  have yl := X5.out.2.lt
  go_wp2_with fail
  refine (HDiv.out _).mono ?_
  rintro e w6 ⟨rfl, g⟩
  have X6 : Hid (Two w6 w.heap.size (w.heap.size + 1) n d n2 d2 s t s2 t2) := X5.out.kept (grownBy_trans (grow1 _ _) g)
  have HG6 : Hid (w.grownBy w6 none) := grownBy_trans HG5.out (grownBy_trans (grow1 _ _) g)
  have A6 : Hid (QBlk w6 w3.heap.size (.bool false) (.string eS) (.bool false) (.string eS)) := A5.out.kept (grownBy_trans (grow1 _ _) g) (by simp)
  have B6 : Hid (QBlk w6 w4.heap.size (.bool false) (.string eS) (.bool false) (.string eS)) := B5.out.kept (grownBy_trans (grow1 _ _) g) (by simp)
  have C6 : Hid (QBlk w6 w5.heap.size (.bool false) (.string eS) (.bool false) (.string eS)) := QBlk.kept (heap_alloc_new _ _) g (by simp)
  clear g X5 HG5 HDiv A5 B5
  clear x0 x1 x2 x3 y0 y1 y2 y3 xl yl
  obtain ⟨x0, x1, x2, x3, y0, y1, y2, y3⟩ := X6.out.cells
  have xl := X6.out.1.lt
  have yl := X6.out.2.lt
  go_wp2_with fail
  refine (HCmp.out _).mono ?_
  rintro e w7 ⟨rfl, g⟩
  have X7 : Hid (Two w7 w.heap.size (w.heap.size + 1) n d n2 d2 s t s2 t2) := X6.out.kept (grownBy_trans (grow1 _ _) g)
  have HG7 : Hid (w.grownBy w7 none) := grownBy_trans HG6.out (grownBy_trans (grow1 _ _) g)
  have A7 : Hid (QBlk w7 w3.heap.size (.bool false) (.string eS) (.bool false) (.string eS)) := A6.out.kept (grownBy_trans (grow1 _ _) g) (by simp)
  have B7 : Hid (QBlk w7 w4.heap.size (.bool false) (.string eS) (.bool false) (.string eS)) := B6.out.kept (grownBy_trans (grow1 _ _) g) (by simp)
  have C7 : Hid (QBlk w7 w5.heap.size (.bool false) (.string eS) (.bool false) (.string eS)) := C6.out.kept (grownBy_trans (grow1 _ _) g) (by simp)
  have D7 : Hid (QBlk w7 w6.heap.size (.bool false) (.string eS) (.bool false) (.string eS)) := QBlk.kept (heap_alloc_new _ _) g (by simp)
  clear g X6 HG6 HCmp A6 B6 C6
  clear x0 x1 x2 x3 y0 y1 y2 y3 xl yl
  obtain ⟨x0, x1, x2, x3, y0, y1, y2, y3⟩ := X7.out.cells
  have xl := X7.out.1.lt
  have yl := X7.out.2.lt
  go_wp2_with fail
  refine (HP.out _ _ _ _ _ _ (by exact .inl ⟨rfl, rfl, rfl, rfl, rfl⟩)).mono ?_
  rintro e w8 ⟨rfl, g⟩
  have X8 : Hid (Two w8 w.heap.size (w.heap.size + 1) n d n2 d2 s t s2 t2) := X7.out.kept g
  have HG8 : Hid (w.grownBy w8 none) := grownBy_trans HG7.out g
  have A8 : Hid (QBlk w8 w3.heap.size (.bool false) (.string eS) (.bool false) (.string eS)) := A7.out.kept g (by simp)
  have B8 : Hid (QBlk w8 w4.heap.size (.bool false) (.string eS) (.bool false) (.string eS)) := B7.out.kept g (by simp)
  have C8 : Hid (QBlk w8 w5.heap.size (.bool false) (.string eS) (.bool false) (.string eS)) := C7.out.kept g (by simp)
  have D8 : Hid (QBlk w8 w6.heap.size (.bool false) (.string eS) (.bool false) (.string eS)) := D7.out.kept g (by simp)
  clear g X7 HG7 A7 B7 C7 D7
  clear x0 x1 x2 x3 y0 y1 y2 y3 xl yl
  obtain ⟨x0, x1, x2, x3, y0, y1, y2, y3⟩ := X8.out.cells
  have xl := X8.out.1.lt
  have yl := X8.out.2.lt
  go_wp2_with fail
  refine (HP.out _ _ _ _ _ _ (by exact .inr ⟨rfl, rfl, rfl, rfl, rfl⟩)).mono ?_
  rintro e w9 ⟨rfl, g⟩
  have X9 : Hid (Two w9 w.heap.size (w.heap.size + 1) n d n2 d2 s t s2 t2) := X8.out.kept g
  have HG9 : Hid (w.grownBy w9 none) := grownBy_trans HG8.out g
  have A9 : Hid (QBlk w9 w3.heap.size (.bool false) (.string eS) (.bool false) (.string eS)) := A8.out.kept g (by simp)
  have B9 : Hid (QBlk w9 w4.heap.size (.bool false) (.string eS) (.bool false) (.string eS)) := B8.out.kept g (by simp)
  have C9 : Hid (QBlk w9 w5.heap.size (.bool false) (.string eS) (.bool false) (.string eS)) := C8.out.kept g (by simp)
  have D9 : Hid (QBlk w9 w6.heap.size (.bool false) (.string eS) (.bool false) (.string eS)) := D8.out.kept g (by simp)
  clear g X8 HG8 A8 B8 C8 D8
  clear x0 x1 x2 x3 y0 y1 y2 y3 xl yl
  clear HP
  obtain ⟨x0, x1, x2, x3, y0, y1, y2, y3⟩ := X9.out.cells
  have xl := X9.out.1.lt
  have yl := X9.out.2.lt
  obtain ⟨a0, a1, a2, a3⟩ := (⟨A9.out.c0, A9.out.c1, A9.out.c2, A9.out.c3⟩ : _ ∧ _ ∧ _ ∧ _)
  go_wp2_with fail
  refine (HTo.out _).mono ?_
  rintro e w10 ⟨rfl, g⟩
  have X10 : Hid (Two w10 w.heap.size (w.heap.size + 1) n d n2 d2 s t s2 t2) := X9.out.kept g
  have HG10 : Hid (w.grownBy w10 none) := grownBy_trans HG9.out g
  have A10 : Hid (QBlk w10 w3.heap.size (.bool false) (.string eS) (.bool false) (.string eS)) := A9.out.kept g (by simp)
  have B10 : Hid (QBlk w10 w4.heap.size (.bool false) (.string eS) (.bool false) (.string eS)) := B9.out.kept g (by simp)
  have C10 : Hid (QBlk w10 w5.heap.size (.bool false) (.string eS) (.bool false) (.string eS)) := C9.out.kept g (by simp)
  have D10 : Hid (QBlk w10 w6.heap.size (.bool false) (.string eS) (.bool false) (.string eS)) := D9.out.kept g (by simp)
  clear g a0 a1 a2 a3 X9 HG9 A9 B9 C9 D9
  clear x0 x1 x2 x3 y0 y1 y2 y3 xl yl
  obtain ⟨x0, x1, x2, x3, y0, y1, y2, y3⟩ := X10.out.cells
  have xl := X10.out.1.lt
  have yl := X10.out.2.lt
  obtain ⟨a0, a1, a2, a3⟩ := (⟨B10.out.c0, B10.out.c1, B10.out.c2, B10.out.c3⟩ : _ ∧ _ ∧ _ ∧ _)
  go_wp2_with fail
  refine (HTo.out _).mono ?_
  rintro e w11 ⟨rfl, g⟩
  have X11 : Hid (Two w11 w.heap.size (w.heap.size + 1) n d n2 d2 s t s2 t2) := X10.out.kept g
  have HG11 : Hid (w.grownBy w11 none) := grownBy_trans HG10.out g
  have A11 : Hid (QBlk w11 w3.heap.size (.bool false) (.string eS) (.bool false) (.string eS)) := A10.out.kept g (by simp)
  have B11 : Hid (QBlk w11 w4.heap.size (.bool false) (.string eS) (.bool false) (.string eS)) := B10.out.kept g (by simp)
  have C11 : Hid (QBlk w11 w5.heap.size (.bool false) (.string eS) (.bool false) (.string eS)) := C10.out.kept g (by simp)
  have D11 : Hid (QBlk w11 w6.heap.size (.bool false) (.string eS) (.bool false) (.string eS)) := D10.out.kept g (by simp)
  clear g a0 a1 a2 a3 X10 HG10 A10 B10 C10 D10
  clear x0 x1 x2 x3 y0 y1 y2 y3 xl yl
  obtain ⟨x0, x1, x2, x3, y0, y1, y2, y3⟩ := X11.out.cells
  have xl := X11.out.1.lt
  have yl := X11.out.2.lt
  obtain ⟨a0, a1, a2, a3⟩ := (⟨C11.out.c0, C11.out.c1, C11.out.c2, C11.out.c3⟩ : _ ∧ _ ∧ _ ∧ _)
  go_wp2_with fail
  refine (HTo.out _).mono ?_
  rintro e w12 ⟨rfl, g⟩
  have X12 : Hid (Two w12 w.heap.size (w.heap.size + 1) n d n2 d2 s t s2 t2) := X11.out.kept g
  have HG12 : Hid (w.grownBy w12 none) := grownBy_trans HG11.out g
  have A12 : Hid (QBlk w12 w3.heap.size (.bool false) (.string eS) (.bool false) (.string eS)) := A11.out.kept g (by simp)
  have B12 : Hid (QBlk w12 w4.heap.size (.bool false) (.string eS) (.bool false) (.string eS)) := B11.out.kept g (by simp)
  have C12 : Hid (QBlk w12 w5.heap.size (.bool false) (.string eS) (.bool false) (.string eS)) := C11.out.kept g (by simp)
  have D12 : Hid (QBlk w12 w6.heap.size (.bool false) (.string eS) (.bool false) (.string eS)) := D11.out.kept g (by simp)
  clear g a0 a1 a2 a3 X11 HG11 A11 B11 C11 D11
  clear x0 x1 x2 x3 y0 y1 y2 y3 xl yl
  obtain ⟨x0, x1, x2, x3, y0, y1, y2, y3⟩ := X12.out.cells
  have xl := X12.out.1.lt
  have yl := X12.out.2.lt
  obtain ⟨a0, a1, a2, a3⟩ := (⟨D12.out.c0, D12.out.c1, D12.out.c2, D12.out.c3⟩ : _ ∧ _ ∧ _ ∧ _)
  go_wp2_with fail
  refine (HTo.out _).mono ?_
  rintro e w13 ⟨rfl, g⟩
  have X13 : Hid (Two w13 w.heap.size (w.heap.size + 1) n d n2 d2 s t s2 t2) := X12.out.kept g
  have HG13 : Hid (w.grownBy w13 none) := grownBy_trans HG12.out g
  have A13 : Hid (QBlk w13 w3.heap.size (.bool false) (.string eS) (.bool false) (.string eS)) := A12.out.kept g (by simp)
  have B13 : Hid (QBlk w13 w4.heap.size (.bool false) (.string eS) (.bool false) (.string eS)) := B12.out.kept g (by simp)
  have C13 : Hid (QBlk w13 w5.heap.size (.bool false) (.string eS) (.bool false) (.string eS)) := C12.out.kept g (by simp)
  have D13 : Hid (QBlk w13 w6.heap.size (.bool false) (.string eS) (.bool false) (.string eS)) := D12.out.kept g (by simp)
  clear g a0 a1 a2 a3 X12 HG12 A12 B12 C12 D12
  clear x0 x1 x2 x3 y0 y1 y2 y3 xl yl
  go_wp2_with fail
  refine (HK.out _ HG13.out).mono ?_
  rintro e w14 ⟨rfl, g⟩
  go_wp2_with fail
  go_ret
  exact ⟨rfl, grownBy_trans HG13.out g⟩
end Go.Proofs.YtgemkfiippooeaaGreatDoor

namespace Go.Proofs.YtgemkfiippooeaaGreatDoor
open Go.RowKit Go.Lib Go.Sort
set_option linter.unusedVariables false

set_option maxHeartbeats 6400000 in
set_option maxRecDepth 1000000 in
theorem sums_bad3 (n d n2 d2 : Bool) (s t s2 t2 : ByteArray) (w : World)
    (HL : Hid (∀ (W : World) (B : Nat), W.heap[B]? = some (.cells #[.bool n, .string s, .bool d, .string t, .bool n2, .string s2, .bool d2, .string t2] 25 (0, 0)) → Calls Tryz.prog 7 #[.int .i64 1100, .slice (some ⟨B, 0, none⟩) 2 2] W fun e w' => e = .returned (.bool false) ∧ W.grownBy w' none))
    (HM : Hid (∀ a b c f r (w : World), (a = n ∧ b = s ∧ c = d ∧ f = t ∧ r = false) ∨ (a = n2 ∧ b = s2 ∧ c = d2 ∧ f = t2 ∧ r = false) → Calls Tryz.prog 9 #[frac a b c f] w fun e w' => e = .returned (.bool r) ∧ w.grownBy w' none))
    (HP : Hid (∀ a b c f r (w : World), (a = n ∧ b = s ∧ c = d ∧ f = t ∧ r = false) ∨ (a = n2 ∧ b = s2 ∧ c = d2 ∧ f = t2 ∧ r = false) → Calls Tryz.prog 15 #[frac a b c f] w fun e w' => e = .returned (.bool r) ∧ w.grownBy w' none))
    (HAdd : Hid (∀ w, Calls Tryz.prog 10 #[frac n s d t, frac n2 s2 d2 t2] w fun e w' => e = .returned (.tuple #[frac false eS false eS, .int .i64 2]) ∧ w.grownBy w' none))
    (HSub : Hid (∀ w, Calls Tryz.prog 11 #[frac n s d t, frac n2 s2 d2 t2] w fun e w' => e = .returned (.tuple #[frac false eS false eS, .int .i64 2]) ∧ w.grownBy w' none))
    (HMul : Hid (∀ w, Calls Tryz.prog 12 #[frac n s d t, frac n2 s2 d2 t2] w fun e w' => e = .returned (.tuple #[frac false eS false eS, .int .i64 2]) ∧ w.grownBy w' none))
    (HDiv : Hid (∀ w, Calls Tryz.prog 13 #[frac n s d t, frac n2 s2 d2 t2] w fun e w' => e = .returned (.tuple #[frac false eS false eS, .int .i64 2]) ∧ w.grownBy w' none))
    (HCmp : Hid (∀ w, Calls Tryz.prog 14 #[frac n s d t, frac n2 s2 d2 t2] w fun e w' => e = .returned (.tuple #[.int .i64 0, .int .i64 2]) ∧ w.grownBy w' none))
    (HTo : Hid (∀ w, Calls Tryz.prog 16 #[frac false eS false eS, .int .i64 2, frac n s d t, .bool false] w fun e w' => e = .returned (.bool true) ∧ w.grownBy w' none))
    (HK : Hid (∀ W, w.grownBy W none → Calls Tryz.prog 8 #[] W fun e w' => e = .returned (.bool true) ∧ W.grownBy w' none)) :
    Calls Tryz.prog 3 #[frac n s d t, frac n2 s2 d2 t2] w fun e w' => e = .returned (.bool true) ∧ w.grownBy w' none := by
  go_enter Tryz.func3, Tryz.ntmps3
  go_wp2_with fail
  refine (HL.out _ _ ?hb).mono ?_
  case hb => first | exact at_alloc3 _ _ _ _ | (have := at_alloc3 w (qObj n s d t) (qObj n2 s2 d2 t2) (.cells #[.bool n, .string s, .bool d, .string t, .bool n2, .string s2, .bool d2, .string t2] 25); simpa using this)
  rintro e w1 ⟨rfl, g1⟩
  have X1 : Hid (Two w1 w.heap.size (w.heap.size + 1) n d n2 d2 s t s2 t2) := Two.kept ⟨old_alloc _ _ (at_alloc1 _ _ _), at_alloc2 _ _ _ _⟩ g1
  have HG1 : Hid (w.grownBy w1 none) := grownBy_trans (grow3 _ _ _ _) g1
  clear g1 HL
  go_wp2_with fail
  go_region_held3 (fun w' => w'.cell? ⟨w.heap.size, 0, none⟩ = some (.bool n) ∧ w'.cell? ⟨w.heap.size, 1, none⟩ = some (.string s) ∧ w'.cell? ⟨w.heap.size, 2, none⟩ = some (.bool d) ∧ w'.cell? ⟨w.heap.size, 3, none⟩ = some (.string t) ∧ w'.cell? ⟨w.heap.size + 1, 0, none⟩ = some (.bool n2) ∧ w'.cell? ⟨w.heap.size + 1, 1, none⟩ = some (.string s2) ∧ w'.cell? ⟨w.heap.size + 1, 2, none⟩ = some (.bool d2) ∧ w'.cell? ⟨w.heap.size + 1, 3, none⟩ = some (.string t2))
    (first | (go_keep; done) | exact (X1.out.kept (by assumption)).cells | exact (X1.out.kept (grow_drew (World.grownBy.refl _ _))).cells | fail)
    (first
      | (go_at_call 9; first | (have _q := GA; refine (HM.out _ _ _ _ _ _ (by exact .inr ⟨rfl, rfl, rfl, rfl, rfl⟩)).mono ?_; rintro e w2 ⟨rfl, gB⟩; have GB : w1.grownBy w2 none := grownBy_trans GA gB) | (refine (HM.out _ _ _ _ _ _ (by exact .inl ⟨rfl, rfl, rfl, rfl, rfl⟩)).mono ?_; rintro e wA ⟨rfl, gA⟩; have GA : w1.grownBy wA none := (by first | exact gA | exact grownBy_undrew gA)))
      | fail)
  have X2 : Hid (Two w2 w.heap.size (w.heap.size + 1) n d n2 d2 s t s2 t2) := X1.out.kept GB
  have HG2 : Hid (w.grownBy w2 none) := grownBy_trans HG1.out GB
  clear gA GA gB GB X1 HG1 HM
  obtain ⟨x0, x1, x2, x3, y0, y1, y2, y3⟩ := X2.out.cells
  have xl := X2.out.1.lt
  have yl := X2.out.2.lt
  go_wp2_with fail
  refine (HAdd.out _).mono ?_
  rintro e w3 ⟨rfl, g3⟩
  have X3 : Hid (Two w3 w.heap.size (w.heap.size + 1) n d n2 d2 s t s2 t2) := X2.out.kept g3
  have HG3 : Hid (w.grownBy w3 none) := grownBy_trans HG2.out g3
  clear g3 X2 HG2 HAdd
  clear x0 x1 x2 x3 y0 y1 y2 y3 xl yl
  obtain ⟨x0, x1, x2, x3, y0, y1, y2, y3⟩ := X3.out.cells
  have xl := X3.out.1.lt
  have yl := X3.out.2.lt
  go_wp2_with fail
  refine (HSub.out _).mono ?_
  rintro e w4 ⟨rfl, g⟩
  have X4 : Hid (Two w4 w.heap.size (w.heap.size + 1) n d n2 d2 s t s2 t2) := X3.out.kept (grownBy_trans (grow1 _ _) g)
  have HG4 : Hid (w.grownBy w4 none) := grownBy_trans HG3.out (grownBy_trans (grow1 _ _) g)
  have A4 : Hid (QBlk w4 w3.heap.size (.bool false) (.string eS) (.bool false) (.string eS)) := QBlk.kept (heap_alloc_new _ _) g (by simp)
  clear g X3 HG3 HSub
  clear x0 x1 x2 x3 y0 y1 y2 y3 xl yl
  obtain ⟨x0, x1, x2, x3, y0, y1, y2, y3⟩ := X4.out.cells
  have xl := X4.out.1.lt
  have yl := X4.out.2.lt
  go_wp2_with fail
  refine (HMul.out _).mono ?_
  rintro e w5 ⟨rfl, g⟩
  have X5 : Hid (Two w5 w.heap.size (w.heap.size + 1) n d n2 d2 s t s2 t2) := X4.out.kept (grownBy_trans (grow1 _ _) g)
  have HG5 : Hid (w.grownBy w5 none) := grownBy_trans HG4.out (grownBy_trans (grow1 _ _) g)
  have A5 : Hid (QBlk w5 w3.heap.size (.bool false) (.string eS) (.bool false) (.string eS)) := A4.out.kept (grownBy_trans (grow1 _ _) g) (by simp)
  have B5 : Hid (QBlk w5 w4.heap.size (.bool false) (.string eS) (.bool false) (.string eS)) := QBlk.kept (heap_alloc_new _ _) g (by simp)
  clear g X4 HG4 HMul A4
  clear x0 x1 x2 x3 y0 y1 y2 y3 xl yl
  obtain ⟨x0, x1, x2, x3, y0, y1, y2, y3⟩ := X5.out.cells
  have xl := X5.out.1.lt
  have yl := X5.out.2.lt
  go_wp2_with fail
  refine (HDiv.out _).mono ?_
  rintro e w6 ⟨rfl, g⟩
  have X6 : Hid (Two w6 w.heap.size (w.heap.size + 1) n d n2 d2 s t s2 t2) := X5.out.kept (grownBy_trans (grow1 _ _) g)
  have HG6 : Hid (w.grownBy w6 none) := grownBy_trans HG5.out (grownBy_trans (grow1 _ _) g)
  have A6 : Hid (QBlk w6 w3.heap.size (.bool false) (.string eS) (.bool false) (.string eS)) := A5.out.kept (grownBy_trans (grow1 _ _) g) (by simp)
  have B6 : Hid (QBlk w6 w4.heap.size (.bool false) (.string eS) (.bool false) (.string eS)) := B5.out.kept (grownBy_trans (grow1 _ _) g) (by simp)
  have C6 : Hid (QBlk w6 w5.heap.size (.bool false) (.string eS) (.bool false) (.string eS)) := QBlk.kept (heap_alloc_new _ _) g (by simp)
  clear g X5 HG5 HDiv A5 B5
  clear x0 x1 x2 x3 y0 y1 y2 y3 xl yl
  obtain ⟨x0, x1, x2, x3, y0, y1, y2, y3⟩ := X6.out.cells
  have xl := X6.out.1.lt
  have yl := X6.out.2.lt
  go_wp2_with fail
  refine (HCmp.out _).mono ?_
  rintro e w7 ⟨rfl, g⟩
  have X7 : Hid (Two w7 w.heap.size (w.heap.size + 1) n d n2 d2 s t s2 t2) := X6.out.kept (grownBy_trans (grow1 _ _) g)
  have HG7 : Hid (w.grownBy w7 none) := grownBy_trans HG6.out (grownBy_trans (grow1 _ _) g)
  have A7 : Hid (QBlk w7 w3.heap.size (.bool false) (.string eS) (.bool false) (.string eS)) := A6.out.kept (grownBy_trans (grow1 _ _) g) (by simp)
  have B7 : Hid (QBlk w7 w4.heap.size (.bool false) (.string eS) (.bool false) (.string eS)) := B6.out.kept (grownBy_trans (grow1 _ _) g) (by simp)
  have C7 : Hid (QBlk w7 w5.heap.size (.bool false) (.string eS) (.bool false) (.string eS)) := C6.out.kept (grownBy_trans (grow1 _ _) g) (by simp)
  have D7 : Hid (QBlk w7 w6.heap.size (.bool false) (.string eS) (.bool false) (.string eS)) := QBlk.kept (heap_alloc_new _ _) g (by simp)
  clear g X6 HG6 HCmp A6 B6 C6
  clear x0 x1 x2 x3 y0 y1 y2 y3 xl yl
  obtain ⟨x0, x1, x2, x3, y0, y1, y2, y3⟩ := X7.out.cells
  have xl := X7.out.1.lt
  have yl := X7.out.2.lt
  go_wp2_with fail
  refine (HP.out _ _ _ _ _ _ (by exact .inl ⟨rfl, rfl, rfl, rfl, rfl⟩)).mono ?_
  rintro e w8 ⟨rfl, g⟩
  have X8 : Hid (Two w8 w.heap.size (w.heap.size + 1) n d n2 d2 s t s2 t2) := X7.out.kept g
  have HG8 : Hid (w.grownBy w8 none) := grownBy_trans HG7.out g
  have A8 : Hid (QBlk w8 w3.heap.size (.bool false) (.string eS) (.bool false) (.string eS)) := A7.out.kept g (by simp)
  have B8 : Hid (QBlk w8 w4.heap.size (.bool false) (.string eS) (.bool false) (.string eS)) := B7.out.kept g (by simp)
  have C8 : Hid (QBlk w8 w5.heap.size (.bool false) (.string eS) (.bool false) (.string eS)) := C7.out.kept g (by simp)
  have D8 : Hid (QBlk w8 w6.heap.size (.bool false) (.string eS) (.bool false) (.string eS)) := D7.out.kept g (by simp)
  clear g X7 HG7 A7 B7 C7 D7
  clear x0 x1 x2 x3 y0 y1 y2 y3 xl yl
  obtain ⟨x0, x1, x2, x3, y0, y1, y2, y3⟩ := X8.out.cells
  have xl := X8.out.1.lt
  have yl := X8.out.2.lt
  go_wp2_with fail
  refine (HP.out _ _ _ _ _ _ (by exact .inr ⟨rfl, rfl, rfl, rfl, rfl⟩)).mono ?_
  rintro e w9 ⟨rfl, g⟩
  have X9 : Hid (Two w9 w.heap.size (w.heap.size + 1) n d n2 d2 s t s2 t2) := X8.out.kept g
  have HG9 : Hid (w.grownBy w9 none) := grownBy_trans HG8.out g
  have A9 : Hid (QBlk w9 w3.heap.size (.bool false) (.string eS) (.bool false) (.string eS)) := A8.out.kept g (by simp)
  have B9 : Hid (QBlk w9 w4.heap.size (.bool false) (.string eS) (.bool false) (.string eS)) := B8.out.kept g (by simp)
  have C9 : Hid (QBlk w9 w5.heap.size (.bool false) (.string eS) (.bool false) (.string eS)) := C8.out.kept g (by simp)
  have D9 : Hid (QBlk w9 w6.heap.size (.bool false) (.string eS) (.bool false) (.string eS)) := D8.out.kept g (by simp)
  clear g X8 HG8 A8 B8 C8 D8
  clear x0 x1 x2 x3 y0 y1 y2 y3 xl yl
  clear HP
  obtain ⟨x0, x1, x2, x3, y0, y1, y2, y3⟩ := X9.out.cells
  have xl := X9.out.1.lt
  have yl := X9.out.2.lt
  obtain ⟨a0, a1, a2, a3⟩ := (⟨A9.out.c0, A9.out.c1, A9.out.c2, A9.out.c3⟩ : _ ∧ _ ∧ _ ∧ _)
  go_wp2_with fail
  refine (HTo.out _).mono ?_
  rintro e w10 ⟨rfl, g⟩
  have X10 : Hid (Two w10 w.heap.size (w.heap.size + 1) n d n2 d2 s t s2 t2) := X9.out.kept g
  have HG10 : Hid (w.grownBy w10 none) := grownBy_trans HG9.out g
  have A10 : Hid (QBlk w10 w3.heap.size (.bool false) (.string eS) (.bool false) (.string eS)) := A9.out.kept g (by simp)
  have B10 : Hid (QBlk w10 w4.heap.size (.bool false) (.string eS) (.bool false) (.string eS)) := B9.out.kept g (by simp)
  have C10 : Hid (QBlk w10 w5.heap.size (.bool false) (.string eS) (.bool false) (.string eS)) := C9.out.kept g (by simp)
  have D10 : Hid (QBlk w10 w6.heap.size (.bool false) (.string eS) (.bool false) (.string eS)) := D9.out.kept g (by simp)
  clear g a0 a1 a2 a3 X9 HG9 A9 B9 C9 D9
  clear x0 x1 x2 x3 y0 y1 y2 y3 xl yl
  obtain ⟨x0, x1, x2, x3, y0, y1, y2, y3⟩ := X10.out.cells
  have xl := X10.out.1.lt
  have yl := X10.out.2.lt
  obtain ⟨a0, a1, a2, a3⟩ := (⟨B10.out.c0, B10.out.c1, B10.out.c2, B10.out.c3⟩ : _ ∧ _ ∧ _ ∧ _)
  go_wp2_with fail
  refine (HTo.out _).mono ?_
  rintro e w11 ⟨rfl, g⟩
  have X11 : Hid (Two w11 w.heap.size (w.heap.size + 1) n d n2 d2 s t s2 t2) := X10.out.kept g
  have HG11 : Hid (w.grownBy w11 none) := grownBy_trans HG10.out g
  have A11 : Hid (QBlk w11 w3.heap.size (.bool false) (.string eS) (.bool false) (.string eS)) := A10.out.kept g (by simp)
  have B11 : Hid (QBlk w11 w4.heap.size (.bool false) (.string eS) (.bool false) (.string eS)) := B10.out.kept g (by simp)
  have C11 : Hid (QBlk w11 w5.heap.size (.bool false) (.string eS) (.bool false) (.string eS)) := C10.out.kept g (by simp)
  have D11 : Hid (QBlk w11 w6.heap.size (.bool false) (.string eS) (.bool false) (.string eS)) := D10.out.kept g (by simp)
  clear g a0 a1 a2 a3 X10 HG10 A10 B10 C10 D10
  clear x0 x1 x2 x3 y0 y1 y2 y3 xl yl
  obtain ⟨x0, x1, x2, x3, y0, y1, y2, y3⟩ := X11.out.cells
  have xl := X11.out.1.lt
  have yl := X11.out.2.lt
  obtain ⟨a0, a1, a2, a3⟩ := (⟨C11.out.c0, C11.out.c1, C11.out.c2, C11.out.c3⟩ : _ ∧ _ ∧ _ ∧ _)
  go_wp2_with fail
  refine (HTo.out _).mono ?_
  rintro e w12 ⟨rfl, g⟩
  have X12 : Hid (Two w12 w.heap.size (w.heap.size + 1) n d n2 d2 s t s2 t2) := X11.out.kept g
  have HG12 : Hid (w.grownBy w12 none) := grownBy_trans HG11.out g
  have A12 : Hid (QBlk w12 w3.heap.size (.bool false) (.string eS) (.bool false) (.string eS)) := A11.out.kept g (by simp)
  have B12 : Hid (QBlk w12 w4.heap.size (.bool false) (.string eS) (.bool false) (.string eS)) := B11.out.kept g (by simp)
  have C12 : Hid (QBlk w12 w5.heap.size (.bool false) (.string eS) (.bool false) (.string eS)) := C11.out.kept g (by simp)
  have D12 : Hid (QBlk w12 w6.heap.size (.bool false) (.string eS) (.bool false) (.string eS)) := D11.out.kept g (by simp)
  clear g a0 a1 a2 a3 X11 HG11 A11 B11 C11 D11
  clear x0 x1 x2 x3 y0 y1 y2 y3 xl yl
  obtain ⟨x0, x1, x2, x3, y0, y1, y2, y3⟩ := X12.out.cells
  have xl := X12.out.1.lt
  have yl := X12.out.2.lt
  obtain ⟨a0, a1, a2, a3⟩ := (⟨D12.out.c0, D12.out.c1, D12.out.c2, D12.out.c3⟩ : _ ∧ _ ∧ _ ∧ _)
  go_wp2_with fail
  refine (HTo.out _).mono ?_
  rintro e w13 ⟨rfl, g⟩
  have X13 : Hid (Two w13 w.heap.size (w.heap.size + 1) n d n2 d2 s t s2 t2) := X12.out.kept g
  have HG13 : Hid (w.grownBy w13 none) := grownBy_trans HG12.out g
  have A13 : Hid (QBlk w13 w3.heap.size (.bool false) (.string eS) (.bool false) (.string eS)) := A12.out.kept g (by simp)
  have B13 : Hid (QBlk w13 w4.heap.size (.bool false) (.string eS) (.bool false) (.string eS)) := B12.out.kept g (by simp)
  have C13 : Hid (QBlk w13 w5.heap.size (.bool false) (.string eS) (.bool false) (.string eS)) := C12.out.kept g (by simp)
  have D13 : Hid (QBlk w13 w6.heap.size (.bool false) (.string eS) (.bool false) (.string eS)) := D12.out.kept g (by simp)
  clear g a0 a1 a2 a3 X12 HG12 A12 B12 C12 D12
  clear x0 x1 x2 x3 y0 y1 y2 y3 xl yl
  go_wp2_with fail
  refine (HK.out _ HG13.out).mono ?_
  rintro e w14 ⟨rfl, g⟩
  go_wp2_with fail
  go_ret
  exact ⟨rfl, grownBy_trans HG13.out g⟩
end Go.Proofs.YtgemkfiippooeaaGreatDoor

namespace Go.Proofs.YtgemkfiippooeaaGreatDoor
open Go.RowKit Go.Lib Go.Sort
set_option linter.unusedVariables false

set_option maxHeartbeats 3200000 in
set_option maxRecDepth 1000000 in
theorem sums_long (n d n2 d2 : Bool) (s t s2 t2 : ByteArray) (w : World)
    (HL : Hid (∀ (W : World) (B : Nat), W.heap[B]? = some (.cells #[.bool n, .string s, .bool d, .string t, .bool n2, .string s2, .bool d2, .string t2] 25 (0, 0)) → Calls Tryz.prog 7 #[.int .i64 1100, .slice (some ⟨B, 0, none⟩) 2 2] W fun e w' => e = .returned (.bool true) ∧ W.grownBy w' none))
    (HK : Hid (∀ W, w.grownBy W none → Calls Tryz.prog 8 #[] W fun e w' => e = .returned (.bool true) ∧ W.grownBy w' none)) :
    Calls Tryz.prog 3 #[frac n s d t, frac n2 s2 d2 t2] w fun e w' => e = .returned (.bool true) ∧ w.grownBy w' none := by
  go_enter Tryz.func3, Tryz.ntmps3
  go_wp2_with fail
  refine (HL.out _ _ ?hb).mono ?_
  case hb => first | exact at_alloc3 _ _ _ _ | (have := at_alloc3 w (qObj n s d t) (qObj n2 s2 d2 t2) (.cells #[.bool n, .string s, .bool d, .string t, .bool n2, .string s2, .bool d2, .string t2] 25); simpa using this)
  rintro e w1 ⟨rfl, g1⟩
  have G1 : w.grownBy w1 none := grownBy_trans (grow3 _ _ _ _) g1
  clear g1
  go_wp2_with fail
  refine (HK.out _ G1).mono ?_
  rintro e w2 ⟨rfl, g2⟩
  go_wp2_with fail
  go_ret
  exact ⟨rfl, grownBy_trans G1 g2⟩
end Go.Proofs.YtgemkfiippooeaaGreatDoor

namespace Go.Proofs.YtgemkfiippooeaaGreatDoor
open Go.RowKit Go.Lib Go.Sort
set_option linter.unusedVariables false

set_option maxHeartbeats 3200000 in
set_option maxRecDepth 1000000 in
theorem longq_no (mo : Int) (hmo : mo ≤ 100000) (w : World) (v : Value) (l : List Q4) (h : DQ w v l) (hl : l.length ≤ 1000) (hs : ∀ p ∈ l, (p.2.1.size : Int) ≤ mo ∧ (p.2.2.2.size : Int) ≤ mo) :
    Calls Tryz.prog 7 #[.int .i64 mo, v] w fun e w' => e = .returned (.bool false) ∧ w.grownBy w' none := by
  have HS : Hid (∀ p ∈ l, (p.2.1.size : Int) ≤ mo ∧ (p.2.2.2.size : Int) ≤ mo) := hs
  obtain ⟨B, off, c, rfl, hc, hcs⟩ := h
  have HCS : Hid (∀ j p, l[j]? = some p → w.cell? ⟨B, off + j * 4, none⟩ = some (.bool p.1) ∧ w.cell? ⟨B, off + j * 4 + 1, none⟩ = some (.string p.2.1) ∧ w.cell? ⟨B, off + j * 4 + 2, none⟩ = some (.bool p.2.2.1) ∧ w.cell? ⟨B, off + j * 4 + 3, none⟩ = some (.string p.2.2.2)) := hcs
  obtain ⟨m, hn⟩ : ∃ m, l.length = m := ⟨_, rfl⟩
  have HN : Unit → l.length = m := fun _ => hn
  rw [hn] at hc hl ⊢
  have hnI : (m : Int) ≤ 1000 := by omega
  clear hs hcs hn hl
  go_enter Tryz.func7, Tryz.ntmps7
  go_wp2_with fail
  go_loopw [5] (fun t wr => ∃ k : Nat, k ≤ m ∧ t = .int .i64 (k : Int) ∧ w.grownBy wr none) (fun t _ => m - (RowKit.intOf t).toNat)
  case atStart => exact ⟨0, by omega, rfl, World.grownBy.refl _ _⟩
  case round =>
    obtain ⟨k, hk, rfl, hg⟩ := hrel
    have HG1 : Hid (w.grownBy wr none) := hg
    by_cases hk1 : k < m
    · have hkl : k < l.length := by rw [HN ()]; exact hk1
      have hp : l[k]? = some l[k] := List.getElem?_eq_getElem hkl
      have hcs := HCS.out k _ hp
      have hc1 := grownBy_cell hg hcs.2.1 (by simp)
      have hc3 := grownBy_cell hg hcs.2.2.2 (by simp)
      have hss := HS.out l[k] (List.getElem_mem hkl)
      generalize l[k] = p at *
      obtain ⟨pn, ps, pd, pt⟩ := p
      simp only at hc1 hc3 hss
      obtain ⟨s1, s2⟩ := hss
      have t1 : (ps.size : Int) ≤ 100000 := by omega
      have t2 : (pt.size : Int) ≤ 100000 := by omega
      clear hcs hp hg
      go_wp2_with fail
      go_roundw
      case rel => exact ⟨k + 1, by omega, rfl, HG1.out⟩
      case measure => simp [RowKit.intOf]; omega
    · obtain rfl : k = m := by omega
      clear hg
      go_wp2_with fail
      go_ret
      exact ⟨rfl, HG1.out⟩

set_option maxHeartbeats 3200000 in
set_option maxRecDepth 1000000 in
theorem longq_yes (mo : Int) (hmo : mo ≤ 100000) (w : World) (v : Value) (l : List Q4) (h : DQ w v l) (hl : l.length ≤ 1000) (hz : ∀ p ∈ l, p.2.1.size ≤ maxLen ∧ p.2.2.2.size ≤ maxLen) (hs : ∃ p ∈ l, mo < (p.2.1.size : Int) ∨ mo < (p.2.2.2.size : Int)) :
    Calls Tryz.prog 7 #[.int .i64 mo, v] w fun e w' => e = .returned (.bool true) ∧ w.grownBy w' none := by
  have HS : Hid (∃ p ∈ l, mo < (p.2.1.size : Int) ∨ mo < (p.2.2.2.size : Int)) := hs
  have HZ : Hid (∀ p ∈ l, p.2.1.size ≤ maxLen ∧ p.2.2.2.size ≤ maxLen) := hz
  obtain ⟨B, off, c, rfl, hc, hcs⟩ := h
  have HCS : Hid (∀ j p, l[j]? = some p → w.cell? ⟨B, off + j * 4, none⟩ = some (.bool p.1) ∧ w.cell? ⟨B, off + j * 4 + 1, none⟩ = some (.string p.2.1) ∧ w.cell? ⟨B, off + j * 4 + 2, none⟩ = some (.bool p.2.2.1) ∧ w.cell? ⟨B, off + j * 4 + 3, none⟩ = some (.string p.2.2.2)) := hcs
  obtain ⟨m, hn⟩ : ∃ m, l.length = m := ⟨_, rfl⟩
  have HN : Unit → l.length = m := fun _ => hn
  rw [hn] at hc hl ⊢
  have hnI : (m : Int) ≤ 1000 := by omega
  clear hs hz hcs hn hl
  go_enter Tryz.func7, Tryz.ntmps7
  go_wp2_with fail
  go_loopw [5] (fun t wr => ∃ k : Nat, k ≤ m ∧ t = .int .i64 (k : Int) ∧ w.grownBy wr none ∧ Hid (∀ j p, j < k → l[j]? = some p → (p.2.1.size : Int) ≤ mo ∧ (p.2.2.2.size : Int) ≤ mo)) (fun t _ => m - (RowKit.intOf t).toNat)
  case atStart => exact ⟨0, by omega, rfl, World.grownBy.refl _ _, fun j p h => absurd h (by omega)⟩
  case round =>
    obtain ⟨k, hk, rfl, hg, hall⟩ := hrel
    have HG1 : Hid (w.grownBy wr none) := hg
    by_cases hk1 : k < m
    · have hkl : k < l.length := by rw [HN ()]; exact hk1
      have hp : l[k]? = some l[k] := List.getElem?_eq_getElem hkl
      have HP : Hid (l[k]? = some l[k]) := hp
      have hcs := HCS.out k _ hp
      have hc1 := grownBy_cell hg hcs.2.1 (by simp)
      have hc3 := grownBy_cell hg hcs.2.2.2 (by simp)
      have hzz := HZ.out l[k] (List.getElem_mem hkl)
      generalize l[k] = p at *
      obtain ⟨pn, ps, pd, pt⟩ := p
      simp only at hc1 hc3 hzz
      unfold maxLen at hzz
      have t1 : (ps.size : Int) ≤ 9223372036854775807 := by omega
      have t2 : (pt.size : Int) ≤ 9223372036854775807 := by omega
      clear hcs hp hg hzz
      by_cases s1 : (ps.size : Int) ≤ mo
      · by_cases s2 : (pt.size : Int) ≤ mo
        · go_wp2_with fail
          go_roundw
          case rel =>
            refine ⟨k + 1, by omega, rfl, HG1.out, fun j p hj hjp => ?_⟩
            by_cases e : j = k
            · subst e
              obtain rfl := Option.some.inj (HP.out.symm.trans hjp)
              exact ⟨s1, s2⟩
            · exact hall.out j p (by omega) hjp
          case measure => simp [RowKit.intOf]; omega
        · have s3 : mo + 1 ≤ (pt.size : Int) := by omega
          clear s2
          go_wp2_with fail
          go_ret
          exact ⟨rfl, HG1.out⟩
      · have s3 : mo + 1 ≤ (ps.size : Int) := by omega
        clear s1
        go_wp2_with fail
        go_ret
        exact ⟨rfl, HG1.out⟩
    · obtain rfl : k = m := by omega
      obtain ⟨p, hp, hf⟩ := HS.out
      obtain ⟨j, hj, rfl⟩ := List.getElem_of_mem hp
      have := hall.out j l[j] (by have := HN (); omega) (List.getElem?_eq_getElem hj)
      omega
end Go.Proofs.YtgemkfiippooeaaGreatDoor
