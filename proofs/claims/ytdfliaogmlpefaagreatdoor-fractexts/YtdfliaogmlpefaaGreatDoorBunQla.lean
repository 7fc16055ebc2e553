/-
  FracTexts: its walks.
  FracTexts of any fraction and any text.
-/
import Derived.Test.YtdfliaogmlpefaaGreatDoorBunFre
import Derived.Deep.CutRange
import Derived.Test.YtdfliaogmlpefaaGreatDoorBunQrd
import Derived.Test.YtdfliaogmlpefaaGreatDoorBunFrz
import Derived.Test.YtdfliaogmlpefaaGreatDoorFrv
namespace Go.Proofs.YtdfliaogmlpefaaGreatDoor
open Go.RowKit Go.Lib Go.Sort
set_option linter.unusedVariables false
set_option maxHeartbeats 3200000
set_option maxRecDepth 1000000
theorem tx_k1 (n d : Bool) (s t u : ByteArray) (w : World)
    (HL2 : Hid (∀ (W : World) (B : Nat), W.heap[B]? = some (.cells #[.bool n, .string s, .bool d, .string t] 25 (0, 0)) → Calls Tryz.prog 9 #[.int .i64 200, .slice (some ⟨B, 0, none⟩) 1 1] W fun e w' => e = .returned (.bool true) ∧ W.grownBy w' none))
    (HLk : Hid (∀ (W : World) (B : Nat), W.heap[B]? = some (.cells #[.bool n, .string s, .bool d, .string t] 25 (0, 0)) → Calls Tryz.prog 9 #[.int .i64 1024, .slice (some ⟨B, 0, none⟩) 1 1] W fun e w' => e = .returned (.bool false) ∧ W.grownBy w' none))
    (HK : Hid (∀ W, w.grownBy W none → Calls Tryz.prog 10 #[] W fun e w' => e = .returned (.bool true) ∧ W.grownBy w' none)) :
    Calls Tryz.prog 6 #[frac n s d t, .string u] w fun e w' => e = .returned (.bool true) ∧ w.grownBy w' none := by
  have HX0 : Hid (∀ w', (w.alloc (qObj n s d t)).grownBy w' none → w'.cell? ⟨w.heap.size, 0, none⟩ = some (Value.bool n) ∧ w'.cell? ⟨w.heap.size, 1, none⟩ = some (Value.string s) ∧ w'.cell? ⟨w.heap.size, 2, none⟩ = some (Value.bool d) ∧ w'.cell? ⟨w.heap.size, 3, none⟩ = some (Value.string t)) := fun w' h => by
    have h : QBlk w' w.heap.size (.bool n) (.string s) (.bool d) (.string t) := QBlk.kept (heap_alloc_new _ _) h (by simp)
    exact ⟨h.c0, h.c1, h.c2, h.c3⟩
  go_enter Tryz.func6, Tryz.ntmps6
  go_wp2_with fail
  refine (HL2.out _ _ ?hb).mono ?_
  case hb => exact heap_alloc2_new _ _ _
  rintro e w1 ⟨rfl, g1⟩
  have G1 : Hid ((w.alloc (qObj n s d t)).grownBy w1 none) := grownBy_trans (grow1 _ _) g1
  clear g1
  obtain ⟨c0, c1, c2, c3⟩ := HX0.out _ G1.out
  go_wp2_with fail
  refine (HLk.out _ _ ?hb).mono ?_
  case hb => exact heap_alloc_new _ _
  rintro e w2 ⟨rfl, g2⟩
  have G2 : Hid ((w.alloc (qObj n s d t)).grownBy w2 none) := grownBy_trans G1.out (grownBy_trans (grow1 _ _) g2)
  clear g2 c0 c1 c2 c3
  go_wp2_with fail
  refine (HK.out _ (grownBy_trans (grow1 _ _) G2.out)).mono ?_
  rintro e w9 ⟨rfl, g9⟩
  have G9 : Hid (w.grownBy w9 none) := grownBy_trans (grow1 _ _) (grownBy_trans G2.out g9)
  clear g9
  go_wp2_with fail
  go_ret
  exact ⟨rfl, G9.out⟩
theorem tx_k2 (n d : Bool) (s t u : ByteArray) (hs : 600 < u.size ∧ u.size ≤ 6000) (w : World)
    (HL2 : Hid (∀ (W : World) (B : Nat), W.heap[B]? = some (.cells #[.bool n, .string s, .bool d, .string t] 25 (0, 0)) → Calls Tryz.prog 9 #[.int .i64 200, .slice (some ⟨B, 0, none⟩) 1 1] W fun e w' => e = .returned (.bool false) ∧ W.grownBy w' none))
    (HK : Hid (∀ W, w.grownBy W none → Calls Tryz.prog 10 #[] W fun e w' => e = .returned (.bool true) ∧ W.grownBy w' none)) :
    Calls Tryz.prog 6 #[frac n s d t, .string u] w fun e w' => e = .returned (.bool true) ∧ w.grownBy w' none := by
  have h1I : (601 : Int) ≤ u.size := by omega
  have h2I : (u.size : Int) ≤ 6000 := by omega
  clear hs
  have HX0 : Hid (∀ w', (w.alloc (qObj n s d t)).grownBy w' none → w'.cell? ⟨w.heap.size, 0, none⟩ = some (Value.bool n) ∧ w'.cell? ⟨w.heap.size, 1, none⟩ = some (Value.string s) ∧ w'.cell? ⟨w.heap.size, 2, none⟩ = some (Value.bool d) ∧ w'.cell? ⟨w.heap.size, 3, none⟩ = some (Value.string t)) := fun w' h => by
    have h : QBlk w' w.heap.size (.bool n) (.string s) (.bool d) (.string t) := QBlk.kept (heap_alloc_new _ _) h (by simp)
    exact ⟨h.c0, h.c1, h.c2, h.c3⟩
  go_enter Tryz.func6, Tryz.ntmps6
  go_wp2_with fail
  refine (HL2.out _ _ ?hb).mono ?_
  case hb => exact heap_alloc2_new _ _ _
  rintro e w1 ⟨rfl, g1⟩
  have G1 : Hid ((w.alloc (qObj n s d t)).grownBy w1 none) := grownBy_trans (grow1 _ _) g1
  clear g1
  go_wp2_with fail
  refine (HK.out _ (grownBy_trans (grow1 _ _) G1.out)).mono ?_
  rintro e w9 ⟨rfl, g9⟩
  have G9 : Hid (w.grownBy w9 none) := grownBy_trans (grow1 _ _) (grownBy_trans G1.out g9)
  clear g9
  go_wp2_with fail
  go_ret
  exact ⟨rfl, G9.out⟩
theorem tx_k3 (n d : Bool) (s t u : ByteArray) (hs : 600 < u.size ∧ u.size ≤ 6000) (w : World)
    (HL2 : Hid (∀ (W : World) (B : Nat), W.heap[B]? = some (.cells #[.bool n, .string s, .bool d, .string t] 25 (0, 0)) → Calls Tryz.prog 9 #[.int .i64 200, .slice (some ⟨B, 0, none⟩) 1 1] W fun e w' => e = .returned (.bool true) ∧ W.grownBy w' none))
    (HLk : Hid (∀ (W : World) (B : Nat), W.heap[B]? = some (.cells #[.bool n, .string s, .bool d, .string t] 25 (0, 0)) → Calls Tryz.prog 9 #[.int .i64 1024, .slice (some ⟨B, 0, none⟩) 1 1] W fun e w' => e = .returned (.bool true) ∧ W.grownBy w' none))
    (HK : Hid (∀ W, w.grownBy W none → Calls Tryz.prog 10 #[] W fun e w' => e = .returned (.bool true) ∧ W.grownBy w' none)) :
    Calls Tryz.prog 6 #[frac n s d t, .string u] w fun e w' => e = .returned (.bool true) ∧ w.grownBy w' none := by
  have h1I : (601 : Int) ≤ u.size := by omega
  have h2I : (u.size : Int) ≤ 6000 := by omega
  clear hs
  have HX0 : Hid (∀ w', (w.alloc (qObj n s d t)).grownBy w' none → w'.cell? ⟨w.heap.size, 0, none⟩ = some (Value.bool n) ∧ w'.cell? ⟨w.heap.size, 1, none⟩ = some (Value.string s) ∧ w'.cell? ⟨w.heap.size, 2, none⟩ = some (Value.bool d) ∧ w'.cell? ⟨w.heap.size, 3, none⟩ = some (Value.string t)) := fun w' h => by
    have h : QBlk w' w.heap.size (.bool n) (.string s) (.bool d) (.string t) := QBlk.kept (heap_alloc_new _ _) h (by simp)
    exact ⟨h.c0, h.c1, h.c2, h.c3⟩
  go_enter Tryz.func6, Tryz.ntmps6
  go_wp2_with fail
  refine (HL2.out _ _ ?hb).mono ?_
  case hb => exact heap_alloc2_new _ _ _
  rintro e w1 ⟨rfl, g1⟩
  have G1 : Hid ((w.alloc (qObj n s d t)).grownBy w1 none) := grownBy_trans (grow1 _ _) g1
  clear g1
  obtain ⟨c0, c1, c2, c3⟩ := HX0.out _ G1.out
  go_wp2_with fail
  refine (HLk.out _ _ ?hb).mono ?_
  case hb => exact heap_alloc_new _ _
  rintro e w2 ⟨rfl, g2⟩
  have G2 : Hid ((w.alloc (qObj n s d t)).grownBy w2 none) := grownBy_trans G1.out (grownBy_trans (grow1 _ _) g2)
  clear g2 c0 c1 c2 c3
  go_wp2_with fail
  refine (HK.out _ (grownBy_trans (grow1 _ _) G2.out)).mono ?_
  rintro e w9 ⟨rfl, g9⟩
  have G9 : Hid (w.grownBy w9 none) := grownBy_trans (grow1 _ _) (grownBy_trans G2.out g9)
  clear g9
  go_wp2_with fail
  go_ret
  exact ⟨rfl, G9.out⟩
theorem tx_m1 (n d : Bool) (s t u a rp rq : ByteArray) (rn rd : Bool) (re : Int) (hs : u.size ≤ 600 ∨ 6000 < u.size) (h9 : u.size ≤ maxLen) (w : World)
    (HL2 : Hid (∀ (W : World) (B : Nat), W.heap[B]? = some (.cells #[.bool n, .string s, .bool d, .string t] 25 (0, 0)) → Calls Tryz.prog 9 #[.int .i64 200, .slice (some ⟨B, 0, none⟩) 1 1] W fun e w' => e = .returned (.bool false) ∧ W.grownBy w' none))
    (HK : Hid (∀ W, w.grownBy W none → Calls Tryz.prog 10 #[] W fun e w' => e = .returned (.bool true) ∧ W.grownBy w' none))
    (HT : Hid (∀ W, w.grownBy W none → Calls Tryz.prog 36 #[frac n s d t] W fun e w' => e = .returned (.tuple #[.string a, .int .i64 0]) ∧ W.grownBy w' none))
    (HR : Hid (∀ W, Calls Tryz.prog 37 #[.string u] W fun e w' => e = .returned (.tuple #[frac rn rp rd rq, .int .i64 re]) ∧ W.grownBy w' none))
    (HQ : Hid (∀ W, Calls Tryz.prog 38 #[.string u] W fun e w' => e = .returned (.tuple #[frac rn rp rd rq, .int .i64 re]) ∧ W.grownBy w' none))
    (HM : Hid (∀ W, Calls Tryz.prog 11 #[frac n s d t] W fun e w' => e = .returned (.bool true) ∧ W.grownBy w' none))
    (HX : Hid (∀ W, Calls Tryz.prog 39 #[frac n s d t] W fun e w' => e = .returned (.string a) ∧ W.grownBy w' none)) :
    Calls Tryz.prog 6 #[frac n s d t, .string u] w fun e w' => e = .returned (.bool true) ∧ w.grownBy w' none := by
  unfold maxLen at h9
  have h9I : (u.size : Int) ≤ 9223372036854775807 := by omega
  have hsI : (u.size : Int) ≤ 600 ∨ (6001 : Int) ≤ u.size := by omega
  clear hs h9
  rcases hsI with hsI | hsI
  all_goals (
    have HX0 : Hid (∀ w', (w.alloc (qObj n s d t)).grownBy w' none → w'.cell? ⟨w.heap.size, 0, none⟩ = some (Value.bool n) ∧ w'.cell? ⟨w.heap.size, 1, none⟩ = some (Value.string s) ∧ w'.cell? ⟨w.heap.size, 2, none⟩ = some (Value.bool d) ∧ w'.cell? ⟨w.heap.size, 3, none⟩ = some (Value.string t)) := fun w' h => by
      have h : QBlk w' w.heap.size (.bool n) (.string s) (.bool d) (.string t) := QBlk.kept (heap_alloc_new _ _) h (by simp)
      exact ⟨h.c0, h.c1, h.c2, h.c3⟩
    go_enter Tryz.func6, Tryz.ntmps6
    go_wp2_with fail
    refine (HL2.out _ _ ?hb).mono ?_
    case hb => exact heap_alloc2_new _ _ _
    rintro e w1 ⟨rfl, g1⟩
    have G1 : Hid ((w.alloc (qObj n s d t)).grownBy w1 none) := grownBy_trans (grow1 _ _) g1
    clear g1
    obtain ⟨c0, c1, c2, c3⟩ := HX0.out _ G1.out
    go_wp2_with fail
    refine (HT.out _ (grownBy_trans (grow1 _ _) G1.out)).mono ?_
    rintro e w3 ⟨rfl, g3⟩
    have G3 : Hid ((w.alloc (qObj n s d t)).grownBy w3 none) := grownBy_trans G1.out g3
    clear g3 c0 c1 c2 c3
    go_wp2_with fail
    refine (HR.out _).mono ?_
    rintro e w4 ⟨rfl, g4⟩
    have G4 : Hid ((w.alloc (qObj n s d t)).grownBy w4 none) := grownBy_trans G3.out g4
    clear g4
    go_wp2_with fail
    refine (HQ.out _).mono ?_
    rintro e w5 ⟨rfl, g5⟩
    have Y5 : Hid (QBlk (w5.alloc (qObj rn rp rd rq)) w4.heap.size (.bool rn) (.string rp) (.bool rd) (.string rq)) := old_alloc _ _ (QBlk.kept (w := w4.alloc (qObj rn rp rd rq)) (heap_alloc_new _ _) g5 (by simp))
    have Z5 : Hid (QBlk (w5.alloc (qObj rn rp rd rq)) w5.heap.size (.bool rn) (.string rp) (.bool rd) (.string rq)) := heap_alloc_new _ _
    have G5 : Hid ((w.alloc (qObj n s d t)).grownBy (w5.alloc (qObj rn rp rd rq)) none) := grownBy_trans (grownBy_trans G4.out (grow1 _ _)) (grownBy_trans g5 (grow1 _ _))
    clear g5
    go_upto_region 6 with fail
    generalize w5.alloc (qObj rn rp rd rq) = V at *
    generalize w4.heap.size = YB at *
    generalize w5.heap.size = ZB at *
    have y0 := Y5.out.c0
    have y1 := Y5.out.c1
    have y2 := Y5.out.c2
    have y3 := Y5.out.c3
    have z0 := Z5.out.c0
    have z1 := Z5.out.c1
    have z2 := Z5.out.c2
    have z3 := Z5.out.c3
    obtain ⟨c0, c1, c2, c3⟩ := HX0.out _ G5.out
    go_wp2_with fail
    refine (HM.out _).mono ?_
    rintro e w6 ⟨rfl, g6⟩
    have G6 : Hid ((w.alloc (qObj n s d t)).grownBy w6 none) := grownBy_trans G5.out g6
    clear g6 y0 y1 y2 y3 z0 z1 z2 z3 c0 c1 c2 c3
    obtain ⟨c0, c1, c2, c3⟩ := HX0.out _ G6.out
    go_wp2_with fail
    refine (HX.out _).mono ?_
    rintro e w7 ⟨rfl, g7⟩
    have G7 : Hid ((w.alloc (qObj n s d t)).grownBy w7 none) := grownBy_trans G6.out g7
    clear g7 c0 c1 c2 c3
    go_wp2_with fail
    refine (HK.out _ (grownBy_trans (grow1 _ _) G7.out)).mono ?_
    rintro e w9 ⟨rfl, g9⟩
    have G9 : Hid (w.grownBy w9 none) := grownBy_trans (grow1 _ _) (grownBy_trans G7.out g9)
    clear g9
    go_wp2_with fail
    go_ret
    exact ⟨rfl, G9.out⟩)
theorem tx_m2 (n d : Bool) (s t u a rp rq : ByteArray) (rn rd : Bool) (re : Int) (hs : u.size ≤ 600 ∨ 6000 < u.size) (h9 : u.size ≤ maxLen) (w : World)
    (HL2 : Hid (∀ (W : World) (B : Nat), W.heap[B]? = some (.cells #[.bool n, .string s, .bool d, .string t] 25 (0, 0)) → Calls Tryz.prog 9 #[.int .i64 200, .slice (some ⟨B, 0, none⟩) 1 1] W fun e w' => e = .returned (.bool false) ∧ W.grownBy w' none))
    (HK : Hid (∀ W, w.grownBy W none → Calls Tryz.prog 10 #[] W fun e w' => e = .returned (.bool true) ∧ W.grownBy w' none))
    (HT : Hid (∀ W, w.grownBy W none → Calls Tryz.prog 36 #[frac n s d t] W fun e w' => e = .returned (.tuple #[.string eS, .int .i64 2]) ∧ W.grownBy w' none))
    (HR : Hid (∀ W, Calls Tryz.prog 37 #[.string u] W fun e w' => e = .returned (.tuple #[frac rn rp rd rq, .int .i64 re]) ∧ W.grownBy w' none))
    (HQ : Hid (∀ W, Calls Tryz.prog 38 #[.string u] W fun e w' => e = .returned (.tuple #[frac rn rp rd rq, .int .i64 re]) ∧ W.grownBy w' none))
    (HM : Hid (∀ W, Calls Tryz.prog 11 #[frac n s d t] W fun e w' => e = .returned (.bool false) ∧ W.grownBy w' none)) :
    Calls Tryz.prog 6 #[frac n s d t, .string u] w fun e w' => e = .returned (.bool true) ∧ w.grownBy w' none := by
  unfold maxLen at h9
  have h9I : (u.size : Int) ≤ 9223372036854775807 := by omega
  have hsI : (u.size : Int) ≤ 600 ∨ (6001 : Int) ≤ u.size := by omega
  clear hs h9
  rcases hsI with hsI | hsI
  all_goals (
    have HX0 : Hid (∀ w', (w.alloc (qObj n s d t)).grownBy w' none → w'.cell? ⟨w.heap.size, 0, none⟩ = some (Value.bool n) ∧ w'.cell? ⟨w.heap.size, 1, none⟩ = some (Value.string s) ∧ w'.cell? ⟨w.heap.size, 2, none⟩ = some (Value.bool d) ∧ w'.cell? ⟨w.heap.size, 3, none⟩ = some (Value.string t)) := fun w' h => by
      have h : QBlk w' w.heap.size (.bool n) (.string s) (.bool d) (.string t) := QBlk.kept (heap_alloc_new _ _) h (by simp)
      exact ⟨h.c0, h.c1, h.c2, h.c3⟩
    go_enter Tryz.func6, Tryz.ntmps6
    go_wp2_with fail
    refine (HL2.out _ _ ?hb).mono ?_
    case hb => exact heap_alloc2_new _ _ _
    rintro e w1 ⟨rfl, g1⟩
    have G1 : Hid ((w.alloc (qObj n s d t)).grownBy w1 none) := grownBy_trans (grow1 _ _) g1
    clear g1
    obtain ⟨c0, c1, c2, c3⟩ := HX0.out _ G1.out
    go_wp2_with fail
    refine (HT.out _ (grownBy_trans (grow1 _ _) G1.out)).mono ?_
    rintro e w3 ⟨rfl, g3⟩
    have G3 : Hid ((w.alloc (qObj n s d t)).grownBy w3 none) := grownBy_trans G1.out g3
    clear g3 c0 c1 c2 c3
    go_wp2_with fail
    refine (HR.out _).mono ?_
    rintro e w4 ⟨rfl, g4⟩
    have G4 : Hid ((w.alloc (qObj n s d t)).grownBy w4 none) := grownBy_trans G3.out g4
    clear g4
    go_wp2_with fail
    refine (HQ.out _).mono ?_
    rintro e w5 ⟨rfl, g5⟩
    have Y5 : Hid (QBlk (w5.alloc (qObj rn rp rd rq)) w4.heap.size (.bool rn) (.string rp) (.bool rd) (.string rq)) := old_alloc _ _ (QBlk.kept (w := w4.alloc (qObj rn rp rd rq)) (heap_alloc_new _ _) g5 (by simp))
    have Z5 : Hid (QBlk (w5.alloc (qObj rn rp rd rq)) w5.heap.size (.bool rn) (.string rp) (.bool rd) (.string rq)) := heap_alloc_new _ _
    have G5 : Hid ((w.alloc (qObj n s d t)).grownBy (w5.alloc (qObj rn rp rd rq)) none) := grownBy_trans (grownBy_trans G4.out (grow1 _ _)) (grownBy_trans g5 (grow1 _ _))
    clear g5
    go_upto_region 6 with fail
    generalize w5.alloc (qObj rn rp rd rq) = V at *
    generalize w4.heap.size = YB at *
    generalize w5.heap.size = ZB at *
    have y0 := Y5.out.c0
    have y1 := Y5.out.c1
    have y2 := Y5.out.c2
    have y3 := Y5.out.c3
    have z0 := Z5.out.c0
    have z1 := Z5.out.c1
    have z2 := Z5.out.c2
    have z3 := Z5.out.c3
    obtain ⟨c0, c1, c2, c3⟩ := HX0.out _ G5.out
    go_wp2_with fail
    refine (HM.out _).mono ?_
    rintro e w6 ⟨rfl, g6⟩
    have G6 : Hid ((w.alloc (qObj n s d t)).grownBy w6 none) := grownBy_trans G5.out g6
    clear g6 y0 y1 y2 y3 z0 z1 z2 z3 c0 c1 c2 c3
    go_wp2_with fail
    refine (HK.out _ (grownBy_trans (grow1 _ _) G6.out)).mono ?_
    rintro e w9 ⟨rfl, g9⟩
    have G9 : Hid (w.grownBy w9 none) := grownBy_trans (grow1 _ _) (grownBy_trans G6.out g9)
    clear g9
    go_wp2_with fail
    go_ret
    exact ⟨rfl, G9.out⟩)
theorem tx_m3 (n d : Bool) (s t u a rp rq : ByteArray) (rn rd : Bool) (re : Int) (hs : u.size ≤ 600 ∨ 6000 < u.size) (h9 : u.size ≤ maxLen) (w : World)
    (HL2 : Hid (∀ (W : World) (B : Nat), W.heap[B]? = some (.cells #[.bool n, .string s, .bool d, .string t] 25 (0, 0)) → Calls Tryz.prog 9 #[.int .i64 200, .slice (some ⟨B, 0, none⟩) 1 1] W fun e w' => e = .returned (.bool true) ∧ W.grownBy w' none))
    (HLk : Hid (∀ (W : World) (B : Nat), W.heap[B]? = some (.cells #[.bool n, .string s, .bool d, .string t] 25 (0, 0)) → Calls Tryz.prog 9 #[.int .i64 1024, .slice (some ⟨B, 0, none⟩) 1 1] W fun e w' => e = .returned (.bool true) ∧ W.grownBy w' none))
    (HK : Hid (∀ W, w.grownBy W none → Calls Tryz.prog 10 #[] W fun e w' => e = .returned (.bool true) ∧ W.grownBy w' none))
    (HT : Hid (∀ W, w.grownBy W none → Calls Tryz.prog 36 #[frac n s d t] W fun e w' => e = .returned (.tuple #[.string eS, .int .i64 2]) ∧ W.grownBy w' none))
    (HR : Hid (∀ W, Calls Tryz.prog 37 #[.string u] W fun e w' => e = .returned (.tuple #[frac rn rp rd rq, .int .i64 re]) ∧ W.grownBy w' none))
    (HQ : Hid (∀ W, Calls Tryz.prog 38 #[.string u] W fun e w' => e = .returned (.tuple #[frac rn rp rd rq, .int .i64 re]) ∧ W.grownBy w' none))
    (HM : Hid (∀ W, Calls Tryz.prog 11 #[frac n s d t] W fun e w' => e = .returned (.bool false) ∧ W.grownBy w' none)) :
    Calls Tryz.prog 6 #[frac n s d t, .string u] w fun e w' => e = .returned (.bool true) ∧ w.grownBy w' none := by
  unfold maxLen at h9
  have h9I : (u.size : Int) ≤ 9223372036854775807 := by omega
  have hsI : (u.size : Int) ≤ 600 ∨ (6001 : Int) ≤ u.size := by omega
  clear hs h9
  rcases hsI with hsI | hsI
  all_goals (
    have HX0 : Hid (∀ w', (w.alloc (qObj n s d t)).grownBy w' none → w'.cell? ⟨w.heap.size, 0, none⟩ = some (Value.bool n) ∧ w'.cell? ⟨w.heap.size, 1, none⟩ = some (Value.string s) ∧ w'.cell? ⟨w.heap.size, 2, none⟩ = some (Value.bool d) ∧ w'.cell? ⟨w.heap.size, 3, none⟩ = some (Value.string t)) := fun w' h => by
      have h : QBlk w' w.heap.size (.bool n) (.string s) (.bool d) (.string t) := QBlk.kept (heap_alloc_new _ _) h (by simp)
      exact ⟨h.c0, h.c1, h.c2, h.c3⟩
    go_enter Tryz.func6, Tryz.ntmps6
    go_wp2_with fail
    refine (HL2.out _ _ ?hb).mono ?_
    case hb => exact heap_alloc2_new _ _ _
    rintro e w1 ⟨rfl, g1⟩
    have G1 : Hid ((w.alloc (qObj n s d t)).grownBy w1 none) := grownBy_trans (grow1 _ _) g1
    clear g1
    obtain ⟨c0, c1, c2, c3⟩ := HX0.out _ G1.out
    go_wp2_with fail
    refine (HLk.out _ _ ?hb).mono ?_
    case hb => exact heap_alloc_new _ _
    rintro e w2 ⟨rfl, g2⟩
    have G2 : Hid ((w.alloc (qObj n s d t)).grownBy w2 none) := grownBy_trans G1.out (grownBy_trans (grow1 _ _) g2)
    clear g2 c0 c1 c2 c3
    obtain ⟨c0, c1, c2, c3⟩ := HX0.out _ G2.out
    go_wp2_with fail
    refine (HT.out _ (grownBy_trans (grow1 _ _) G2.out)).mono ?_
    rintro e w3 ⟨rfl, g3⟩
    have G3 : Hid ((w.alloc (qObj n s d t)).grownBy w3 none) := grownBy_trans G2.out g3
    clear g3 c0 c1 c2 c3
    go_wp2_with fail
    refine (HR.out _).mono ?_
    rintro e w4 ⟨rfl, g4⟩
    have G4 : Hid ((w.alloc (qObj n s d t)).grownBy w4 none) := grownBy_trans G3.out g4
    clear g4
    go_wp2_with fail
    refine (HQ.out _).mono ?_
    rintro e w5 ⟨rfl, g5⟩
    have Y5 : Hid (QBlk (w5.alloc (qObj rn rp rd rq)) w4.heap.size (.bool rn) (.string rp) (.bool rd) (.string rq)) := old_alloc _ _ (QBlk.kept (w := w4.alloc (qObj rn rp rd rq)) (heap_alloc_new _ _) g5 (by simp))
    have Z5 : Hid (QBlk (w5.alloc (qObj rn rp rd rq)) w5.heap.size (.bool rn) (.string rp) (.bool rd) (.string rq)) := heap_alloc_new _ _
    have G5 : Hid ((w.alloc (qObj n s d t)).grownBy (w5.alloc (qObj rn rp rd rq)) none) := grownBy_trans (grownBy_trans G4.out (grow1 _ _)) (grownBy_trans g5 (grow1 _ _))
    clear g5
    go_upto_region 6 with fail
    generalize w5.alloc (qObj rn rp rd rq) = V at *
    generalize w4.heap.size = YB at *
    generalize w5.heap.size = ZB at *
    have y0 := Y5.out.c0
    have y1 := Y5.out.c1
    have y2 := Y5.out.c2
    have y3 := Y5.out.c3
    have z0 := Z5.out.c0
    have z1 := Z5.out.c1
    have z2 := Z5.out.c2
    have z3 := Z5.out.c3
    obtain ⟨c0, c1, c2, c3⟩ := HX0.out _ G5.out
    go_wp2_with fail
    refine (HM.out _).mono ?_
    rintro e w6 ⟨rfl, g6⟩
    have G6 : Hid ((w.alloc (qObj n s d t)).grownBy w6 none) := grownBy_trans G5.out g6
    clear g6 y0 y1 y2 y3 z0 z1 z2 z3 c0 c1 c2 c3
    go_wp2_with fail
    refine (HK.out _ (grownBy_trans (grow1 _ _) G6.out)).mono ?_
    rintro e w9 ⟨rfl, g9⟩
    have G9 : Hid (w.grownBy w9 none) := grownBy_trans (grow1 _ _) (grownBy_trans G6.out g9)
    clear g9
    go_wp2_with fail
    go_ret
    exact ⟨rfl, G9.out⟩)
theorem dq_1 {W : World} {B : Nat} {n d : Bool} {s t : ByteArray} (hB : W.heap[B]? = some (.cells #[.bool n, .string s, .bool d, .string t] 25 (0, 0))) :
    DQ W (.slice (some ⟨B, 0, none⟩) 1 1) [(n, s, d, t)] := by
  refine ⟨B, 0, 1, rfl, by simp, fun j p hp => ?_⟩
  simp only [World.cell?, hB]
  match j, hp with
  | 0, hp => cases hp; exact ⟨rfl, rfl, rfl, rfl⟩
theorem fr_ex (u : ByteArray) : ∃ n p d q er, FrRes u n p d q er := by
  by_cases h : ∃ x y n p d q, IsQ x y n p d q ∧ QText x y u
  · obtain ⟨x, y, n, p, d, q, h1, h2⟩ := h
    exact ⟨n, p, d, q, 0, .inl ⟨rfl, x, y, h1, h2⟩⟩
  · exact ⟨_, _, _, _, _, .inr ⟨rfl, rfl, rfl, rfl, rfl, fun x y n p d q h1 h2 => h ⟨x, y, n, p, d, q, h1, h2⟩⟩⟩
theorem longq_one {n d : Bool} {s t : ByteArray} (mo : Nat) (hmo : mo ≤ 100000) (h : s.size ≤ mo ∧ t.size ≤ mo) :
    Hid (∀ (W : World) (B : Nat), W.heap[B]? = some (.cells #[.bool n, .string s, .bool d, .string t] 25 (0, 0)) → Calls Tryz.prog 9 #[.int .i64 mo, .slice (some ⟨B, 0, none⟩) 1 1] W fun e w' => e = .returned (.bool false) ∧ W.grownBy w' none) := fun W B hB => by
  refine longq_no mo (by omega) W _ _ (dq_1 hB) (by simp) ?_
  intro p hp
  simp at hp
  subst hp
  exact ⟨by show (s.size : Int) ≤ mo; omega, by show (t.size : Int) ≤ mo; omega⟩
theorem longq_one_yes {n d : Bool} {s t : ByteArray} (mo : Nat) (hmo : mo ≤ 100000) (z1 : s.size ≤ maxLen) (z2 : t.size ≤ maxLen) (h : ¬ (s.size ≤ mo ∧ t.size ≤ mo)) :
    Hid (∀ (W : World) (B : Nat), W.heap[B]? = some (.cells #[.bool n, .string s, .bool d, .string t] 25 (0, 0)) → Calls Tryz.prog 9 #[.int .i64 mo, .slice (some ⟨B, 0, none⟩) 1 1] W fun e w' => e = .returned (.bool true) ∧ W.grownBy w' none) := fun W B hB => by
  refine longq_yes mo (by omega) W _ _ (dq_1 hB) (by simp) ?_ ?_
  · intro p hp
    simp at hp
    subst hp
    exact ⟨z1, z2⟩
  · refine ⟨_, List.mem_singleton.2 rfl, ?_⟩
    show (mo : Int) < (s.size : Int) ∨ (mo : Int) < (t.size : Int)
    omega
theorem ftexts_any (n d : Bool) (s t u : ByteArray) (z1 : s.size ≤ maxLen) (z2 : t.size ≤ maxLen) (zu : u.size ≤ maxLen) (w : World) (htab : Lib.TabIs Tryz.prog w "internal/strconv.uint64pow10" .u64 Lib.pow10Tab) :
    Calls Tryz.prog 6 #[frac n s d t, .string u] w fun e w' => e = .returned (.bool true) ∧ w.grownBy w' none := by
  have HK := known_in htab
  obtain ⟨gp, hgp⟩ := pow10_g
  obtain ⟨rn, rp, rd, rq, re, hF⟩ := fr_ex u
  have one : ∀ {W : World} {e : Ending} {w' : World}, FrE u W e w' → e = .returned (.tuple #[frac rn rp rd rq, .int .i64 re]) ∧ W.grownBy w' none := by
    rintro W e w' ⟨n1, p1, d1, q1, e1, rfl, h1, hg⟩
    obtain ⟨rfl, rfl, rfl, rfl, rfl⟩ := h1.one hF
    exact ⟨rfl, hg⟩
  have HR : Hid (∀ W, Calls Tryz.prog 37 #[.string u] W fun e w' => e = .returned (.tuple #[frac rn rp rd rq, .int .i64 re]) ∧ W.grownBy w' none) := fun W => (fread_any u zu W).mono fun e w' h => one h
  have HQ : (u.size ≤ 600 ∨ 6000 < u.size) → Hid (∀ W, Calls Tryz.prog 38 #[.string u] W fun e w' => e = .returned (.tuple #[frac rn rp rd rq, .int .i64 re]) ∧ W.grownBy w' none) := by
    rintro (h | h) W
    · exact (rreadq_short u h W).mono fun e w' h => one h
    · exact (rreadq_long u h zu W).mono fun e w' h => one h
  have HTb : mayQ n s d t = false → Hid (∀ W, w.grownBy W none → Calls Tryz.prog 36 #[frac n s d t] W fun e w' => e = .returned (.tuple #[.string eS, .int .i64 2]) ∧ W.grownBy w' none) := by
    intro hm W _
    refine ftext_no n d s t (fun w => ?_) W
    have := mayq_any n d s t z1 z2 w
    rw [hm] at this
    exact this
  have HM := fun W => rmayq_any n d s t z1 z2 W
  by_cases l2 : s.size ≤ 200 ∧ t.size ≤ 200
  · have HL2 := longq_one (n := n) (d := d) 200 (by decide) l2
    by_cases hmid : 600 < u.size ∧ u.size ≤ 6000
    · exact tx_k2 n d s t u hmid w HL2 HK
    · have hout : u.size ≤ 600 ∨ 6000 < u.size := by omega
      cases hm : mayQ n s d t
      · rw [hm] at HM
        exact tx_m2 n d s t u eS rp rq rn rd re hout zu w HL2 HK (HTb hm) HR (HQ hout) HM
      · rw [hm] at HM
        have hq := mayQ_is hm
        obtain ⟨a, ha, _⟩ := text_ex (k := 200) (by decide) (may_sz (hq.zn.may (by decide)) l2.1)
        obtain ⟨b, hb, _⟩ := text_ex (k := 200) (by decide) (may_sz (hq.zd.may (by decide)) l2.2)
        obtain ⟨c, hc⟩ : ∃ c, QText (num n s) (num d t) c := by
          by_cases h1 : num d t = 1
          · exact ⟨a, .inl ⟨h1, ha⟩⟩
          · exact ⟨_, .inr ⟨h1, a, b, ha, hb, rfl⟩⟩
        refine tx_m1 n d s t u c rp rq rn rd re hout zu w HL2 HK (fun W hg => ?_) HR (HQ hout) HM (fun W => ?_)
        · refine (ftext_any hq l2.1 l2.2 W (tab_kept hgp htab hg)).mono ?_
          rintro e w' ⟨c', rfl, hc', _, hg'⟩
          rw [hc'.same hc]
          exact ⟨rfl, hg'⟩
        · refine (rtextq_any hq W (fun x hx => ?_) (fun x hx => ?_)).mono ?_
          · rw [hx.one ha]; omega
          · rw [hx.one hb]; omega
          · rintro e w' ⟨c', rfl, hc', hg'⟩
            rw [hc'.same hc]
            exact ⟨rfl, hg'⟩
  · have HL2 := longq_one_yes (n := n) (d := d) 200 (by decide) z1 z2 l2
    by_cases lk : s.size ≤ 1024 ∧ t.size ≤ 1024
    · exact tx_k1 n d s t u w HL2 (longq_one (n := n) (d := d) 1024 (by decide) lk) HK
    · have HLk := longq_one_yes (n := n) (d := d) 1024 (by decide) z1 z2 lk
      have hm : mayQ n s d t = false := by
        have : decide (s.size ≤ 1024 ∧ t.size ≤ 1024) = false := decide_eq_false lk
        unfold mayQ
        rw [this]
        rfl
      by_cases hmid : 600 < u.size ∧ u.size ≤ 6000
      · exact tx_k3 n d s t u hmid w HL2 HLk HK
      · have hout : u.size ≤ 600 ∨ 6000 < u.size := by omega
        rw [hm] at HM
        exact tx_m3 n d s t u eS rp rq rn rd re hout zu w HL2 HLk HK (HTb hm) HR (HQ hout) HM
end Go.Proofs.YtdfliaogmlpefaaGreatDoor
