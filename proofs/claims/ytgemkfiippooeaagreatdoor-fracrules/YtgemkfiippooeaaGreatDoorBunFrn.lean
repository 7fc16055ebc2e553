/-
  The laws' known, of what it asks.
  FracOf, by what it asks.
-/
import Derived.Test.YtgemkfiippooeaaGreatDoorBunFre
import Derived.Test.YtgemkfiippooeaaGreatDoorFri
import Derived.Test.YtgemkfiippooeaaGreatDoorFrk
import Derived.Test.YtgemkfiippooeaaGreatDoorBunFrl
namespace Go.Proofs.YtgemkfiippooeaaGreatDoor
open Go.RowKit Go.Lib Go.Sort
set_option linter.unusedVariables false

abbrev b1 : ByteArray := ⟨#[1]⟩
abbrev b2 : ByteArray := ⟨#[2]⟩
abbrev b3 : ByteArray := ⟨#[3]⟩
abbrev b6 : ByteArray := ⟨#[6]⟩

set_option maxHeartbeats 3200000 in
set_option maxRecDepth 1000000 in
theorem known_by (w : World)
    (HS1 : Hid (∀ w, Calls Tryz.prog 28 #[.int .i64 1, .int .i64 2] w fun e w' => e = .returned (.tuple #[frac false b1 false b2, .int .i64 0]) ∧ w.grownBy w' none))
    (HS2 : Hid (∀ w, Calls Tryz.prog 28 #[.int .i64 2, .int .i64 (-6)] w fun e w' => e = .returned (.tuple #[frac true b1 false b3, .int .i64 0]) ∧ w.grownBy w' none))
    (HA : Hid (∀ w, Calls Tryz.prog 10 #[frac false b1 false b2, frac true b1 false b3] w fun e w' => e = .returned (.tuple #[frac false b1 false b6, .int .i64 0]) ∧ w.grownBy w' none))
    (HT : Hid (∀ W, w.grownBy W none → Calls Tryz.prog 44 #[frac false b1 false b6] W fun e w' => e = .returned (.tuple #[.string ⟨#[49, 47, 54]⟩, .int .i64 0]) ∧ W.grownBy w' none))
    (HN : Hid (∀ w, Calls Tryz.prog 26 #[frac false b1 false b2] w fun e w' => e = .returned (.tuple #[whole false eS, .int .i64 0]) ∧ w.grownBy w' none))
    (HO : Hid (∀ w, Calls Tryz.prog 45 #[.int .i64 0] w fun e w' => e = .returned (whole false eS) ∧ w.grownBy w' none)) :
    Calls Tryz.prog 8 #[] w fun e w' => e = .returned (.bool true) ∧ w.grownBy w' none := by
  go_enter Tryz.func8, Tryz.ntmps8
  go_wp2_with fail
  refine (HS1.out _).mono ?_
  rintro e w1 ⟨rfl, g1⟩
  go_wp2_with fail
  refine (HS2.out _).mono ?_
  rintro e w2 ⟨rfl, g2⟩
  have bA : QBlk w2 w1.heap.size (.bool false) (.string b1) (.bool false) (.string b2) := QBlk.kept (heap_alloc_new _ _) g2 (by simp)
  have G2 : w.grownBy w2 none := grownBy_trans g1 (grownBy_trans (grow1 _ _) g2)
  clear g1 g2
  have c0 := bA.c0
  have c1 := bA.c1
  have c2 := bA.c2
  have c3 := bA.c3
  have cl := bA.lt
  go_wp2_with fail
  refine (HA.out _).mono ?_
  rintro e w3 ⟨rfl, g3⟩
  clear c0 c1 c2 c3 cl
  have bA := bA.kept (grownBy_trans (grow1 _ _) g3) (by simp)
  have G3 : w.grownBy w3 none := grownBy_trans G2 (grownBy_trans (grow1 _ _) g3)
  clear g3 G2
  go_wp2_with fail
  refine (HT.out _ (grownBy_trans G3 (grow1 _ _))).mono ?_
  rintro e w4 ⟨rfl, g4⟩
  have bA := bA.kept (grownBy_trans (grow1 _ _) g4) (by simp)
  have G4 : w.grownBy w4 none := grownBy_trans G3 (grownBy_trans (grow1 _ _) g4)
  clear g4 G3
  have c0 := bA.c0
  have c1 := bA.c1
  have c2 := bA.c2
  have c3 := bA.c3
  have cl := bA.lt
  go_wp2_with fail
  refine (HN.out _).mono ?_
  rintro e w5 ⟨rfl, g5⟩
  clear c0 c1 c2 c3 cl bA
  have G5 : w.grownBy w5 none := grownBy_trans G4 g5
  clear g5 G4
  have HK : Hid (∀ w', (w5.alloc (wObj false eS)).grownBy w' none → w'.cell? ⟨w5.heap.size, 0, none⟩ = some (.bool false) ∧ w'.cell? ⟨w5.heap.size, 1, none⟩ = some (.string eS)) := fun w' g => by
    have h : WBlk w' w5.heap.size (.bool false) (.string eS) := WBlk.kept (heap_alloc_new _ _) g (by simp)
    exact ⟨h.c0, h.c1⟩
  have HG : Hid (w.grownBy w5 none) := G5
  clear G5
  go_wp2_with fail
  go_region_held3 (fun w' => w'.cell? ⟨w5.heap.size, 0, none⟩ = some (.bool false) ∧ w'.cell? ⟨w5.heap.size, 1, none⟩ = some (.string eS))
    (first | (go_keep; done) | exact HK.out _ (by assumption) | exact HK.out _ (grow_drew (World.grownBy.refl _ _)) | fail)
    (first
      | (go_at_call 45; refine (HO.out _).mono ?_; rintro e wA ⟨rfl, hgA⟩; have GA : (w5.alloc (wObj false eS)).grownBy wA none := (by first | exact hgA | exact grownBy_undrew hgA | fail))
      | fail)
  go_wp2_with fail
  go_ret
  exact ⟨rfl, grownBy_trans HG.out (grownBy_trans (grow1 _ _) GA)⟩
theorem rof_zero (w : World) : Calls Tryz.prog 45 #[.int .i64 0] w fun e w' => e = .returned (whole false eS) ∧ w.grownBy w' none := by
  refine (rOf_any 0 (by decide) (by decide) w).mono ?_
  rintro e w' ⟨s, rfl, hs, hg⟩
  have h2 : s = eS := by
    apply bN_inj
    rw [hs, show Int.natAbs 0 = 0 from rfl, magN_zero]; rfl
  exact ⟨by rw [h2]; rfl, hg⟩
end Go.Proofs.YtgemkfiippooeaaGreatDoor

namespace Go.Proofs.YtgemkfiippooeaaGreatDoor
open Go.RowKit Go.Lib Go.Sort
set_option linter.unusedVariables false

set_option maxHeartbeats 3200000 in
set_option maxRecDepth 1000000 in
theorem fracof_long (n d : Bool) (s t : ByteArray) (z1 : s.size ≤ maxLen) (z2 : t.size ≤ maxLen) (h : ¬ (s.size ≤ 3000 ∧ t.size ≤ 3000)) (w : World)
    (HK : Hid (∀ W, w.grownBy W none → Calls Tryz.prog 8 #[] W fun e w' => e = .returned (.bool true) ∧ W.grownBy w' none)) :
    Calls Tryz.prog 5 #[whole n s, whole d t] w fun e w' => e = .returned (.bool true) ∧ w.grownBy w' none := by
  unfold maxLen at z1 z2
  have z1I : (s.size : Int) ≤ 9223372036854775807 := by omega
  have z2I : (t.size : Int) ≤ 9223372036854775807 := by omega
  by_cases h1 : s.size ≤ 3000
  · have h2 : (3001 : Int) ≤ (t.size : Int) := by omega
    have h1I : (s.size : Int) ≤ 3000 := by omega
    clear h h1 z1 z2
    go_enter Tryz.func5, Tryz.ntmps5
    go_wp2_with fail
    refine (HK.out _ (grow2 _ _ _)).mono ?_
    rintro e w' ⟨rfl, g⟩
    go_wp2_with fail
    go_ret
    exact ⟨rfl, grownBy_trans (grow2 _ _ _) g⟩
  · have h2 : (3001 : Int) ≤ (s.size : Int) := by omega
    clear h h1 z1 z2
    go_enter Tryz.func5, Tryz.ntmps5
    go_wp2_with fail
    refine (HK.out _ (grow2 _ _ _)).mono ?_
    rintro e w' ⟨rfl, g⟩
    go_wp2_with fail
    go_ret
    exact ⟨rfl, grownBy_trans (grow2 _ _ _) g⟩

set_option maxHeartbeats 3200000 in
set_option maxRecDepth 1000000 in
theorem fracof_bad (n d b c : Bool) (s t : ByteArray) (h1 : s.size ≤ 3000) (h2 : t.size ≤ 3000) (hb : (b && c) = false)
    (HF : Hid (∀ w, Calls Tryz.prog 38 #[whole n s, whole d t] w fun e w' => e = .returned (.tuple #[frac false eS false eS, .int .i64 2]) ∧ w.grownBy w' none))
    (HM1 : Hid (∀ w, Calls Tryz.prog 39 #[whole n s] w fun e w' => e = .returned (.bool b) ∧ w.grownBy w' none))
    (HM2 : Hid (∀ w, Calls Tryz.prog 39 #[whole d t] w fun e w' => e = .returned (.bool c) ∧ w.grownBy w' none)) (w : World)
    (HK : Hid (∀ W, w.grownBy W none → Calls Tryz.prog 8 #[] W fun e w' => e = .returned (.bool true) ∧ W.grownBy w' none)) :
    Calls Tryz.prog 5 #[whole n s, whole d t] w fun e w' => e = .returned (.bool true) ∧ w.grownBy w' none := by
  have h1I : (s.size : Int) ≤ 3000 := by omega
  have h2I : (t.size : Int) ≤ 3000 := by omega
  clear h1 h2
  cases b
  · go_enter Tryz.func5, Tryz.ntmps5
    go_wp2_with fail
    refine (HF.out _).mono ?_
    rintro e w1 ⟨rfl, g1⟩
    have bx : WBlk w1 w.heap.size (.bool n) (.string s) := WBlk.kept (at_alloc1 _ _ _) g1 (by simp)
    have x0 := bx.c0
    have x1 := bx.c1
    have xl := bx.lt
    have G1 : w.grownBy w1 none := grownBy_trans (grow2 _ _ _) g1
    clear g1 bx
    go_wp2_with fail
    refine (HM1.out _).mono ?_
    rintro e w2 ⟨rfl, g2⟩
    have bq : QBlk w2 w1.heap.size (.bool false) (.string eS) (.bool false) (.string eS) := QBlk.kept (heap_alloc_new _ _) g2 (by simp)
    have G2 : w.grownBy w2 none := grownBy_trans G1 (grownBy_trans (grow1 _ _) g2)
    clear g2 G1 x0 x1 xl
    have q0 := bq.c0
    have q1 := bq.c1
    have q2 := bq.c2
    have q3 := bq.c3
    go_wp2_with fail
    refine (HK.out _ G2).mono ?_
    rintro e w3 ⟨rfl, g3⟩
    go_wp2_with fail
    go_ret
    exact ⟨rfl, grownBy_trans G2 g3⟩
  · obtain rfl : c = false := by simpa using hb
    go_enter Tryz.func5, Tryz.ntmps5
    go_wp2_with fail
    refine (HF.out _).mono ?_
    rintro e w1 ⟨rfl, g1⟩
    have bx : WBlk w1 w.heap.size (.bool n) (.string s) := WBlk.kept (at_alloc1 _ _ _) g1 (by simp)
    have bd : WBlk w1 (w.heap.size + 1) (.bool d) (.string t) := WBlk.kept (heap_alloc2_new _ _ _) g1 (by simp)
    have x0 := bx.c0
    have x1 := bx.c1
    have xl := bx.lt
    have G1 : w.grownBy w1 none := grownBy_trans (grow2 _ _ _) g1
    clear g1 bx
    go_wp2_with fail
    refine (HM1.out _).mono ?_
    rintro e w2 ⟨rfl, g2⟩
    have bq : QBlk w2 w1.heap.size (.bool false) (.string eS) (.bool false) (.string eS) := QBlk.kept (heap_alloc_new _ _) g2 (by simp)
    have bd := bd.kept (grownBy_trans (grow1 _ _) g2) (by simp)
    have y0 := bd.c0
    have y1 := bd.c1
    have G2 : w.grownBy w2 none := grownBy_trans G1 (grownBy_trans (grow1 _ _) g2)
    clear g2 G1 x0 x1 xl
    go_wp2_with fail
    refine (HM2.out _).mono ?_
    rintro e w3 ⟨rfl, g3⟩
    have bq := bq.kept g3 (by simp)
    have G3 : w.grownBy w3 none := grownBy_trans G2 g3
    clear g3 G2 y0 y1
    have q0 := bq.c0
    have q1 := bq.c1
    have q2 := bq.c2
    have q3 := bq.c3
    go_wp2_with fail
    refine (HK.out _ G3).mono ?_
    rintro e w4 ⟨rfl, g4⟩
    go_wp2_with fail
    go_ret
    exact ⟨rfl, grownBy_trans G3 g4⟩

set_option maxHeartbeats 3200000 in
set_option maxRecDepth 1000000 in
theorem fracof_zero (n d : Bool) (s t : ByteArray) (h1 : s.size ≤ 3000) (h2 : t.size ≤ 3000)
    (HF : Hid (∀ w, Calls Tryz.prog 38 #[whole n s, whole d t] w fun e w' => e = .returned (.tuple #[frac false eS false eS, .int .i64 5]) ∧ w.grownBy w' none))
    (HM1 : Hid (∀ w, Calls Tryz.prog 39 #[whole n s] w fun e w' => e = .returned (.bool true) ∧ w.grownBy w' none))
    (HM2 : Hid (∀ w, Calls Tryz.prog 39 #[whole d t] w fun e w' => e = .returned (.bool true) ∧ w.grownBy w' none))
    (HS : Hid (∀ w, Calls Tryz.prog 40 #[whole d t] w fun e w' => e = .returned (.int .i64 0) ∧ w.grownBy w' none)) (w : World)
    (HK : Hid (∀ W, w.grownBy W none → Calls Tryz.prog 8 #[] W fun e w' => e = .returned (.bool true) ∧ W.grownBy w' none)) :
    Calls Tryz.prog 5 #[whole n s, whole d t] w fun e w' => e = .returned (.bool true) ∧ w.grownBy w' none := by
  have h1I : (s.size : Int) ≤ 3000 := by omega
  have h2I : (t.size : Int) ≤ 3000 := by omega
  clear h1 h2
  go_enter Tryz.func5, Tryz.ntmps5
  go_wp2_with fail
  refine (HF.out _).mono ?_
  rintro e w1 ⟨rfl, g1⟩
  have bx : WBlk w1 w.heap.size (.bool n) (.string s) := WBlk.kept (at_alloc1 _ _ _) g1 (by simp)
  have bd : WBlk w1 (w.heap.size + 1) (.bool d) (.string t) := WBlk.kept (heap_alloc2_new _ _ _) g1 (by simp)
  have x0 := bx.c0
  have x1 := bx.c1
  have xl := bx.lt
  have G1 : w.grownBy w1 none := grownBy_trans (grow2 _ _ _) g1
  clear g1 bx
  go_wp2_with fail
  refine (HM1.out _).mono ?_
  rintro e w2 ⟨rfl, g2⟩
  have bq : QBlk w2 w1.heap.size (.bool false) (.string eS) (.bool false) (.string eS) := QBlk.kept (heap_alloc_new _ _) g2 (by simp)
  have bd := bd.kept (grownBy_trans (grow1 _ _) g2) (by simp)
  have y0 := bd.c0
  have y1 := bd.c1
  have G2 : w.grownBy w2 none := grownBy_trans G1 (grownBy_trans (grow1 _ _) g2)
  clear g2 G1 x0 x1 xl
  go_wp2_with fail
  refine (HM2.out _).mono ?_
  rintro e w3 ⟨rfl, g3⟩
  have bq := bq.kept g3 (by simp)
  have bd := bd.kept g3 (by simp)
  have G3 : w.grownBy w3 none := grownBy_trans G2 g3
  clear g3 G2 y0 y1
  have y0 := bd.c0
  have y1 := bd.c1
  go_wp2_with fail
  refine (HS.out _).mono ?_
  rintro e w4 ⟨rfl, g4⟩
  have bq := bq.kept g4 (by simp)
  have G4 : w.grownBy w4 none := grownBy_trans G3 g4
  clear g4 G3 y0 y1
  have q0 := bq.c0
  have q1 := bq.c1
  have q2 := bq.c2
  have q3 := bq.c3
  go_wp2_with fail
  refine (HK.out _ G4).mono ?_
  rintro e w5 ⟨rfl, g5⟩
  go_wp2_with fail
  go_ret
  exact ⟨rfl, grownBy_trans G4 g5⟩

set_option maxHeartbeats 3200000 in
set_option maxRecDepth 1000000 in
theorem fracof_yes (n d n1 d1 n2 d2 : Bool) (s t s1 t1 s2 t2 : ByteArray) (er c : Int) (hc0 : ¬ c = 0) (h1 : s.size ≤ 3000) (h2 : t.size ≤ 3000)
    (HF : Hid (∀ w, Calls Tryz.prog 38 #[whole n s, whole d t] w fun e w' => e = .returned (.tuple #[frac n1 s1 d1 t1, .int .i64 er]) ∧ w.grownBy w' none))
    (HM1 : Hid (∀ w, Calls Tryz.prog 39 #[whole n s] w fun e w' => e = .returned (.bool true) ∧ w.grownBy w' none))
    (HM2 : Hid (∀ w, Calls Tryz.prog 39 #[whole d t] w fun e w' => e = .returned (.bool true) ∧ w.grownBy w' none))
    (HS : Hid (∀ w, Calls Tryz.prog 40 #[whole d t] w fun e w' => e = .returned (.int .i64 c) ∧ w.grownBy w' none))
    (HR : Hid (∀ w, Calls Tryz.prog 41 #[whole n s, whole d t] w fun e w' => e = .returned (frac n2 s2 d2 t2) ∧ w.grownBy w' none))
    (HT : Hid (∀ w, Calls Tryz.prog 16 #[frac n1 s1 d1 t1, .int .i64 er, frac n2 s2 d2 t2, .bool true] w fun e w' => e = .returned (.bool true) ∧ w.grownBy w' none)) (w : World)
    (HK : Hid (∀ W, w.grownBy W none → Calls Tryz.prog 8 #[] W fun e w' => e = .returned (.bool true) ∧ W.grownBy w' none)) :
    Calls Tryz.prog 5 #[whole n s, whole d t] w fun e w' => e = .returned (.bool true) ∧ w.grownBy w' none := by
  have h1I : (s.size : Int) ≤ 3000 := by omega
  have h2I : (t.size : Int) ≤ 3000 := by omega
  clear h1 h2
  go_enter Tryz.func5, Tryz.ntmps5
  go_wp2_with fail
  refine (HF.out _).mono ?_
  rintro e w1 ⟨rfl, g1⟩
  have bx : WBlk w1 w.heap.size (.bool n) (.string s) := WBlk.kept (at_alloc1 _ _ _) g1 (by simp)
  have bd : WBlk w1 (w.heap.size + 1) (.bool d) (.string t) := WBlk.kept (heap_alloc2_new _ _ _) g1 (by simp)
  have x0 := bx.c0
  have x1 := bx.c1
  have xl := bx.lt
  have G1 : w.grownBy w1 none := grownBy_trans (grow2 _ _ _) g1
  clear g1
  go_wp2_with fail
  refine (HM1.out _).mono ?_
  rintro e w2 ⟨rfl, g2⟩
  have bq : QBlk w2 w1.heap.size (.bool n1) (.string s1) (.bool d1) (.string t1) := QBlk.kept (heap_alloc_new _ _) g2 (by simp)
  have bd := bd.kept (grownBy_trans (grow1 _ _) g2) (by simp)
  have bx := bx.kept (grownBy_trans (grow1 _ _) g2) (by simp)
  have y0 := bd.c0
  have y1 := bd.c1
  have G2 : w.grownBy w2 none := grownBy_trans G1 (grownBy_trans (grow1 _ _) g2)
  clear g2 G1 x0 x1 xl
  go_wp2_with fail
  refine (HM2.out _).mono ?_
  rintro e w3 ⟨rfl, g3⟩
  have bq := bq.kept g3 (by simp)
  have bd := bd.kept g3 (by simp)
  have bx := bx.kept g3 (by simp)
  have G3 : w.grownBy w3 none := grownBy_trans G2 g3
  clear g3 G2 y0 y1
  have y0 := bd.c0
  have y1 := bd.c1
  go_wp2_with fail
  refine (HS.out _).mono ?_
  rintro e w4 ⟨rfl, g4⟩
  have bq := bq.kept g4 (by simp)
  have bd := bd.kept g4 (by simp)
  have bx := bx.kept g4 (by simp)
  have G4 : w.grownBy w4 none := grownBy_trans G3 g4
  clear g4 G3 y0 y1
  have HZ : Hid (∀ w', w4.grownBy w' none → w'.cell? ⟨w1.heap.size, 0, none⟩ = some (.bool n1) ∧ w'.cell? ⟨w1.heap.size, 1, none⟩ = some (.string s1) ∧ w'.cell? ⟨w1.heap.size, 2, none⟩ = some (.bool d1) ∧ w'.cell? ⟨w1.heap.size, 3, none⟩ = some (.string t1) ∧ w'.cell? ⟨w.heap.size, 0, none⟩ = some (.bool n) ∧ w'.cell? ⟨w.heap.size, 1, none⟩ = some (.string s) ∧ w'.cell? ⟨w.heap.size + 1, 0, none⟩ = some (.bool d) ∧ w'.cell? ⟨w.heap.size + 1, 1, none⟩ = some (.string t)) := fun w' g =>
    ⟨(bq.kept g (by simp)).c0, (bq.kept g (by simp)).c1, (bq.kept g (by simp)).c2, (bq.kept g (by simp)).c3, (bx.kept g (by simp)).c0, (bx.kept g (by simp)).c1, (bd.kept g (by simp)).c0, (bd.kept g (by simp)).c1⟩
  have HG : Hid (w.grownBy w4 none) := G4
  clear bq bd bx G4
  go_wp2_with fail
  go_region_held3 (fun w' => w'.cell? ⟨w1.heap.size, 0, none⟩ = some (.bool n1) ∧ w'.cell? ⟨w1.heap.size, 1, none⟩ = some (.string s1) ∧ w'.cell? ⟨w1.heap.size, 2, none⟩ = some (.bool d1) ∧ w'.cell? ⟨w1.heap.size, 3, none⟩ = some (.string t1) ∧ w'.cell? ⟨w.heap.size, 0, none⟩ = some (.bool n) ∧ w'.cell? ⟨w.heap.size, 1, none⟩ = some (.string s) ∧ w'.cell? ⟨w.heap.size + 1, 0, none⟩ = some (.bool d) ∧ w'.cell? ⟨w.heap.size + 1, 1, none⟩ = some (.string t))
    (first | (go_keep; done) | exact HZ.out _ (by assumption) | exact HZ.out _ (grow_drew (World.grownBy.refl _ _)) | fail)
    (first
      | (go_at_call 41; refine (HR.out _).mono ?_; rintro e wA ⟨rfl, hgA⟩; have GA : w4.grownBy wA none := (by first | exact hgA | exact grownBy_undrew hgA))
      | (go_at_call 16; refine (HT.out _).mono ?_; rintro e wB ⟨rfl, hgB⟩; have GB : w4.grownBy wB none := grownBy_trans GA hgB)
      | (go_at_call 8; refine (HK.out _ (grownBy_trans HG.out GB)).mono ?_; rintro e wC ⟨rfl, hgC⟩; have GC : w4.grownBy wC none := grownBy_trans GB hgC)
      | fail)
  go_wp2_with fail
  go_ret
  exact ⟨rfl, grownBy_trans HG.out GC⟩
end Go.Proofs.YtgemkfiippooeaaGreatDoor
