/-
  The laws' known, of what it asks.
-/
import Derived.Test.YtdfliaogmlpefaaGreatDoorBunFre
import Derived.Test.YtdfliaogmlpefaaGreatDoorFri
import Derived.Test.YtdfliaogmlpefaaGreatDoorFrk
namespace Go.Proofs.YtdfliaogmlpefaaGreatDoor
open Go.RowKit Go.Lib Go.Sort
set_option linter.unusedVariables false
set_option maxHeartbeats 3200000
set_option maxRecDepth 1000000
abbrev b1 : ByteArray := ⟨#[1]⟩
abbrev b2 : ByteArray := ⟨#[2]⟩
abbrev b3 : ByteArray := ⟨#[3]⟩
abbrev b6 : ByteArray := ⟨#[6]⟩
theorem known_by (w : World)
    (HS1 : Hid (∀ w, Calls Tryz.prog 17 #[.int .i64 1, .int .i64 2] w fun e w' => e = .returned (.tuple #[frac false b1 false b2, .int .i64 0]) ∧ w.grownBy w' none))
    (HS2 : Hid (∀ w, Calls Tryz.prog 17 #[.int .i64 2, .int .i64 (-6)] w fun e w' => e = .returned (.tuple #[frac true b1 false b3, .int .i64 0]) ∧ w.grownBy w' none))
    (HA : Hid (∀ w, Calls Tryz.prog 42 #[frac false b1 false b2, frac true b1 false b3] w fun e w' => e = .returned (.tuple #[frac false b1 false b6, .int .i64 0]) ∧ w.grownBy w' none))
    (HT : Hid (∀ W, w.grownBy W none → Calls Tryz.prog 36 #[frac false b1 false b6] W fun e w' => e = .returned (.tuple #[.string ⟨#[49, 47, 54]⟩, .int .i64 0]) ∧ W.grownBy w' none))
    (HN : Hid (∀ w, Calls Tryz.prog 15 #[frac false b1 false b2] w fun e w' => e = .returned (.tuple #[whole false eS, .int .i64 0]) ∧ w.grownBy w' none))
    (HO : Hid (∀ w, Calls Tryz.prog 47 #[.int .i64 0] w fun e w' => e = .returned (whole false eS) ∧ w.grownBy w' none)) :
    Calls Tryz.prog 10 #[] w fun e w' => e = .returned (.bool true) ∧ w.grownBy w' none := by
  go_enter Tryz.func10, Tryz.ntmps10
  go_wp2_with fail
  refine (HS1.out _).mono ?_
  rintro e w1 ⟨rfl, g1⟩
  go_wp2_with fail
  refine (HS2.out _).mono ?_
  rintro e w2 ⟨rfl, g2⟩
  have bA : QBlk w2 w1.heap.size (.bool false) (.string b1) (.bool false) (.string b2) := QBlk.kept (heap_alloc_new _ _) g2 (by simp)
  have G2 : w.grownBy w2 none := grownBy_trans g1 (grownBy_trans (grow1 _ _) g2)
  clear g1 g2
  have c0 := bA.c0
  have c1 := bA.c1
  have c2 := bA.c2
  have c3 := bA.c3
  have cl := bA.lt
  go_wp2_with fail
  refine (HA.out _).mono ?_
  rintro e w3 ⟨rfl, g3⟩
  clear c0 c1 c2 c3 cl
  have bA := bA.kept (grownBy_trans (grow1 _ _) g3) (by simp)
  have G3 : w.grownBy w3 none := grownBy_trans G2 (grownBy_trans (grow1 _ _) g3)
  clear g3 G2
  go_wp2_with fail
  refine (HT.out _ (grownBy_trans G3 (grow1 _ _))).mono ?_
  rintro e w4 ⟨rfl, g4⟩
  have bA := bA.kept (grownBy_trans (grow1 _ _) g4) (by simp)
  have G4 : w.grownBy w4 none := grownBy_trans G3 (grownBy_trans (grow1 _ _) g4)
  clear g4 G3
  have c0 := bA.c0
  have c1 := bA.c1
  have c2 := bA.c2
  have c3 := bA.c3
  have cl := bA.lt
  go_wp2_with fail
  refine (HN.out _).mono ?_
  rintro e w5 ⟨rfl, g5⟩
  clear c0 c1 c2 c3 cl bA
  have G5 : w.grownBy w5 none := grownBy_trans G4 g5
  clear g5 G4
  have HK : Hid (∀ w', (w5.alloc (wObj false eS)).grownBy w' none → w'.cell? ⟨w5.heap.size, 0, none⟩ = some (.bool false) ∧ w'.cell? ⟨w5.heap.size, 1, none⟩ = some (.string eS)) := fun w' g => by
    have h : WBlk w' w5.heap.size (.bool false) (.string eS) := WBlk.kept (heap_alloc_new _ _) g (by simp)
    exact ⟨h.c0, h.c1⟩
  have HG : Hid (w.grownBy w5 none) := G5
  clear G5
  go_wp2_with fail
  go_region_held3 (fun w' => w'.cell? ⟨w5.heap.size, 0, none⟩ = some (.bool false) ∧ w'.cell? ⟨w5.heap.size, 1, none⟩ = some (.string eS))
    (first | (go_keep; done) | exact HK.out _ (by assumption) | exact HK.out _ (grow_drew (World.grownBy.refl _ _)) | fail)
    (first
      | (go_at_call 47; refine (HO.out _).mono ?_; rintro e wA ⟨rfl, hgA⟩; have GA : (w5.alloc (wObj false eS)).grownBy wA none := (by first | exact hgA | exact grownBy_undrew hgA | fail))
      | fail)
  go_wp2_with fail
  go_ret
  exact ⟨rfl, grownBy_trans HG.out (grownBy_trans (grow1 _ _) GA)⟩
theorem rof_zero (w : World) : Calls Tryz.prog 47 #[.int .i64 0] w fun e w' => e = .returned (whole false eS) ∧ w.grownBy w' none := by
  refine (rOf_any 0 (by decide) (by decide) w).mono ?_
  rintro e w' ⟨s, rfl, hs, hg⟩
  have h2 : s = eS := by
    apply bN_inj
    rw [hs, show Int.natAbs 0 = 0 from rfl, magN_zero]; rfl
  exact ⟨by rw [h2]; rfl, hg⟩
end Go.Proofs.YtdfliaogmlpefaaGreatDoor
