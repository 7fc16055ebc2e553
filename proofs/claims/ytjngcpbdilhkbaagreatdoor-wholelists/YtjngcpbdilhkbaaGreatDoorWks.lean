/-
  The laws' works: numbers are made, divided, told.
-/
import Derived.Test.YtjngcpbdilhkbaaGreatDoorTxa
namespace Go.Proofs.YtjngcpbdilhkbaaGreatDoor
open Go.RowKit Go.Lib Go.Sort

/-- A small number's value. -/
def ofV (n : Int) : Value := whole (decide (n < 0)) ⟨#[UInt8.ofNat n.natAbs]⟩
theorem ofV4 : ofV (-4) = whole true ⟨#[4]⟩ := rfl
theorem ofV1 : ofV 1 = whole false ⟨#[1]⟩ := rfl
theorem ofV6 : ofV 6 = whole false ⟨#[6]⟩ := rfl
theorem of_gen (n : Int) (h0 : 0 < n.natAbs) (h : n.natAbs < 256) (w : World) :
    Calls Tryz.prog 26 #[.int .i64 n] w fun e w' => e = .returned (ofV n) ∧ w.grownBy w' none := by
  refine (of_known n n.natAbs (decide (n < 0)) ?_ h0 h w).mono fun e w' h => h
  by_cases hn : n < 0
  · rw [decide_eq_true hn]; simp; omega
  · rw [decide_eq_false hn]; simp; omega
theorem magN300 : magN 300 = [1, 44] := by
  rw [magN_pos (by decide), show 300 / 256 = 1 from rfl, magN_small 1 (by decide) (by decide)]; rfl
theorem of300 (w : World) : Calls Tryz.prog 26 #[.int .i64 (-300)] w fun e w' => e = .returned (whole true ⟨#[1, 44]⟩) ∧ w.grownBy w' none := by
  refine (of_any (-300) (by decide) (by decide) w).mono ?_
  rintro e w' ⟨s, rfl, hs, hg⟩
  have h2 : s = ⟨#[1, 44]⟩ := by
    apply bN_inj
    rw [hs, show Int.natAbs (-300) = 300 from rfl, magN300]
    rfl
  exact ⟨by rw [h2]; rfl, hg⟩

set_option maxHeartbeats 3200000 in
set_option maxRecDepth 1000000 in
theorem works_any (w : World) (htab : Lib.TabIs Tryz.prog w "internal/strconv.uint64pow10" .u64 Lib.pow10Tab) :
    Calls Tryz.prog 6 #[] w fun e w' => e = .returned (.bool true) ∧ w.grownBy w' none := by
  obtain ⟨gp, hgp⟩ := pow10_g
  have HT : Hid (∀ w', w.grownBy w' none → Lib.TabIs Tryz.prog w' "internal/strconv.uint64pow10" .u64 Lib.pow10Tab) := fun w' hg => tab_kept hgp htab hg
  clear htab hgp
  go_enter Tryz.func6, Tryz.ntmps6
  go_wp2_with fail
  refine (of_known (-7) 7 true rfl (by decide) (by decide) _).mono ?_
  rintro e w1 ⟨rfl, g1⟩
  go_wp2_with fail
  refine (of_known 2 2 false rfl (by decide) (by decide) _).mono ?_
  rintro e w2 ⟨rfl, g2⟩
  go_wp2_with fail
  refine (div_known _).mono ?_
  rintro e w3 ⟨rfl, g3⟩
  have G3 := grownBy_trans (grownBy_trans g1 g2) g3
  clear g1 g2 g3
  go_wp2_with fail
  refine (of_known 12 12 false rfl (by decide) (by decide) _).mono ?_
  rintro e w4 ⟨rfl, g4⟩
  go_wp2_with fail
  refine (of_known (-18) 18 true rfl (by decide) (by decide) _).mono ?_
  rintro e w5 ⟨rfl, g5⟩
  have G5 := grownBy_trans g4 g5
  have bA : WBlk w5 w3.heap.size (.bool true) (.string ⟨#[4]⟩) := WBlk.kept (old_alloc _ _ (heap_alloc_new _ _)) G5 (by simp)
  have bB : WBlk w5 (w3.heap.size + 1) (.bool false) (.string ⟨#[1]⟩) := WBlk.kept (heap_alloc2_new _ _ _) G5 (by simp)
  have GG5 := grownBy_trans (grownBy_trans G3 (grow2 _ _ _)) G5
  clear g4 g5 G5 G3
  go_wp2_with fail
  refine (gcd_known _ _ (dw_two w5 false true ⟨#[12]⟩ ⟨#[18]⟩)).mono ?_
  rintro e w6 ⟨rfl, g6⟩
  have g6 := grownBy_trans (grow1 _ _) g6
  go_wp2_with fail
  refine (of300 _).mono ?_
  rintro e w7 ⟨rfl, g7⟩
  have GG7 := grownBy_trans (grownBy_trans GG5 g6) (grownBy_trans (grow1 _ _) g7)
  have bC : WBlk w7 w6.heap.size (.bool false) (.string ⟨#[6]⟩) := WBlk.kept (heap_alloc_new _ _) g7 (by simp)
  have bA7 := bA.kept (grownBy_trans g6 (grownBy_trans (grow1 _ _) g7)) (by simp)
  have bB7 := bB.kept (grownBy_trans g6 (grownBy_trans (grow1 _ _) g7)) (by simp)
  clear g6 g7 bA bB GG5
  go_wp2_with fail
  refine (text_known _ (HT.out _ GG7)).mono ?_
  rintro e w8 ⟨rfl, g8⟩
  have HKK : Hid (∀ w', w8.grownBy w' none → w'.cell? ⟨w3.heap.size, 0, none⟩ = some (Value.bool true) ∧ w'.cell? ⟨w3.heap.size, 1, none⟩ = some (Value.string ⟨#[4]⟩) ∧ w'.cell? ⟨w3.heap.size + 1, 0, none⟩ = some (Value.bool false) ∧ w'.cell? ⟨w3.heap.size + 1, 1, none⟩ = some (Value.string ⟨#[1]⟩) ∧ w'.cell? ⟨w6.heap.size, 0, none⟩ = some (Value.bool false) ∧ w'.cell? ⟨w6.heap.size, 1, none⟩ = some (Value.string ⟨#[6]⟩)) :=
    fun w' hg => ⟨((bA7.kept g8 (by simp)).kept hg (by simp)).c0, ((bA7.kept g8 (by simp)).kept hg (by simp)).c1, ((bB7.kept g8 (by simp)).kept hg (by simp)).c0, ((bB7.kept g8 (by simp)).kept hg (by simp)).c1, ((bC.kept g8 (by simp)).kept hg (by simp)).c0, ((bC.kept g8 (by simp)).kept hg (by simp)).c1⟩
  have HG8 : Hid (w.grownBy w8 none) := grownBy_trans GG7 g8
  clear g8 GG7 bA7 bB7 bC HT
  have hck := fun w => check_any true eS (by unfold maxLen; decide) w
  rw [show chk true eS = 2 from rfl] at hck
  have HCK : Hid (∀ w, Calls Tryz.prog 15 #[whole true eS] w fun e w' => e = .returned (.int .i64 2) ∧ w' = w.alloc (wObj true eS)) := hck
  clear hck
  go_wp2_with fail
  go_region_held3 (fun w' => w'.cell? ⟨w3.heap.size, 0, none⟩ = some (Value.bool true) ∧ w'.cell? ⟨w3.heap.size, 1, none⟩ = some (Value.string ⟨#[4]⟩) ∧ w'.cell? ⟨w3.heap.size + 1, 0, none⟩ = some (Value.bool false) ∧ w'.cell? ⟨w3.heap.size + 1, 1, none⟩ = some (Value.string ⟨#[1]⟩) ∧ w'.cell? ⟨w6.heap.size, 0, none⟩ = some (Value.bool false) ∧ w'.cell? ⟨w6.heap.size, 1, none⟩ = some (Value.string ⟨#[6]⟩))
    (first | (go_keep; done) | exact HKK.out _ (by assumption) | exact HKK.out _ (grownBy_trans (by assumption) (grow1 _ _)) | exact HKK.out _ (grow_drew (World.grownBy.refl _ _)) | fail)
    (first
      | (go_at_call 14; refine (num_any _ _).mono ?_; rintro e w' ⟨rfl, rfl⟩)
      | (go_at_call 26; refine (of_gen _ (by decide) (by decide) _).mono ?_; rintro e wA ⟨rfl, hgA⟩; simp only [ofV4, ofV1, ofV6]; have GA : w8.grownBy wA none := (by first | exact grownBy_trans (by assumption) hgA | exact grownBy_undrew hgA | fail))
      | (go_at_call 15; refine (HCK.out _).mono ?_; rintro e w' ⟨rfl, rfl⟩)
      | fail)
  go_wp2_with fail
  go_ret
  refine ⟨rfl, ?_⟩
  exact grownBy_trans HG8.out (grownBy_trans GA (grow1 _ _))
end Go.Proofs.YtjngcpbdilhkbaaGreatDoor
