/-
  The laws' works: numbers are made, divided, told.
-/
import Derived.Test.YtgemkfiippooeaaGreatDoorTxa
namespace Go.Proofs.YtgemkfiippooeaaGreatDoor
open Go.RowKit Go.Lib Go.Sort

/-- A small number's value. -/
def ofV (n : Int) : Value := whole (decide (n < 0)) ⟨#[UInt8.ofNat n.natAbs]⟩
theorem ofV4 : ofV (-4) = whole true ⟨#[4]⟩ := rfl
theorem ofV1 : ofV 1 = whole false ⟨#[1]⟩ := rfl
theorem ofV6 : ofV 6 = whole false ⟨#[6]⟩ := rfl
theorem of_gen (n : Int) (h0 : 0 < n.natAbs) (h : n.natAbs < 256) (w : World) :
    Calls Tryz.prog 68 #[.int .i64 n] w fun e w' => e = .returned (ofV n) ∧ w.grownBy w' none := by
  refine (of_known n n.natAbs (decide (n < 0)) ?_ h0 h w).mono fun e w' h => h
  by_cases hn : n < 0
  · rw [decide_eq_true hn]; simp; omega
  · rw [decide_eq_false hn]; simp; omega
theorem magN300 : magN 300 = [1, 44] := by
  rw [magN_pos (by decide), show 300 / 256 = 1 from rfl, magN_small 1 (by decide) (by decide)]; rfl
theorem of300 (w : World) : Calls Tryz.prog 68 #[.int .i64 (-300)] w fun e w' => e = .returned (whole true ⟨#[1, 44]⟩) ∧ w.grownBy w' none := by
  refine (of_any (-300) (by decide) (by decide) w).mono ?_
  rintro e w' ⟨s, rfl, hs, hg⟩
  have h2 : s = ⟨#[1, 44]⟩ := by
    apply bN_inj
    rw [hs, show Int.natAbs (-300) = 300 from rfl, magN300]
    rfl
  exact ⟨by rw [h2]; rfl, hg⟩

end Go.Proofs.YtgemkfiippooeaaGreatDoor
