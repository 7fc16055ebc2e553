/-
  Lists with the bounds of the blocks that they lie in.
-/
import Derived.Test.YtndadkfekngheaaDoorLwc
import Derived.Test.YtndadkfekngheaaDoorLwd
import Derived.Test.YtndadkfekngheaaDoorKno
import Derived.Test.YtndadkfekngheaaDoorRtx
import Derived.Test.YtndadkfekngheaaDoorRro
namespace Go.Proofs.YtndadkfekngheaaDoor
open Go.RowKit Go.Lib Go.Sort
set_option linter.unusedVariables false
set_option linter.unusedSimpArgs false

/-- A list that lies, if it has letters, in a block from lo on, below hi. -/
def At (lo hi : Nat) (w : World) (v : Value) (L : List Int) : Prop := Ints w v L ∧ (L = [] ∨ ∀ g, v.ownBlock = some g → lo ≤ g ∧ g < hi)
theorem Ints.at {w : World} {v : Value} {L : List Int} (h : Ints w v L) : At 0 w.heap.size w v L := by
  refine ⟨h, ?_⟩
  rcases h with ⟨_, e⟩ | ⟨B, off, c, rfl, hc, h⟩ | ⟨e, _⟩
  · exact .inl e
  rotate_left
  · exact .inl e
  · cases L with
    | nil => exact .inl rfl
    | cons x L =>
      refine .inr fun g hg => ⟨Nat.zero_le _, ?_⟩
      simp [Value.ownBlock] at hg
      subst hg
      exact World.block_lt_of_cell? w _ (h 0 (by simp))
theorem Fr.at {w : World} {base : Nat} {v : Value} {L : List Int} (h : Fr w base v L) : At base w.heap.size w v L := ⟨h.ints, .inr fun g hg => h.blk g hg⟩
theorem At.ints {lo hi : Nat} {w : World} {v : Value} {L : List Int} (h : At lo hi w v L) : Ints w v L := h.1
theorem At.kept {lo hi : Nat} {w w' : World} {v : Value} {L : List Int} {row : Option Nat} (h : At lo hi w v L) (hg : w.grownBy w' row) (hr : ∀ g, row = some g → g < lo ∨ hi ≤ g) : At lo hi w' v L := by
  refine ⟨?_, h.2⟩
  rcases h.2 with e | e
  · subst e
    exact h.1.empty
  · refine h.1.keptB hg ?_
    cases hv : v.ownBlock with
    | none => exact .inl rfl
    | some g =>
      right
      intro e2
      have h1 := e g hv
      have h2 := hr g e2.symm
      omega
theorem At.kept0 {lo hi : Nat} {w w' : World} {v : Value} {L : List Int} (h : At lo hi w v L) (hg : w.grownBy w' none) : At lo hi w' v L := h.kept hg (by simp)
theorem At.wide {lo hi lo' hi' : Nat} {w : World} {v : Value} {L : List Int} (h : At lo hi w v L) (h1 : lo' ≤ lo) (h2 : hi ≤ hi') : At lo' hi' w v L := by
  refine ⟨h.1, ?_⟩
  rcases h.2 with e | e
  · exact .inl e
  · exact .inr fun g hg => ⟨Nat.le_trans h1 (e g hg).1, Nat.lt_of_lt_of_le (e g hg).2 h2⟩
/-- told, with bounds: a in a block of its own. -/
theorem told_at (w : World) (a b t : Value) (r : Int) (A : List Int) (lo hi l2 h2 l3 h3 : Nat) (ha : Fr w lo a A) (hah : ∀ g, a.ownBlock = some g → g < hi) (hb : At l2 h2 w b A) (ht : At l3 h3 w t A) (hl : A.length ≤ 100000) (d2 : hi ≤ l2 ∨ h2 ≤ lo) (d3 : hi ≤ l3 ∨ h3 ≤ lo) :
    Calls Tryd.prog 21 #[a, b, .int .i64 r, t, .int .i64 r] w fun e w' => e = .returned (.bool true) ∧ w.grownBy w' a.ownBlock := by
  refine told_any w a b t r A (ha.mono (Nat.zero_le _)) hb.1 ht.1 ?_ ?_ hl
  · rcases hb.2 with e3 | e3
    · exact .inl e3
    · refine .inr ?_
      cases hv : b.ownBlock with
      | none => exact .inl hv
      | some g =>
        refine .inr ?_
        rw [hv]
        intro e
        have e1 := hah g e.symm
        have e2 := (ha.blk g e.symm).1
        have := e3 g hv
        omega
  · rcases ht.2 with e3 | e3
    · exact .inl e3
    · refine .inr ?_
      cases hv : t.ownBlock with
      | none => exact .inl hv
      | some g =>
        refine .inr ?_
        rw [hv]
        intro e
        have e1 := hah g e.symm
        have e2 := (ha.blk g e.symm).1
        have := e3 g hv
        omega
end Go.Proofs.YtndadkfekngheaaDoor
