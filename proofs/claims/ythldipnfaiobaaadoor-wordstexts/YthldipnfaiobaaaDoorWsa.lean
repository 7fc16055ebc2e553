/-
  Lists with the bounds of the blocks that they lie in.
-/
import Derived.Test.YthldipnfaiobaaaDoorLwa
import Derived.Test.YthldipnfaiobaaaDoorKno
import Derived.Test.YthldipnfaiobaaaDoorRtx
import Derived.Test.YthldipnfaiobaaaDoorRoo
namespace Go.Proofs.YthldipnfaiobaaaDoor
open Go.RowKit Go.Lib Go.Sort
set_option linter.unusedVariables false
set_option linter.unusedSimpArgs false
def At (lo hi : Nat) (w : World) (v : Value) (L : List Int) : Prop := Ints w v L ∧ (L = [] ∨ ∀ g, v.ownBlock = some g → lo ≤ g ∧ g < hi)
theorem Fr.at {w : World} {base : Nat} {v : Value} {L : List Int} (h : Fr w base v L) : At base w.heap.size w v L := ⟨h.ints, .inr fun g hg => h.blk g hg⟩
theorem At.kept {lo hi : Nat} {w w' : World} {v : Value} {L : List Int} {row : Option Nat} (h : At lo hi w v L) (hg : w.grownBy w' row) (hr : ∀ g, row = some g → g < lo ∨ hi ≤ g) : At lo hi w' v L := by
  refine ⟨?_, h.2⟩
  rcases h.2 with e | e
  · subst e
    exact h.1.empty
  · refine h.1.keptB hg ?_
    cases hv : v.ownBlock with
    | none => exact .inl rfl
    | some g =>
      right
      intro e2
      have h1 := e g hv
      have h2 := hr g e2.symm
      omega
theorem At.kept0 {lo hi : Nat} {w w' : World} {v : Value} {L : List Int} (h : At lo hi w v L) (hg : w.grownBy w' none) : At lo hi w' v L := h.kept hg (by simp)
theorem told_at (w : World) (a b t : Value) (r : Int) (A : List Int) (lo hi l2 h2 l3 h3 : Nat) (ha : Fr w lo a A) (hah : ∀ g, a.ownBlock = some g → g < hi) (hb : At l2 h2 w b A) (ht : At l3 h3 w t A) (hl : A.length ≤ 100000) (d2 : hi ≤ l2 ∨ h2 ≤ lo) (d3 : hi ≤ l3 ∨ h3 ≤ lo) :
    Calls Tryd.prog 21 #[a, b, .int .i64 r, t, .int .i64 r] w fun e w' => e = .returned (.bool true) ∧ w.grownBy w' a.ownBlock := by
  refine told_any w a b t r A (ha.mono (Nat.zero_le _)) hb.1 ht.1 ?_ ?_ hl
  · rcases hb.2 with e3 | e3
    · exact .inl e3
    · refine .inr ?_
      cases hv : b.ownBlock with
      | none => exact .inl hv
      | some g =>
        refine .inr ?_
        rw [hv]
        intro e
        have e1 := hah g e.symm
        have e2 := (ha.blk g e.symm).1
        have := e3 g hv
        omega
  · rcases ht.2 with e3 | e3
    · exact .inl e3
    · refine .inr ?_
      cases hv : t.ownBlock with
      | none => exact .inl hv
      | some g =>
        refine .inr ?_
        rw [hv]
        intro e
        have e1 := hah g e.symm
        have e2 := (ha.blk g e.symm).1
        have := e3 g hv
        omega
end Go.Proofs.YthldipnfaiobaaaDoor
