/-
  The law's told, lent, left, much.
-/
import Derived.Test.YthldipnfaiobaabGreatDoorRoo
import Derived.ArgAppend
namespace Go.Proofs.YthldipnfaiobaabGreatDoor
open Go.RowKit Go.Lib Go.Sort
set_option linter.unusedVariables false
set_option linter.unusedSimpArgs false
theorem Fr.form {w : World} {base : Nat} {v : Value} {L : List Int} (h : Fr w base v L) : ∃ ab c, v = .slice ab L.length c := by
  rcases h with ⟨rfl, rfl⟩ | ⟨B, off, c, cur, rfl, _⟩
  · exact ⟨none, 0, rfl⟩
  · exact ⟨_, c, rfl⟩
end Go.Proofs.YthldipnfaiobaabGreatDoor
