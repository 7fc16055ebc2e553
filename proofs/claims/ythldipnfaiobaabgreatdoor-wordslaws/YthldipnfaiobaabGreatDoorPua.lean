/-
  Words put in for letters: of lists alone; a word and a row of words behind it.
-/
import Derived.Test.YthldipnfaiobaabGreatDoorTld
namespace Go.Proofs.YthldipnfaiobaabGreatDoor
open Go.RowKit Go.Lib Go.Sort
set_option linter.unusedVariables false
set_option linter.unusedSimpArgs false
theorem inv_append (A B : List Int) : inv (A ++ B) = inv B ++ inv A := by
  unfold inv
  rw [List.map_append, List.reverse_append]
theorem inv_one (k : Int) : inv [k] = [-k] := rfl
theorem red_inv {S : List Int} (h : Red S) : Red (inv S) := fun i hi => by
  rw [inv_len] at hi
  rw [inv_at S i (by omega), inv_at S (i + 1) hi]
  have := h (S.length - 1 - (i + 1)) (by omega)
  rw [show S.length - 1 - (i + 1) + 1 = S.length - 1 - i by omega] at this
  omega
theorem can_glue {V W : List Int} {c : Nat} (h : Can V W c) (hV : Red V) (hW : Red W) : V.take (V.length - c) ++ W.drop c = sh (V ++ W) := by
  rcases Nat.lt_or_ge c V.length with hc | hc
  · have := h.stop hc [] (by simpa using hV) hW
    simpa using this
  · have := h.step hc []
    rw [List.nil_append, List.nil_append] at this
    rw [show V.length - c = 0 by omega, List.take_zero, List.nil_append, ← this]
    exact (sh_red (red_drop hW c)).symm
end Go.Proofs.YthldipnfaiobaabGreatDoor
