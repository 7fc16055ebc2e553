/-
  The document's Text.
-/
import Derived.Test.YthldipnfaiobaabGreatDoorTxt
import Derived.Laws.IdiomStrings
namespace Go.Proofs.YthldipnfaiobaabGreatDoor
open Go.RowKit Go.Lib Go.Sort
set_option linter.unusedVariables false
set_option linter.unusedSimpArgs false
def jn (L : List Int) : ByteArray := ⟨(Lib.join (L.map Lib.itoa) [32]).toArray⟩
theorem jn_len (L : List Int) (h : ∀ x ∈ L, noL x = false) : (jn L).size ≤ 22 * L.length := by
  have := join_len (L.map Lib.itoa) (fun x hx => by
    obtain ⟨y, hy, rfl⟩ := List.mem_map.1 hx
    have := noL_no (h y hy)
    exact Lib.itoa_length_le y (by omega) (by omega))
  rw [List.length_map] at this
  show (Lib.join (L.map Lib.itoa) [32]).toArray.size ≤ _
  simpa using this
end Go.Proofs.YthldipnfaiobaabGreatDoor
