/-
  Powers: of lists alone.
-/
import Derived.Test.YthldipnfaiobaabGreatDoorRma
import Derived.Test.YthldipnfaiobaabGreatDoorRoo
import Derived.Test.YthldipnfaiobaabGreatDoorTld
namespace Go.Proofs.YthldipnfaiobaabGreatDoor
open Go.RowKit Go.Lib Go.Sort
set_option linter.unusedVariables false
set_option linter.unusedSimpArgs false
theorem cut_ex (L : List Int) : ∃ m, Cut L m := by
  have key : ∀ k : Nat, (∃ m, Cut L m) ∨ ∀ j, j < k → 2 * j + 1 < L.length ∧ L[j]?.getD 0 + L[L.length - 1 - j]?.getD 0 = 0 := by
    intro k
    induction k with
    | zero => exact .inr fun j hj => by omega
    | succ k ih =>
      rcases ih with h | h
      · exact .inl h
      · by_cases hk : 2 * k + 1 < L.length ∧ L[k]?.getD 0 + L[L.length - 1 - k]?.getD 0 = 0
        · refine .inr fun j hj => ?_
          rcases Nat.lt_or_ge j k with e | e
          · exact h j e
          · obtain rfl : j = k := by omega
            exact hk
        · exact .inl ⟨k, h, hk⟩
  rcases key (L.length + 1) with h | h
  · exact h
  · have := (h L.length (by omega)).1
    omega
def powE (L : List Int) (m : Nat) (n : Int) : Int := if chk [L] = 0 then pwE (coreOf (sh L) m) (byOf (sh L) m) n else chk [L]
def powL (L : List Int) (m : Nat) (n : Int) : List Int := if chk [L] = 0 then (if pwE (coreOf (sh L) m) (byOf (sh L) m) n = 0 then pwL (coreOf (sh L) m) (byOf (sh L) m) n else []) else []
theorem pow_told (w : World) (v : Value) (L : List Int) (n : Int) (h : Ints w v L) (hl : L.length ≤ 1000000000000) (m : Nat) (hm : Cut (sh L) m) :
    Calls Tryz.prog 15 #[v, .int .i64 n] w fun e w' => Told1 w e w' (powE L m n) (powL L m n) := by
  refine (pow_top w v L n h hl).mono ?_
  rintro e w' ⟨hg, u, e2, rfl, hh⟩
  refine ⟨hg, u, ?_, ?_⟩
  · rcases hh with ⟨h1, _, rfl⟩ | ⟨m', h1, h2, rfl, _⟩
    · unfold powE
      rw [if_neg h1]
    · obtain rfl := h2.uniq hm
      unfold powE
      rw [if_pos h1]
  · rcases hh with ⟨h1, rfl, _⟩ | ⟨m', h1, h2, rfl, h3⟩
    · unfold powL
      rw [if_neg h1]
      exact Fr.nil _ _
    · obtain rfl := h2.uniq hm
      unfold powL
      rw [if_pos h1]
      exact h3
end Go.Proofs.YthldipnfaiobaabGreatDoor
