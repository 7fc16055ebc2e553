/-
  The program's Conj.
-/
import Derived.Test.YthldipnfaiobaaaDoorTld
namespace Go.Proofs.YthldipnfaiobaaaDoor
open Go.RowKit Go.Lib Go.Sort
set_option linter.unusedVariables false
set_option linter.unusedSimpArgs false
theorem inv_any {B : List Int} (h : B.any noL = false) : (inv B).any noL = false := by
  rw [List.any_eq_false] at h ⊢
  intro x hx
  rw [← inv_eq] at hx
  obtain ⟨y, hy, rfl⟩ := List.mem_map.1 hx
  have h1 := noL_no (by simpa using h y (by simpa using hy))
  simp [noL]
  omega
theorem PdQ.told {w w2 : World} {M : List Int} {n : Nat} {v2 : Value} (h : PdQ w M n (.returned v2) w2) (hn : n ≤ 1000000) (hM : M.length ≤ 1000000000) :
    (∃ ab k c, v2 = .slice ab k c) ∧ w.grownBy w2 none ∧ Calls Tryd.prog 62 #[v2] w2 fun e w' => Told1 w2 e w' (tldE (sh M)) (tldL (sh M)) := by
  obtain ⟨v', Ps, e, hP, hf, hlen, heach, hG⟩ := h
  cases e
  have hfl : Ps.flatten.length ≤ 1000000000 := by
    rw [hf]
    have h1 := sh_len M
    omega
  have HT := ptold_any w2 v2 Ps hP.intsL (by omega) hfl
  rw [hf] at HT
  obtain ⟨ab, c, rfl⟩ := hP.form
  exact ⟨⟨ab, _, c, rfl⟩, hG, HT⟩
end Go.Proofs.YthldipnfaiobaaaDoor
