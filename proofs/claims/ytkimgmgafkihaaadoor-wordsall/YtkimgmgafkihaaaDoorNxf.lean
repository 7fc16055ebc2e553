/-
  The words in their order, in lists.
-/
import Derived.Test.YtkimgmgafkihaaaDoorNxe
namespace Go.Proofs.YtkimgmgafkihaaaDoor
open Go.RowKit Go.Lib Go.Sort
set_option linter.unusedVariables false
set_option linter.unusedSimpArgs false
theorem LwL.l64 {l : Int} {W : List Int} (h : LwL l W) (hl : l ≤ 64) : L64 W := fun i hi => by have := h i hi; omega
theorem LwL.iff {l : Int} {W : List Int} : LwL l W ↔ ∀ x ∈ W, x ≠ 0 ∧ -l ≤ x ∧ x ≤ l := by
  constructor
  · intro h x hx
    obtain ⟨i, hi, rfl⟩ := List.mem_iff_getElem.1 hx
    have := h i hi
    rw [List.getElem?_eq_getElem hi] at this
    exact this
  · intro h i hi
    rw [List.getElem?_eq_getElem hi]
    exact h _ (List.getElem_mem hi)
theorem LwL.nil (l : Int) : LwL l [] := fun i hi => by simp at hi
theorem LwL.ones {l : Int} (hl : 1 ≤ l) (n : Nat) : LwL l (List.replicate n 1) := by
  rw [LwL.iff]
  intro x hx
  obtain rfl := List.eq_of_mem_replicate hx
  omega
theorem cnd_ok {l : Int} {W : List Int} {j : Nat} (hl : 1 ≤ l) (hW : LwL l W) (hj : j < W.length) : cnd W j ≠ 0 ∧ -l ≤ cnd W j := by
  have h1 := hW j hj
  have h2 := hW (j - 1) (by omega)
  unfold cnd
  split
  · next hc =>
    have h3 := hc.2
    generalize W[j]?.getD 0 = x at *
    generalize W[j - 1]?.getD 0 = z at *
    unfold aft at *
    split at h3 <;> split <;> omega
  · next hc =>
    generalize W[j]?.getD 0 = x at *
    unfold aft at *
    split <;> omega
theorem goF_ok {l : Int} {W V : List Int} (hl : 1 ≤ l) (hW : LwL l W) : ∀ i, i ≤ W.length → goF l W i = some V → V.length = W.length ∧ LwL l V
  | 0, _, h => by cases h
  | i + 1, hi, h => by
    unfold goF at h
    split at h
    · next hc =>
      injection h with h
      subst h
      have hk := cnd_ok hl hW (j := i) (by omega)
      refine ⟨by simp; omega, ?_⟩
      rw [LwL.iff] at *
      intro x hx
      simp only [List.mem_append, List.mem_singleton] at hx
      rcases hx with (hx | rfl) | hx
      · exact hW x (List.mem_of_mem_take hx)
      · exact ⟨hk.1, hk.2, hc⟩
      · obtain rfl := List.eq_of_mem_replicate hx
        unfold fst1
        split <;> omega
    · exact goF_ok hl hW i (by omega) h
theorem nx_ok {l most : Int} {W : List Int} (hl : 1 ≤ l) (hW : LwL l W) (hb : nxB l most W = true) : LwL l (nxL l most W) ∧ ((nxL l most W).length = W.length ∨ (nxL l most W).length = W.length + 1 ∧ ((W.length : Nat) : Int) < most) := by
  cases hg : goF l W W.length with
  | some V =>
    rw [(nx_some (most := most) hg).1]
    obtain ⟨h1, h2⟩ := goF_ok hl hW _ (Nat.le_refl _) hg
    exact ⟨h2, .inl h1⟩
  | none =>
    by_cases hm : most ≤ W.length
    · rw [(nx_end hg hm).2] at hb
      cases hb
    · rw [(nx_long hg hm).1]
      exact ⟨LwL.ones hl _, .inr ⟨by simp, by omega⟩⟩
end Go.Proofs.YtkimgmgafkihaaaDoor
