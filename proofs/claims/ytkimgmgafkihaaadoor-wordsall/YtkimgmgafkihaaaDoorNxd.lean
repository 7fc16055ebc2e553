/-
  What the document's Next asks, in lists.
-/
import Derived.Test.YtkimgmgafkihaaaDoorNxc
import Derived.Test.YtkimgmgafkihaaaDoorRcm
namespace Go.Proofs.YtkimgmgafkihaaaDoor
open Go.RowKit Go.Lib Go.Sort
set_option linter.unusedVariables false
set_option linter.unusedSimpArgs false
def LwL (l : Int) (W : List Int) : Prop := ∀ i, i < W.length → W[i]?.getD 0 ≠ 0 ∧ -l ≤ W[i]?.getD 0 ∧ W[i]?.getD 0 ≤ l
theorem aft_neg {k : Int} (h : k < 0) : aft k = -k + 1 := if_pos h
theorem aft_pos {k : Int} (h : ¬ k < 0) : aft k = -k := if_neg h
theorem lett_plc {x : Int} (h0 : x ≠ 0) (h1 : -64 ≤ x) (h2 : x ≤ 64) : ∃ P : Nat, plc x + 1 = (P : Int) ∧ P ≤ 200 ∧ lett P = aft x ∧ lett (P + 1) = aft (aft x) := by
  unfold plc
  by_cases h : 0 < x
  · rw [if_pos h]
    obtain ⟨m, rfl⟩ : ∃ m : Nat, x = (m : Int) + 1 := ⟨(x - 1).toNat, by omega⟩
    refine ⟨2 * m + 1, by omega, by omega, ?_, ?_⟩
    · unfold lett
      rw [if_neg (by omega), aft_pos (by omega)]
      omega
    · unfold lett
      rw [if_pos (by omega), aft_pos (k := (m : Int) + 1) (by omega), aft_neg (by omega)]
      omega
  · rw [if_neg h]
    obtain ⟨m, rfl⟩ : ∃ m : Nat, x = -((m : Int) + 1) := ⟨(-x - 1).toNat, by omega⟩
    refine ⟨2 * m + 2, by omega, by omega, ?_, ?_⟩
    · unfold lett
      rw [if_pos (by omega), aft_neg (by omega)]
      omega
    · unfold lett
      rw [if_neg (by omega), aft_neg (k := -((m : Int) + 1)) (by omega), aft_pos (by omega)]
      omega
theorem nx_facts {l : Int} {W : List Int} {j : Nat} {x z : Int} (hl : 1 ≤ l ∧ l ≤ 64) (hW : LwL l W) (hj : j < W.length) (hx : W[j]?.getD 0 = x) (hz : W[j - 1]?.getD 0 = z) :
    ∃ P M : Nat, plc x + 1 = (P : Int) ∧ P ≤ 200 ∧ 2 * l = (M : Int) ∧ lett P = aft x ∧ lett (P + 1) = aft (aft x) ∧ (P < M ↔ aft x ≤ l) ∧ (0 < j → z + aft x = 0 → (P + 1 < M ↔ cnd W j ≤ l) ∧ z + aft (aft x) ≠ 0 ∧ cnd W j = aft (aft x)) ∧ (¬ (0 < j ∧ z + aft x = 0) → cnd W j = aft x) ∧ (¬ aft x ≤ l → ¬ cnd W j ≤ l) := by
  have h1 := hW j hj
  rw [hx] at h1
  obtain ⟨P, e1, e2, e3, e4⟩ := lett_plc h1.1 (by omega) (by omega)
  have h2 := hW (j - 1) (by omega)
  rw [hz] at h2
  refine ⟨P, (2 * l).toNat, e1, e2, by omega, e3, e4, ?_, ?_, ?_, ?_⟩
  · clear e3 e4
    unfold plc at e1
    unfold aft
    split at e1 <;> split <;> omega
  · intro h0 hc
    have hcn : cnd W j = aft (aft x) := by
      unfold cnd
      rw [hx, hz, if_pos ⟨h0, hc⟩]
    refine ⟨?_, ?_, hcn⟩
    · rw [hcn]
      clear e3 e4 hcn
      unfold plc at e1
      unfold aft at *
      split at e1 <;> split at hc <;> split <;> omega
    · clear e3 e4 hcn
      unfold aft at *
      split at hc <;> split <;> omega
  · intro h
    unfold cnd
    rw [hx, hz, if_neg h]
  · intro h
    unfold cnd
    rw [hx, hz, if_neg (fun hc => by have := hc.2; omega)]
    exact h
end Go.Proofs.YtkimgmgafkihaaaDoor
