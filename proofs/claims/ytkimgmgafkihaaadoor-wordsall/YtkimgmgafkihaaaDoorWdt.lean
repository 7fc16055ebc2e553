/-
  The words one behind the other, by their number; how many of them a loop goes over.
-/
import Derived.Test.YtkimgmgafkihaaaDoorRgw
import Derived.Deep.LoopGhost
namespace Go.Proofs.YtkimgmgafkihaaaDoor
open Go.RowKit Go.Lib Go.Sort
set_option linter.unusedVariables false
set_option linter.unusedSimpArgs false
def wd (l most : Int) : Nat → List Int
  | 0 => []
  | t + 1 => nxL l most (wd l most t)
def TB (l most : Int) (T : Nat) (b : Bool) : Prop := 1 ≤ T ∧ (∀ t, t + 1 < T → nxB l most (wd l most t) = true) ∧ (b = true → nxB l most (wd l most (T - 1)) = false)
theorem tb_ex (l most : Int) : ∀ L : Nat, 1 ≤ L → ∃ T b, TB l most T b ∧ T ≤ L ∧ (b = false → T = L) ∧ (b = true → T < L)
  | 0, h => by omega
  | 1, _ => ⟨1, false, ⟨Nat.le_refl _, fun t h => by omega, fun h => by cases h⟩, Nat.le_refl _, fun _ => rfl, fun h => by cases h⟩
  | L + 2, _ => by
    obtain ⟨T, b, h, h1, h2, h3⟩ := tb_ex l most (L + 1) (by omega)
    cases b with
    | true => exact ⟨T, true, h, by omega, fun h => (by cases h), fun _ => by have := h3 rfl; omega⟩
    | false =>
      obtain rfl := h2 rfl
      by_cases hn : nxB l most (wd l most L) = true
      · refine ⟨L + 2, false, ⟨by omega, fun t ht => ?_, fun h => by cases h⟩, Nat.le_refl _, fun _ => rfl, fun h => by cases h⟩
        by_cases e : t = L
        · rw [e]; exact hn
        · exact h.2.1 t (by omega)
      · exact ⟨L + 1, true, ⟨by omega, h.2.1, fun _ => by simpa using hn⟩, by omega, fun h => (by cases h), fun _ => by omega⟩
theorem TB.ok {l most : Int} {T : Nat} {b : Bool} (h : TB l most T b) (hl : 1 ≤ l) (hm : 0 ≤ most) : ∀ t, t < T → LwL l (wd l most t) ∧ ((wd l most t).length : Int) ≤ most
  | 0, _ => ⟨LwL.nil l, by simpa [wd] using hm⟩
  | t + 1, ht => by
    obtain ⟨h1, h2⟩ := TB.ok h hl hm t (by omega)
    obtain ⟨k1, k2⟩ := nx_ok hl h1 (h.2.1 t ht)
    refine ⟨k1, ?_⟩
    show ((nxL l most (wd l most t)).length : Int) ≤ most
    omega
theorem TB.more {l most : Int} {T t : Nat} {b : Bool} (h : TB l most T b) (ht : t < T) (hgo : (b || decide (t + 1 < T)) = true) (hn : nxB l most (wd l most t) = true) : t + 1 < T := by
  by_cases h1 : t + 1 < T
  · exact h1
  · exfalso
    have e : t = T - 1 := by omega
    cases b with
    | true => rw [e, h.2.2 rfl] at hn; cases hn
    | false => simp [h1] at hgo
theorem TB.none {l most : Int} {T t : Nat} {b : Bool} (h : TB l most T b) (ht : t < T) (hn : nxB l most (wd l most t) = false) : t + 1 = T := by
  by_cases h1 : t + 1 < T
  · rw [h.2.1 t h1] at hn; cases hn
  · omega
end Go.Proofs.YtkimgmgafkihaaaDoor
