/-
  The program's product, (pieces).told and Mul.
-/
import Derived.Test.YthldipnfaiobaaaDoorTms
import Derived.Test.YthldipnfaiobaaaDoorTop
namespace Go.Proofs.YthldipnfaiobaaaDoor
open Go.RowKit Go.Lib Go.Sort
set_option linter.unusedVariables false
set_option linter.unusedSimpArgs false
def PdQ (w : World) (M : List Int) (n : Nat) (e : Ending) (w' : World) : Prop :=
  ∃ v' Ps, e = .returned v' ∧ Pc w' w.heap.size v' Ps ∧ Ps.flatten = sh M ∧ Ps.length ≤ n ∧ (∀ l ∈ Ps, 0 < l.length ∧ l.length ≤ 1000000) ∧ w.grownBy w' none
structure PdS (w : World) (M : List Int) (n : Nat) (s : Value) (Ps : List (List Int)) (wr : World) : Prop where
  pc : Pc wr w.heap.size s Ps
  eq : Ps.flatten = sh M
  len : Ps.length ≤ n
  each : ∀ l ∈ Ps, 0 < l.length ∧ l.length ≤ 1000000
  grown : w.grownBy wr none
theorem PdS.times {w wr w2 : World} {M : List Int} {n : Nat} {s t : Value} {Ps : List (List Int)} {L : List Int} (h : PdS w M n s Ps wr) (hM : ∀ x ∈ M, noL x = false) (hL : ∀ x ∈ L, noL x = false) (hl : L.length ≤ 1000000) (hr : Red L) (hg : wr.grownBy w2 none) (ht : Fr w2 0 t L) : TmsS w2 w.heap.size s Ps L s t Ps L w2 :=
  ⟨h.pc.kept0 hg, ht, by rw [h.eq]; exact red_sh _, hr, rfl, Nat.le_refl _, h.each, hl, fun x hx => hM x (sh_mem (by rw [← h.eq]; exact hx)), hL, rfl, grownBy_any (grow0 _)⟩
theorem PdS.next {w wr w2 w3 : World} {M : List Int} {n : Nat} {s v' : Value} {Ps : List (List Int)} {L : List Int} (h : PdS w M n s Ps wr) (hg : wr.grownBy w2 none) {e : Ending} (k : TmsQ w2 w.heap.size s Ps L e w3) : ∃ v' Ps', e = .returned v' ∧ PdS w (M ++ L) (n + 1) v' Ps' w3 := by
  obtain ⟨v', Ps', rfl, h1, h2, h3, h4, h5⟩ := k
  refine ⟨v', Ps', rfl, ⟨h1, by rw [h2, h.eq, sh_left], by have := h.len; omega, h4, ?_⟩⟩
  have hgg := grownBy_trans h.grown hg
  cases hb : s.ownBlock with
  | none => rw [hb] at h5; exact grownBy_trans hgg h5
  | some g =>
    rw [hb] at h5
    refine grownBy_new hgg ?_ h5
    rcases h.pc.cases with ⟨rfl, _⟩ | ⟨g', c, rfl, hb', _⟩
    · simp [Value.ownBlock] at hb
    · simp [Value.ownBlock] at hb
      omega
theorem PdS.swap {w wr : World} {M M' : List Int} {n : Nat} {s : Value} {Ps : List (List Int)} (h : PdS w M n s Ps wr) (e : sh M = sh M') : PdS w M' n s Ps wr := ⟨h.pc, h.eq.trans e, h.len, h.each, h.grown⟩
end Go.Proofs.YthldipnfaiobaaaDoor
