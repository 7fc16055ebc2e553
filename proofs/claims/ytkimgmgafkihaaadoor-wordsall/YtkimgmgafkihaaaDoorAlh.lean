/-
  What the program's All hands over.
-/
import Derived.Test.YtkimgmgafkihaaaDoorOfl
namespace Go.Proofs.YtkimgmgafkihaaaDoor
open Go.RowKit Go.Lib Go.Sort Go.Shelf
set_option linter.unusedVariables false
set_option linter.unusedSimpArgs false
attribute [local go_sem] Oper.semAt_some
def mk (D : Nat) : Deferred := { target := .collected D, args := #[] }
def Keep (S : List (Nat × Obj)) (o : Option Nat) (W : World) : Prop := ∀ p ∈ S, W.heap[p.1]? = some p.2 ∧ some p.1 ≠ o
theorem Keep.grown {S : List (Nat × Obj)} {o : Option Nat} {W W' : World} {row : Option Nat} (h : Keep S o W) (hg : W.grownBy W' row) (hn : ∀ p ∈ S, some p.1 ≠ row) : Keep S o W' := fun p hp =>
  ⟨(hg.block p.1 (Array.getElem?_eq_some_iff.1 (h p hp).1).1 (hn p hp)).trans (h p hp).1, (h p hp).2⟩
theorem Keep.grown0 {S : List (Nat × Obj)} {o : Option Nat} {W W' : World} (h : Keep S o W) (hg : W.grownBy W' none) : Keep S o W' := h.grown hg (fun _ _ => by simp)
theorem Keep.lt {S : List (Nat × Obj)} {o : Option Nat} {W : World} (h : Keep S o W) : ∀ p ∈ S, p.1 < W.heap.size := fun p hp => (Array.getElem?_eq_some_iff.1 (h p hp).1).1
theorem Keep.cell {S : List (Nat × Obj)} {o : Option Nat} {W : World} (h : Keep S o W) {g : Nat} {v : Value} {t : TypeId} (hp : (g, Obj.cells #[v] t (0, 0)) ∈ S) : W.cell? ⟨g, 0, none⟩ = some v := by
  have := (h _ hp).1
  simp [World.cell?, this]
theorem Keep.round {S : List (Nat × Obj)} {o o' : Option Nat} {W W' : World} {B base : Nat} (h : Keep S o W) (hS : ∀ p ∈ S, B ≤ p.1 ∧ p.1 < base) (hb : base ≤ W.heap.size) (hf : ∀ i, B ≤ i → i < base → some i ≠ o → W'.heap[i]? = W.heap[i]?) (hfr : o' = o ∨ ∃ g, o' = some g ∧ W.heap.size ≤ g ∧ g < W'.heap.size) : Keep S o' W' := fun p hp => by
  obtain ⟨h1, h2⟩ := h p hp
  obtain ⟨h3, h4⟩ := hS p hp
  refine ⟨(hf p.1 h3 h4 h2).trans h1, ?_⟩
  rcases hfr with rfl | ⟨g, rfl, hg, _⟩
  · exact h2
  · intro e; injection e with e; omega
theorem leaves_marks {F : Fence} {n : Nat} {P : Program} {fn : Func} {tmps : Array Value} {R : Ending → World → Prop} (v : Value) (B : Nat) (o : Option Nat) (Inv : World → Prop) (hres : ∀ W, Inv W → (results fn tmps).run P W = .ok v W)
    (hInv : ∀ W D, Inv W → B ≤ D → some D ≠ o → Inv (W.putObj D (.deferred none))) (hR : ∀ W, Inv W → R (.returned v) W) :
    ∀ (Ds : List Nat) (W : World), Ds.Nodup → (∀ D ∈ Ds, B ≤ D ∧ W.heap[D]? = some (.deferred (some [])) ∧ some D ≠ o) → Inv W → LeavesInM F n P fn tmps R (Ds.map mk) .returning W
  | [], W, _, _, hi => ⟨v, hres W hi, hR W hi⟩
  | D :: Ds, W, hnd, hD, hi => by
    obtain ⟨h1, h2, h3⟩ := hD D (by simp)
    refine ⟨by simp, .inl ⟨D, _, rfl, run_takeDeferred h2, ?_⟩⟩
    rw [List.nodup_cons] at hnd
    refine leaves_marks v B o Inv hres hInv hR Ds _ hnd.2 (fun D' hD' => ?_) (hInv W D hi h1 h3)
    obtain ⟨k1, k2, k3⟩ := hD D' (by simp [hD'])
    refine ⟨k1, ?_, k3⟩
    have hne : D' ≠ D := fun e => hnd.1 (e ▸ hD')
    exact (World.putObj_heap_other hne).trans k2
end Go.Proofs.YtkimgmgafkihaaaDoor
