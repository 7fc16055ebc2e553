/-
  Lists of int as a call has them (Ints), as the call owns them (Own), as they are told (Fr).
-/
import Derived.Test.YtkimgmgafkihaaaDoorBas
namespace Go.Proofs.YtkimgmgafkihaaaDoor
open Go.RowKit Go.Lib Go.Sort
set_option linter.unusedVariables false
theorem Tryd.info8 : (Tryd.prog.info? 3).map (fun i => (i.zero, i.size, i.bytes)) = some (some (.int .i64 0), 1, 8) := by kernel_rfl
def Ints (w : World) (v : Value) (L : List Int) : Prop :=
  (v = .slice none 0 0 ∧ L = []) ∨ (∃ B off c, v = .slice (some ⟨B, off, none⟩) L.length c ∧ L.length ≤ c ∧ ∀ j, j < L.length → w.cell? ⟨B, off + j, none⟩ = some (.int .i64 (L[j]?.getD 0))) ∨ (L = [] ∧ ∃ a, v = .slice (some a) 0 0)
theorem Ints.keptB {w w' : World} {v : Value} {L : List Int} {row : Option Nat} (h : Ints w v L) (hg : w.grownBy w' row) (ha : v.ownBlock = none ∨ v.ownBlock ≠ row) : Ints w' v L := by
  rcases h with h | ⟨B, off, c, rfl, hc, h⟩ | h
  · exact .inl h
  · refine .inr (.inl ⟨B, off, c, rfl, hc, fun j hj => grownBy_cell hg (h j hj) ?_⟩)
    intro e
    simp [Value.ownBlock] at ha
    exact ha e.symm
  · exact .inr (.inr h)
theorem Ints.kept {w w' : World} {v : Value} {L : List Int} (h : Ints w v L) (hg : w.grownBy w' none) : Ints w' v L :=
  h.keptB hg (by cases v.ownBlock <;> simp)
theorem Ints.reads {w : World} {v : Value} {L : List Int} (h : Ints w v L) : ∃ ab c, v = .slice ab L.length c ∧ ∀ w', w.grownBy w' none → ∀ i, i < L.length → ∃ B off, ab = some ⟨B, off, none⟩ ∧ w'.cell? ⟨B, off + i, none⟩ = some (.int .i64 (L[i]?.getD 0)) ∧ L.length ≤ c := by
  rcases h with ⟨rfl, rfl⟩ | ⟨B, off, c, rfl, hc, h⟩ | ⟨rfl, a, rfl⟩
  · exact ⟨none, 0, rfl, fun _ _ i hi => by simp at hi⟩
  · exact ⟨_, c, rfl, fun w' hg i hi => ⟨B, off, rfl, grownBy_cell hg (h i hi) (by simp), hc⟩⟩
  · exact ⟨some a, 0, rfl, fun _ _ i hi => by simp at hi⟩
theorem Ints.src {w : World} {v : Value} {L : List Int} (h : Ints w v L) : (v = .slice none 0 0 ∧ L = []) ∨ ∃ a c, v = .slice (some a) L.length c ∧ ∀ j, j < L.length → w.cell? (a.add j) = some (.int .i64 (L[j]?.getD 0)) := by
  rcases h with h | ⟨B, off, c, rfl, hc, h⟩ | ⟨rfl, a, rfl⟩
  · exact .inl h
  · exact .inr ⟨_, c, rfl, fun j hj => by rw [Addr.add_lit]; exact h j hj⟩
  · exact .inr ⟨a, 0, rfl, fun j hj => by simp at hj⟩
def Own (w : World) (base : Nat) (v : Value) (L : List Int) : Prop := w.ownsRow base 3 1 v L.length (L.map enc8)
theorem Own.nil (w : World) (base : Nat) : Own w base (.slice none 0 0) [] := World.ownsRow_nil _ _ _ _
theorem Own.cases {w : World} {base : Nat} {v : Value} {L : List Int} (h : Own w base v L) : (v = .slice none 0 0 ∧ L = []) ∨ ∃ g c, v = .slice (some ⟨g, 0, none⟩) L.length c ∧ base ≤ g ∧ L.length ≤ c := by
  rcases h.2 with ⟨e, hn⟩ | ⟨g, cap, cur, rfl, hb, _, hc, _⟩
  · exact .inl ⟨e, List.length_eq_zero_iff.1 hn⟩
  · exact .inr ⟨g, cap, rfl, hb, hc⟩
theorem Own.cell {w : World} {base g n c : Nat} {L : List Int} (h : Own w base (.slice (some ⟨g, 0, none⟩) n c) L) (i : Nat) (hi : i < L.length) : w.cell? ⟨g, i, none⟩ = some (.int .i64 (L[i]?.getD 0)) := by
  have := World.ownsRow.cells h (g := g) rfl i (.int .i64 (L[i]?.getD 0)) (by simp [hi])
  rwa [Addr.add_lit, Nat.zero_add] at this
theorem Own.frozen {w : World} {base g c n : Nat} {L : List Int} (h : Own w base (.slice (some ⟨g, 0, none⟩) n c) L) (i : Nat) : w.frozen? ⟨g, i, none⟩ = false := by
  rcases h.2 with ⟨e, hn⟩ | ⟨g', cap, cur, e, hb, hg, _⟩
  · cases e
  · cases e
    simp [World.frozen?, hg]
theorem Own.set {w : World} {base g c n : Nat} {L : List Int} (h : Own w base (.slice (some ⟨g, 0, none⟩) n c) L) (i : Nat) (x : Int) : Own (w.setCell ⟨g, i, none⟩ (.int .i64 x)) base (.slice (some ⟨g, 0, none⟩) n c) (L.set i x) := by
  rcases h.2 with ⟨e, hn⟩ | ⟨g', cap, cur, e, hb, hg, hc, hm, hs, ht⟩
  · cases e
  · cases e
    refine ⟨by simp, .inr ⟨g, c, cur.setIfInBounds i (.int .i64 x), by simp, hb, ?_, by simpa using hc, hm, by simpa using hs, ?_⟩⟩
    · simp [World.setCell, Array.getElem?_modify, hg]
    · rw [Array.toList_setIfInBounds, List.length_set, List.take_set, ht, List.map_set]
theorem Own.ints {w : World} {base : Nat} {v : Value} {L : List Int} (h : Own w base v L) : Ints w v L := by
  rcases h.cases with e | ⟨g, c, rfl, _, hc⟩
  · exact .inl e
  · exact .inr (.inl ⟨g, 0, c, rfl, hc, fun j hj => by rw [Nat.zero_add]; exact h.cell j hj⟩)
theorem Own.kept {w w' : World} {base : Nat} {v : Value} {L : List Int} {row : Option Nat} (h : Own w base v L) (hg : w.grownBy w' row) (hne : v.ownBlock = none ∨ v.ownBlock ≠ row) : Own w' base v L := World.ownsRow.kept h hg hne
theorem Own.kept0 {w w' : World} {base : Nat} {v : Value} {L : List Int} (h : Own w base v L) (hg : w.grownBy w' none) : Own w' base v L := h.kept hg (by cases v.ownBlock <;> simp)
theorem Own.mono {w : World} {base base' : Nat} {v : Value} {L : List Int} (h : Own w base v L) (hb : base' ≤ base) : Own w base' v L := by
  refine ⟨h.1, ?_⟩
  rcases h.2 with h | ⟨g, cap, cur, e, hg, r⟩
  · exact .inl h
  · exact .inr ⟨g, cap, cur, e, Nat.le_trans hb hg, r⟩
theorem Own.take {w : World} {base g n c : Nat} {L : List Int} (h : Own w base (.slice (some ⟨g, 0, none⟩) n c) L) (k : Nat) (hk : k ≤ L.length) : Own w base (.slice (some ⟨g, 0, none⟩) k c) (L.take k) := by
  have hl : (L.take k).length = k := by simp [hk]
  rcases h.2 with ⟨e, hn⟩ | ⟨g', cap, cur, e, hb, hg, hc, hm, hs, ht⟩
  · cases e
  · cases e
    refine ⟨by simp, .inr ⟨g, c, cur, by rw [hl], hb, hg, by rw [hl]; omega, hm, hs, ?_⟩⟩
    rw [hl, Nat.mul_one, List.map_take, ← ht, List.take_take, Nat.mul_one, Nat.min_eq_left hk]
def Fr (w : World) (base : Nat) (v : Value) (L : List Int) : Prop :=
  (v = .slice none 0 0 ∧ L = []) ∨ ∃ B off c cur, v = .slice (some ⟨B, off, none⟩) L.length c ∧ base ≤ B ∧ w.heap[B]? = some (.cells cur 3 (0, 0)) ∧ L.length ≤ c ∧ c ≤ maxLen ∧ off + c ≤ cur.size ∧ ∀ j, j < L.length → cur[off + j]? = some (.int .i64 (L[j]?.getD 0))
theorem Fr.nil (w : World) (base : Nat) : Fr w base (.slice none 0 0) [] := .inl ⟨rfl, rfl⟩
theorem Fr.ints {w : World} {base : Nat} {v : Value} {L : List Int} (h : Fr w base v L) : Ints w v L := by
  rcases h with h | ⟨B, off, c, cur, rfl, hb, hg, hl, hm, hs, h⟩
  · exact .inl h
  · exact .inr (.inl ⟨B, off, c, rfl, hl, fun j hj => by simp [World.cell?, hg, h j hj]⟩)
theorem Fr.kept {w w' : World} {base : Nat} {v : Value} {L : List Int} {row : Option Nat} (h : Fr w base v L) (hg : w.grownBy w' row) (hne : v.ownBlock = none ∨ v.ownBlock ≠ row) : Fr w' base v L := by
  rcases h with h | ⟨B, off, c, cur, rfl, hb, hgg, r⟩
  · exact .inl h
  · refine .inr ⟨B, off, c, cur, rfl, hb, ?_, r⟩
    rw [hg.block B (Array.getElem?_eq_some_iff.1 hgg).1 (by simpa [Value.ownBlock] using hne)]
    exact hgg
theorem Fr.kept0 {w w' : World} {base : Nat} {v : Value} {L : List Int} (h : Fr w base v L) (hg : w.grownBy w' none) : Fr w' base v L := h.kept hg (by cases v.ownBlock <;> simp)
theorem Fr.mono {w : World} {base base' : Nat} {v : Value} {L : List Int} (h : Fr w base v L) (hb : base' ≤ base) : Fr w base' v L := by
  rcases h with h | ⟨B, off, c, cur, e, hg, r⟩
  · exact .inl h
  · exact .inr ⟨B, off, c, cur, e, Nat.le_trans hb hg, r⟩
theorem Own.fr {w : World} {base : Nat} {v : Value} {L : List Int} (h : Own w base v L) : Fr w base v L := by
  have h' := h
  rcases h'.2 with ⟨e, hn⟩ | ⟨g, cap, cur, rfl, hb, hg, hc, hm, hs, ht⟩
  · exact .inl ⟨e, List.length_eq_zero_iff.1 hn⟩
  · refine .inr ⟨g, 0, cap, cur, rfl, hb, hg, hc, hm, by omega, fun j hj => ?_⟩
    have := h.cell j hj
    rw [Nat.zero_add]
    simpa [World.cell?, hg] using this
theorem Own.cut {w : World} {base g n c : Nat} {L : List Int} (h : Own w base (.slice (some ⟨g, 0, none⟩) n c) L) (hn : n = L.length) : Fr w base (.slice (some ⟨g, 0, none⟩) n n) L := by
  subst hn
  rcases h.fr with ⟨e, _⟩ | ⟨B, off, c', cur, e, hb, hg, hl, hm, hs, h⟩
  · cases e
  · cases e
    exact .inr ⟨g, 0, L.length, cur, rfl, hb, hg, Nat.le_refl _, Nat.le_trans hl hm, by omega, h⟩
theorem Fr.blk {w : World} {base : Nat} {v : Value} {L : List Int} (h : Fr w base v L) : ∀ g, v.ownBlock = some g → base ≤ g ∧ g < w.heap.size := by
  rcases h with ⟨rfl, _⟩ | ⟨B, off, c, cur, rfl, hb, hg, _⟩
  · intro g hg; simp [Value.ownBlock] at hg
  · intro g e; simp [Value.ownBlock] at e; subst e; exact ⟨hb, (Array.getElem?_eq_some_iff.1 hg).1⟩
def IntsL (w : World) (v : Value) (Ls : List (List Int)) : Prop :=
  ((v = .slice none 0 0 ∨ ∃ a, v = .slice (some a) 0 0) ∧ Ls = []) ∨ ∃ B off c, v = .slice (some ⟨B, off, none⟩) Ls.length c ∧ Ls.length ≤ c ∧ ∀ j, j < Ls.length → ∃ u, w.cell? ⟨B, off + j, none⟩ = some u ∧ Ints w u (Ls[j]?.getD [])
theorem IntsL.reads {w : World} {v : Value} {Ls : List (List Int)} (h : IntsL w v Ls) : ∃ ab c, v = .slice ab Ls.length c ∧ ∀ w', w.grownBy w' none → ∀ i, i < Ls.length → ∃ B off u, ab = some ⟨B, off, none⟩ ∧ w'.cell? ⟨B, off + i, none⟩ = some u ∧ Ints w' u (Ls[i]?.getD []) ∧ Ls.length ≤ c := by
  rcases h with ⟨rfl | ⟨a, rfl⟩, rfl⟩ | ⟨B, off, c, rfl, hc, h⟩
  · exact ⟨none, 0, rfl, fun _ _ i hi => by simp at hi⟩
  · exact ⟨some a, 0, rfl, fun _ _ i hi => by simp at hi⟩
  · refine ⟨_, c, rfl, fun w' hg i hi => ?_⟩
    obtain ⟨u, h1, h2⟩ := h i hi
    exact ⟨B, off, u, rfl, grownBy_cell hg h1 (by simp), h2.kept hg, hc⟩
end Go.Proofs.YtkimgmgafkihaaaDoor
