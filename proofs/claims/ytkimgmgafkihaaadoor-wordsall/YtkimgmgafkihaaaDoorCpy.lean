/-
  Made lists of noughts; copy into a list that the call owns.
-/
import Derived.Test.YtkimgmgafkihaaaDoorRfa
import Derived.Laws.IdiomCopy
namespace Go.Proofs.YtkimgmgafkihaaaDoor
open Go.RowKit Go.Lib Go.Sort
set_option linter.unusedVariables false
theorem made_zeros (n : Nat) : (madeCells #[.int .i64 0] (n * 1)).toList = (List.replicate n (0 : Int)).map enc8 := by
  apply List.ext_getElem
  · simp [madeCells]
  · intro i h1 h2
    simp [madeCells, Nat.mod_one]
theorem make_zeros (w : World) (n : Nat) (hn : n ≤ 1000000000000) : ∃ w', (Instr.makeSlice 34 (.int .i64 (n : Int)) (.int .i64 (n : Int))).run Tryd.prog w = .ok (.slice (some ⟨w.heap.size, 0, none⟩) n n) w' ∧ Own w' w.heap.size (.slice (some ⟨w.heap.size, 0, none⟩) n n) (List.replicate n 0) ∧ w.grownBy w' none := by
  obtain ⟨i0, hi, hz0, hz1, hz2⟩ := info_parts Tryd.info8
  obtain ⟨w', h1, h2, h3⟩ := run_make_full (P := Tryd.prog) w w.heap.size 34 3 i0 (.int .i64 0) 1 Tryd.underlying34 hi hz0 hz1 .i64 .i64 n (by rw [hz2]; omega) (by unfold maxLen; omega) (Nat.le_refl _)
  refine ⟨w', h1, ?_, h3⟩
  unfold Own
  rw [List.length_replicate]
  have e : (madeCells (Value.int IntKind.i64 0).cells (n * 1)).toList = (List.replicate n (0 : Int)).map enc8 := made_zeros n
  rw [e] at h2
  exact h2
theorem setCells_grown (g : Nat) : ∀ (vs : List Value) (o : Nat) (w : World), w.grownBy (w.setCells g o vs) (some g)
  | [], _, w => World.grownBy.refl _ _
  | v :: r, o, w => grownBy_trans (grownBy_setCell w g o v) (setCells_grown g r (o + 1) _)
theorem put_one (A : List Int) (o : Nat) (x : Int) (r : List Int) (h : o < A.length) : (A.set o x).take (o + 1) ++ r ++ (A.set o x).drop (o + 1 + r.length) = A.take o ++ (x :: r) ++ A.drop (o + (r.length + 1)) := by
  have h1 : (A.set o x).take (o + 1) = A.take o ++ [x] := by
    rw [List.take_succ_eq_append_getElem (by simpa using h)]
    rw [List.take_set, List.set_eq_of_length_le (by rw [List.length_take]; omega)]
    simp
  have h2 : (A.set o x).drop (o + 1 + r.length) = A.drop (o + (r.length + 1)) := by
    rw [List.drop_set_of_lt (by omega)]
    congr 1
    omega
  rw [h1, h2]
  simp
theorem Own.setCells {base g n c : Nat} : ∀ (L : List Int) (o : Nat) (A : List Int) (w : World), Own w base (.slice (some ⟨g, 0, none⟩) n c) A → o + L.length ≤ A.length → Own (w.setCells g o (L.map enc8)) base (.slice (some ⟨g, 0, none⟩) n c) (A.take o ++ L ++ A.drop (o + L.length))
  | [], o, A, w, h, _ => by simpa [World.setCells] using h
  | x :: r, o, A, w, h, hl => by
    have hl' : o + (r.length + 1) ≤ A.length := by simpa using hl
    have := Own.setCells r (o + 1) (A.set o x) _ (h.set o x) (by rw [List.length_set]; omega)
    rw [put_one A o x r (by omega)] at this
    simpa [World.setCells] using this
theorem run_copy_ints (w : World) (base g n c : Nat) (A : List Int) (hO : Own w base (.slice (some ⟨g, 0, none⟩) n c) A) (off dl dc : Nat) (hoff : off + dl ≤ A.length) (s : Value) (L : List Int) (hs : Ints w s L) (ty : TypeId) (hl : dl ≤ 1000000000000) :
    ∃ w', (Builtin.copy_ #[34, 34] ty #[.slice (some ⟨g, off, none⟩) dl dc, s]).run Tryd.prog w = .ok (.int .i64 ((min L.length dl : Nat) : Int)) w' ∧ Own w' base (.slice (some ⟨g, 0, none⟩) n c) (A.take off ++ L.take (min L.length dl) ++ A.drop (off + min L.length dl)) ∧ w.grownBy w' (some g) := by
  have hsz : (Tryd.prog.info? 3).map (·.size) = some 1 := by kernel_rfl
  obtain ⟨k, hk⟩ : ∃ k, min L.length dl = k := ⟨_, rfl⟩
  rw [hk]
  by_cases h0 : k = 0
  · subst h0
    refine ⟨w, ?_, by simpa using hO, World.grownBy.refl _ _⟩
    obtain ⟨ab, c', rfl, _⟩ := hs.reads
    exact run_copy_none w 34 34 ty 3 _ _ dl dc L.length c' Tryd.underlying34 hsz hk
  · rcases hs with ⟨rfl, rfl⟩ | ⟨B, o2, c', rfl, hc, hs⟩ | ⟨rfl, a, rfl⟩
    · simp at hk; omega
    rotate_left
    · simp at hk; omega
    · have hkl : (L.take k).length = k := by rw [List.length_take]; omega
      have hcl : ∀ j, j < k → w.cell? ⟨g, off + j, none⟩ = some (.int .i64 (A[off + j]?.getD 0)) := fun j hj => hO.cell (off + j) (by omega)
      have := run_copy_cells (P := Tryd.prog) w 34 34 ty 3 g off dl dc ⟨B, o2, none⟩ L.length c' ((L.take k).map enc8) Tryd.underlying34 hsz (by rw [List.length_map, hkl]; exact hk.symm)
        (by
          intro j v hj
          rw [Addr.add_lit]
          have hlt : j < k := by
            have := (List.getElem?_eq_some_iff.1 hj).1
            rw [List.length_map, hkl] at this
            exact this
          rw [hs j (by omega)]
          rw [List.getElem?_map, List.getElem?_take, if_pos hlt, List.getElem?_eq_getElem (by omega)] at hj
          rw [List.getElem?_eq_getElem (by omega)]
          simpa using hj)
        (by intro j hj; rw [List.length_map, hkl] at hj; rw [hcl j hj]; rfl)
        (by intro j hj; exact hO.frozen _)
        (by intro u hu; obtain ⟨x, _, rfl⟩ := List.mem_map.1 hu; rfl)
      refine ⟨w.setCells g off ((L.take k).map enc8), this.trans ?_, ?_, setCells_grown _ _ _ _⟩
      · rw [List.length_map, hkl]
        rfl
      · have := Own.setCells (L.take k) off A w hO (by rw [hkl]; omega)
        rwa [hkl] at this
end Go.Proofs.YtkimgmgafkihaaaDoor
