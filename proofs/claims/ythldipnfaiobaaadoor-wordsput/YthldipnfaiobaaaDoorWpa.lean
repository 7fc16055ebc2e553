/-
  A row of lent words; what the law WordsProducts does with it.
-/
import Derived.Test.YthldipnfaiobaaaDoorWsb
import Derived.Test.YthldipnfaiobaaaDoorPcs
namespace Go.Proofs.YthldipnfaiobaaaDoor
open Go.RowKit Go.Lib Go.Sort
set_option linter.unusedVariables false
set_option linter.unusedSimpArgs false
def Rl (w : World) (base : Nat) (v : Value) (Ls : List (List Int)) : Prop :=
  ∃ vs : List Value, vs.length = Ls.length ∧ w.ownsRow base 22 1 v vs.length vs ∧ ∀ j, j < Ls.length → Lent w base (vs[j]?.getD (.slice none 0 0)) (Ls[j]?.getD [])
theorem Rl.nil (w : World) (base : Nat) : Rl w base (.slice none 0 0) [] := ⟨[], rfl, World.ownsRow_nil _ _ _ _, fun j hj => by simp at hj⟩
theorem Rl.cases {w : World} {base : Nat} {v : Value} {Ls : List (List Int)} (h : Rl w base v Ls) : (v = .slice none 0 0 ∧ Ls = []) ∨ ∃ g c, v = .slice (some ⟨g, 0, none⟩) Ls.length c ∧ base ≤ g ∧ g < w.heap.size ∧ Ls.length ≤ c := by
  obtain ⟨vs, hl, h, hf⟩ := h
  rcases h.2 with ⟨e, hn⟩ | ⟨g, cap, cur, rfl, hb, hg, hc, _⟩
  · exact .inl ⟨e, List.length_eq_zero_iff.1 (by omega)⟩
  · exact .inr ⟨g, cap, by rw [hl], hb, (Array.getElem?_eq_some_iff.1 hg).1, by omega⟩
theorem Rl.form {w : World} {base : Nat} {v : Value} {Ls : List (List Int)} (h : Rl w base v Ls) : ∃ ab c, v = .slice ab Ls.length c := by
  rcases h.cases with ⟨rfl, rfl⟩ | ⟨g, c, rfl, _⟩
  · exact ⟨none, 0, rfl⟩
  · exact ⟨_, c, rfl⟩
theorem Lent.tag {w : World} {base : Nat} {u : Value} {L : List Int} (h : Lent w base u L) : ∃ B c cur, u = .slice (some ⟨B, 0, none⟩) L.length c ∧ w.heap[B]? = some (.cells cur 3 (0, 0)) := by
  obtain ⟨g, c, rfl, h⟩ := h
  rcases h.2 with ⟨e, _⟩ | ⟨g', cap, cur, e, hb, hg, _⟩
  · cases e
  · obtain ⟨e1, _, _⟩ := Value.slice.inj e
    have e2 : g = g' := by
      have := Option.some.inj e1
      cases this
      rfl
    subst e2
    exact ⟨g, c, cur, rfl, hg⟩
theorem Lent.mono {w : World} {base base' : Nat} {v : Value} {L : List Int} (h : Lent w base v L) (hb : base' ≤ base) : Lent w base' v L := by
  obtain ⟨g, c, rfl, h⟩ := h
  exact ⟨g, c, rfl, h.mono hb⟩
theorem Lent.apart {w : World} {base b2 : Nat} {v u : Value} {L : List Int} {n : Nat} {vs : List Value} (h : w.ownsRow base 22 1 v n vs) (hf : Lent w b2 u L) : u.ownBlock ≠ v.ownBlock := by
  obtain ⟨B, c, cur, rfl, hg⟩ := hf.tag
  rcases h.2 with ⟨rfl, hn⟩ | ⟨g, cap, cur', rfl, hb', hg', _⟩
  · simp [Value.ownBlock]
  · intro e
    simp [Value.ownBlock] at e
    subst e
    rw [hg] at hg'
    cases hg'
theorem Rl.kept0 {w w' : World} {base : Nat} {v : Value} {Ls : List (List Int)} (h : Rl w base v Ls) (hg : w.grownBy w' none) : Rl w' base v Ls := by
  obtain ⟨vs, hl, h, hf⟩ := h
  exact ⟨vs, hl, World.ownsRow.kept h hg (by cases v.ownBlock <;> simp), fun j hj => (hf j hj).kept0 hg⟩
theorem Rl.get {w : World} {base g n c : Nat} {Ls : List (List Int)} (h : Rl w base (.slice (some ⟨g, 0, none⟩) n c) Ls) (j : Nat) (hj : j < Ls.length) : ∃ u, w.cell? ⟨g, j, none⟩ = some u ∧ Lent w base u (Ls[j]?.getD []) := by
  obtain ⟨vs, hl, h, hf⟩ := h
  refine ⟨_, ?_, hf j hj⟩
  have := World.ownsRow.cells h (g := g) rfl j (vs[j]?.getD (.slice none 0 0)) (by rw [List.getElem?_eq_getElem (by omega)]; rfl)
  rwa [Addr.add_lit, Nat.zero_add] at this
theorem Rl.intsL {w : World} {base : Nat} {v : Value} {Ls : List (List Int)} (h : Rl w base v Ls) : IntsL w v Ls := by
  rcases h.cases with ⟨e, e2⟩ | ⟨g, c, rfl, _, _, hc⟩
  · exact .inl ⟨.inl e, e2⟩
  · refine .inr ⟨g, 0, c, rfl, hc, fun j hj => ?_⟩
    obtain ⟨u, h1, h2⟩ := h.get j hj
    rw [Nat.zero_add]
    exact ⟨u, h1, h2.ints⟩
theorem run_append_rl (w : World) (base : Nat) (ty : TypeId) (v : Value) (Ls : List (List Int)) (u : Value) (L : List Int) (h : Rl w base v Ls) (hu : Lent w base u L) (hl : Ls.length ≤ 1000000000) (hb : base ≤ w.heap.size) (a : Addr) (hx : w.cell? a = some u) :
    ∃ v' w', (Builtin.append_ #[46, 46] ty #[v, .slice (some a) 1 1]).run Tryd.prog w = .ok v' w' ∧ Rl w' base v' (Ls ++ [L]) ∧ w.grownBy w' v.ownBlock := by
  obtain ⟨vs, hvl, h, hf⟩ := h
  have hfar := hu.apart h
  obtain ⟨i0, hi, hz0, hz1, hz2⟩ := info_parts Tryd.info24
  have hadd : ∀ j y, [u][j]? = some y → w.cell? (a.add j) = some y := by
    intro j y hj
    match j, hj with
    | 0, hj => simp at hj; subst hj; simpa [Addr.add] using hx
  have h1 : ∀ y ∈ [u], y.oneCell' = true := by
    intro y hy; simp at hy; subst hy
    obtain ⟨B, c, cur, rfl, _⟩ := hu.tag
    rfl
  obtain ⟨v', w', hr, ho, hg, hn⟩ := run_append_own (P := Tryd.prog) w base 46 ty 22 i0 (.slice none 0 0) 1 24 Tryd.underlying46 hi hz0 hz1 hz2 rfl (by decide) v vs.length _ h a 1 1 [u] rfl hadd h1 (by unfold maxLen; omega) (by omega) hb
  refine ⟨v', w', hr, ⟨vs ++ [u], by simp [hvl], by rw [List.length_append]; exact ho, fun j hj => ?_⟩, hg⟩
  rw [List.length_append] at hj
  by_cases e : j < Ls.length
  · rw [List.getElem?_append_left (by omega), List.getElem?_append_left e]
    exact (hf j e).kept hg ((hf j e).apart h)
  · simp at hj
    obtain rfl : j = Ls.length := by omega
    rw [List.getElem?_append_right (by omega), List.getElem?_append_right (by omega), hvl, Nat.sub_self]
    exact hu.kept hg hfar
theorem wpList_append_rl {w : World} {ops : Array Oper} {rest : List Oper} {o : Oper} {a : Act} {Q : Exit → Act → World → Prop} (hgd : o.guard = none) (s x : Operand)
    (ho : o.op = .call { callee := .builtin .append, args := #[s, x], argTypes := #[46, 46] })
    (base : Nat) (v : Value) (Ls : List (List Int)) (u : Value) (L : List Int) (hs : a.eval s = v) (hR : Rl w base v Ls) (hu : Lent w base u L) (hl : Ls.length ≤ 1000000000) (hb : base ≤ w.heap.size)
    (ad : Addr) (hx : a.eval x = .slice (some ad) 1 1) (hy : w.cell? ad = some u)
    (h : ∀ v' w', Rl w' base v' (Ls ++ [L]) → w.grownBy w' v.ownBlock → wpList Tryd.prog ops Q rest (a.put o.dst v') w') : wpList Tryd.prog ops Q (o :: rest) a w :=
  wpList_plain hgd fun K hK => by
    obtain ⟨v', w', hr, h2, h3⟩ := run_append_rl w base o.type v Ls u L hR hu hl hb ad hy
    unfold Oper.wp execOp
    simp only [ho, resolve, invoke, builtin, Sem.run_bind, Sem.run_pure, Result.andThen_ok, List.map_toArray, List.map_cons, List.map_nil, hs, hx, hr]
    exact hK _ _ (h v' w' h2 h3)
theorem grownBy_rl {w wr w' : World} {s : Value} {Ls : List (List Int)} {base : Nat} (hg : w.grownBy wr none) (hb : w.heap.size ≤ base) (h : Rl wr base s Ls) (k : wr.grownBy w' s.ownBlock) : w.grownBy w' none := by
  rcases h.cases with ⟨rfl, _⟩ | ⟨g, c, rfl, h1, _, _⟩
  · exact grownBy_trans hg k
  · exact grownBy_new hg (Nat.le_trans hb h1) k
end Go.Proofs.YthldipnfaiobaaaDoor
