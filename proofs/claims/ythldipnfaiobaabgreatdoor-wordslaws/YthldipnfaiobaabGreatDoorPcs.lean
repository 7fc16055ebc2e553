/-
  Pieces: a row of lists that the call owns; what is done with them.
-/
import Derived.Test.YthldipnfaiobaabGreatDoorPma
import Derived.Test.YthldipnfaiobaabGreatDoorLwa
import Derived.Test.YthldipnfaiobaabGreatDoorCnc
namespace Go.Proofs.YthldipnfaiobaabGreatDoor
open Go.RowKit Go.Lib Go.Sort
set_option linter.unusedVariables false
set_option linter.unusedSimpArgs false
set_option maxHeartbeats 1600000
set_option maxRecDepth 1000000
theorem Tryz.info24 : (Tryz.prog.info? 22).map (fun i => (i.zero, i.size, i.bytes)) = some (some (.slice none 0 0), 1, 24) := by kernel_rfl
def Pc (w : World) (base : Nat) (v : Value) (Ls : List (List Int)) : Prop :=
  ∃ vs : List Value, vs.length = Ls.length ∧ w.ownsRow base 22 1 v vs.length vs ∧ ∀ j, j < Ls.length → Fr w 0 (vs[j]?.getD (.slice none 0 0)) (Ls[j]?.getD [])
theorem Pc.nil (w : World) (base : Nat) : Pc w base (.slice none 0 0) [] := ⟨[], rfl, World.ownsRow_nil _ _ _ _, fun j hj => by simp at hj⟩
theorem Pc.cases {w : World} {base : Nat} {v : Value} {Ls : List (List Int)} (h : Pc w base v Ls) : (v = .slice none 0 0 ∧ Ls = []) ∨ ∃ g c, v = .slice (some ⟨g, 0, none⟩) Ls.length c ∧ base ≤ g ∧ g < w.heap.size ∧ Ls.length ≤ c ∧ ∀ j, w.frozen? ⟨g, j, none⟩ = false := by
  obtain ⟨vs, hl, h, hf⟩ := h
  rcases h.2 with ⟨e, hn⟩ | ⟨g, cap, cur, rfl, hb, hg, hc, _⟩
  · exact .inl ⟨e, List.length_eq_zero_iff.1 (by omega)⟩
  · refine .inr ⟨g, cap, by rw [hl], hb, (Array.getElem?_eq_some_iff.1 hg).1, by omega, fun j => ?_⟩
    simp [World.frozen?, hg]
theorem Pc.form {w : World} {base : Nat} {v : Value} {Ls : List (List Int)} (h : Pc w base v Ls) : ∃ ab c, v = .slice ab Ls.length c := by
  rcases h.cases with ⟨rfl, rfl⟩ | ⟨g, c, rfl, _⟩
  · exact ⟨none, 0, rfl⟩
  · exact ⟨_, c, rfl⟩
theorem Fr.apart {w : World} {base b2 : Nat} {v u : Value} {L : List Int} {n : Nat} {vs : List Value} (h : w.ownsRow base 22 1 v n vs) (hf : Fr w b2 u L) : u.ownBlock = none ∨ u.ownBlock ≠ v.ownBlock := by
  rcases hf with ⟨rfl, _⟩ | ⟨B, off, c, cur, rfl, hb, hg, _⟩
  · exact .inl rfl
  · right
    rcases h.2 with ⟨rfl, hn⟩ | ⟨g, cap, cur', rfl, hb', hg', _⟩
    · simp [Value.ownBlock]
    · intro e
      simp [Value.ownBlock] at e
      subst e
      rw [hg] at hg'
      cases hg'
theorem Pc.far {w : World} {base b2 : Nat} {v u : Value} {L : List Int} {Ls : List (List Int)} (h : Pc w base v Ls) (hf : Fr w b2 u L) : u.ownBlock = none ∨ u.ownBlock ≠ v.ownBlock := by
  obtain ⟨vs, hl, h, _⟩ := h
  exact hf.apart h
theorem Pc.kept0 {w w' : World} {base : Nat} {v : Value} {Ls : List (List Int)} (h : Pc w base v Ls) (hg : w.grownBy w' none) : Pc w' base v Ls := by
  obtain ⟨vs, hl, h, hf⟩ := h
  exact ⟨vs, hl, World.ownsRow.kept h hg (by cases v.ownBlock <;> simp), fun j hj => (hf j hj).kept0 hg⟩
theorem Pc.intsL {w : World} {base : Nat} {v : Value} {Ls : List (List Int)} (h : Pc w base v Ls) : IntsL w v Ls := by
  obtain ⟨vs, hl, h, hf⟩ := h
  rcases h.2 with ⟨e, hn⟩ | ⟨g, cap, cur, rfl, hb, hg, hc, _⟩
  · exact .inl ⟨.inl e, List.length_eq_zero_iff.1 (by omega)⟩
  · refine .inr ⟨g, 0, cap, by rw [hl], by omega, fun j hj => ⟨vs[j]?.getD (.slice none 0 0), ?_, (hf j hj).ints⟩⟩
    have := World.ownsRow.cells h (g := g) rfl j (vs[j]?.getD (.slice none 0 0)) (by rw [List.getElem?_eq_getElem (by omega)]; rfl)
    rwa [Addr.add_lit] at this
theorem Pc.get {w : World} {base g n c : Nat} {Ls : List (List Int)} (h : Pc w base (.slice (some ⟨g, 0, none⟩) n c) Ls) (j : Nat) (hj : j < Ls.length) : ∃ u, w.cell? ⟨g, j, none⟩ = some u ∧ Fr w 0 u (Ls[j]?.getD []) := by
  obtain ⟨vs, hl, h, hf⟩ := h
  refine ⟨_, ?_, hf j hj⟩
  have := World.ownsRow.cells h (g := g) rfl j (vs[j]?.getD (.slice none 0 0)) (by rw [List.getElem?_eq_getElem (by omega)]; rfl)
  rwa [Addr.add_lit, Nat.zero_add] at this
theorem Pc.take {w : World} {base g n c : Nat} {Ls : List (List Int)} (h : Pc w base (.slice (some ⟨g, 0, none⟩) n c) Ls) (k : Nat) (hk : k ≤ Ls.length) : Pc w base (.slice (some ⟨g, 0, none⟩) k c) (Ls.take k) := by
  obtain ⟨vs, hl, h, hf⟩ := h
  have e1 : (vs.take k).length = k := by simp; omega
  have e2 : (Ls.take k).length = k := by simp; omega
  refine ⟨vs.take k, by rw [e1, e2], ⟨by simp, .inr ?_⟩, fun j hj => ?_⟩
  · rcases h.2 with ⟨e, hn⟩ | ⟨g', cap, cur, e, hb, hg, hc, hm, hs, ht⟩
    · cases e
    · cases e
      refine ⟨g, c, cur, by rw [e1], hb, hg, by omega, hm, hs, ?_⟩
      rw [e1, Nat.mul_one, ← ht, List.take_take, Nat.mul_one, Nat.min_eq_left (by omega)]
  · rw [e2] at hj
    rw [List.getElem?_take_of_lt hj, List.getElem?_take_of_lt hj]
    exact hf j (by omega)
theorem Pc.set {w : World} {base g n c : Nat} {Ls : List (List Int)} (h : Pc w base (.slice (some ⟨g, 0, none⟩) n c) Ls) (i : Nat) (u : Value) (L : List Int) (hu : Fr w 0 u L) : Pc (w.setCell ⟨g, i, none⟩ u) base (.slice (some ⟨g, 0, none⟩) n c) (Ls.set i L) := by
  have hfar := h.far hu
  have hG : w.grownBy (w.setCell ⟨g, i, none⟩ u) (some g) := grownBy_setCell w g i u
  obtain ⟨vs, hl, h, hf⟩ := h
  refine ⟨vs.set i u, by simp [hl], ⟨by simp, .inr ?_⟩, fun j hj => ?_⟩
  · rcases h.2 with ⟨e, hn⟩ | ⟨g', cap, cur, e, hb, hg, hc, hm, hs, ht⟩
    · cases e
    · cases e
      refine ⟨g, c, cur.setIfInBounds i u, by simp, hb, ?_, by simpa using hc, hm, by simpa using hs, ?_⟩
      · simp [World.setCell, Array.getElem?_modify, hg]
      · rw [Array.toList_setIfInBounds, List.length_set, List.take_set, ht]
  · rw [List.length_set] at hj
    by_cases e : i = j
    · subst e
      rw [List.getElem?_set_self (by omega), List.getElem?_set_self hj]
      exact hu.kept hG hfar
    · rw [List.getElem?_set_ne e, List.getElem?_set_ne e]
      exact (hf j hj).kept hG ((hf j hj).apart h)
theorem run_append_pc (w : World) (base : Nat) (ty : TypeId) (v : Value) (Ls : List (List Int)) (u : Value) (L : List Int) (h : Pc w base v Ls) (hu : Fr w 0 u L) (hl : Ls.length ≤ 1000000000) (hb : base ≤ w.heap.size) (a : Addr) (hx : w.cell? a = some u) :
    ∃ v' w', (Builtin.append_ #[49, 49] ty #[v, .slice (some a) 1 1]).run Tryz.prog w = .ok v' w' ∧ Pc w' base v' (Ls ++ [L]) ∧ w.grownBy w' v.ownBlock := by
  have hfar := h.far hu
  obtain ⟨vs, hvl, h, hf⟩ := h
  obtain ⟨i0, hi, hz0, hz1, hz2⟩ := info_parts Tryz.info24
  have hadd : ∀ j y, [u][j]? = some y → w.cell? (a.add j) = some y := by
    intro j y hj
    match j, hj with
    | 0, hj => simp at hj; subst hj; simpa [Addr.add] using hx
  have h1 : ∀ y ∈ [u], y.oneCell' = true := by
    intro y hy; simp at hy; subst hy
    obtain ⟨ab, c, rfl⟩ := hu.form
    rfl
  obtain ⟨v', w', hr, ho, hg, hn⟩ := run_append_own (P := Tryz.prog) w base 49 ty 22 i0 (.slice none 0 0) 1 24 Tryz.underlying49 hi hz0 hz1 hz2 rfl (by decide) v vs.length _ h a 1 1 [u] rfl hadd h1 (by unfold maxLen; omega) (by omega) hb
  refine ⟨v', w', hr, ⟨vs ++ [u], by simp [hvl], by rw [List.length_append]; exact ho, fun j hj => ?_⟩, hg⟩
  rw [List.length_append] at hj
  by_cases e : j < Ls.length
  · rw [List.getElem?_append_left (by omega), List.getElem?_append_left e]
    exact (hf j e).kept hg ((hf j e).apart h)
  · simp at hj
    obtain rfl : j = Ls.length := by omega
    rw [List.getElem?_append_right (by omega), List.getElem?_append_right (by omega), hvl, Nat.sub_self]
    exact hu.kept hg hfar
theorem wpList_append_pc {w : World} {ops : Array Oper} {rest : List Oper} {o : Oper} {a : Act} {Q : Exit → Act → World → Prop} (hgd : o.guard = none) (s x : Operand)
    (ho : o.op = .call { callee := .builtin .append, args := #[s, x], argTypes := #[49, 49] })
    (base : Nat) (v : Value) (Ls : List (List Int)) (u : Value) (L : List Int) (hs : a.eval s = v) (hR : Pc w base v Ls) (hu : Fr w 0 u L) (hl : Ls.length ≤ 1000000000) (hb : base ≤ w.heap.size)
    (ad : Addr) (hx : a.eval x = .slice (some ad) 1 1) (hy : w.cell? ad = some u)
    (h : ∀ v' w', Pc w' base v' (Ls ++ [L]) → w.grownBy w' v.ownBlock → wpList Tryz.prog ops Q rest (a.put o.dst v') w') : wpList Tryz.prog ops Q (o :: rest) a w :=
  wpList_plain hgd fun K hK => by
    obtain ⟨v', w', hr, h2, h3⟩ := run_append_pc w base o.type v Ls u L hR hu hl hb ad hy
    unfold Oper.wp execOp
    simp only [ho, resolve, invoke, builtin, Sem.run_bind, Sem.run_pure, Result.andThen_ok, List.map_toArray, List.map_cons, List.map_nil, hs, hx, hr]
    exact hK _ _ (h v' w' h2 h3)
theorem letters_any (w : World) (v : Value) (Ls : List (List Int)) (h : IntsL w v Ls) (hl : Ls.length ≤ 1000000) (hl2 : Ls.flatten.length ≤ 1000000000) :
    Calls Tryz.prog 42 #[v] w fun e w' => ∃ v', e = .returned v' ∧ Own w' w.heap.size v' Ls.flatten ∧ w.grownBy w' none := by
  have HC := concat_any w v Ls h hl hl2
  obtain ⟨ab, c, rfl, HR⟩ := h.reads
  clear HR h
  go_enter Tryz.func42, Tryz.ntmps42
  go_wp2_with (go_at_call 46; refine HC.mono ?_; rintro e w' ⟨v', rfl, hO, hG⟩)
  go_ret
  exact ⟨v', rfl, hO, hG⟩
end Go.Proofs.YthldipnfaiobaabGreatDoor
