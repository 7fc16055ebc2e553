/-
  A list behind a list that the call owns.
-/
import Derived.Test.YtdcadiaeaclpgaaGreatDoorBunSca
namespace Go.Proofs.YtdcadiaeaclpgaaGreatDoor
open Go Go.RowKit Go.Lib Go.Sort
set_option linter.unusedVariables false
theorem grownBy_owi {a w w' : World} {v : Value} {L : List Int} (h : a.grownBy w none) (ho : OwI w a.heap.size v L) (k : w.grownBy w' v.ownBlock) : a.grownBy w' none := by
  cases hv : v.ownBlock with
  | none => rw [hv] at k; exact grownBy_trans h k
  | some g => rw [hv] at k; exact grownBy_new h (World.ownsRow.lt ho g hv).1 k
theorem run_append_ints (w : World) (base : Nat) (ty : TypeId) (v : Value) (A : List Int) (h : OwI w base v A) (s : Value) (L : List Int) (hs : Ints w s L) (hl : A.length + L.length ≤ 1000000000000) (hb : base ≤ w.heap.size) :
    ∃ v' w', (Builtin.append_ #[43, 43] ty #[v, s]).run Tryz.prog w = .ok v' w' ∧ OwI w' base v' (A ++ L) ∧ w.grownBy w' v.ownBlock := by
  obtain ⟨i0, hi, hz0, hz1, hz2⟩ := info_parts Tryz.info8
  rcases hs.src with ⟨rfl, rfl⟩ | ⟨a, c, rfl, h5⟩
  · have hr := run_append_owned_none (P := Tryz.prog) (w := w) base 43 ty 3 i0 1 Tryz.underlying43 hi v A.length _ h
    exact ⟨v, w, hr, by simpa using h, World.grownBy.refl _ _⟩
  · have hadd : ∀ j u, (L.map enc8)[j]? = some u → w.cell? (a.add j) = some u := by
      intro j u hj
      have hlt : j < L.length := by simpa using (List.getElem?_eq_some_iff.1 hj).1
      rw [h5 j hlt]
      rw [List.getElem?_map, List.getElem?_eq_getElem hlt] at hj
      rw [List.getElem?_eq_getElem hlt]
      simpa using hj
    have h1 : ∀ u ∈ L.map enc8, u.oneCell' = true := by
      intro u hu
      obtain ⟨x, _, rfl⟩ := List.mem_map.1 hu
      rfl
    obtain ⟨v', w', hr, ho, hg, _⟩ := run_append_own (P := Tryz.prog) w base 43 ty 3 i0 (.int .i64 0) 1 8 Tryz.underlying43 hi hz0 hz1 hz2 rfl (by decide) v A.length _ h a L.length c (L.map enc8) (by simp) hadd h1 (by unfold maxLen; omega) (by omega) hb
    refine ⟨v', w', hr, ?_, hg⟩
    unfold OwI
    rw [List.map_append, List.length_append]
    exact ho
theorem wpList_append_ints {w : World} {ops : Array Oper} {rest : List Oper} {o : Oper} {a : Act} {Q : Exit → Act → World → Prop} (hgd : o.guard = none) (s x : Operand)
    (ho : o.op = .call { callee := .builtin .append, args := #[s, x], argTypes := #[43, 43] })
    (base : Nat) (v : Value) (A : List Int) (hs : a.eval s = v) (hR : OwI w base v A) (u : Value) (L : List Int) (hx : a.eval x = u) (hu : Ints w u L) (hl : A.length + L.length ≤ 1000000000000) (hb : base ≤ w.heap.size)
    (h : ∀ v' w', OwI w' base v' (A ++ L) → w.grownBy w' v.ownBlock → wpList Tryz.prog ops Q rest (a.put o.dst v') w') : wpList Tryz.prog ops Q (o :: rest) a w :=
  wpList_plain hgd fun K hK => by
    obtain ⟨v', w', hr, h2, h3⟩ := run_append_ints w base o.type v A hR u L hu hl hb
    unfold Oper.wp execOp
    simp only [ho, resolve, invoke, builtin, Sem.run_bind, Sem.run_pure, Result.andThen_ok, List.map_toArray, List.map_cons, List.map_nil, hs, hx, hr]
    exact hK _ _ (h v' w' h2 h3)
theorem OwI.form {w : World} {base : Nat} {v : Value} {L : List Int} (h : OwI w base v L) : ∃ ab c, v = .slice ab L.length c := by
  rcases h.cases with ⟨rfl, rfl⟩ | ⟨g, c, rfl, _, _⟩
  · exact ⟨none, 0, rfl⟩
  · exact ⟨_, c, rfl⟩
end Go.Proofs.YtdcadiaeaclpgaaGreatDoor
