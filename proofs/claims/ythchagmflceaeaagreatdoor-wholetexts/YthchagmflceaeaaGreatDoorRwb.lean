/-
  Bytes that the call owns, with room behind them: reading, writing, another byte at the end.
-/
import Derived.Test.YthchagmflceaeaaGreatDoorBunMor
namespace Go.Proofs.YthchagmflceaeaaGreatDoor
open Go.RowKit Go.Lib Go.Sort

def RowB (w : World) (base : Nat) (v : Value) (L : List Nat) : Prop := w.ownsRow base 5 1 v L.length ((ints L).map encB)
theorem RowB.nil (w : World) (base : Nat) : RowB w base (.slice none 0 0) [] := World.ownsRow_nil _ _ _ _
theorem RowB.cases {w : World} {base : Nat} {v : Value} {L : List Nat} (h : RowB w base v L) : (v = .slice none 0 0 ∧ L = []) ∨ ∃ g c, v = .slice (some ⟨g, 0, none⟩) L.length c ∧ base ≤ g ∧ L.length ≤ c := by
  rcases h.2 with ⟨e, hn⟩ | ⟨g, cap, cur, rfl, hb, _, hc, _⟩
  · exact .inl ⟨e, List.length_eq_zero_iff.1 hn⟩
  · exact .inr ⟨g, cap, rfl, hb, hc⟩
theorem RowB.cell {w : World} {base g c : Nat} {L : List Nat} (h : RowB w base (.slice (some ⟨g, 0, none⟩) L.length c) L) (i : Nat) (hi : i < L.length) : w.cell? ⟨g, i, none⟩ = some (.int .u8 ((L[i]?.getD 0 : Nat) : Int)) := by
  have := World.ownsRow.cells h rfl i (.int .u8 ((L[i]?.getD 0 : Nat) : Int)) (by simp [ints, hi])
  rcases Nat.eq_zero_or_pos i with rfl | h0
  · simpa [Addr.add] using this
  · simpa [Addr.add, Nat.ne_of_gt h0] using this
theorem RowB.frozen {w : World} {base g c n : Nat} {L : List Nat} (h : RowB w base (.slice (some ⟨g, 0, none⟩) n c) L) (i : Nat) : w.frozen? ⟨g, i, none⟩ = false := by
  rcases h.2 with ⟨e, hn⟩ | ⟨g', cap, cur, e, hb, hg, _⟩
  · cases e
  · cases e
    simp [World.frozen?, hg]
theorem RowB.set {w : World} {base g c n : Nat} {L : List Nat} (h : RowB w base (.slice (some ⟨g, 0, none⟩) n c) L) (i x : Nat) : RowB (w.setCell ⟨g, i, none⟩ (.int .u8 (x : Int))) base (.slice (some ⟨g, 0, none⟩) n c) (L.set i x) := by
  rcases h.2 with ⟨e, hn⟩ | ⟨g', cap, cur, e, hb, hg, hc, hm, hs, ht⟩
  · cases e
  · cases e
    refine ⟨by simp [ints], .inr ⟨g, c, cur.setIfInBounds i (.int .u8 (x : Int)), by simp, hb, ?_, by simpa using hc, hm, by simpa using hs, ?_⟩⟩
    · simp [World.setCell, Array.getElem?_modify, hg]
    · rw [Array.toList_setIfInBounds, List.length_set, List.take_set, ht, ← ints_set, List.map_set]
theorem RowB.kept {w w' : World} {base : Nat} {v : Value} {L : List Nat} {row : Option Nat} (h : RowB w base v L) (hg : w.grownBy w' row) (hne : v.ownBlock = none ∨ v.ownBlock ≠ row) : RowB w' base v L := World.ownsRow.kept h hg hne
theorem run_append_byte (w : World) (base : Nat) (ty : TypeId) (v : Value) (L : List Nat) (x : Nat) (h : RowB w base v L) (hl : L.length ≤ 1000000000) (hb : base ≤ w.heap.size) (a : Addr) (hx : w.cell? a = some (.int .u8 (x : Int))) :
    ∃ v' w', (Builtin.append_ #[98, 98] ty #[v, .slice (some a) 1 1]).run Tryz.prog w = .ok v' w' ∧ RowB w' base v' (L ++ [x]) ∧ w.grownBy w' v.ownBlock ∧ (v'.ownBlock = v.ownBlock ∨ v'.ownBlock = some w.heap.size) := by
  obtain ⟨i0, hi, hz0, hz1, hz2⟩ := info_parts Tryz.info1
  have hadd : ∀ j u, [Value.int .u8 (x : Int)][j]? = some u → w.cell? (a.add j) = some u := by
    intro j u hj
    match j, hj with
    | 0, hj => simp at hj; subst hj; simpa [Addr.add] using hx
  have h1 : ∀ u ∈ [Value.int .u8 (x : Int)], u.oneCell' = true := by
    intro u hu; simp at hu; subst hu; rfl
  obtain ⟨v', w', hr, ho, hg, hn⟩ := run_append_own (P := Tryz.prog) w base 98 ty 5 i0 (.int .u8 0) 1 1 Tryz.underlying98 hi hz0 hz1 hz2 rfl (by decide) v L.length _ h a 1 1 [.int .u8 (x : Int)] rfl hadd h1 (by unfold maxLen; omega) (by omega) hb
  refine ⟨v', w', hr, ?_, hg, ?_⟩
  · have e : ints (L ++ [x]) = ints L ++ [(x : Int)] := by simp [ints]
    unfold RowB
    rw [e, List.map_append, List.length_append]
    exact ho
  · rcases h.2 with ⟨rfl, hn⟩ | ⟨g, cap, cur, rfl, hbg, hgg, hnc, hcm, hcs, htake⟩
    · right
      have hr2 := run_append_nil (P := Tryz.prog) w 98 ty 5 i0 (.int .u8 0) Tryz.underlying98 hi hz0 a 1 1 [.int .u8 (x : Int)] (by rw [hz1]; rfl) hadd (by omega) (by omega) (by rw [hz2]; omega)
      rw [hr2] at hr
      cases hr
      rfl
    · by_cases hroom : L.length + 1 ≤ cap
      · left
        have hr2 := run_append_room (P := Tryz.prog) w 98 ty 5 i0 Tryz.underlying98 hi g L.length cap cur hgg a 1 1 [.int .u8 (x : Int)] (by rw [hz1]; rfl) hadd h1 hroom (by rw [hz1]; simp; omega)
        rw [hr2] at hr
        cases hr
        rfl
      · right
        have holds : ∀ j u, ((ints L).map encB)[j]? = some u → w.cell? ((⟨g, 0, none⟩ : Addr).add j) = some u := World.ownsRow.cells h (g := g) rfl
        have hr2 := run_append_grow (P := Tryz.prog) w 98 ty 5 i0 (.int .u8 0) Tryz.underlying98 hi hz0 ⟨g, 0, none⟩ L.length cap ((ints L).map encB) (by rw [hz1]; simp [ints]) holds a 1 1 [.int .u8 (x : Int)] (by rw [hz1]; rfl) hadd (by omega) (by omega) (by rw [hz2]; exact growslice_fits (by omega) (by omega))
        rw [hr2] at hr
        cases hr
        rfl
theorem wpList_append_byte {w : World} {ops : Array Oper} {rest : List Oper} {o : Oper} {a : Act} {Q : Exit → Act → World → Prop} (hgd : o.guard = none) (s x : Operand)
    (ho : o.op = .call { callee := .builtin .append, args := #[s, x], argTypes := #[98, 98] })
    (base : Nat) (v : Value) (L : List Nat) (y : Nat) (hs : a.eval s = v) (hR : RowB w base v L) (hl : L.length ≤ 1000000000) (hb : base ≤ w.heap.size)
    (ad : Addr) (hx : a.eval x = .slice (some ad) 1 1) (hy : w.cell? ad = some (.int .u8 (y : Int)))
    (h : ∀ v' w', RowB w' base v' (L ++ [y]) → w.grownBy w' v.ownBlock → (v'.ownBlock = v.ownBlock ∨ v'.ownBlock = some w.heap.size) → wpList Tryz.prog ops Q rest (a.put o.dst v') w') : wpList Tryz.prog ops Q (o :: rest) a w :=
  wpList_plain hgd fun K hK => by
    obtain ⟨v', w', hr, h2, h3, h4⟩ := run_append_byte w base o.type v L y hR hl hb ad hy
    unfold Oper.wp execOp
    simp only [ho, resolve, invoke, builtin, Sem.run_bind, Sem.run_pure, Result.andThen_ok, List.map_toArray, List.map_cons, List.map_nil, hs, hx, hr]
    exact hK _ _ (h v' w' h2 h3 h4)
end Go.Proofs.YthchagmflceaeaaGreatDoor
