/-
  Lists of whole numbers that are laid behind one another.
  A whole number behind whole numbers that the call owns: where it comes to lie.
-/
import Derived.Test.YtdfliaogmlpefaaGreatDoorBunAll
import Derived.Test.YtdfliaogmlpefaaGreatDoorBunMor
import Derived.Laws.AppendOwnNone
import Derived.OwnWalkIn
namespace Go.Proofs.YtdfliaogmlpefaaGreatDoor
open Go.RowKit Go.Lib Go.Sort
set_option linter.unusedVariables false
theorem Tryz.infoW : (Tryz.prog.info? 23).map (fun i => (i.zero, i.size, i.bytes)) = some (some (.agg #[.bool false, .string ⟨#[]⟩]), 2, 24) := by kernel_rfl
def cellsW (l : List (Bool × ByteArray)) : List Value := l.flatMap fun p => [.bool p.1, .string p.2]
theorem cellsW_len (l : List (Bool × ByteArray)) : (cellsW l).length = l.length * 2 := by
  induction l with
  | nil => rfl
  | cons p l ih => simp only [cellsW, List.flatMap_cons, List.length_append, List.length_cons, List.length_nil] at ih ⊢; omega
theorem cellsW_append (a b : List (Bool × ByteArray)) : cellsW (a ++ b) = cellsW a ++ cellsW b := by simp [cellsW]
theorem cellsW_get (l : List (Bool × ByteArray)) (i : Nat) (p : Bool × ByteArray) (h : l[i]? = some p) : (cellsW l)[i * 2]? = some (.bool p.1) ∧ (cellsW l)[i * 2 + 1]? = some (.string p.2) := by
  induction l generalizing i with
  | nil => simp at h
  | cons q l ih =>
    cases i with
    | zero => simp at h; subst h; simp [cellsW]
    | succ i =>
      have := ih i (by simpa using h)
      have e : cellsW (q :: l) = Value.bool q.1 :: Value.string q.2 :: cellsW l := rfl
      rw [e, show (i + 1) * 2 = i * 2 + 1 + 1 by omega]
      simpa using this
theorem own_wholes {w : World} {base g cap n : Nat} {l : List (Bool × ByteArray)} (h : w.ownsRow base 23 2 (.slice (some ⟨g, 0, none⟩) n cap) n (cellsW l)) (i : Nat) (p : Bool × ByteArray) (hp : l[i]? = some p) :
    w.cell? ⟨g, i * 2, none⟩ = some (.bool p.1) ∧ w.cell? ⟨g, i * 2 + 1, none⟩ = some (.string p.2) := by
  obtain ⟨h1, h2⟩ := cellsW_get l i p hp
  have c1 := h.cells (g := g) rfl _ _ h1
  have c2 := h.cells (g := g) rfl _ _ h2
  rw [Addr.add_lit, Nat.zero_add] at c1 c2
  exact ⟨c1, c2⟩
theorem own_form {w : World} {base : Nat} {v : Value} {n : Nat} {xs : List Value} (h : w.ownsRow base 23 2 v n xs) (hn : 0 < n) : ∃ g cap, v = .slice (some ⟨g, 0, none⟩) n cap ∧ base ≤ g ∧ g < w.heap.size ∧ n ≤ cap ∧ cap ≤ maxLen := by
  rcases h.2 with ⟨rfl, h0⟩ | ⟨g, cap, cur, rfl, hb, hg, hc, hm, _⟩
  · omega
  · exact ⟨g, cap, rfl, hb, (Array.getElem?_eq_some_iff.1 hg).1, hc, hm⟩
theorem cells_wholes {w : World} {b off : Nat} {l : List (Bool × ByteArray)} (hc : ∀ i p, l[i]? = some p → w.cell? ⟨b, off + i * 2, none⟩ = some (.bool p.1) ∧ w.cell? ⟨b, off + i * 2 + 1, none⟩ = some (.string p.2)) :
    ∀ j u, (cellsW l)[j]? = some u → w.cell? ((⟨b, off, none⟩ : Addr).add j) = some u := by
  intro j u hu
  rw [Addr.add_lit]
  have hj : j < (cellsW l).length := (List.getElem?_eq_some_iff.1 hu).1
  rw [cellsW_len] at hj
  have hp : l[j / 2]? = some (l[j / 2]'(by omega)) := List.getElem?_eq_getElem (by omega)
  obtain ⟨g1, g2⟩ := cellsW_get l (j / 2) _ hp
  obtain ⟨c1, c2⟩ := hc (j / 2) _ hp
  rcases Nat.mod_two_eq_zero_or_one j with h | h
  · have e : j = j / 2 * 2 := by omega
    rw [e] at hu ⊢
    rw [g1] at hu
    rw [← hu]; exact c1
  · have e : j = j / 2 * 2 + 1 := by omega
    rw [e] at hu ⊢
    rw [g2] at hu
    rw [← hu, ← Nat.add_assoc]; exact c2
theorem cellsW_one (l : List (Bool × ByteArray)) : ∀ u ∈ cellsW l, u.oneCell' = true := by
  intro u hu
  simp only [cellsW, List.mem_flatMap] at hu
  obtain ⟨p, _, hu⟩ := hu
  simp at hu
  rcases hu with rfl | rfl <;> rfl
def SrcW (w : World) (ao : Option Addr) (n : Nat) (l : List (Bool × ByteArray)) : Prop :=
  l.length = n ∧ (n = 0 ∨ ∃ B off, ao = some ⟨B, off, none⟩ ∧ ∀ i p, l[i]? = some p → w.cell? ⟨B, off + i * 2, none⟩ = some (.bool p.1) ∧ w.cell? ⟨B, off + i * 2 + 1, none⟩ = some (.string p.2))
theorem SrcW.kept {w w' : World} {ao : Option Addr} {n : Nat} {l : List (Bool × ByteArray)} (h : SrcW w ao n l) (hg : w.grownBy w' none) : SrcW w' ao n l := by
  refine ⟨h.1, ?_⟩
  rcases h.2 with h | ⟨B, off, rfl, hc⟩
  · exact .inl h
  · exact .inr ⟨B, off, rfl, fun i p hp => ⟨grownBy_cell hg (hc i p hp).1 (by simp), grownBy_cell hg (hc i p hp).2 (by simp)⟩⟩
def RowW (w : World) (base : Nat) (v : Value) (L : List (Bool × ByteArray)) : Prop := w.ownsRow base 23 2 v L.length (cellsW L)
theorem run_append_whole (w : World) (base : Nat) (ty : TypeId) (v : Value) (L : List (Bool × ByteArray)) (x : Bool × ByteArray) (h : RowW w base v L) (hl : L.length ≤ 1000000) (hb : base ≤ w.heap.size) (g0 : Nat) (h0 : w.cell? ⟨g0, 0, none⟩ = some (.bool x.1)) (h1' : w.cell? ⟨g0, 1, none⟩ = some (.string x.2)) :
    ∃ v' w', (Builtin.append_ #[48, 48] ty #[v, .slice (some ⟨g0, 0, none⟩) 1 1]).run Tryz.prog w = .ok v' w' ∧ RowW w' base v' (L ++ [x]) ∧ w.grownBy w' v.ownBlock ∧ (v'.ownBlock = v.ownBlock ∨ v'.ownBlock = some w.heap.size) := by
  obtain ⟨i0, hi, hz0, hz1, hz2⟩ := info_parts Tryz.infoW
  have hadd : ∀ j u, [Value.bool x.1, Value.string x.2][j]? = some u → w.cell? ((⟨g0, 0, none⟩ : Addr).add j) = some u := by
    intro j u hj
    rw [Addr.add_lit, Nat.zero_add]
    match j, hj with
    | 0, hj => simp at hj; subst hj; exact h0
    | 1, hj => simp at hj; subst hj; exact h1'
  have h1 : ∀ u ∈ [Value.bool x.1, Value.string x.2], u.oneCell' = true := by
    intro u hu; simp at hu; rcases hu with rfl | rfl <;> rfl
  obtain ⟨v', w', hr, ho, hg, hn⟩ := run_append_own (P := Tryz.prog) w base 48 ty 23 i0 (.agg #[.bool false, .string ⟨#[]⟩]) 2 24 Tryz.underlying48 hi hz0 hz1 hz2 rfl (by decide) v L.length _ h ⟨g0, 0, none⟩ 1 1 [.bool x.1, .string x.2] rfl hadd h1 (by unfold maxLen; omega) (by omega) hb
  refine ⟨v', w', hr, ?_, hg, ?_⟩
  · unfold RowW
    rw [cellsW_append, List.length_append]
    exact ho
  · rcases h.2 with ⟨rfl, hn⟩ | ⟨g, cap, cur, rfl, hbg, hgg, hnc, hcm, hcs, htake⟩
    · right
      have hr2 := run_append_nil (P := Tryz.prog) w 48 ty 23 i0 (.agg #[.bool false, .string ⟨#[]⟩]) Tryz.underlying48 hi hz0 ⟨g0, 0, none⟩ 1 1 [.bool x.1, .string x.2] (by rw [hz1]; rfl) hadd (by omega) (by omega) (by rw [hz2]; omega)
      rw [hr2] at hr
      cases hr
      rfl
    · by_cases hroom : L.length + 1 ≤ cap
      · left
        have hr2 := run_append_room (P := Tryz.prog) w 48 ty 23 i0 Tryz.underlying48 hi g L.length cap cur hgg ⟨g0, 0, none⟩ 1 1 [.bool x.1, .string x.2] (by rw [hz1]; rfl) hadd h1 hroom (by rw [hz1]; simp; omega)
        rw [hr2] at hr
        cases hr
        rfl
      · right
        have holds : ∀ j u, (cellsW L)[j]? = some u → w.cell? ((⟨g, 0, none⟩ : Addr).add j) = some u := World.ownsRow.cells h (g := g) rfl
        have hr2 := run_append_grow (P := Tryz.prog) w 48 ty 23 i0 (.agg #[.bool false, .string ⟨#[]⟩]) Tryz.underlying48 hi hz0 ⟨g, 0, none⟩ L.length cap (cellsW L) (by rw [hz1, cellsW_len]) holds ⟨g0, 0, none⟩ 1 1 [.bool x.1, .string x.2] (by rw [hz1]; rfl) hadd (by omega) (by omega) (by rw [hz2]; exact growslice_fits (by omega) (by omega))
        rw [hr2] at hr
        cases hr
        rfl
theorem wpList_append_whole {w : World} {ops : Array Oper} {rest : List Oper} {o : Oper} {a : Act} {Q : Exit → Act → World → Prop} (hgd : o.guard = none) (s x : Operand)
    (ho : o.op = .call { callee := .builtin .append, args := #[s, x], argTypes := #[48, 48] })
    (base : Nat) (v : Value) (L : List (Bool × ByteArray)) (y : Bool × ByteArray) (hs : a.eval s = v) (hR : RowW w base v L) (hl : L.length ≤ 1000000) (hb : base ≤ w.heap.size)
    (g0 : Nat) (hx : a.eval x = .slice (some ⟨g0, 0, none⟩) 1 1) (h0 : w.cell? ⟨g0, 0, none⟩ = some (.bool y.1)) (h1 : w.cell? ⟨g0, 1, none⟩ = some (.string y.2))
    (h : ∀ v' w', RowW w' base v' (L ++ [y]) → w.grownBy w' v.ownBlock → (v'.ownBlock = v.ownBlock ∨ v'.ownBlock = some w.heap.size) → wpList Tryz.prog ops Q rest (a.put o.dst v') w') : wpList Tryz.prog ops Q (o :: rest) a w :=
  wpList_plain hgd fun K hK => by
    obtain ⟨v', w', hr, h2, h3, h4⟩ := run_append_whole w base o.type v L y hR hl hb g0 h0 h1
    unfold Oper.wp execOp
    simp only [ho, resolve, invoke, builtin, Sem.run_bind, Sem.run_pure, Result.andThen_ok, List.map_toArray, List.map_cons, List.map_nil, hs, hx, hr]
    exact hK _ _ (h v' w' h2 h3 h4)
theorem RowW.form {w : World} {base : Nat} {v : Value} {L : List (Bool × ByteArray)} (h : RowW w base v L) : ∃ ao c, v = .slice ao L.length c := by
  rcases h.2 with ⟨e, hn⟩ | ⟨g, cap, cur, rfl, hb, _, hc, _⟩
  · exact ⟨none, 0, by rw [e, hn]⟩
  · exact ⟨_, cap, rfl⟩
theorem RowW.kept {w w' : World} {base : Nat} {v : Value} {L : List (Bool × ByteArray)} {row : Option Nat} (h : RowW w base v L) (hg : w.grownBy w' row) (hne : v.ownBlock = none ∨ v.ownBlock ≠ row) : RowW w' base v L := World.ownsRow.kept h hg hne
theorem RowW.nil (w : World) (base : Nat) : RowW w base (.slice none 0 0) [] := World.ownsRow_nil _ _ _ _
theorem RowW.own {w : World} {base : Nat} {v : Value} {L : List (Bool × ByteArray)} (h : RowW w base v L) (g : Nat) (hg : v.ownBlock = some g) : base ≤ g ∧ g < w.heap.size := by
  rcases h.2 with ⟨e, _⟩ | ⟨g', cap, cur, e, hb, hgg, _⟩
  · rw [e] at hg; cases hg
  · rw [e] at hg
    cases hg
    exact ⟨hb, (Array.getElem?_eq_some_iff.1 hgg).1⟩
end Go.Proofs.YtdfliaogmlpefaaGreatDoor
