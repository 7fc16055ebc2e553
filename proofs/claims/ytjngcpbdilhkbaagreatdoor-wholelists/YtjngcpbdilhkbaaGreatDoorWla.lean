/-
  Lists of whole numbers that are laid behind one another.
-/
import Derived.Test.YtjngcpbdilhkbaaGreatDoorBunAll
import Derived.Test.YtjngcpbdilhkbaaGreatDoorBunMor
import Derived.Laws.AppendOwnNone
namespace Go.Proofs.YtjngcpbdilhkbaaGreatDoor
open Go.RowKit Go.Lib Go.Sort
set_option linter.unusedVariables false

theorem Tryz.infoW : (Tryz.prog.info? 26).map (fun i => (i.zero, i.size, i.bytes)) = some (some (.agg #[.bool false, .string ⟨#[]⟩]), 2, 24) := by kernel_rfl

def cellsW (l : List (Bool × ByteArray)) : List Value := l.flatMap fun p => [.bool p.1, .string p.2]
theorem cellsW_len (l : List (Bool × ByteArray)) : (cellsW l).length = l.length * 2 := by
  induction l with
  | nil => rfl
  | cons p l ih => simp only [cellsW, List.flatMap_cons, List.length_append, List.length_cons, List.length_nil] at ih ⊢; omega
theorem cellsW_append (a b : List (Bool × ByteArray)) : cellsW (a ++ b) = cellsW a ++ cellsW b := by simp [cellsW]
theorem cellsW_get (l : List (Bool × ByteArray)) (i : Nat) (p : Bool × ByteArray) (h : l[i]? = some p) : (cellsW l)[i * 2]? = some (.bool p.1) ∧ (cellsW l)[i * 2 + 1]? = some (.string p.2) := by
  induction l generalizing i with
  | nil => simp at h
  | cons q l ih =>
    cases i with
    | zero => simp at h; subst h; simp [cellsW]
    | succ i =>
      have := ih i (by simpa using h)
      have e : cellsW (q :: l) = Value.bool q.1 :: Value.string q.2 :: cellsW l := rfl
      rw [e, show (i + 1) * 2 = i * 2 + 1 + 1 by omega]
      simpa using this
theorem own_wholes {w : World} {base g cap n : Nat} {l : List (Bool × ByteArray)} (h : w.ownsRow base 26 2 (.slice (some ⟨g, 0, none⟩) n cap) n (cellsW l)) (i : Nat) (p : Bool × ByteArray) (hp : l[i]? = some p) :
    w.cell? ⟨g, i * 2, none⟩ = some (.bool p.1) ∧ w.cell? ⟨g, i * 2 + 1, none⟩ = some (.string p.2) := by
  obtain ⟨h1, h2⟩ := cellsW_get l i p hp
  have c1 := h.cells (g := g) rfl _ _ h1
  have c2 := h.cells (g := g) rfl _ _ h2
  rw [Addr.add_lit, Nat.zero_add] at c1 c2
  exact ⟨c1, c2⟩
theorem own_form {w : World} {base : Nat} {v : Value} {n : Nat} {xs : List Value} (h : w.ownsRow base 26 2 v n xs) (hn : 0 < n) : ∃ g cap, v = .slice (some ⟨g, 0, none⟩) n cap ∧ base ≤ g ∧ g < w.heap.size ∧ n ≤ cap ∧ cap ≤ maxLen := by
  rcases h.2 with ⟨rfl, h0⟩ | ⟨g, cap, cur, rfl, hb, hg, hc, hm, _⟩
  · omega
  · exact ⟨g, cap, rfl, hb, (Array.getElem?_eq_some_iff.1 hg).1, hc, hm⟩
theorem cells_wholes {w : World} {b off : Nat} {l : List (Bool × ByteArray)} (hc : ∀ i p, l[i]? = some p → w.cell? ⟨b, off + i * 2, none⟩ = some (.bool p.1) ∧ w.cell? ⟨b, off + i * 2 + 1, none⟩ = some (.string p.2)) :
    ∀ j u, (cellsW l)[j]? = some u → w.cell? ((⟨b, off, none⟩ : Addr).add j) = some u := by
  intro j u hu
  rw [Addr.add_lit]
  have hj : j < (cellsW l).length := (List.getElem?_eq_some_iff.1 hu).1
  rw [cellsW_len] at hj
  have hp : l[j / 2]? = some (l[j / 2]'(by omega)) := List.getElem?_eq_getElem (by omega)
  obtain ⟨g1, g2⟩ := cellsW_get l (j / 2) _ hp
  obtain ⟨c1, c2⟩ := hc (j / 2) _ hp
  rcases Nat.mod_two_eq_zero_or_one j with h | h
  · have e : j = j / 2 * 2 := by omega
    rw [e] at hu ⊢
    rw [g1] at hu
    rw [← hu]; exact c1
  · have e : j = j / 2 * 2 + 1 := by omega
    rw [e] at hu ⊢
    rw [g2] at hu
    rw [← hu, ← Nat.add_assoc]; exact c2
theorem cellsW_one (l : List (Bool × ByteArray)) : ∀ u ∈ cellsW l, u.oneCell' = true := by
  intro u hu
  simp only [cellsW, List.mem_flatMap] at hu
  obtain ⟨p, _, hu⟩ := hu
  simp at hu
  rcases hu with rfl | rfl <;> rfl
/-- A list of whole numbers as a call has it: it may not be there. -/
def SrcW (w : World) (ao : Option Addr) (n : Nat) (l : List (Bool × ByteArray)) : Prop :=
  l.length = n ∧ (n = 0 ∨ ∃ B off, ao = some ⟨B, off, none⟩ ∧ ∀ i p, l[i]? = some p → w.cell? ⟨B, off + i * 2, none⟩ = some (.bool p.1) ∧ w.cell? ⟨B, off + i * 2 + 1, none⟩ = some (.string p.2))
theorem SrcW.kept {w w' : World} {ao : Option Addr} {n : Nat} {l : List (Bool × ByteArray)} (h : SrcW w ao n l) (hg : w.grownBy w' none) : SrcW w' ao n l := by
  refine ⟨h.1, ?_⟩
  rcases h.2 with h | ⟨B, off, rfl, hc⟩
  · exact .inl h
  · exact .inr ⟨B, off, rfl, fun i p hp => ⟨grownBy_cell hg (hc i p hp).1 (by simp), grownBy_cell hg (hc i p hp).2 (by simp)⟩⟩
theorem wpList_append_wholes {w : World} {ops : Array Oper} {rest : List Oper} {o : Oper} {a : Act} {Q : Exit → Act → World → Prop} (hgd : o.guard = none) (s x : Operand)
    (ho : o.op = .call { callee := .builtin .append, args := #[s, x], argTypes := #[22, 22] })
    (base : Nat) (v : Value) (A : List (Bool × ByteArray)) (hs : a.eval s = v) (hown : w.ownsRow base 26 2 v A.length (cellsW A))
    (ao : Option Addr) (n c : Nat) (l : List (Bool × ByteArray)) (hx : a.eval x = .slice ao n c) (hx0 : ao = none → c = 0) (hsrc : SrcW w ao n l) (hl : A.length + n ≤ 1000000) (hb : base ≤ w.heap.size)
    (h : ∀ v' w', w'.ownsRow base 26 2 v' (A ++ l).length (cellsW (A ++ l)) → w.grownBy w' v.ownBlock → wpList Tryz.prog ops Q rest (a.put o.dst v') w') : wpList Tryz.prog ops Q (o :: rest) a w := by
  obtain ⟨i1, hi, hz0, hz1, hz2⟩ := info_parts Tryz.infoW
  obtain ⟨hn, hc⟩ := hsrc
  rcases hc with rfl | ⟨B, off, rfl, hc⟩
  · obtain rfl := List.length_eq_zero_iff.1 hn
    cases ao with
    | some ad =>
      refine wpList_append_own _ hgd s x 22 ho base 26 i1 (.agg #[.bool false, .string ⟨#[]⟩]) 2 24 Tryz.underlying22 hi hz0 hz1 hz2 rfl (by decide) v _ _ hs hown ad 0 c [] hx rfl (by intro j u hu; simp at hu) (by intro u hu; simp at hu) (by unfold maxLen; omega) (by omega) hb ?_
      intro v' w' h1 h2 _
      refine h v' w' ?_ h2
      simpa using h1
    | none =>
    obtain rfl := hx0 rfl
    refine wpList_append_own_none hgd s x 22 ho base 26 i1 2 Tryz.underlying22 hi v _ _ hs hown hx (h v w ?_ (World.grownBy.refl _ _))
    simpa using hown
  · refine wpList_append_own _ hgd s x 22 ho base 26 i1 (.agg #[.bool false, .string ⟨#[]⟩]) 2 24 Tryz.underlying22 hi hz0 hz1 hz2 rfl (by decide) v _ _ hs hown ⟨B, off, none⟩ n c (cellsW l) hx (by rw [cellsW_len, hn]) (cells_wholes hc) (cellsW_one l) (by unfold maxLen; omega) (by omega) hb ?_
    intro v' w' h1 h2 _
    refine h v' w' ?_ h2
    rw [List.length_append, hn, cellsW_append]
    exact h1
end Go.Proofs.YtjngcpbdilhkbaaGreatDoor
