/-
  Words put in for letters: of lists alone; a word and a row of words behind it.
-/
import Derived.Test.YthldipnfaiobaaaDoorTld
namespace Go.Proofs.YthldipnfaiobaaaDoor
open Go.RowKit Go.Lib Go.Sort
set_option linter.unusedVariables false
set_option linter.unusedSimpArgs false
theorem inv_append (A B : List Int) : inv (A ++ B) = inv B ++ inv A := by
  unfold inv
  rw [List.map_append, List.reverse_append]
theorem inv_one (k : Int) : inv [k] = [-k] := rfl
theorem red_inv {S : List Int} (h : Red S) : Red (inv S) := fun i hi => by
  rw [inv_len] at hi
  rw [inv_at S i (by omega), inv_at S (i + 1) hi]
  have := h (S.length - 1 - (i + 1)) (by omega)
  rw [show S.length - 1 - (i + 1) + 1 = S.length - 1 - i by omega] at this
  omega
theorem sh_inv_sh (L : List Int) : sh (inv L) = sh (inv (sh L)) := by
  refine snoc_ind (P := fun L => sh (inv L) = sh (inv (sh L))) rfl (fun L k ih => ?_) L
  show sh (inv (L ++ [k])) = sh (inv (sh (L ++ [k])))
  rw [sh_snoc, inv_append, inv_one, ← sh_right, ih, sh_right, ← inv_one, ← inv_append]
  generalize sh L = S
  unfold push
  split
  · rename_i h0
    rw [List.length_eq_zero_iff.1 h0]
    rfl
  · rename_i h0
    split
    · rename_i h1
      have hs : S = S.take (S.length - 1) ++ [S[S.length - 1]?.getD 0] := by
        have := take_last S (S.length - 1) (by omega)
        rw [show S.length - 1 + 1 = S.length by omega, List.take_length] at this
        exact this
      generalize S[S.length - 1]?.getD 0 = x at *
      generalize S.take (S.length - 1) = m at *
      subst hs
      rw [inv_append, inv_append, inv_one, inv_one]
      have := sh_pair [] (inv m) (-k) (-x) (by omega)
      simpa using this
    · rfl
theorem sh_inv (L : List Int) : sh (inv L) = inv (sh L) := by
  rw [sh_inv_sh, sh_red (red_inv (red_sh L))]
def img (Ls : List (List Int)) (k : Int) : List Int := if 0 < k then sh (Ls[(k - 1).toNat]?.getD []) else inv (sh (Ls[(-k - 1).toNat]?.getD []))
def hasI (n : Nat) (k : Int) : Bool := decide (max k (-k) ≤ n)
def putE (L : List Int) (Ls : List (List Int)) : Int := if chk (L :: Ls) = 0 then (if L.all (hasI Ls.length) then tldE (sh (L.map (img Ls)).flatten) else 2) else chk (L :: Ls)
def putL (L : List Int) (Ls : List (List Int)) : List Int := if chk (L :: Ls) = 0 then (if L.all (hasI Ls.length) then tldL (sh (L.map (img Ls)).flatten) else []) else []
theorem img_red (Ls : List (List Int)) (k : Int) : Red (img Ls k) := by
  unfold img
  split
  · exact red_sh _
  · exact red_inv (red_sh _)
theorem can_glue {V W : List Int} {c : Nat} (h : Can V W c) (hV : Red V) (hW : Red W) : V.take (V.length - c) ++ W.drop c = sh (V ++ W) := by
  rcases Nat.lt_or_ge c V.length with hc | hc
  · have := h.stop hc [] (by simpa using hV) hW
    simpa using this
  · have := h.step hc []
    rw [List.nil_append, List.nil_append] at this
    rw [show V.length - c = 0 by omega, List.take_zero, List.nil_append, ← this]
    exact (sh_red (red_drop hW c)).symm
theorem row_lit (w : World) (v : Value) : (w.alloc (.cells #[v] 22)).ownsRow w.heap.size 22 1 (.slice (some ⟨w.heap.size, 0, none⟩) 1 1) 1 [v] := by
  refine ⟨by simp, .inr ⟨w.heap.size, 1, #[v], rfl, Nat.le_refl _, heap_alloc_new _ _, Nat.le_refl _, by unfold maxLen; omega, by simp, by simp⟩⟩
theorem Ints.one {w : World} {v : Value} {L : List Int} (h : Ints w v L) : v.oneCell' = true := by
  obtain ⟨ab, c, rfl, _⟩ := h.reads
  rfl
theorem run_append_lit (w : World) (ty : TypeId) (v s : Value) (L : List Int) (Ls : List (List Int)) (h : Ints w v L) (hs : IntsL w s Ls) (hl : Ls.length ≤ 1000000) :
    ∃ v' w', (Builtin.append_ #[46, 46] ty #[.slice (some ⟨w.heap.size, 0, none⟩) 1 1, s]).run Tryd.prog (w.alloc (.cells #[v] 22)) = .ok v' w' ∧ IntsL w' v' (L :: Ls) ∧ w.grownBy w' none := by
  obtain ⟨i0, hi, hz0, hz1, hz2⟩ := info_parts Tryd.info24
  have ho := row_lit w v
  have key : ∀ (a : Addr) (c : Nat) (us : List Value), us.length = Ls.length → (∀ j u, us[j]? = some u → (w.alloc (.cells #[v] 22)).cell? (a.add j) = some u) → (∀ j, j < Ls.length → Ints w (us[j]?.getD (.slice none 0 0)) (Ls[j]?.getD [])) → s = .slice (some a) Ls.length c →
      ∃ v' w', (Builtin.append_ #[46, 46] ty #[.slice (some ⟨w.heap.size, 0, none⟩) 1 1, s]).run Tryd.prog (w.alloc (.cells #[v] 22)) = .ok v' w' ∧ IntsL w' v' (L :: Ls) ∧ w.grownBy w' none := by
    intro a c us hul hadd hus hse
    have h1 : ∀ u ∈ us, u.oneCell' = true := by
      intro u hu
      obtain ⟨j, hj, rfl⟩ := List.mem_iff_getElem.1 hu
      have := (hus j (by omega)).one
      rw [List.getElem?_eq_getElem hj] at this
      exact this
    obtain ⟨v', w', hr, ho', hg, hn⟩ := run_append_own (P := Tryd.prog) _ w.heap.size 46 ty 22 i0 (.slice none 0 0) 1 24 Tryd.underlying46 hi hz0 hz1 hz2 rfl (by decide) _ 1 _ ho a Ls.length c us (by omega) hadd h1 (by unfold maxLen; omega) (by omega) (by simp)
    have hG : w.grownBy w' none := grownBy_new (grow1 w _) (Nat.le_refl _) hg
    rw [hse]
    refine ⟨v', w', hr, ?_, hG⟩
    rcases ho'.2 with ⟨e, hn⟩ | ⟨g, cap, cur, rfl, hb, hgg, hc, _⟩
    · omega
    · refine .inr ⟨g, 0, cap, by simp [Nat.add_comm], by simp; omega, fun j hj => ?_⟩
      cases j with
      | zero =>
        refine ⟨v, ?_, h.kept hG⟩
        have := World.ownsRow.cells ho' (g := g) rfl 0 v (by simp)
        rwa [Addr.add_lit] at this
      | succ j =>
        have hj' : j < Ls.length := by simpa using hj
        refine ⟨us[j]?.getD (.slice none 0 0), ?_, ?_⟩
        · have := World.ownsRow.cells ho' (g := g) rfl (j + 1) (us[j]?.getD (.slice none 0 0)) (by
            rw [List.cons_append, List.nil_append, List.getElem?_cons_succ, List.getElem?_eq_getElem (by omega)]
            rfl)
          rwa [Addr.add_lit] at this
        · rw [List.getElem?_cons_succ]
          exact (hus j hj').kept hG
  rcases hs with ⟨rfl | ⟨a, rfl⟩, rfl⟩ | ⟨B, off, c, rfl, hc, hel⟩
  · have hr := run_append_owned_none (P := Tryd.prog) (w := w.alloc (.cells #[v] 22)) w.heap.size 46 ty 22 i0 1 Tryd.underlying46 hi _ 1 _ ho
    exact ⟨_, _, hr, intsL1 h, grow1 _ _⟩
  · exact key a 0 [] rfl (fun j u hj => by simp at hj) (fun j hj => by simp at hj) rfl
  · refine key ⟨B, off, none⟩ c ((List.range Ls.length).map fun j => (w.cell? ⟨B, off + j, none⟩).getD (.slice none 0 0)) (by simp) (fun j u hj => ?_) (fun j hj => ?_) rfl
    · have hlt : j < Ls.length := by simpa using (List.getElem?_eq_some_iff.1 hj).1
      obtain ⟨x, h1, _⟩ := hel j hlt
      rw [List.getElem?_map, List.getElem?_range hlt] at hj
      simp [h1] at hj
      subst hj
      rw [Addr.add_lit]
      exact grownBy_cell (grow1 w _) h1 (by simp)
    · obtain ⟨x, h1, h2⟩ := hel j hj
      rw [List.getElem?_map, List.getElem?_range hj]
      simpa [h1] using h2
theorem wpList_append_lit {w : World} {ops : Array Oper} {rest : List Oper} {o : Oper} {a : Act} {Q : Exit → Act → World → Prop} (hgd : o.guard = none) (s x : Operand)
    (ho : o.op = .call { callee := .builtin .append, args := #[s, x], argTypes := #[46, 46] })
    (v u : Value) (L : List Int) (Ls : List (List Int)) (hs : a.eval s = .slice (some ⟨w.heap.size, 0, none⟩) 1 1) (hx : a.eval x = u) (h1 : Ints w v L) (hu : IntsL w u Ls) (hl : Ls.length ≤ 1000000)
    (h : ∀ v' w', IntsL w' v' (L :: Ls) → w.grownBy w' none → wpList Tryd.prog ops Q rest (a.put o.dst v') w') : wpList Tryd.prog ops Q (o :: rest) a (w.alloc (.cells #[v] 22)) :=
  wpList_plain hgd fun K hK => by
    obtain ⟨v', w', hr, h2, h3⟩ := run_append_lit w o.type v u L Ls h1 hu hl
    unfold Oper.wp execOp
    simp only [ho, resolve, invoke, builtin, Sem.run_bind, Sem.run_pure, Result.andThen_ok, List.map_toArray, List.map_cons, List.map_nil, hs, hx, hr]
    exact hK _ _ (h v' w' h2 h3)
end Go.Proofs.YthldipnfaiobaaaDoor
