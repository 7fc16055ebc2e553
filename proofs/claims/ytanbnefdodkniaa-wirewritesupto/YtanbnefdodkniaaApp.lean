/-
  'append' of bytes that can be read to a slice of bytes that the call owns, up to 225000000000000 bytes (the guide's law bears 140737488355328): as a run, as a step of a walk, as a step of a region that draws its order.
-/
import Derived.Test.YtanbnefdodkniaaRdn
import Derived.Laws.AppendOwnNone
namespace Go.Proofs.Ytanbnefdodkniaa
open Go.RowKit Go.Lib Go.Sort

/-- A slice of bytes that can be read. -/
def Src (w : World) (s : Value) (L : List Int) : Prop :=
  (s = .slice none 0 0 ∧ L = []) ∨ ∃ b off c, s = .slice (some ⟨b, off, none⟩) L.length c ∧ ∀ j u, (L.map encB)[j]? = some u → w.cell? ⟨b, off + j, none⟩ = some u

theorem nsc_le {need old : Nat} (h : old < need) (hb : need ≤ 225000000000000) : Builtin.nextslicecap need old ≤ 281474976710656 := by
  unfold Builtin.nextslicecap
  split
  · omega
  · split
    · omega
    · rw [growBy_four]
      repeat' split
      all_goals omega

/-- What append makes: the bytes of both, owned; nil only of nil and nothing. -/
def Apps (w w' : World) (base : Nat) (v v' : Value) (A B : List Int) : Prop :=
  w'.ownsRow base 5 1 v' (A ++ B).length ((A ++ B).map encB) ∧ w.grownBy w' v.ownBlock ∧ (v' = .slice none 0 0 → v = .slice none 0 0 ∧ B = [])

theorem grown_new (w : World) (base : Nat) (hbase : base ≤ w.heap.size) (A B : List Int) (old : Nat) (hlen : (A ++ B).length ≤ maxLen) (row : Option Nat) (z : Value) (hz : z.cells.size = 1) :
    (w.drew.alloc (.cells ((A.map encB).toArray ++ (B.map encB).toArray ++ Builtin.zeroCells z.cells (grownCap w (A ++ B).length old 5 - (A ++ B).length)) 5)).ownsRow base 5 1
        (.slice (some ⟨w.heap.size, 0, none⟩) (A ++ B).length (grownCap w (A ++ B).length old 5)) (A ++ B).length ((A ++ B).map encB) ∧
      w.grownBy (w.drew.alloc (.cells ((A.map encB).toArray ++ (B.map encB).toArray ++ Builtin.zeroCells z.cells (grownCap w (A ++ B).length old 5 - (A ++ B).length)) 5)) row := by
  have hge := grownCap_ge w (A ++ B).length old 5
  refine ⟨⟨by simp, .inr ⟨w.heap.size, _, _, rfl, hbase, heap_alloc_new w.drew _, hge, grownCap_le_maxLen w _ old 5 hlen, ?_, ?_⟩⟩, ⟨rfl, rfl, rfl, by simp, fun k hk _ => Below.heap_alloc w.drew _ k hk⟩⟩
  · simp only [Array.size_append, List.size_toArray, size_zeroCells, hz, List.length_map, List.length_append] at hge ⊢
    omega
  · rw [Array.toList_append, Array.toList_append, ← List.map_append]
    exact List.take_left' (by simp)

theorem run_apps (w : World) (base : Nat) (ty : TypeId) (v s : Value) (A B : List Int) (hown : w.ownsRow base 5 1 v A.length (A.map encB)) (hs : Src w s B) (hb : A.length + B.length ≤ 225000000000000) (hbase : base ≤ w.heap.size) :
    ∃ v' w', (Builtin.append_ #[33, 33] ty #[v, s]).run Try.prog w = .ok v' w' ∧ Apps w w' base v v' A B := by
  obtain ⟨i0, hi, hz0, hz1, hz2⟩ := info_parts Try.info5
  rcases hs with ⟨rfl, rfl⟩ | ⟨b, off, c, rfl, hc⟩
  · refine ⟨v, w, run_append_owned_none (P := Try.prog) w base 33 ty 5 i0 1 Try.underlying33 hi v A.length _ hown, by simpa using hown, World.grownBy.refl _ _, fun h => ⟨h, rfl⟩⟩
  · have hc' : ∀ j u, (B.map encB)[j]? = some u → w.cell? ((⟨b, off, none⟩ : Addr).add j) = some u := fun j u hj => by rw [Addr.add_lit]; exact hc j u hj
    have hmax : (A ++ B).length ≤ maxLen := by rw [List.length_append]; unfold maxLen; omega
    rcases hown.2 with ⟨rfl, hn⟩ | ⟨g, cap, cur, rfl, hbg, hg, hnc, hcm, hcs, htake⟩
    · obtain rfl : A = [] := List.eq_nil_of_length_eq_zero hn
      by_cases hB : B.length = 0
      · obtain rfl := List.eq_nil_of_length_eq_zero hB
        refine ⟨.slice none 0 0, w, ?_, by simpa using hown, World.grownBy.refl _ _, fun h => ⟨h, rfl⟩⟩
        simp [Builtin.append_, run_underlying Try.underlying33, sizeOf, typeInfo, hi, Builtin.lenOf, Builtin.firstCells, loadCells, loadCellsFrom]
      · have hr := run_append_nil (P := Try.prog) w 33 ty 5 i0 (.int .u8 0) Try.underlying33 hi hz0 ⟨b, off, none⟩ B.length c (B.map encB) (by rw [hz1]; simp) hc' (by omega) (by simp at hb; omega) (by rw [hz2]; simp at hb; omega)
        have hg := grown_new w base hbase [] B 0 hmax (Value.ownBlock (.slice none 0 0)) (.int .u8 0) rfl
        simp only [List.nil_append, List.map_nil, Array.empty_append] at hg
        exact ⟨_, _, hr, by simpa using hg.1, hg.2, fun h => by cases h⟩
    · by_cases hroom : A.length + B.length ≤ cap
      · have hr := run_append_room (P := Try.prog) w 33 ty 5 i0 Try.underlying33 hi g A.length cap cur hg ⟨b, off, none⟩ B.length c (B.map encB) (by rw [hz1]; simp) hc' (ints_oneCell _ _) hroom (by rw [hz1]; simp; omega)
        rw [hz1] at hr
        refine ⟨_, _, hr, ⟨by simp, .inr ⟨g, cap, _, by rw [List.length_append], hbg, setRow_heap w g cur _ 5 _ hg, by rw [List.length_append]; exact hroom, hcm, ?_, ?_⟩⟩, ⟨rfl, rfl, rfl, by simp, fun k _ hk => setRow_other w g k _ (fun e => hk (by simp [Value.ownBlock, e]))⟩, fun h => by cases h⟩
        · simp only [List.size_toArray, List.length_append, List.length_take, List.length_drop, Array.length_toList, List.length_map]
          omega
        · simp only []
          rw [htake, ← List.map_append]
          exact List.take_left' (by simp)
      · have holds : ∀ j u, (A.map encB)[j]? = some u → w.cell? ((⟨g, 0, none⟩ : Addr).add j) = some u := hown.cells (g := g) rfl
        have hr := run_append_grow (P := Try.prog) w 33 ty 5 i0 (.int .u8 0) Try.underlying33 hi hz0 ⟨g, 0, none⟩ A.length cap (A.map encB) (by rw [hz1]; simp) holds ⟨b, off, none⟩ B.length c (B.map encB) (by rw [hz1]; simp) hc' (by omega) (by omega) (by rw [hz2, Nat.mul_one]; exact nsc_le (by omega) hb)
        have hg := grown_new w base hbase A B cap hmax (Value.ownBlock (.slice (some ⟨g, 0, none⟩) A.length cap)) (.int .u8 0) rfl
        rw [List.length_append] at hg
        exact ⟨_, _, hr, by rw [List.length_append]; exact hg.1, hg.2, fun h => by cases h⟩

theorem wpList_apps {ops : Array Oper} {rest : List Oper} {o : Oper} {a : Act} {Q : Exit → Act → World → Prop} (w : World) (hgd : o.guard = none) (sl x : Operand)
    (ho : o.op = .call { callee := .builtin .append, args := #[sl, x], argTypes := #[33, 33] })
    (base : Nat) (v s : Value) (A B : List Int) (hv : a.eval sl = v) (hx : a.eval x = s) (hown : w.ownsRow base 5 1 v A.length (A.map encB)) (hs : Src w s B) (hb : A.length + B.length ≤ 225000000000000) (hbase : base ≤ w.heap.size)
    (h : ∀ v' w', Apps w w' base v v' A B → wpList Try.prog ops Q rest (a.put o.dst v') w') : wpList Try.prog ops Q (o :: rest) a w := by
  refine wpList_plain hgd fun K hK => ?_
  obtain ⟨v', w', hr, h2⟩ := run_apps w base o.type v s A B hown hs hb hbase
  unfold Oper.wp execOp
  simp only [ho, resolve, invoke, builtin, Sem.run_bind, Sem.run_pure, Result.andThen_ok, List.map_toArray, List.map_cons, List.map_nil, hv, hx, hr]
  exact hK _ _ (h v' w' h2)

theorem step_apps {ops : Array Oper} {o : Oper} {a : Act} {w : World} {K : Act → World → Prop} {Q : Exit → Act → World → Prop} {E : Prop}
    (hg : o.guard = none) (sl x : Operand) (hop : o.op = Op.call { callee := Callee.builtin Builtin.append, args := #[sl, x], argTypes := #[33, 33] })
    (base : Nat) (v s : Value) (A B : List Int) (hv : a.eval sl = v) (hx : a.eval x = s) (hown : w.ownsRow base 5 1 v A.length (A.map encB)) (hs : Src w s B) (hb : A.length + B.length ≤ 225000000000000) (hbase : base ≤ w.heap.size)
    (hK : ∀ v' w', Apps w w' base v v' A B → K (a.put o.dst v') w') :
    if Region.wanted o (yielded ops a.tmps) = true then Oper.wp Try.prog o a w K Q else E := by
  have hw : Region.wanted o (yielded ops a.tmps) = true := by simp [Region.wanted, hg]
  rw [if_pos hw]
  obtain ⟨v', w', hr, h2⟩ := run_apps w base o.type v s A B hown hs hb hbase
  unfold Oper.wp
  simp [execOp, hop, resolve, invoke, builtin, hv, hx, hr, Result.andThen]
  exact hK v' w' h2
end Go.Proofs.Ytanbnefdodkniaa
