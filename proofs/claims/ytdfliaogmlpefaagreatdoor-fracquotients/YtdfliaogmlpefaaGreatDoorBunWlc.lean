/-
  The walk over WholeLists.
  FracQuotients: what its walk asks of the calls, and what it stands on.
  FracQuotients: its walk.
  FracQuotients of any fraction, any list, any number.
-/
import Derived.Test.YtdfliaogmlpefaaGreatDoorBunWla
import Derived.Test.YtdfliaogmlpefaaGreatDoorBunPrg
import Derived.Test.YtdfliaogmlpefaaGreatDoorBunGcl
import Derived.Test.YtdfliaogmlpefaaGreatDoorRgc
import Derived.RangeFuncFrom
import Derived.RangeFuncNested
import Derived.RangeFuncBound
import Derived.RangeFuncCalls
import Derived.RangeFuncLeaves
import Derived.RangeFuncBox
import Derived.Shelf.Abstract
import Derived.Shelf.RegionOpen
import Derived.OwnWalkIn
import Derived.TacticsInMore
import Derived.LoopNIn
import Derived.LoopIn
import Derived.Test.YtdfliaogmlpefaaGreatDoorBunWka
import Derived.Test.YtdfliaogmlpefaaGreatDoorBunBak
import Derived.Test.YtdfliaogmlpefaaGreatDoorBunRfl
import Derived.Sort.CutIn
import Derived.BigRegionIn
import Derived.Test.YtdfliaogmlpefaaGreatDoorBunBwh
import Derived.Deep.CutBlock
import Derived.Test.YtdfliaogmlpefaaGreatDoorQlb
namespace Go.Proofs.YtdfliaogmlpefaaGreatDoor
open Go.RowKit Go.Lib Go.Sort
set_option linter.unusedVariables false
set_option maxHeartbeats 16000000
set_option maxRecDepth 1000000
abbrev mark : ByteArray := ⟨#[109, 97, 114, 107]⟩
theorem own_copy {w : World} {base : Nat} {v : Value} {l : List (Bool × ByteArray)} {n : Nat} (hn : l.length = n) (h : w.ownsRow base 23 2 v (l.length + 1) (cellsW (l ++ [(false, mark)]))) :
    ∃ g cap, v = .slice (some ⟨g, 0, none⟩) (n + 1) cap ∧ base ≤ g ∧ n + 1 ≤ cap ∧ cap ≤ maxLen ∧ (∀ i p, l[i]? = some p → w.cell? ⟨g, i * 2, none⟩ = some (.bool p.1) ∧ w.cell? ⟨g, i * 2 + 1, none⟩ = some (.string p.2)) ∧ w.cell? ⟨g, n * 2 + 1, none⟩ = some (.string mark) := by
  rw [hn] at h
  obtain ⟨g, cap, rfl, h1, h2, h3, h4⟩ := own_form h (by omega)
  refine ⟨g, cap, rfl, h1, h3, h4, fun i p hp => own_wholes h i p (by rw [List.getElem?_append_left (List.getElem?_eq_some_iff.1 hp).1]; exact hp), ?_⟩
  exact (own_wholes h n (false, mark) (by rw [← hn]; simp)).2
theorem mark_cells (w : World) : ∀ i p, [(false, mark)][i]? = some p → (w.alloc (.cells #[.bool false, .string mark] 23)).cell? ⟨w.heap.size, 0 + i * 2, none⟩ = some (.bool p.1) ∧ (w.alloc (.cells #[.bool false, .string mark] 23)).cell? ⟨w.heap.size, 0 + i * 2 + 1, none⟩ = some (.string p.2) := by
  have h := heap_alloc_new w (.cells #[.bool false, .string mark] 23)
  intro i p hp
  simp only [World.cell?, h]
  match i, hp with
  | 0, hp => cases hp; exact ⟨rfl, rfl⟩
end Go.Proofs.YtdfliaogmlpefaaGreatDoor
namespace Go.Proofs.YtdfliaogmlpefaaGreatDoor
open Go.RowKit Go.Lib Go.Sort Go.Shelf
set_option linter.unusedVariables false
attribute [local go_sem] Oper.semAt_some
set_option maxHeartbeats 16000000
set_option maxRecDepth 1000000
structure QlH (n d : Bool) (s t : ByteArray) (ql : List Int) (Z : Nat → Bool × ByteArray) (mb : Bool) : Prop where
  may : ∀ w, Calls Tryz.prog 11 #[frac n s d t] w fun e w' => e = .returned (.bool mb) ∧ w.grownBy w' none
  quo : mb = true → ∀ w, Calls Tryz.prog 32 #[frac n s d t, .int .i64 2000] w fun e w' => ∃ v, e = .returned v ∧ RowW w' (w.heap.size + 1) v (firstZ Z ql.length) ∧ w.grownBy w' none
  nil : mb = false → ql = []
  hands : ∀ (N9 : Nat) (b : Bool) (m Bx B : Nat) (I : Nat × Option Nat → World → Prop), N9 ≤ ql.length → (b = false → 1 ≤ N9) → (b = true → N9 = ql.length) → 1 ≤ m → (∀ p W, I p W → QBlk W Bx (.bool n) (.string s) (.bool d) (.string t)) →
    HandsG Fence.wide m Tryz.prog 79 #[.pointer (some ⟨Bx, 0, none⟩)] (fun i => #[whole (Z i).1 (Z i).2]) N9 b B I
  len : ql.length ≤ 1300
theorem hands_none {F : Fence} {n : Nat} {P : Program} {gf : Nat} {lb : Array Value} {encs : Nat → Array Value} {B : Nat} {I : Nat × Option Nat → World → Prop} (h : HandsNone F n P gf lb (fun t W => ∃ o, I (t, o) W)) : HandsG F n P gf lb encs 0 true B I := by
  intro l J hJI hJg _ _ o W _ _ hJ
  refine (h l (fun t W => ∃ o, J t o W) (fun t W ⟨o, hj⟩ => ⟨o, hJI t o W hj⟩) (fun t W W' ⟨o, hj⟩ hg => ⟨o, hJg t o W W' hj hg⟩) W ⟨o, hJ⟩).mono ?_
  rintro e W' ⟨hv, o', h1⟩
  exact ⟨hv, o', h1⟩
structure QlS (w W : World) (n d : Bool) (s t : ByteArray) (lv : Int) (v : Value) (A : List (Bool × ByteArray)) (YB WB : Nat) : Prop where
  x : QBlk W w.heap.size (.bool n) (.string s) (.bool d) (.string t)
  lb : W.heap[w.heap.size + 1]? = some (.cells #[.int .i64 lv] 3 (0, 0))
  rb : W.heap[w.heap.size + 1 + 1]? = some (.cells #[.bool false] 4 (0, 0))
  wb : W.heap[WB]? = some (.cells #[v] 48 (0, 0))
  y : QBlk W YB (.bool n) (.string s) (.bool d) (.string t)
  row : RowW W (WB + 1) v A
  ob : ∀ g, v.ownBlock = some g → WB < g ∧ g < YB
  l1 : w.heap.size + 1 + 1 < WB
  l2 : WB < YB
  g : w.grownBy W none
theorem QlS.kept {w W W' : World} {n d : Bool} {s t : ByteArray} {lv : Int} {v : Value} {A : List (Bool × ByteArray)} {YB WB : Nat} (h : QlS w W n d s t lv v A YB WB) {row : Option Nat} (hg : W.grownBy W' row) (hr : ∀ r, row = some r → YB < r) : QlS w W' n d s t lv v A YB WB := by
  have l1 := h.l1
  have l2 := h.l2
  have nb : ∀ i o, i ≤ YB → W.heap[i]? = some o → W'.heap[i]? = some o := fun i o hi hh => (hg.block i (Array.getElem?_eq_some_iff.1 hh).1 (fun e => by have := hr i e.symm; omega)).trans hh
  refine ⟨nb _ _ (by omega) h.x, nb _ _ (by omega) h.lb, nb _ _ (by omega) h.rb, nb _ _ (by omega) h.wb, nb _ _ (Nat.le_refl _) h.y, h.row.kept hg ?_, h.ob, l1, l2, ?_⟩
  · cases hb : v.ownBlock with
    | none => exact .inl rfl
    | some g => exact .inr (fun e => by have := h.ob g hb; have := hr g e.symm; omega)
  · have g := h.g
    exact ⟨hg.os.trans g.os, hg.tape.trans g.tape, hg.output.trans g.output, Nat.le_trans g.size hg.size, fun i hi hn => (hg.block i (Nat.lt_of_lt_of_le hi g.size) (fun e => by have := hr i e.symm; omega)).trans (g.block i hi hn)⟩
def dfs (Dl : List Nat) : List Deferred := Dl.map fun D => { target := .collected D, args := #[] }
structure DfS (W : World) (B : Nat) (Dl : List Nat) : Prop where
  at_ : ∀ D ∈ Dl, B < D ∧ W.heap[D]? = some (.deferred (some []))
  nd : Dl.Nodup
theorem DfS.kept {W W' : World} {B : Nat} {Dl : List Nat} (h : DfS W B Dl) {row : Option Nat} (hg : W.grownBy W' row) (hr : ∀ r, row = some r → r ∉ Dl) : DfS W' B Dl :=
  ⟨fun D hD => ⟨(h.at_ D hD).1, (hg.block D (Array.getElem?_eq_some_iff.1 (h.at_ D hD).2).1 (fun e => hr D e.symm hD)).trans (h.at_ D hD).2⟩, h.nd⟩
def rgI (w : World) (n d : Bool) (s t : ByteArray) (lv : Int) (v : Value) (A : List (Bool × ByteArray)) (YB WB TB tn KB : Nat) (Dl : List Nat) (N9 : Nat) (p : Nat × Option Nat) (W : World) : Prop :=
  p.2 = none ∧ p.1 ≤ N9 ∧ QlS w W n d s t lv v A YB WB ∧ W.heap[TB]? = some (.cells #[.int .i64 (tn : Int)] 3 (0, 0)) ∧ W.heap[KB]? = some (.cells #[.int .i64 (p.1 : Int)] 3 (0, 0)) ∧ DfS W YB Dl
theorem rgI_own {w : World} {n d : Bool} {s t : ByteArray} {lv : Int} {v : Value} {A : List (Bool × ByteArray)} {YB WB TB tn KB : Nat} {Dl : List Nat} {N9 SB : Nat} (h1 : YB < SB) (h2 : TB < SB) (h3 : KB < SB) (h4 : ∀ D ∈ Dl, D < SB) (p : Nat × Option Nat) (W W' : World) (row : Option Nat) (h : rgI w n d s t lv v A YB WB TB tn KB Dl N9 p W) (hg : W.grownBy W' row) (hr : ∀ r, row = some r → SB ≤ r) : rgI w n d s t lv v A YB WB TB tn KB Dl N9 p W' := by
  obtain ⟨a, b, c, d, e, f⟩ := h
  have nb : ∀ i o, i < SB → W.heap[i]? = some o → W'.heap[i]? = some o := fun i o hi hh => (hg.block i (Array.getElem?_eq_some_iff.1 hh).1 (fun e => by have := hr i e.symm; omega)).trans hh
  exact ⟨a, b, c.kept hg (fun r e => by have := hr r e; omega), nb _ _ h2 d, nb _ _ h3 e, f.kept hg (fun r e hD => by have := hr r e; have := h4 r hD; omega)⟩
theorem rounds_ex (tn qn : Nat) (lv : Int) : ∃ (N9 : Nat) (b : Bool), N9 ≤ qn ∧ (b = false → 1 ≤ N9) ∧ (b = true → N9 = qn) ∧ (∀ k, k < N9 → ((b || decide (k + 1 < N9)) = true ∧ (tn = 0 → ((k : Int) + 1 == lv) = false)) ∨ ((b || decide (k + 1 < N9)) = false ∧ tn = 0 ∧ ((k : Int) + 1 == lv) = true)) ∧ (b = false → tn = 0 ∧ (N9 : Int) = lv) := by
  by_cases h : tn = 0 ∧ 1 ≤ lv ∧ lv ≤ qn
  · obtain ⟨h1, h2, h3⟩ := h
    obtain ⟨m, rfl⟩ : ∃ m : Nat, lv = m := ⟨lv.toNat, by omega⟩
    refine ⟨m, false, by omega, fun _ => by omega, (fun h => by cases h), fun k hk => ?_, fun _ => ⟨h1, rfl⟩⟩
    by_cases e : k + 1 < m
    · left
      refine ⟨by simp [e], fun _ => ?_⟩
      rw [beq_eq_false_iff_ne]; omega
    · right
      refine ⟨by simp [e], h1, ?_⟩
      rw [beq_iff_eq]; omega
  · refine ⟨qn, true, Nat.le_refl _, (fun h => by cases h), fun _ => rfl, fun k hk => .inl ⟨rfl, fun h0 => ?_⟩, (fun h => by cases h)⟩
    rw [beq_eq_false_iff_ne]
    intro e
    exact h ⟨h0, by omega, by omega⟩
theorem res_ql (tmps : Array Value) (w : World) (g : Nat) (b : Bool) (hp : tmps.getD 6 undef = .pointer (some ⟨g, 0, none⟩)) (hg' : w.heap[g]? = some (.cells #[.bool b] 4 (0, 0))) : (results Tryz.f5 tmps).run Tryz.prog w = .ok (.bool b) w := by
  have hp' : tmps[6]?.getD undef = .pointer (some ⟨g, 0, none⟩) := by simpa using hp
  simp [results, hp', asAddr, load_bool w g b hg']
theorem leave_ql (tmps : Array Value) (w : World) (g : Nat) (hp : tmps.getD 6 undef = .pointer (some ⟨g, 0, none⟩)) : ∀ (Dl : List Nat) (X : World), DfS X g Dl → w.heap.size ≤ g → X.heap[g]? = some (.cells #[.bool true] 4 (0, 0)) → w.grownBy X none →
    LeavesInM Fence.wide 5 Tryz.prog Tryz.f5 tmps (fun e w' => e = .returned (.bool true) ∧ w.grownBy w' none) (dfs Dl) .returning X
  | [], X, _, _, hb, hg => ⟨_, res_ql tmps X g true hp hb, rfl, hg⟩
  | D :: Dl, X, hD, hw, hb, hg => by
    obtain ⟨h1, h2⟩ := hD.at_ D (by simp)
    have kD := grownBy_putObj' X D (.deferred none)
    refine ⟨by simp, .inl ⟨D, X.putObj D (.deferred none), rfl, run_takeDeferred h2, ?_⟩⟩
    have hnd := hD.nd
    rw [List.nodup_cons] at hnd
    refine leave_ql tmps w g hp Dl _ ⟨fun D' hD' => ⟨(hD.at_ D' (by simp [hD'])).1, ?_⟩, hnd.2⟩ hw ?_ ?_
    · have h3 := (hD.at_ D' (by simp [hD'])).2
      refine (kD.block D' (Array.getElem?_eq_some_iff.1 h3).1 (fun e => ?_)).trans h3
      injection e with e
      subst e
      exact hnd.1 hD'
    · exact (kD.block g (Array.getElem?_eq_some_iff.1 hb).1 (by intro e; injection e with e; omega)).trans hb
    · exact ⟨kD.os.trans hg.os, kD.tape.trans hg.tape, kD.output.trans hg.output, Nat.le_trans hg.size kD.size, fun i hi hn => (kD.block i (Nat.lt_of_lt_of_le hi hg.size) (by intro e; injection e with e; omega)).trans (hg.block i hi hn)⟩
def zL (L : List (Bool × ByteArray)) (q : Nat) : Bool × ByteArray := L.getD q (false, eS)
theorem zL_at {L : List (Bool × ByteArray)} {q : Nat} {p : Bool × ByteArray} (h : L[q]? = some p) : zL L q = p := by simp [zL, h]
theorem mkA_ex (L : List (Bool × ByteArray)) (hc : ∀ (j : Nat) (p : Bool × ByteArray), L[j]? = some p → p.2.size ≤ 200 ∨ 16384 < p.2.size) (hn : L.length ≤ 200 ∨ 4096 < L.length) : ∃ (v0 : Bool) (v1 : ByteArray) (v2 : Bool) (v3 : ByteArray) (ev : Int), MkA (zL L) L.length (.tuple #[frac v0 v1 v2 v3, .int .i64 ev]) := by
  rcases Nat.eq_zero_or_pos L.length with h0 | h0
  · exact ⟨_, _, _, _, _, .nil h0⟩
  by_cases ha : ∀ i, i < L.length → may (zL L i).1 (zL L i).2 = true
  · rcases hn with hn | hn
    · obtain ⟨v0, v1, v2, v3, ev, hv⟩ : ∃ v0 v1 v2 v3 ev, mkV (mkS (L.map fun p => num p.1 p.2)) = .tuple #[frac v0 v1 v2 v3, .int .i64 ev] := by
        cases mkS (L.map fun p => num p.1 p.2) with
        | ok a b => exact ⟨_, _, _, _, _, rfl⟩
        | no e => exact ⟨_, _, _, _, _, rfl⟩
      refine ⟨v0, v1, v2, v3, ev, ?_⟩
      rw [← hv]
      refine .made _ (by simp) h0 (by omega) (fun i q hq => ?_)
      rw [List.getElem?_map] at hq
      cases hp : L[i]? with
      | none => rw [hp] at hq; cases hq
      | some p =>
        rw [hp] at hq
        cases hq
        have h1 := ha i (by have := (List.getElem?_eq_some_iff.1 hp).1; exact this)
        rw [zL_at hp] at h1 ⊢
        have h2 := may_size h1
        rcases hc i p hp with h3 | h3
        · exact may_sz h1 h3
        · omega
    · exact ⟨_, _, _, _, _, .long ha hn⟩
  · obtain ⟨i, hi⟩ := Classical.not_forall.1 ha
    obtain ⟨h1, h2⟩ := Classical.not_imp.1 hi
    exact ⟨_, _, _, _, _, .bad i h1 (by simpa using h2)⟩
theorem run_append_wholesB (w : World) (base : Nat) (ty : TypeId) (v : Value) (A : List (Bool × ByteArray)) (h : RowW w base v A) (ao : Option Addr) (n c : Nat) (l : List (Bool × ByteArray)) (hx0 : ao = none → c = 0) (hsrc : SrcW w ao n l) (hl : (A.length + n) * 24 ≤ 140737488355328) (hb : base ≤ w.heap.size) :
    ∃ v' w', (Builtin.append_ #[48, 48] ty #[v, .slice ao n c]).run Tryz.prog w = .ok v' w' ∧ RowW w' base v' (A ++ l) ∧ w.grownBy w' v.ownBlock := by
  obtain ⟨i1, hi, hz0, hz1, hz2⟩ := info_parts Tryz.infoW
  obtain ⟨hn, hc⟩ := hsrc
  have fin : ∀ (ad : Addr), (∀ j u, (cellsW l)[j]? = some u → w.cell? (ad.add j) = some u) → ∃ v' w', (Builtin.append_ #[48, 48] ty #[v, .slice (some ad) n c]).run Tryz.prog w = .ok v' w' ∧ RowW w' base v' (A ++ l) ∧ w.grownBy w' v.ownBlock := by
    intro ad hcc
    obtain ⟨v', w', hr, ho, hg, _⟩ := run_append_own (P := Tryz.prog) w base 48 ty 23 i1 (.agg #[.bool false, .string ⟨#[]⟩]) 2 24 Tryz.underlying48 hi hz0 hz1 hz2 rfl (by decide) v A.length _ h ad n c (cellsW l) (by rw [cellsW_len, hn]) hcc (cellsW_one l) (by unfold maxLen; omega) hl hb
    refine ⟨v', w', hr, ?_, hg⟩
    unfold RowW
    rw [cellsW_append, List.length_append, hn]
    exact ho
  rcases hc with rfl | ⟨B, off, rfl, hc⟩
  · obtain rfl := List.length_eq_zero_iff.1 hn
    cases ao with
    | some ad => exact fin ad (by intro j u hu; simp [cellsW] at hu)
    | none =>
      obtain rfl := hx0 rfl
      exact ⟨v, w, run_append_owned_none (P := Tryz.prog) (w := w) base 48 ty 23 i1 2 Tryz.underlying48 hi v A.length _ h, by rw [List.append_nil]; exact h, World.grownBy.refl _ _⟩
  · exact fin _ (cells_wholes hc)
theorem wpListIn_append_wholesB {F : Fence} {n0 : Nat} {w : World} {ops : Array Oper} {rest : List Oper} {o : Oper} {a : Act} {Q : Exit → Act → World → Prop} (hgd : o.guard = none) (s x : Operand)
    (ho : o.op = .call { callee := .builtin .append, args := #[s, x], argTypes := #[48, 48] })
    (base : Nat) (v : Value) (A : List (Bool × ByteArray)) (hs : a.eval s = v) (hR : RowW w base v A) (ao : Option Addr) (n c : Nat) (l : List (Bool × ByteArray)) (hx : a.eval x = .slice ao n c) (hx0 : ao = none → c = 0) (hsrc : SrcW w ao n l) (hl : (A.length + n) * 24 ≤ 140737488355328) (hb : base ≤ w.heap.size)
    (h : ∀ v' w', RowW w' base v' (A ++ l) → w.grownBy w' v.ownBlock → wpListIn F n0 Tryz.prog ops Q rest (a.put o.dst v') w') : wpListIn F n0 Tryz.prog ops Q (o :: rest) a w := by
  refine wpListIn_plain hgd fun K hK' => ?_
  obtain ⟨v', w', hrun, r1, r2⟩ := run_append_wholesB w base o.type v A hR ao n c l hx0 hsrc hl hb
  unfold Oper.wpIn
  refine ⟨?_, ?_⟩
  · simp [Oper.about, ho, resolve, Target.leads, Sem.run_pure]
  · rw [Oper.semAt_plain F _ _ (by rw [ho]; intro c hc'; cases hc')]
    simp [execOp, ho, resolve, invoke, builtin, hs, hx, hrun, Result.andThen]
    exact hK' _ _ (h v' w' r1 r2)
end Go.Proofs.YtdfliaogmlpefaaGreatDoor
namespace Go.Proofs.YtdfliaogmlpefaaGreatDoor
open Go.RowKit Go.Lib Go.Sort Go.Shelf
set_option linter.unusedVariables false
attribute [local go_sem] Oper.semAt_some
set_option maxHeartbeats 16000000
set_option maxRecDepth 1000000
theorem arr168 (tm : Array Value) (h : tm.size = 168) : tm = #[tm.getD 0 undef, tm.getD 1 undef, tm.getD 2 undef, tm.getD 3 undef, tm.getD 4 undef, tm.getD 5 undef, tm.getD 6 undef, tm.getD 7 undef, tm.getD 8 undef, tm.getD 9 undef, tm.getD 10 undef, tm.getD 11 undef, tm.getD 12 undef, tm.getD 13 undef, tm.getD 14 undef, tm.getD 15 undef, tm.getD 16 undef, tm.getD 17 undef, tm.getD 18 undef, tm.getD 19 undef, tm.getD 20 undef, tm.getD 21 undef, tm.getD 22 undef, tm.getD 23 undef, tm.getD 24 undef, tm.getD 25 undef, tm.getD 26 undef, tm.getD 27 undef, tm.getD 28 undef, tm.getD 29 undef, tm.getD 30 undef, tm.getD 31 undef, tm.getD 32 undef, tm.getD 33 undef, tm.getD 34 undef, tm.getD 35 undef, tm.getD 36 undef, tm.getD 37 undef, tm.getD 38 undef, tm.getD 39 undef, tm.getD 40 undef, tm.getD 41 undef, tm.getD 42 undef, tm.getD 43 undef, tm.getD 44 undef, tm.getD 45 undef, tm.getD 46 undef, tm.getD 47 undef, tm.getD 48 undef, tm.getD 49 undef, tm.getD 50 undef, tm.getD 51 undef, tm.getD 52 undef, tm.getD 53 undef, tm.getD 54 undef, tm.getD 55 undef, tm.getD 56 undef, tm.getD 57 undef, tm.getD 58 undef, tm.getD 59 undef, tm.getD 60 undef, tm.getD 61 undef, tm.getD 62 undef, tm.getD 63 undef, tm.getD 64 undef, tm.getD 65 undef, tm.getD 66 undef, tm.getD 67 undef, tm.getD 68 undef, tm.getD 69 undef, tm.getD 70 undef, tm.getD 71 undef, tm.getD 72 undef, tm.getD 73 undef, tm.getD 74 undef, tm.getD 75 undef, tm.getD 76 undef, tm.getD 77 undef, tm.getD 78 undef, tm.getD 79 undef, tm.getD 80 undef, tm.getD 81 undef, tm.getD 82 undef, tm.getD 83 undef, tm.getD 84 undef, tm.getD 85 undef, tm.getD 86 undef, tm.getD 87 undef, tm.getD 88 undef, tm.getD 89 undef, tm.getD 90 undef, tm.getD 91 undef, tm.getD 92 undef, tm.getD 93 undef, tm.getD 94 undef, tm.getD 95 undef, tm.getD 96 undef, tm.getD 97 undef, tm.getD 98 undef, tm.getD 99 undef, tm.getD 100 undef, tm.getD 101 undef, tm.getD 102 undef, tm.getD 103 undef, tm.getD 104 undef, tm.getD 105 undef, tm.getD 106 undef, tm.getD 107 undef, tm.getD 108 undef, tm.getD 109 undef, tm.getD 110 undef, tm.getD 111 undef, tm.getD 112 undef, tm.getD 113 undef, tm.getD 114 undef, tm.getD 115 undef, tm.getD 116 undef, tm.getD 117 undef, tm.getD 118 undef, tm.getD 119 undef, tm.getD 120 undef, tm.getD 121 undef, tm.getD 122 undef, tm.getD 123 undef, tm.getD 124 undef, tm.getD 125 undef, tm.getD 126 undef, tm.getD 127 undef, tm.getD 128 undef, tm.getD 129 undef, tm.getD 130 undef, tm.getD 131 undef, tm.getD 132 undef, tm.getD 133 undef, tm.getD 134 undef, tm.getD 135 undef, tm.getD 136 undef, tm.getD 137 undef, tm.getD 138 undef, tm.getD 139 undef, tm.getD 140 undef, tm.getD 141 undef, tm.getD 142 undef, tm.getD 143 undef, tm.getD 144 undef, tm.getD 145 undef, tm.getD 146 undef, tm.getD 147 undef, tm.getD 148 undef, tm.getD 149 undef, tm.getD 150 undef, tm.getD 151 undef, tm.getD 152 undef, tm.getD 153 undef, tm.getD 154 undef, tm.getD 155 undef, tm.getD 156 undef, tm.getD 157 undef, tm.getD 158 undef, tm.getD 159 undef, tm.getD 160 undef, tm.getD 161 undef, tm.getD 162 undef, tm.getD 163 undef, tm.getD 164 undef, tm.getD 165 undef, tm.getD 166 undef, tm.getD 167 undef] := by
  apply Array.toList_inj.1
  have e : tm.toList = (List.range 168).map (fun k => tm.getD k undef) := by
    apply List.ext_getElem
    · rw [List.length_map, List.length_range, Array.length_toList]; exact h
    · intro k h1 h2
      rw [List.getElem_map, List.getElem_range, Array.getElem_toList]
      rw [Array.length_toList] at h1
      simp [Array.getD, h1]
  rw [e]
  rfl
def FrQ (tm : Array Value) (n d : Bool) (s t : ByteArray) (ao : Option Addr) (i cp : Nat) (lv : Int) (X WB YB TB : Nat) : Prop :=
  tm.size = 168 ∧ tm.getD 0 undef = frac n s d t ∧ tm.getD 1 undef = .slice ao i cp ∧ tm.getD 2 undef = .int .i64 lv ∧ tm.getD 3 undef = .pointer (some ⟨X, 0, none⟩) ∧ tm.getD 5 undef = .pointer (some ⟨X + 1, 0, none⟩) ∧ tm.getD 6 undef = .pointer (some ⟨X + 1 + 1, 0, none⟩) ∧ tm.getD 8 undef = .pointer (some ⟨WB, 0, none⟩) ∧ tm.getD 9 undef = .func (.func 79) #[] #[.pointer (some ⟨YB, 0, none⟩)] ∧ tm.getD 10 undef = .pointer (some ⟨TB, 0, none⟩)
theorem FrQ.is {tm : Array Value} {n d : Bool} {s t : ByteArray} {ao : Option Addr} {i cp : Nat} {lv : Int} {X WB YB TB : Nat} (h : FrQ tm n d s t ao i cp lv X WB YB TB) : ∃ u : Nat → Value, tm = #[frac n s d t, .slice ao i cp, .int .i64 lv, .pointer (some ⟨X, 0, none⟩), u 4, .pointer (some ⟨X + 1, 0, none⟩), .pointer (some ⟨X + 1 + 1, 0, none⟩), u 7, .pointer (some ⟨WB, 0, none⟩), .func (.func 79) #[] #[.pointer (some ⟨YB, 0, none⟩)], .pointer (some ⟨TB, 0, none⟩), u 11, u 12, u 13, u 14, u 15, u 16, u 17, u 18, u 19, u 20, u 21, u 22, u 23, u 24, u 25, u 26, u 27, u 28, u 29, u 30, u 31, u 32, u 33, u 34, u 35, u 36, u 37, u 38, u 39, u 40, u 41, u 42, u 43, u 44, u 45, u 46, u 47, u 48, u 49, u 50, u 51, u 52, u 53, u 54, u 55, u 56, u 57, u 58, u 59, u 60, u 61, u 62, u 63, u 64, u 65, u 66, u 67, u 68, u 69, u 70, u 71, u 72, u 73, u 74, u 75, u 76, u 77, u 78, u 79, u 80, u 81, u 82, u 83, u 84, u 85, u 86, u 87, u 88, u 89, u 90, u 91, u 92, u 93, u 94, u 95, u 96, u 97, u 98, u 99, u 100, u 101, u 102, u 103, u 104, u 105, u 106, u 107, u 108, u 109, u 110, u 111, u 112, u 113, u 114, u 115, u 116, u 117, u 118, u 119, u 120, u 121, u 122, u 123, u 124, u 125, u 126, u 127, u 128, u 129, u 130, u 131, u 132, u 133, u 134, u 135, u 136, u 137, u 138, u 139, u 140, u 141, u 142, u 143, u 144, u 145, u 146, u 147, u 148, u 149, u 150, u 151, u 152, u 153, u 154, u 155, u 156, u 157, u 158, u 159, u 160, u 161, u 162, u 163, u 164, u 165, u 166, u 167] := by
  obtain ⟨h0, h1, h2, h3, h4, h5, h6, h7, h8, h9⟩ := h
  refine ⟨fun k => tm.getD k undef, (arr168 tm h0).trans ?_⟩
  rw [h1, h2, h3, h4, h5, h6, h7, h8, h9]
theorem quot_law (n d : Bool) (s t : ByteArray) (ql : List Int) (Z : Nat → Bool × ByteArray) (mb : Bool) (hH : QlH n d s t ql Z mb) (ao : Option Addr) (nl cp : Nat) (L : List (Bool × ByteArray)) (lv : Int) (w : World)
    (hS : SrcW w ao nl L) (hcp : nl ≤ cp) (hx0 : ao = none → cp = 0) (hnb : (nl + 1) * 24 ≤ 140737488355328) (hsz : ∀ p ∈ L, p.2.size ≤ maxLen) (hnl : nl ≤ 200 ∨ 4096 < nl)
    (HL : Hid (∀ (W : World) (B : Nat), W.heap[B]? = some (.cells #[.bool n, .string s, .bool d, .string t] 25 (0, 0)) → Calls Tryz.prog 9 #[.int .i64 100, .slice (some ⟨B, 0, none⟩) 1 1] W fun e w' => e = .returned (.bool false) ∧ W.grownBy w' none))
    (HK : Hid (∀ W, w.grownBy W none → Calls Tryz.prog 10 #[] W fun e w' => e = .returned (.bool true) ∧ W.grownBy w' none)) :
    Calls Tryz.prog 5 #[frac n s d t, .slice ao nl cp, .int .i64 lv] w fun e w' => e = .returned (.bool true) ∧ w.grownBy w' none := by
  have HH : Hid (QlH n d s t ql Z mb) := hH
  have HS : Hid (SrcW w ao nl L) := hS
  have HNL : Hid (nl ≤ cp ∧ (ao = none → cp = 0) ∧ (nl + 1) * 24 ≤ 140737488355328 ∧ (∀ p ∈ L, p.2.size ≤ maxLen)) := ⟨hcp, hx0, hnb, hsz⟩
  have hnlI : (nl : Int) ≤ 10000000000000 := by omega
  have hcpI : (nl : Int) ≤ cp := by omega
  have HA0 : Hid (∀ w', (((w.alloc (qObj n s d t)).alloc (.cells #[.int .i64 lv] 3)).alloc (.cells #[.bool false] 4)).grownBy w' none → QBlk w' w.heap.size (.bool n) (.string s) (.bool d) (.string t) ∧ w'.heap[w.heap.size + 1]? = some (.cells #[.int .i64 lv] 3 (0, 0)) ∧ w'.heap[w.heap.size + 1 + 1]? = some (.cells #[.bool false] 4 (0, 0)) ∧ w.grownBy w' none) := fun w' hg => by
    refine ⟨QBlk.kept (w := ((w.alloc (qObj n s d t)).alloc (.cells #[.int .i64 lv] 3)).alloc (.cells #[.bool false] 4)) (old_alloc _ _ (old_alloc _ _ (heap_alloc_new _ _))) hg (by simp), ?_, ?_, grownBy_trans (grow3 _ _ _ _) hg⟩
    · exact (hg.block (w.heap.size + 1) (by simp) (by simp)).trans (old_alloc _ _ (heap_alloc2_new _ _ _))
    · exact (hg.block (w.heap.size + 1 + 1) (by simp) (by simp)).trans (at_alloc3 _ _ _ _)
  clear hH hS hcp hx0 hnb hsz
  refine (callsIn_wide (n := 5)).1 ?_
  refine callsIn_of_wp_marks Tryz.func5 rfl trivial ?_ rfl
  simp only [Tryz.ntmps5, List.size_toArray, List.length_cons, List.length_nil, Nat.reduceAdd, Nat.reduceSub, Array.replicate_succ, Array.replicate_zero, List.push_toArray, List.append_toArray, List.nil_append, List.cons_append]
  gi_upto_region 1 with fail
  gi_cut [31] from 19 (fun s31 wx => s31 = .bool false ∧ (((w.alloc (qObj n s d t)).alloc (.cells #[.int .i64 lv] 3)).alloc (.cells #[.bool false] 4)).grownBy wx none)
  case first =>
    gi_wp2
    refine ⟨trivial, ?_⟩
    refine (callsIn_wide.2 (HL.out _ _ ?hb)).mono ?_
    case hb => exact at_alloc4 _ _ _ _ _
    rintro e w1 ⟨rfl, g1⟩
    have G1 : Hid ((((w.alloc (qObj n s d t)).alloc (.cells #[.int .i64 lv] 3)).alloc (.cells #[.bool false] 4)).grownBy w1 none) := grownBy_trans (grow1 _ _) g1
    clear g1
    rcases hnl with h | h
    · have h1 : (nl : Int) ≤ 200 := by omega
      clear h
      gi_wp2
      gi_meet
      case rel => exact ⟨rfl, G1.out⟩
    · have h1 : (4097 : Int) ≤ nl := by omega
      clear h
      gi_wp2
      gi_meet
      case rel => exact ⟨by rw [decide_eq_false (by omega)], G1.out⟩
  case rest =>
    obtain ⟨rfl, hg⟩ := hcut
    have G1 : Hid ((((w.alloc (qObj n s d t)).alloc (.cells #[.int .i64 lv] 3)).alloc (.cells #[.bool false] 4)).grownBy wc none) := hg
    clear hg HL
    have HNl : Hid (nl ≤ 200 ∨ 4096 < nl) := hnl
    clear hnl
    gi_wp2
    gi_loopg [7] nl (fun g s7 wx => ∃ i : Nat, s7 = .int .i64 (i : Int) ∧ i + g = nl ∧ (((w.alloc (qObj n s d t)).alloc (.cells #[.int .i64 lv] 3)).alloc (.cells #[.bool false] 4)).grownBy wx none ∧ ∀ j p, j < i → L[j]? = some p → p.2.size ≤ 200 ∨ 16384 < p.2.size)
    case atStart => exact ⟨0, rfl, by omega, G1.out, fun j p hj => by omega⟩
    case round =>
      obtain ⟨i, rfl, hig, hg, hal⟩ := hrel
      have HG : Hid ((((w.alloc (qObj n s d t)).alloc (.cells #[.int .i64 lv] 3)).alloc (.cells #[.bool false] 4)).grownBy wr none) := hg
      have HAl : Hid (∀ j p, j < i → L[j]? = some p → p.2.size ≤ 200 ∨ 16384 < p.2.size) := hal
      clear hg hal G1
      cases gk with
      | succ g =>
        have hiN : i < nl := by omega
        have hiI : (i : Int) < (nl : Int) := by omega
        have HIg : Hid (i + (g + 1) = nl) := hig
        obtain ⟨hLl, hcs⟩ := HS.out
        rcases hcs with h0 | ⟨B, off, rfl, hcs⟩
        · omega
        obtain ⟨p, hp⟩ : ∃ p, L[i]? = some p := ⟨L[i]'(by omega), List.getElem?_eq_getElem _⟩
        have c1 := grownBy_cell (HA0.out _ HG.out).2.2.2 (hcs i p hp).2 (by simp)
        have HP : Hid (L[i]? = some p) := hp
        have hpz : (p.2.size : Int) ≤ 9223372036854775807 := by
          have := HNL.out.2.2.2 p (List.mem_of_getElem? hp)
          unfold maxLen at this
          omega
        have HW : Hid (w.grownBy wr none) := (HA0.out _ HG.out).2.2.2
        have hRB := (HA0.out _ HG.out).2.2.1
        have r0 : wr.cell? ⟨w.heap.size + 1 + 1, 0, none⟩ = some (.bool false) := by simp [World.cell?, hRB]
        have r1 : wr.frozen? ⟨w.heap.size + 1 + 1, 0, none⟩ = false := by simp [World.frozen?, hRB]
        have HRB : Hid (wr.heap[w.heap.size + 1 + 1]? = some (.cells #[.bool false] 4 (0, 0))) := hRB
        clear hp hcs hig hRB hLl
        rcases Nat.lt_or_ge 200 p.2.size with h2 | h2
        · rcases Nat.lt_or_ge 16384 p.2.size with h3 | h3
          · have h4 : (16385 : Int) ≤ p.2.size := by omega
            have HAl2 : Hid (∀ j p, j < i + 1 → L[j]? = some p → p.2.size ≤ 200 ∨ 16384 < p.2.size) := fun j p' hj hp' => by
              rcases Nat.lt_or_eq_of_le (Nat.le_of_lt_succ hj) with h | h
              · exact HAl.out j p' h hp'
              · subst h
                rw [HP.out] at hp'
                cases hp'
                exact .inr h3
            clear h2 h3 HAl
            gi_wp2
            gi_roundg g
            case measure => omega
            case rel => exact ⟨i + 1, rfl, by have := HIg.out; omega, HG.out, HAl2.out⟩
          · have h4 : (201 : Int) ≤ p.2.size := by omega
            have h5 : (p.2.size : Int) ≤ 16384 := by omega
            clear h2 h3
            gi_wp2
            refine ⟨trivial, ?_⟩
            refine (callsIn_wide.2 (HK.out _ HW.out)).mono ?_
            rintro e w3 ⟨rfl, g3⟩
            have hR3 := (g3.block _ (Array.getElem?_eq_some_iff.1 HRB.out).1 (by simp)).trans HRB.out
            have s0 : w3.cell? ⟨w.heap.size + 1 + 1, 0, none⟩ = some (.bool false) := by simp [World.cell?, hR3]
            have s1 : w3.frozen? ⟨w.heap.size + 1 + 1, 0, none⟩ = false := by simp [World.frozen?, hR3]
            have HW3 : Hid (w.grownBy w3 none) := grownBy_trans HW.out g3
            have HR3 : Hid (w3.heap[w.heap.size + 1 + 1]? = some (.cells #[.bool false] 4 (0, 0))) := hR3
            clear g3 hR3 r0 r1 c1
            gi_wp2
            refine leave_ql _ w (w.heap.size + 1 + 1) rfl [] _ ⟨(fun D hD => by cases hD), List.nodup_nil⟩ (by omega) ?_ (grown_set HW3.out (by omega))
            simp [World.setCell, Array.getElem?_modify, HR3.out]
        · have h4 : (p.2.size : Int) ≤ 200 := by omega
          have HAl2 : Hid (∀ j p, j < i + 1 → L[j]? = some p → p.2.size ≤ 200 ∨ 16384 < p.2.size) := fun j p' hj hp' => by
            rcases Nat.lt_or_eq_of_le (Nat.le_of_lt_succ hj) with h | h
            · exact HAl.out j p' h hp'
            · subst h
              rw [HP.out] at hp'
              cases hp'
              exact .inl h2
          clear h2 HAl
          gi_wp2
          gi_roundg g
          case measure => omega
          case rel => exact ⟨i + 1, rfl, by have := HIg.out; omega, HG.out, HAl2.out⟩
      | zero =>
        obtain rfl : i = nl := by omega
        clear hig
        have HB8 : Hid (QBlk (wr.alloc (.cells #[.slice none 0 0] 48)) w.heap.size (.bool n) (.string s) (.bool d) (.string t)) := old_alloc _ _ (HA0.out _ HG.out).1
        have x0 := HB8.out.c0
        have x1 := HB8.out.c1
        have x2 := HB8.out.c2
        have x3 := HB8.out.c3
        have HMay : Hid (∀ w, Calls Tryz.prog 11 #[frac n s d t] w fun e w' => e = .returned (.bool mb) ∧ w.grownBy w' none) := HH.out.may
        gi_upto_if 57 with fail
        refine ⟨trivial, ?_⟩
        refine (callsIn_wide.2 (HMay.out _)).mono ?_
        rintro e w2 ⟨rfl, g2⟩
        have HB2 : Hid (∀ w', w2.grownBy w' none → QBlk w' w.heap.size (.bool n) (.string s) (.bool d) (.string t) ∧ w'.heap[w.heap.size + 1]? = some (.cells #[.int .i64 lv] 3 (0, 0)) ∧ w'.heap[w.heap.size + 1 + 1]? = some (.cells #[.bool false] 4 (0, 0)) ∧ w.grownBy w' none ∧ w'.heap[wr.heap.size]? = some (.cells #[.slice none 0 0] 48 (0, 0))) := fun w' hg' => (by
          have hg := grownBy_trans (grownBy_trans HG.out (grow1 wr (.cells #[.slice none 0 0] 48))) (grownBy_trans g2 hg')
          obtain ⟨a, b, c, d⟩ := HA0.out _ hg
          exact ⟨a, b, c, d, ((grownBy_trans g2 hg').block _ (by simp) (by simp)).trans (heap_alloc_new _ _)⟩)
        have HW2 : Hid (wr.heap.size < w2.heap.size ∧ w.heap.size + 1 + 1 < wr.heap.size) := (by
          have h1 := g2.size
          have h2 := HG.out.size
          simp at h1 h2
          exact ⟨by omega, by omega⟩)
        clear g2 x0 x1 x2 x3 HB8
        gi_upto_if 57 with fail
        gi_cut [] from 13 (fun wx => ∃ v, QBlk wx w.heap.size (.bool n) (.string s) (.bool d) (.string t) ∧ wx.heap[w.heap.size + 1]? = some (.cells #[.int .i64 lv] 3 (0, 0)) ∧ wx.heap[w.heap.size + 1 + 1]? = some (.cells #[.bool false] 4 (0, 0)) ∧ w.grownBy wx none ∧ wx.heap[wr.heap.size]? = some (.cells #[v] 48 (0, 0)) ∧ RowW wx (wr.heap.size + 1) v (firstZ Z ql.length))
        case first =>
          cases mb
          · gi_wp2
            gi_meet
            case rel =>
              obtain ⟨a, b, c, d, e⟩ := HB2.out _ (World.grownBy.refl _ _)
              refine ⟨.slice none 0 0, a, b, c, d, e, ?_⟩
              rw [HH.out.nil rfl]
              exact RowW.nil _ _
          · have HQu : Hid (∀ w, Calls Tryz.prog 32 #[frac n s d t, .int .i64 2000] w fun e w' => ∃ v, e = .returned v ∧ RowW w' (w.heap.size + 1) v (firstZ Z ql.length) ∧ w.grownBy w' none) := HH.out.quo rfl
            have hx := (HB2.out _ (World.grownBy.refl _ _)).1
            have x0 := hx.c0
            have x1 := hx.c1
            have x2 := hx.c2
            have x3 := hx.c3
            clear hx
            gi_wp2
            refine ⟨trivial, ?_⟩
            refine (callsIn_wide.2 (HQu.out _)).mono ?_
            rintro e w3 ⟨v, rfl, hrow, g3⟩
            obtain ⟨k1, k2, k3, k4, k5⟩ := HB2.out _ g3
            have hwb : w3.cell? ⟨wr.heap.size, 0, none⟩ = some (.slice none 0 0) := by simp [World.cell?, k5]
            have hwf : w3.frozen? ⟨wr.heap.size, 0, none⟩ = false := by simp [World.frozen?, k5]
            obtain ⟨ao3, cp3, rfl⟩ := hrow.form
            have HF : Hid (QBlk w3 w.heap.size (.bool n) (.string s) (.bool d) (.string t) ∧ w3.heap[w.heap.size + 1]? = some (.cells #[.int .i64 lv] 3 (0, 0)) ∧ w3.heap[w.heap.size + 1 + 1]? = some (.cells #[.bool false] 4 (0, 0)) ∧ w.grownBy w3 none ∧ w3.heap[wr.heap.size]? = some (.cells #[.slice none 0 0] 48 (0, 0)) ∧ RowW w3 (w2.heap.size + 1) (.slice ao3 (firstZ Z ql.length).length cp3) (firstZ Z ql.length)) := ⟨k1, k2, k3, k4, k5, hrow⟩
            clear k1 k2 k3 k4 k5 hrow g3 x0 x1 x2 x3
            generalize (firstZ Z ql.length).length = ln at *
            gi_wp2
            gi_meet
            case rel =>
              obtain ⟨a, b, c, d, e, f⟩ := HF.out
              have hw := HW2.out
              have gS := grownBy_setCell w3 wr.heap.size 0 (.slice ao3 ln cp3)
              have nb : ∀ i o, i ≠ wr.heap.size → w3.heap[i]? = some o → (w3.setCell ⟨wr.heap.size, 0, none⟩ (.slice ao3 ln cp3)).heap[i]? = some o := fun i o hi hh => (gS.block i (Array.getElem?_eq_some_iff.1 hh).1 (by intro e; injection e with e; omega)).trans hh
              refine ⟨.slice ao3 ln cp3, nb _ _ (by omega) a, nb _ _ (by omega) b, nb _ _ (by omega) c, grown_set d (by omega), by simp [World.setCell, Array.getElem?_modify, e], ?_⟩
              have h1 := f.kept gS (.inr (fun e => by have := (f.own _ e).1; omega))
              rcases h1.2 with h2 | ⟨g, cap, cur, h3, h4, h5⟩
              · exact ⟨h1.1, .inl h2⟩
              · exact ⟨h1.1, .inr ⟨g, cap, cur, h3, by omega, h5⟩⟩
        case rest =>
          obtain ⟨v, k1, k2, k3, k4, k5, k6⟩ := hcut
          have HC : Hid (QBlk wc w.heap.size (.bool n) (.string s) (.bool d) (.string t) ∧ wc.heap[w.heap.size + 1]? = some (.cells #[.int .i64 lv] 3 (0, 0)) ∧ wc.heap[w.heap.size + 1 + 1]? = some (.cells #[.bool false] 4 (0, 0)) ∧ w.grownBy wc none ∧ wc.heap[wr.heap.size]? = some (.cells #[v] 48 (0, 0)) ∧ RowW wc (wr.heap.size + 1) v (firstZ Z ql.length)) := ⟨k1, k2, k3, k4, k5, k6⟩
          have x0 := k1.c0
          have x1 := k1.c1
          have x2 := k1.c2
          have x3 := k1.c3
          clear k1 k2 k3 k4 k5 k6
          gi_wp2
          refine ⟨trivial, ?_⟩
          refine (callsIn_wide.2 (quot_any _ _ _ _ _)).mono ?_
          rintro e w5 ⟨rfl, rfl⟩
          have hnf : ∀ (x : Array Value) (W : World), (binOp .eql 51 (.func (.func 79) #[] x) .nilFunc).run Tryz.prog W = .ok (.bool false) W := fun x W => eql_fn_some W 51 Tryz.underlying51 _ _ _
          have HS5 : Hid (QlS w (wc.alloc (qObj n s d t)) n d s t lv v (firstZ Z ql.length) wc.heap.size wr.heap.size) := (by
            obtain ⟨k1, k2, k3, k4, k5, k6⟩ := HC.out
            refine ⟨old_alloc _ _ k1, old_alloc _ _ k2, old_alloc _ _ k3, old_alloc _ _ k5, heap_alloc_new _ _, k6.kept (grow1 wc (qObj n s d t)) (by cases v.ownBlock <;> simp), fun g e => ?_, HW2.out.2, (Array.getElem?_eq_some_iff.1 k5).1, grownBy_trans k4 (grow1 _ _)⟩
            have := k6.own g e
            omega)
          clear HC x0 x1 x2 x3 HA0 HG HB2
          gi_upto_region 14 with fail
          clear hnf
          have HVs : Hid ((wc.alloc (qObj n s d t)).heap.size = wc.heap.size + 1) := (by simp : (wc.alloc (qObj n s d t)).heap.size = wc.heap.size + 1)
          generalize wc.alloc (qObj n s d t) = V at *
          generalize wc.heap.size = YB at *
          generalize wr.heap.size = WB at *
          gi_wp2
          refine wpIn_loop_ghost_k (fun g a W => ∃ (tn TB : Nat) (Dl : List Nat) (tm : Array Value), a = { tmps := tm, defers := dfs Dl } ∧ FrQ tm n d s t ao i cp lv w.heap.size WB YB TB ∧ tn + g = 2 ∧ QlS w W n d s t lv v (firstZ Z ql.length) YB WB ∧ W.heap[TB]? = some (.cells #[.int .i64 (tn : Int)] 3 (0, 0)) ∧ YB < TB ∧ DfS W YB Dl) 2 ?h0 ?round
          case h0 =>
            refine ⟨0, V.heap.size, [], _, rfl, ⟨rfl, rfl, rfl, rfl, rfl, rfl, rfl, rfl, rfl, rfl⟩, rfl, HS5.out.kept (grow1 _ _) (fun r e => by cases e), ?_, by have := HVs.out; omega, ⟨(fun D hD => by cases hD), List.nodup_nil⟩⟩
            exact heap_alloc_new _ _
          case round =>
            clear u13 u14 u15 u16 u17 u18 u19 u20 u21 u22 u23 u24 u25 u26 u27 u28 u29 u30 u31 u32 u33 u34 u35 u36 u37 u38 u39 u40 u41 u42 u43 u44 u45 u46 u47 u48 u49 u50 u51 u52 u53 u54 u55 u56 u57 u58 u59 u60 u61 u62 u63 u64 u65 u66 u67 u68 u69 u70 u71 u72 u73 u74 u75 u76 u77 u78 u79 u80 u81 u82 u83 u84 u85 u86 u87 u88 u89 u90 u91 u92 u93 u94 u95 u96 u97 u98 u99 u100 u101 u102 u103 u104 u105 u106 u107 u108 u109 u110 u111 u112 u113 u114 u115 u116 u117 u118 u119 u120 u121 u122 u123 u124 u125 u126 u127 u128 u129 u130 u131 u132 u133 u134 u135 u136 u137 u138 u139 u140 u141 u142 u143 u144 u145 u146 u147 u148 u149 u150 u151 u152 u153 u154 u155 u156 u157 u158 u159 u160 u161 u162 u163 u164 u165 u166 u167
            rintro g a W ⟨tn, TB, Dl, tm, rfl, hfr, hg2, hS, hT, hTB, hD⟩ J K hJ hK
            obtain ⟨u, rfl⟩ := hfr.is
            have HJ : Hid _ := hJ
            have HSS : Hid (QlS w W n d s t lv v (firstZ Z ql.length) YB WB) := hS
            have HT : Hid (W.heap[TB]? = some (.cells #[.int .i64 (tn : Int)] 3 (0, 0)) ∧ YB < TB) := ⟨hT, hTB⟩
            have HD : Hid (DfS W YB Dl) := hD
            have HG2 : Hid (tn + g = 2) := hg2
            have t0 : W.cell? ⟨TB, 0, none⟩ = some (.int .i64 (tn : Int)) := by simp [World.cell?, hT]
            clear hS hT hTB hD HS5 hfr hJ
            rcases Nat.lt_or_ge tn 2 with htn | htn
            · have htI : (tn : Int) ≤ 1 := by omega
              clear htn hg2
              gi_wp2
              obtain ⟨N9, b, hN, hb1, hb2, hrd, hbe⟩ := rounds_ex tn ql.length lv
              have HRd : Hid (∀ k, k < N9 → ((b || decide (k + 1 < N9)) = true ∧ (tn = 0 → ((k : Int) + 1 == lv) = false)) ∨ ((b || decide (k + 1 < N9)) = false ∧ tn = 0 ∧ ((k : Int) + 1 == lv) = true)) := hrd
              have HN : Hid (N9 ≤ ql.length ∧ ql.length ≤ 1300 ∧ (b = true → N9 = ql.length) ∧ (b = false → tn = 0 ∧ (N9 : Int) = lv)) := ⟨hN, HH.out.len, hb2, hbe⟩
              have HKs : Hid ((W.alloc (.cells #[.int .i64 0] 3)).heap.size = W.heap.size + 1 ∧ YB < W.heap.size ∧ TB < W.heap.size ∧ ∀ D ∈ Dl, D < W.heap.size) := ⟨by simp, HSS.out.y.lt, (Array.getElem?_eq_some_iff.1 HT.out.1).1, fun D hD => (Array.getElem?_eq_some_iff.1 (HD.out.at_ D hD).2).1⟩
              have HI0 : Hid (rgI w n d s t lv v (firstZ Z ql.length) YB WB TB tn W.heap.size Dl N9 (0, none) (W.alloc (.cells #[.int .i64 0] 3))) := ⟨rfl, Nat.zero_le _, HSS.out.kept (grow1 _ _) (fun r e => by cases e), old_alloc _ _ HT.out.1, heap_alloc_new _ _, HD.out.kept (grow1 _ _) (fun r e => by cases e)⟩
              generalize W.alloc (.cells #[.int .i64 0] 3) = W0 at *
              generalize W.heap.size = KB at *
              have own : ∀ p W W' row, rgI w n d s t lv v (firstZ Z ql.length) YB WB TB tn KB Dl N9 p W → W.grownBy W' row → (∀ r, row = some r → W0.heap.size ≤ r) → rgI w n d s t lv v (firstZ Z ql.length) YB WB TB tn KB Dl N9 p W' := fun p W W' row h hg hr => rgI_own (SB := W0.heap.size) (by have := HKs.out; omega) (by have := HKs.out; omega) (by have := HKs.out; omega) (fun D hD => by have := HKs.out; have := HKs.out.2.2.2 D hD; omega) p W W' row h hg hr
              refine wpIn_countedG rfl (by omega) (gf := 79) (lb := #[.pointer (some ⟨YB, 0, none⟩)]) rfl trivial (enters_of Tryz.func79 (by kernel_rfl) rfl) (fun i => #[whole (Z i).1 (Z i).2]) N9 b (some 4) hb1 (fun t => rfl)
                (rgI w n d s t lv v (firstZ Z ql.length) YB WB TB tn KB Dl N9) (fun p W W' row h hg hr => own p W W' row h hg (fun r e => (hr r e).1)) none (.inl rfl) HI0.out (HH.out.hands N9 b _ YB _ _ hN hb1 hb2 (by omega) (fun p W hp => hp.2.2.1.y)) (fun p W W' r h hg hB _ => own p W W' (some r) h hg (fun r' e => by injection e with e; omega))
                (fun p x => ∃ QB, x.1 = { tmps := #[frac n s d t, .slice ao i cp, .int .i64 lv, .pointer (some ⟨w.heap.size, 0, none⟩), u 4, .pointer (some ⟨w.heap.size + 1, 0, none⟩), .pointer (some ⟨w.heap.size + 1 + 1, 0, none⟩), u 7, .pointer (some ⟨WB, 0, none⟩), .func (.func 79) #[] #[.pointer (some ⟨YB, 0, none⟩)], .pointer (some ⟨TB, 0, none⟩), .pointer (some ⟨KB, 0, none⟩), .pointer (some ⟨QB, 0, none⟩), u 13, u 14, u 15, u 16, u 17, u 18, u 19, u 20, u 21, u 22, u 23, u 24, u 25, u 26, u 27, u 28, u 29, u 30, u 31, u 32, u 33, u 34, u 35, u 36, u 37, u 38, u 39, u 40, u 41, u 42, u 43, u 44, u 45, u 46, u 47, u 48, u 49, u 50, u 51, u 52, u 53, u 54, u 55, u 56, u 57, u 58, u 59, u 60, u 61, u 62, u 63, .int .i64 (tn : Int), .bool true, u 66, u 67, .func (.func 79) #[] #[.pointer (some ⟨YB, 0, none⟩)], whole (Z p.1).1 (Z p.1).2, u 70, u 71, u 72, u 73, u 74, u 75, u 76, u 77, u 78, u 79, u 80, u 81, u 82, u 83, u 84, u 85, u 86, u 87, u 88, u 89, u 90, u 91, u 92, u 93, u 94, u 95, u 96, u 97, u 98, u 99, u 100, u 101, u 102, u 103, u 104, u 105, u 106, u 107, u 108, u 109, u 110, u 111, u 112, u 113, u 114, u 115, u 116, u 117, u 118, u 119, u 120, u 121, u 122, u 123, u 124, u 125, u 126, u 127, u 128, u 129, u 130, u 131, u 132, u 133, u 134, u 135, u 136, u 137, u 138, u 139, u 140, u 141, u 142, u 143, u 144, u 145, u 146, u 147, u 148, u 149, u 150, u 151, u 152, u 153, u 154, u 155, u 156, u 157, u 158, u 159, u 160, u 161, u 162, u 163, u 164, u 165, u 166, u 167], defers := [] } ∧ WBlk x.2 QB (.bool (Z p.1).1) (.string (Z p.1).2) ∧ W0.heap.size ≤ QB ∧ rgI w n d s t lv v (firstZ Z ql.length) YB WB TB tn KB Dl N9 p x.2) ?ownA ?assign ?body ?done
              case ownA =>
                rintro a1 p W W' row ⟨QB, h1, h2, h3, h4⟩ hg hr
                refine ⟨QB, h1, ?_, h3, own p W W' row h4 hg (fun r e => (hr r e).1)⟩
                refine (hg.block QB h2.lt (fun e => ?_)).trans h2
                obtain ⟨_, o, ho, hc⟩ := hr QB e.symm
                have e2 : some o = some (Obj.cells #[.bool (Z p.1).1, .string (Z p.1).2] 23 (0, 0)) := ho.symm.trans h2
                obtain rfl := Option.some.inj e2
                cases hc
              case assign =>
                intro lo t' o W' ht hI
                have hW : KB < W'.heap.size := (Array.getElem?_eq_some_iff.1 hI.2.2.2.2.1).1
                have hW2 : W0.heap.size ≤ W'.heap.size := by have := HKs.out; omega
                gi_wp2
                exact ⟨⟨W'.heap.size, rfl, heap_alloc_new _ _, hW2, own (t', o) _ _ none hI (grow1 _ _) (fun r e => by cases e)⟩, grow1 _ _⟩
              case body =>
                rintro lo t' o a' W' ht ⟨QB, rfl, hq, hQB, hI⟩
                obtain ⟨ho, hle, hS', hT', hK', hD'⟩ := hI
                dsimp only at ho hle hK' hq
                subst ho
                dsimp only
                have htq : t' < ql.length := Nat.lt_of_lt_of_le ht HN.out.1
                obtain ⟨gq, cq, hv, hcap, e0, e1⟩ : ∃ g cp, v = .slice (some ⟨g, 0, none⟩) ql.length cp ∧ ql.length ≤ cp ∧ W'.cell? ⟨g, t' * 2, none⟩ = some (.bool (Z t').1) ∧ W'.cell? ⟨g, t' * 2 + 1, none⟩ = some (.string (Z t').2) := by
                  have hlz := firstZ_len Z ql.length
                  have k7 := hS'.row
                  obtain ⟨g, cp, e, _, _, hc, _⟩ := own_form k7 (by rw [hlz]; omega)
                  rw [hlz] at e hc
                  have k7' : W'.ownsRow (WB + 1) 23 2 (.slice (some ⟨g, 0, none⟩) ql.length cp) ql.length (cellsW (firstZ Z ql.length)) := by
                    have := k7
                    unfold RowW at this
                    rw [hlz, e] at this
                    exact this
                  have := own_wholes k7' t' (Z t') (by simp [firstZ, htq])
                  exact ⟨g, cp, e, hc, this⟩
                have HS' : Hid (QlS w W' n d s t lv v (firstZ Z ql.length) YB WB ∧ W'.heap[TB]? = some (.cells #[.int .i64 (tn : Int)] 3 (0, 0)) ∧ W'.heap[KB]? = some (.cells #[.int .i64 (t' : Int)] 3 (0, 0)) ∧ DfS W' YB Dl) := ⟨hS', hT', hK', hD'⟩
                have wb0 : W'.cell? ⟨WB, 0, none⟩ = some (.slice (some ⟨gq, 0, none⟩) ql.length cq) := by rw [← hv]; simp [World.cell?, hS'.wb]
                have lb0 : W'.cell? ⟨w.heap.size + 1, 0, none⟩ = some (.int .i64 lv) := by simp [World.cell?, hS'.lb]
                have tb0 : W'.cell? ⟨TB, 0, none⟩ = some (.int .i64 (tn : Int)) := by simp [World.cell?, hT']
                have kb0 : W'.cell? ⟨KB, 0, none⟩ = some (.int .i64 (t' : Int)) := by simp [World.cell?, hK']
                have kb1 : W'.frozen? ⟨KB, 0, none⟩ = false := by simp [World.frozen?, hK']
                have q0 := hq.c0
                have q1 := hq.c1
                have htI2 : (t' : Int) < ql.length := by omega
                have hqI : (ql.length : Int) ≤ 1300 := by have := HN.out.2.1; omega
                have hcqI : (ql.length : Int) ≤ cq := by omega
                have HTN : Hid (t' < N9) := ht
                have hKT : ¬ KB = TB := by have := HKs.out; omega
                have hKL : ¬ KB = w.heap.size + 1 := by have h1 := HKs.out; have h2 := HSS.out.l1; have h3 := HSS.out.l2; omega
                generalize ql.length = qn at *
                generalize (Z t').1 = zn at *
                generalize (Z t').2 = zS at *
                clear hS' hT' hK' hD' hq hv ht hle own hcap htq t0 hrd hbe hN hb1 hb2
                have HFin : Hid (∀ (e : Exit) (a : Act), e = (if (b || decide (t' + 1 < N9)) = true then Exit.normal else lvExit (some 4)) → roundToG (b || decide (t' + 1 < N9)) (some 4) (W0.heap.size + 2) (rgI w n d s t lv v (firstZ Z qn) YB WB TB tn KB Dl N9) (t' + 1) none W' e a (W'.drew.setCell ⟨KB, 0, none⟩ (.int .i64 ((t' : Int) + 1)))) := fun e a he => (by
                  obtain ⟨h1, h2, h3, h4⟩ := HS'.out
                  have gD : W'.grownBy W'.drew none := ⟨rfl, rfl, rfl, Nat.le_refl _, fun _ _ _ => rfl⟩
                  have gS : W'.grownBy (W'.drew.setCell ⟨KB, 0, none⟩ (.int .i64 ((t' : Int) + 1))) (some KB) := grownBy_trans (grown_some gD KB) (grownBy_setCell _ _ _ _)
                  have h3' : W'.drew.heap[KB]? = some (.cells #[.int .i64 (t' : Int)] 3 (0, 0)) := h3
                  obtain ⟨s1, s2, s3, s4⟩ := HKs.out
                  refine ⟨he, keeps_of_grown gS h3, none, ⟨rfl, HTN.out, h1.kept gS (fun r e => by injection e with e; omega), ?_, ?_, h4.kept gS (fun r e hD => by injection e with e; have := s4 r hD; omega)⟩, ⟨gS.size, fun k hB hk hn => gS.block k hk (by intro e; injection e with e; omega)⟩, .inl rfl⟩
                  · exact (gS.block _ (Array.getElem?_eq_some_iff.1 h2).1 (by intro e; injection e with e; omega)).trans h2
                  · have e2 : (((t' + 1 : Nat) : Int)) = (t' : Int) + 1 := by omega
                    show (W'.drew.setCell ⟨KB, 0, none⟩ (.int .i64 ((t' : Int) + 1))).heap[KB]? = some (.cells #[.int .i64 ((t' + 1 : Nat) : Int)] 3 (0, 0))
                    rw [e2]
                    simp [World.setCell, Array.getElem?_modify, h3'])
                gi_wp2
                gi_cut [81] from 70 (fun s81 wx => s81 = .bool false ∧ wx = W'.drew)
                case first =>
                  gi_region_with (first | fail)
                  all_goals (
                    gi_wp2
                    gi_meet
                    case rel => exact ⟨(by first | rfl | rw [decide_eq_false (by omega)]), rfl⟩)
                case rest =>
                  obtain ⟨rfl, rfl⟩ := hcut
                  have HF2 : Hid (∀ a, (b || decide (t' + 1 < N9)) = true → roundToG (b || decide (t' + 1 < N9)) (some 4) (W0.heap.size + 2) (rgI w n d s t lv v (firstZ Z qn) YB WB TB tn KB Dl N9) (t' + 1) none W' .normal a (W'.drew.setCell ⟨KB, 0, none⟩ (.int .i64 ((t' : Int) + 1)))) := fun a h => HFin.out _ _ (by rw [if_pos h])
                  have HF3 : Hid (∀ a, (b || decide (t' + 1 < N9)) = false → roundToG (b || decide (t' + 1 < N9)) (some 4) (W0.heap.size + 2) (rgI w n d s t lv v (firstZ Z qn) YB WB TB tn KB Dl N9) (t' + 1) none W' (.exit 4) a (W'.drew.setCell ⟨KB, 0, none⟩ (.int .i64 ((t' : Int) + 1)))) := fun a h => HFin.out _ _ (by rw [if_neg (by rw [h]; simp)]; rfl)
                  rcases HRd.out t' HTN.out with ⟨hgo, hne⟩ | ⟨hgo, h0, heq⟩
                  · have HGo : Hid ((b || decide (t' + 1 < N9)) = true) := hgo
                    obtain h0 | h0 : tn = 0 ∨ tn = 1 := by omega
                    · have hne2 := hne h0
                      have htz : ((tn : Int) == 0) = true := by rw [beq_iff_eq]; omega
                      clear hgo hne HRd h0
                      gi_wp2
                      exact HF2.out _ HGo.out
                    · have htz : ((tn : Int) == 0) = false := by rw [beq_eq_false_iff_ne]; omega
                      clear hgo hne HRd h0
                      gi_wp2
                      exact HF2.out _ HGo.out
                  · have HGo : Hid ((b || decide (t' + 1 < N9)) = false) := hgo
                    have htz : ((tn : Int) == 0) = true := by rw [beq_iff_eq]; omega
                    clear hgo HRd h0
                    gi_wp2
                    exact HF3.out _ HGo.out
              case done =>
                rintro D o W' hD' hI hDe
                obtain ⟨ho, hle, hS', hT', hK', hDf⟩ := hI
                dsimp only at hK'
                obtain ⟨av, cv, hv⟩ := hS'.row.form
                rw [firstZ_len] at hv
                have wb0 : W'.cell? ⟨WB, 0, none⟩ = some (.slice av ql.length cv) := by rw [← hv]; simp [World.cell?, hS'.wb]
                have lb0 : W'.cell? ⟨w.heap.size + 1, 0, none⟩ = some (.int .i64 lv) := by simp [World.cell?, hS'.lb]
                have tb0 : W'.cell? ⟨TB, 0, none⟩ = some (.int .i64 (tn : Int)) := by simp [World.cell?, hT']
                have kb0 : W'.cell? ⟨KB, 0, none⟩ = some (.int .i64 (N9 : Int)) := by simp [World.cell?, hK']
                have HE : Hid (QlS w W' n d s t lv v (firstZ Z ql.length) YB WB ∧ DfS W' YB Dl ∧ W'.heap[D]? = some (.deferred (some [])) ∧ W0.heap.size ≤ D ∧ TB < W'.heap.size) := ⟨hS', hDf, hDe, hD', (Array.getElem?_eq_some_iff.1 hT').1⟩
                have HNe : Hid (∀ (z : Int) (tm : Array Value), z = (tn : Int) + 1 → FrQ tm n d s t ao i cp lv w.heap.size WB YB W'.heap.size → Handed J g { tmps := tm, defers := { target := .collected D, args := #[] } :: dfs Dl } (W'.alloc (.cells #[.int .i64 z] 3))) := fun z tm hz hfr => (by
                  obtain ⟨h1, h2, h3, h4, h5⟩ := HE.out
                  obtain ⟨s1, s2, s3, s4⟩ := HKs.out
                  have hy := h1.y.lt
                  have g9 : W'.grownBy (W'.alloc (.cells #[.int .i64 z] 3)) none := grow1 _ _
                  have hD2 : DfS W' YB (D :: Dl) := ⟨fun D' hD' => by
                    rcases List.mem_cons.1 hD' with e | e
                    · subst e; exact ⟨by omega, h3⟩
                    · exact h2.at_ D' e, by
                    rw [List.nodup_cons]
                    exact ⟨fun hm => by have := s4 D hm; omega, h2.nd⟩⟩
                  refine ⟨1 - tn, by have := HG2.out; omega, HJ.out _ _ _ ⟨tn + 1, W'.heap.size, D :: Dl, tm, rfl, hfr, by have := HG2.out; omega, h1.kept g9 (fun r e => by cases e), ?_, hy, hD2.kept g9 (fun r e hm => by cases e)⟩⟩
                  have e2 : (((tn + 1 : Nat) : Int)) = z := by omega
                  rw [e2]
                  exact heap_alloc_new _ _)
                have hqI : (ql.length : Int) ≤ 1300 := by have := HN.out.2.1; omega
                have hnI : (N9 : Int) ≤ 1300 := by have := HN.out; omega
                have HN2 := HN.out
                generalize ql.length = qn at *
                clear hS' hT' hK' hDf hDe hD' hv hle own t0 hrd hbe hN hb1 hb2 HRd HI0
                obtain h0 | h0 : tn = 0 ∨ tn = 1 := by omega
                · have HTn : Hid (tn = 0) := h0
                  have htz : ((tn : Int) == 0) = true := by rw [beq_iff_eq]; omega
                  have hto : ((tn : Int) == 1) = false := by rw [beq_eq_false_iff_ne]; omega
                  clear h0
                  cases b
                  · obtain ⟨_, hl⟩ := HN2.2.2.2 rfl
                    rw [if_neg (by simp)]
                    show (Code.exit 4).wpIn _ _ _ _ _ _
                    by_cases e : N9 = qn
                    · subst e
                      clear HN2 hl
                      gi_wp2
                      all_goals (
                        refine HNe.out _ _ (by have := HTn.out; omega) ?_
                        exact ⟨rfl, rfl, rfl, rfl, rfl, rfl, rfl, rfl, rfl, rfl⟩)
                    · have hne : ((N9 : Int) == (qn : Int)) = false := by rw [beq_eq_false_iff_ne]; omega
                      have hnl2 : ((N9 : Int) == lv) = true := by rw [beq_iff_eq]; exact hl
                      have hnl3 : ((N9 : Int) != lv) = false := by rw [hl]; simp
                      clear HN2 e hl
                      gi_wp2
                      all_goals (
                        refine HNe.out _ _ (by have := HTn.out; omega) ?_
                        exact ⟨rfl, rfl, rfl, rfl, rfl, rfl, rfl, rfl, rfl, rfl⟩)
                  · obtain rfl := HN2.2.2.1 rfl
                    rw [if_pos rfl]
                    clear HN2
                    gi_wp2
                    refine HNe.out _ _ (by have := HTn.out; omega) ?_
                    exact ⟨rfl, rfl, rfl, rfl, rfl, rfl, rfl, rfl, rfl, rfl⟩
                · have HTn : Hid (tn = 1) := h0
                  have htz : ((tn : Int) == 0) = false := by rw [beq_eq_false_iff_ne]; omega
                  have hto : ((tn : Int) == 1) = true := by rw [beq_iff_eq]; omega
                  cases b
                  · exact absurd (HN2.2.2.2 rfl).1 (by omega)
                  · obtain rfl := HN2.2.2.1 rfl
                    rw [if_pos rfl]
                    clear HN2 h0
                    gi_wp2
                    refine HNe.out _ _ (by have := HTn.out; omega) ?_
                    exact ⟨rfl, rfl, rfl, rfl, rfl, rfl, rfl, rfl, rfl, rfl⟩
            · obtain rfl : tn = 2 := by omega
              clear htn hg2
              have HLl : Hid (L.length = i) := HS.out.1
              have HMA : Hid (∃ (v0 : Bool) (v1 : ByteArray) (v2 : Bool) (v3 : ByteArray) (ev : Int), MkA (zL L) i (.tuple #[frac v0 v1 v2 v3, .int .i64 ev])) := (by
                have h := mkA_ex L (fun j p hp => HAl.out j p (by rw [← HS.out.1]; exact (List.getElem?_eq_some_iff.1 hp).1) hp) (by rw [HS.out.1]; exact HNl.out)
                rw [HS.out.1] at h
                exact h)
              obtain ⟨y0, y1, y2, y3, ev, hMA⟩ := HMA.out
              have HZs : Hid (∀ q, q < i → (zL L q).2.size ≤ maxLen ∧ ∃ p, L[q]? = some p ∧ zL L q = p) := fun q hq => (by
                obtain ⟨p, hp⟩ : ∃ p, L[q]? = some p := ⟨L[q]'(by have := HLl.out; omega), List.getElem?_eq_getElem _⟩
                exact ⟨by rw [zL_at hp]; exact HNL.out.2.2.2 p (List.mem_of_getElem? hp), p, hp, zL_at hp⟩)
              have HSr : Hid (∀ W', w.grownBy W' none → ∀ q, q < i → ∃ B off, ao = some ⟨B, off, none⟩ ∧ W'.cell? ⟨B, off + q * 2, none⟩ = some (.bool (zL L q).1) ∧ W'.cell? ⟨B, off + q * 2 + 1, none⟩ = some (.string (zL L q).2) ∧ i ≤ cp) := fun W' hg q hq => (by
                obtain ⟨_, p, hp, hz⟩ := HZs.out q hq
                rcases HS.out.2 with h | ⟨B, off, e, hc⟩
                · omega
                · rw [hz]
                  exact ⟨B, off, e, grownBy_cell hg (hc q p hp).1 (by simp), grownBy_cell hg (hc q p hp).2 (by simp), HNL.out.1⟩)
              have HR2 : Hid (∀ W', w.grownBy W' none → Calls Tryz.prog 35 #[.slice ao i cp] W' fun e w' => e = .returned (.tuple #[frac y0 y1 y2 y3, .int .i64 ev]) ∧ W'.grownBy w' none) := fun W' hg => rmake_any (zL L) i _ hMA (by have := HNL.out.2.2.1; omega) (fun q hq => (HZs.out q hq).1) ao cp W' (HSr.out W' hg)
              have HM2 : Hid (∀ W' g c, i ≤ c → (∀ q, q < i → W'.cell? ⟨g, q * 2, none⟩ = some (.bool (zL L q).1) ∧ W'.cell? ⟨g, q * 2 + 1, none⟩ = some (.string (zL L q).2)) → Calls Tryz.prog 34 #[.slice (some ⟨g, 0, none⟩) i c] W' fun e w' => e = .returned (.tuple #[frac y0 y1 y2 y3, .int .i64 ev]) ∧ W'.grownBy w' none) := fun W' g c hc hcells => make_any (zL L) i _ hMA (by have := HNL.out.2.2.1; omega) (fun q hq => (HZs.out q hq).1) _ c W' (fun q hq => ⟨g, 0, rfl, by rw [Nat.zero_add]; exact (hcells q hq).1, by rw [Nat.zero_add]; exact (hcells q hq).2, hc⟩)
              clear hMA HMA HH HJ hK
              gi_wp2_with (gi_at_builtin; refine wpListIn_append_wholesB rfl _ _ rfl W.heap.size (.slice none 0 0) [] rfl (RowW.nil _ _) ao i cp L rfl HNL.out.2.1 (HS.out.kept HSS.out.g) (by have := HNL.out.2.2.1; simp; omega) (Nat.le_refl _) ?_)
              intro v1 w1 hr1 hg1
              have HR1 : Hid (RowW w1 W.heap.size v1 L ∧ W.grownBy w1 none) := ⟨hr1, hg1⟩
              clear hr1 hg1
              gi_wp2_with (gi_at_builtin; refine wpListIn_append_wholesB rfl _ _ rfl W.heap.size v1 L rfl (HR1.out.1.kept (row := none) (grow1 _ _) (by cases v1.ownBlock <;> simp)) (some ⟨w1.heap.size, 0, none⟩) 1 1 [(false, mark)] rfl (by simp) ⟨rfl, .inr ⟨_, _, rfl, mark_cells _⟩⟩ (by rw [HLl.out]; exact HNL.out.2.2.1) (by have := HR1.out.2.size; simp; omega) ?_)
              intro v2 w2 hr2 hg2
              obtain ⟨gm, c2, hv2, hb2, hc2, hc29, hcl, hmk⟩ := own_copy HLl.out (by unfold RowW at hr2; rw [List.length_append] at hr2; exact hr2)
              have HG2' : Hid (W.grownBy w2 none) := (by
                have g5 := grownBy_trans HR1.out.2 (grow1 w1 (.cells #[.bool false, .string mark] 23))
                cases hob : v1.ownBlock with
                | none => rw [hob] at hg2; exact grownBy_trans g5 hg2
                | some gb => rw [hob] at hg2; exact grownBy_new g5 (HR1.out.1.own gb hob).1 hg2)
              subst hv2
              have HCl : Hid ((∀ q, q < i → w2.cell? ⟨gm, q * 2, none⟩ = some (.bool (zL L q).1) ∧ w2.cell? ⟨gm, q * 2 + 1, none⟩ = some (.string (zL L q).2)) ∧ w2.cell? ⟨gm, i * 2 + 1, none⟩ = some (.string mark)) := ⟨fun q hq => (by
                obtain ⟨_, p, hp, hz⟩ := HZs.out q hq
                rw [hz]
                exact hcl q p hp), hmk⟩
              have hi2I : (i : Int) + 1 ≤ c2 := by omega
              have hc2I : (c2 : Int) ≤ 9223372036854775807 := by unfold maxLen at hc29; omega
              have HC2 : Hid (i + 1 ≤ c2) := hc2
              clear hr2 hg2 hb2 hcl hmk hc2 hc29 HR1
              gi_wp2
              refine ⟨trivial, ?_⟩
              refine (callsIn_wide.2 (HM2.out _ _ _ (by have := HC2.out; omega) HCl.out.1)).mono ?_
              rintro e w3 ⟨rfl, g3⟩
              have HG3 : Hid (W.grownBy (w3.alloc (qObj y0 y1 y2 y3)) none ∧ w2.grownBy w3 none) := ⟨grownBy_trans (grownBy_trans HG2'.out g3) (grow1 _ _), g3⟩
              clear g3
              gi_wp2
              refine ⟨trivial, ?_⟩
              refine (callsIn_wide.2 (HR2.out _ (grownBy_trans HSS.out.g HG3.out.1))).mono ?_
              rintro e w4 ⟨rfl, g4⟩
              have HE4 : Hid (QBlk (w4.alloc (qObj y0 y1 y2 y3)) w3.heap.size (.bool y0) (.string y1) (.bool y2) (.string y3) ∧ QBlk (w4.alloc (qObj y0 y1 y2 y3)) w4.heap.size (.bool y0) (.string y1) (.bool y2) (.string y3) ∧ W.grownBy (w4.alloc (qObj y0 y1 y2 y3)) none ∧ w2.grownBy (w4.alloc (qObj y0 y1 y2 y3)) none) := (by
                have hq : QBlk (w3.alloc (qObj y0 y1 y2 y3)) w3.heap.size (.bool y0) (.string y1) (.bool y2) (.string y3) := heap_alloc_new _ _
                exact ⟨old_alloc _ _ (hq.kept g4 (by simp)), heap_alloc_new _ _, grownBy_trans (grownBy_trans HG3.out.1 g4) (grow1 _ _), grownBy_trans (grownBy_trans HG3.out.2 (grow1 _ _)) (grownBy_trans g4 (grow1 _ _))⟩)
              clear g4 HG3
              gi_upto_region 31 with fail
              generalize w4.alloc (qObj y0 y1 y2 y3) = V4 at *
              generalize w3.heap.size = P3 at *
              generalize w4.heap.size = P4 at *
              gi_wp2
              gi_loopg [18] i (fun g s18 wx => ∃ q : Nat, s18 = .int .i64 (q : Int) ∧ q + g = i ∧ V4.grownBy wx none)
              case atStart => exact ⟨0, rfl, by omega, World.grownBy.refl _ _⟩
              case round =>
                obtain ⟨q, rfl, hqg, hgv⟩ := hrel
                have HGv : Hid (V4.grownBy wr none) := hgv
                clear hgv
                cases gk with
                | succ g =>
                  have hqi : q < i := by omega
                  have hqI : (q : Int) < (i : Int) := by omega
                  have hqI2 : (q : Int) < (i : Int) + 1 := by omega
                  have HQg : Hid (q + (g + 1) = i) := hqg
                  obtain ⟨B, off, rfl, d0, d1, _⟩ := HSr.out wr (grownBy_trans HSS.out.g (grownBy_trans HE4.out.2.2.1 HGv.out)) q hqi
                  obtain ⟨m0', m1'⟩ := HCl.out.1 q hqi
                  have m0 := grownBy_cell (grownBy_trans HE4.out.2.2.2 HGv.out) m0' (by simp)
                  have m1 := grownBy_cell (grownBy_trans HE4.out.2.2.2 HGv.out) m1' (by simp)
                  generalize (zL L q).1 = zn at *
                  generalize (zL L q).2 = zS at *
                  clear m0' m1' hqg hqi
                  gi_wp2
                  gi_cut [147] from 168 (fun s147 wx => s147 = .bool false ∧ wx = wr.drew)
                  case first =>
                    gi_region
                    all_goals (
                      gi_wp2
                      gi_meet
                      case rel => exact ⟨rfl, rfl⟩)
                  case rest =>
                    obtain ⟨rfl, rfl⟩ := hcut
                    clear m0 m1 d0 d1
                    gi_wp2
                    gi_roundg g
                    case measure => omega
                    case rel => exact ⟨q + 1, rfl, by have := HQg.out; omega, ⟨HGv.out.os, HGv.out.tape, HGv.out.output, HGv.out.size, fun i hi hn => HGv.out.block i hi hn⟩⟩
                | zero =>
                  obtain rfl : q = i := by omega
                  clear hqg
                  have hy4 := HE4.out.1.kept HGv.out (by simp)
                  have hz4 := HE4.out.2.1.kept HGv.out (by simp)
                  have HGW : Hid (W.grownBy wr none) := grownBy_trans HE4.out.2.2.1 HGv.out
                  have mk := grownBy_cell (grownBy_trans HE4.out.2.2.2 HGv.out) HCl.out.2 (by simp)
                  have x0 := hy4.c0
                  have x1 := hy4.c1
                  have x2 := hy4.c2
                  have x3 := hy4.c3
                  have z0 := hz4.c0
                  have z1 := hz4.c1
                  have z2 := hz4.c2
                  have z3 := hz4.c3
                  have hqI2 : (q : Int) < (q : Int) + 1 := by omega
                  clear hy4 hz4
                  gi_wp2
                  refine ⟨trivial, ?_⟩
                  refine (callsIn_wide.2 (HK.out _ (grownBy_trans HSS.out.g HGW.out))).mono ?_
                  rintro e w7 ⟨rfl, g7⟩
                  have HW7 : Hid (W.grownBy w7 none) := grownBy_trans HGW.out g7
                  have hR7 := (HW7.out.block _ (Array.getElem?_eq_some_iff.1 HSS.out.rb).1 (by simp)).trans HSS.out.rb
                  have r0 : w7.cell? ⟨w.heap.size + 1 + 1, 0, none⟩ = some (.bool false) := by simp [World.cell?, hR7]
                  have r1 : w7.frozen? ⟨w.heap.size + 1 + 1, 0, none⟩ = false := by simp [World.frozen?, hR7]
                  have HR7 : Hid (w7.heap[w.heap.size + 1 + 1]? = some (.cells #[.bool false] 4 (0, 0))) := hR7
                  clear hR7 g7 x0 x1 x2 x3 z0 z1 z2 z3 mk
                  gi_wp2
                  have gS := grownBy_setCell w7 (w.heap.size + 1 + 1) 0 (.bool true)
                  have hD7 := HD.out.kept HW7.out (fun r e => by cases e)
                  refine leave_ql _ w (w.heap.size + 1 + 1) rfl Dl _ ⟨fun D hD => ?_, hD7.nd⟩ (by omega) ?_ (grown_set (grownBy_trans HSS.out.g HW7.out) (by omega))
                  · obtain ⟨h1, h2⟩ := hD7.at_ D hD
                    have l1 := HSS.out.l1
                    have l2 := HSS.out.l2
                    exact ⟨by omega, (gS.block D (Array.getElem?_eq_some_iff.1 h2).1 (by intro e; injection e with e; omega)).trans h2⟩
                  · simp [World.setCell, Array.getElem?_modify, HR7.out]
end Go.Proofs.YtdfliaogmlpefaaGreatDoor
namespace Go.Proofs.YtdfliaogmlpefaaGreatDoor
open Go.RowKit Go.Lib Go.Sort Go.Shelf
set_option linter.unusedVariables false
set_option maxHeartbeats 16000000
set_option maxRecDepth 1000000
theorem ql_k1 (n d : Bool) (s t : ByteArray) (ao : Option Addr) (nl cp : Nat) (lv : Int) (w : World)
    (HL : Hid (∀ (W : World) (B : Nat), W.heap[B]? = some (.cells #[.bool n, .string s, .bool d, .string t] 25 (0, 0)) → Calls Tryz.prog 9 #[.int .i64 100, .slice (some ⟨B, 0, none⟩) 1 1] W fun e w' => e = .returned (.bool true) ∧ W.grownBy w' none))
    (HK : Hid (∀ W, w.grownBy W none → Calls Tryz.prog 10 #[] W fun e w' => e = .returned (.bool true) ∧ W.grownBy w' none)) :
    Calls Tryz.prog 5 #[frac n s d t, .slice ao nl cp, .int .i64 lv] w fun e w' => e = .returned (.bool true) ∧ w.grownBy w' none := by
  go_enter Tryz.func5, Tryz.ntmps5
  go_wp2_with fail
  refine (HL.out _ _ ?hb).mono ?_
  case hb => exact at_alloc4 _ _ _ _ _
  rintro e w1 ⟨rfl, g1⟩
  have G1 : Hid ((((w.alloc (qObj n s d t)).alloc (.cells #[.int .i64 lv] 3)).alloc (.cells #[.bool false] 4)).grownBy w1 none) := grownBy_trans (grow1 _ _) g1
  clear g1
  go_wp2_with fail
  refine (HK.out _ (grownBy_trans (grow3 _ _ _ _) G1.out)).mono ?_
  rintro e w2 ⟨rfl, g2⟩
  have R7 : w2.heap[w.heap.size + 1 + 1]? = some (.cells #[.bool false] 4 (0, 0)) := (g2.block (w.heap.size + 1 + 1) (by have := G1.out.size; simp at this; omega) (by simp)).trans ((G1.out.block (w.heap.size + 1 + 1) (by simp) (by simp)).trans (at_alloc3 _ _ _ _))
  have r0 : w2.cell? ⟨w.heap.size + 1 + 1, 0, none⟩ = some (.bool false) := by simp [World.cell?, R7]
  have r1 : w2.frozen? ⟨w.heap.size + 1 + 1, 0, none⟩ = false := by simp [World.frozen?, R7]
  have HG2 : Hid (w.grownBy w2 none) := grownBy_trans (grow3 _ _ _ _) (grownBy_trans G1.out g2)
  clear g2
  go_wp2_with fail
  have u2 : (w2.setCell ⟨w.heap.size + 1 + 1, 0, none⟩ (.bool true)).heap[w.heap.size + 1 + 1]? = some (.cells #[.bool true] 4 (0, 0)) := by simp [World.setCell, Array.getElem?_modify, R7]
  refine bodyPost_ret (res_ql _ _ (w.heap.size + 1 + 1) true rfl u2) rfl ?_
  exact ⟨rfl, grown_set HG2.out (by omega)⟩
theorem ql_k2 (n d : Bool) (s t : ByteArray) (ao : Option Addr) (nl cp : Nat) (lv : Int) (hn1 : 200 < nl) (hn2 : nl ≤ 4096) (w : World)
    (HL : Hid (∀ (W : World) (B : Nat), W.heap[B]? = some (.cells #[.bool n, .string s, .bool d, .string t] 25 (0, 0)) → Calls Tryz.prog 9 #[.int .i64 100, .slice (some ⟨B, 0, none⟩) 1 1] W fun e w' => e = .returned (.bool false) ∧ W.grownBy w' none))
    (HK : Hid (∀ W, w.grownBy W none → Calls Tryz.prog 10 #[] W fun e w' => e = .returned (.bool true) ∧ W.grownBy w' none)) :
    Calls Tryz.prog 5 #[frac n s d t, .slice ao nl cp, .int .i64 lv] w fun e w' => e = .returned (.bool true) ∧ w.grownBy w' none := by
  have h1 : (201 : Int) ≤ nl := by omega
  have h2 : (nl : Int) ≤ 4096 := by omega
  clear hn1 hn2
  go_enter Tryz.func5, Tryz.ntmps5
  go_wp2_with fail
  refine (HL.out _ _ ?hb).mono ?_
  case hb => exact at_alloc4 _ _ _ _ _
  rintro e w1 ⟨rfl, g1⟩
  have G1 : Hid ((((w.alloc (qObj n s d t)).alloc (.cells #[.int .i64 lv] 3)).alloc (.cells #[.bool false] 4)).grownBy w1 none) := grownBy_trans (grow1 _ _) g1
  clear g1
  go_wp2_with fail
  refine (HK.out _ (grownBy_trans (grow3 _ _ _ _) G1.out)).mono ?_
  rintro e w2 ⟨rfl, g2⟩
  have R7 : w2.heap[w.heap.size + 1 + 1]? = some (.cells #[.bool false] 4 (0, 0)) := (g2.block (w.heap.size + 1 + 1) (by have := G1.out.size; simp at this; omega) (by simp)).trans ((G1.out.block (w.heap.size + 1 + 1) (by simp) (by simp)).trans (at_alloc3 _ _ _ _))
  have r0 : w2.cell? ⟨w.heap.size + 1 + 1, 0, none⟩ = some (.bool false) := by simp [World.cell?, R7]
  have r1 : w2.frozen? ⟨w.heap.size + 1 + 1, 0, none⟩ = false := by simp [World.frozen?, R7]
  have HG2 : Hid (w.grownBy w2 none) := grownBy_trans (grow3 _ _ _ _) (grownBy_trans G1.out g2)
  clear g2
  go_wp2_with fail
  have u2 : (w2.setCell ⟨w.heap.size + 1 + 1, 0, none⟩ (.bool true)).heap[w.heap.size + 1 + 1]? = some (.cells #[.bool true] 4 (0, 0)) := by simp [World.setCell, Array.getElem?_modify, R7]
  refine bodyPost_ret (res_ql _ _ (w.heap.size + 1 + 1) true rfl u2) rfl ?_
  exact ⟨rfl, grown_set HG2.out (by omega)⟩
theorem qlH_no {n d : Bool} {s t : ByteArray} (z1 : s.size ≤ maxLen) (z2 : t.size ≤ maxLen) (hm : mayQ n s d t = false) : QlH n d s t [] (fun _ => (false, eS)) false := by
  have HM : Hid (∀ w, Calls Tryz.prog 40 #[frac n s d t] w fun e w' => e = .returned (.bool false) ∧ w.grownBy w' none) := fun w => by
    have := mayq_any n d s t z1 z2 w
    rw [hm] at this
    exact this
  refine ⟨fun w => ?_, (fun h => by cases h), fun _ => rfl, fun N9 b m Bx B I hN h1 h2 hm1 hI => ?_, by simp⟩
  · have := rmayq_any n d s t z1 z2 w
    rw [hm] at this
    exact this
  · obtain rfl : N9 = 0 := by simpa using hN
    cases b with
    | false => have := h1 rfl; omega
    | true => exact hands_none (quot_none HM m hm1 Bx _ (fun W ⟨o, hj⟩ => hI _ _ hj))
theorem qlH_yes {n d : Bool} {s t : ByteArray} (z1 : s.size ≤ maxLen) (z2 : t.size ≤ maxLen) (hm : mayQ n s d t = true) (l1 : t.size ≤ 100) : ∃ ql, QlH n d s t ql (fun i => ez (ql[i]?.getD 0)) true := by
  have hq := mayQ_is hm
  have sy : Sz 100 (num d t) d t := may_sz (hq.zd.may (by decide)) l1
  obtain ⟨l, hl⟩ := eu_ex (num d t).toNat (num n s) (num d t) hq.pos (Nat.le_refl _)
  have hlen := hl.short sy.2
  have hl0 : 0 < l.length := by cases l with | nil => exact absurd hl (by simp [Eu]) | cons a b => simp
  have hZ : ∀ (i : Nat) (q : Int), l[i]? = some q → IsZ q ((fun i : Nat => ez (l[i]?.getD 0)) i).1 ((fun i : Nat => ez (l[i]?.getD 0)) i).2 := fun i q hi => by
    simp only [hi]
    exact ez_is q
  refine ⟨l, fun w => ?_, fun _ w => rquot_any hq l hl _ hZ hlen w, (fun h => by cases h), fun N9 b m Bx B I hN h1 h2 hm1 hI => ?_, hlen⟩
  · have := rmayq_any n d s t z1 z2 w
    rw [hm] at this
    exact this
  · refine quot_handsG hq l hl _ hZ N9 b hN ?_ h2 m hm1 Bx B I hI
    cases b with
    | false => exact h1 rfl
    | true => rw [h2 rfl]; exact hl0
theorem qlaw_any (n d : Bool) (s t : ByteArray) (z1 : s.size ≤ maxLen) (z2 : t.size ≤ maxLen) (ao : Option Addr) (nl cp : Nat) (L : List (Bool × ByteArray)) (lv : Int) (w : World)
    (hS : SrcW w ao nl L) (hcp : nl ≤ cp) (hx0 : ao = none → cp = 0) (hnb : (nl + 1) * 24 ≤ 140737488355328) (hsz : ∀ p ∈ L, p.2.size ≤ maxLen) (htab : Lib.TabIs Tryz.prog w "internal/strconv.uint64pow10" .u64 Lib.pow10Tab) :
    Calls Tryz.prog 5 #[frac n s d t, .slice ao nl cp, .int .i64 lv] w fun e w' => e = .returned (.bool true) ∧ w.grownBy w' none := by
  have HK := known_in htab
  by_cases l1 : s.size ≤ 100 ∧ t.size ≤ 100
  · have HL := longq_one (n := n) (d := d) 100 (by decide) l1
    by_cases hnl : nl ≤ 200 ∨ 4096 < nl
    · cases hm : mayQ n s d t
      · exact quot_law n d s t _ _ _ (qlH_no z1 z2 hm) ao nl cp L lv w hS hcp hx0 hnb hsz hnl HL HK
      · obtain ⟨ql, hH⟩ := qlH_yes z1 z2 hm l1.2
        exact quot_law n d s t _ _ _ hH ao nl cp L lv w hS hcp hx0 hnb hsz hnl HL HK
    · exact ql_k2 n d s t ao nl cp lv (by omega) (by omega) w HL HK
  · exact ql_k1 n d s t ao nl cp lv w (longq_one_yes (n := n) (d := d) 100 (by decide) z1 z2 l1) HK
end Go.Proofs.YtdfliaogmlpefaaGreatDoor
