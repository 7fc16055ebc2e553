/-
  cutBy: 300 by 1000000000: a range over slices.Backward of one digit.
-/
import Derived.RangeFuncFrom
import Derived.RangeFuncNested
import Derived.RangeFuncBound
import Derived.RangeFuncCalls
import Derived.RangeFuncLeaves
import Derived.RangeFuncBox
import Derived.Shelf.Abstract
import Derived.Shelf.RegionOpen
import Derived.OwnWalkIn
import Derived.TacticsInMore
import Derived.LoopNIn
import Derived.LoopIn
import Derived.Test.YtgemkfiippooeaaGreatDoorDig
namespace Go.Proofs.YtgemkfiippooeaaGreatDoor
open Go.RowKit Go.Lib Go.Sort Go.Shelf
attribute [local go_sem] Oper.semAt_some

set_option maxRecDepth 100000 in
set_option maxHeartbeats 2000000 in
theorem back1_in (F : Fence) (n : Nat) (hf : F.fn 163) (hro : F.round = none) (hn : 1 ≤ n) (l Bs Bd : Nat) (J Jx : List Unit → World → Prop)
    (hY : ∀ pre x W, J pre W → pre.length < 1 → YieldAt F (n - 1) Tryz.prog l #[.int .i64 0, .int .u32 300] W fun e W' =>
      (e = .returned (.bool true) ∧ J (pre ++ [x]) W' ∧ True) ∨ (e = .returned (.bool false) ∧ Jx (pre ++ [x]) W'))
    (W : World) (hBs : W.cell? ⟨Bs, 0, none⟩ = some (.slice (some ⟨Bd, 0, none⟩) 1 1)) (hc : W.cell? ⟨Bd, 0, none⟩ = some (.int .u32 300)) (h0 : J [] W) :
    CallsIn F n Tryz.prog 163 #[.func (.yield l) #[] #[], .pointer (some ⟨Bs, 0, none⟩)] W fun e W' => (∃ v, e = .returned v) ∧
      ((∃ ys, ys = [()] ∧ J ys W') ∨ (∃ pre, pre = [()] ∧ Jx pre W')) := by
  refine callsIn_of_wp Tryz.func163 rfl hf ?_ hro
  simp only [Tryz.ntmps163, List.size_toArray, List.length_cons, List.length_nil, Nat.reduceAdd, Nat.reduceSub, Array.replicate_succ, Array.replicate_zero, List.push_toArray, List.append_toArray, List.nil_append, List.cons_append]
  gi_wp2
  gi_loopw [3] (fun i wr => (i = .int .i64 0 ∧ wr = W) ∨ (i = .int .i64 (-1) ∧ J [()] wr)) (fun i _ => (RowKit.intOf i + 1).toNat)
  case atStart => exact .inl ⟨rfl, rfl⟩
  case round =>
    rcases hrel with ⟨rfl, rfl⟩ | ⟨rfl, hJ⟩
    · obtain ⟨fn, tmps, assign, body, hy, hR⟩ := hY [] () wr h0 (by simp)
      gi_wp2
      refine hR.mono ?_
      rintro e W3 (⟨rfl, hJ3, _⟩ | ⟨rfl, hJx3⟩)
      · gi_wp2
        go_roundw
        case rel => exact .inr ⟨rfl, hJ3⟩
        case measure => simp [RowKit.intOf]
      · gi_wp2
        refine bodyPost_ret (results_none rfl _ _ _) rfl ?_
        exact ⟨⟨_, rfl⟩, .inr ⟨_, rfl, hJx3⟩⟩
    · gi_wp2
      go_end0
      exact ⟨⟨_, rfl⟩, .inl ⟨_, rfl, hJ⟩⟩

theorem back1_stops (F : Fence) (n : Nat) (hf : F.fn 163) (hro : F.round = none) (hn : 1 ≤ n) (Bs Bd : Nat) (w : World) (hs : Bs < w.heap.size) (hd : Bd < w.heap.size)
    (hBs : w.cell? ⟨Bs, 0, none⟩ = some (.slice (some ⟨Bd, 0, none⟩) 1 1)) (hc : w.cell? ⟨Bd, 0, none⟩ = some (.int .u32 300)) :
    SeqStopsK F n Tryz.prog 163 #[.pointer (some ⟨Bs, 0, none⟩)] (fun _ : Unit => #[Value.int .i64 0, Value.int .u32 300]) (fun _ _ => True) (fun ys => ys = [()]) (fun pre => pre = [()]) 1 w := fun l J Jx W hW _ _ hY h0 =>
  back1_in F n hf hro hn l Bs Bd J Jx hY W ((hW.cell (p := ⟨Bs, 0, none⟩) hs).trans hBs) ((hW.cell (p := ⟨Bd, 0, none⟩) hd).trans hc) h0

/-- What cutBy's own cells and the digit hold, behind no round and behind the one. -/
def cutI (w : World) (Bd : Nat) (pre : List Unit) (W : World) : Prop :=
  W.heap[w.heap.size]? = some (.cells #[.slice (some ⟨Bd, 0, none⟩) 1 1] 88 (0, 0)) ∧ W.heap[w.heap.size + 1]? = some (.cells #[.int .u32 1000000000] 87 (0, 0)) ∧
  W.heap[w.heap.size + 2]? = some (.cells #[.int .u64 (if pre = [] then 0 else 300)] 85 (0, 0)) ∧ BlkL W Bd 87 enc4 [if pre = [] then 300 else 0] ∧ w.grownBy W (some Bd)

theorem cutI_own (w : World) (Bd B : Nat) (hB : w.heap.size ≤ B) : OwnFrom B (cutI w Bd) := by
  intro s W W' row ⟨h1, h2, h3, h4, h5⟩ hg hr
  have hne : ∀ (i : Nat) (o : Obj), W.heap[i]? = some o → o.isCells = true → row ≠ some i := by
    intro i o ho hc e
    obtain ⟨_, o', ho', hc'⟩ := hr i e
    rw [ho] at ho'
    cases ho'
    rw [hc] at hc'
    exact absurd hc' (by simp)
  have hk : ∀ (i : Nat) (o : Obj), W.heap[i]? = some o → o.isCells = true → W'.heap[i]? = some o := fun i o ho hc =>
    (hg.block i (Array.getElem?_eq_some_iff.1 ho).1 (fun e => hne i o ho hc e.symm)).trans ho
  refine ⟨hk _ _ h1 rfl, hk _ _ h2 rfl, hk _ _ h3 rfl, hk _ _ h4 rfl, ⟨hg.os.trans h5.os, hg.tape.trans h5.tape, hg.output.trans h5.output, Nat.le_trans h5.size hg.size, fun i hi hn => ?_⟩⟩
  refine (hg.block i (Nat.lt_of_lt_of_le hi h5.size) (fun e => ?_)).trans (h5.block i hi hn)
  have := (hr i e.symm).1
  omega

set_option maxHeartbeats 1600000 in
set_option maxRecDepth 1000000 in
theorem backward_any (v : Value) (hv : ∃ B n c, v = .slice (some ⟨B, 0, none⟩) n c) (w : World) :
    Calls Tryz.prog 143 #[v] w fun e w' => e = .returned (.func (.func 163) #[] #[.pointer (some ⟨w.heap.size, 0, none⟩)]) ∧ w' = w.alloc (.cells #[v] 88) := by
  obtain ⟨B, n, c, rfl⟩ := hv
  go_enter Tryz.func143, Tryz.ntmps143
  go_wp2
  go_ret
  exact ⟨rfl, rfl⟩

theorem cut_end {w W W2 : World} {Bd : Nat} (hd : Bd < w.heap.size) (KO : KeepsOthers W W2) (b1 : W2.heap[w.heap.size]? = some (.cells #[.slice (some ⟨Bd, 0, none⟩) 1 1] 88 (0, 0))) (b2 : W2.heap[w.heap.size + 1]? = some (.cells #[.int .u32 1000000000] 87 (0, 0)))
    (b3 : W2.heap[w.heap.size + 1 + 1]? = some (.cells #[.int .u64 300] 85 (0, 0))) (b4 : BlkL W2 Bd 87 enc4 [300]) (G5 : w.grownBy W2 (some Bd)) :
    KeepsOthers W ((W2.setCell ⟨Bd, 0, none⟩ (.int .u32 0)).setCell ⟨w.heap.size + 1 + 1, 0, none⟩ (.int .u64 300)).drew ∧ True ∧ cutI w Bd [()] ((W2.setCell ⟨Bd, 0, none⟩ (.int .u32 0)).setCell ⟨w.heap.size + 1 + 1, 0, none⟩ (.int .u64 300)).drew := by
  have k1 := grownBy_setCell W2 Bd 0 (.int .u32 0)
  have k2 := grownBy_setCell (W2.setCell ⟨Bd, 0, none⟩ (.int .u32 0)) (w.heap.size + 1 + 1) 0 (.int .u64 300)
  have l1 := (Array.getElem?_eq_some_iff.1 b1).1
  have l2 := (Array.getElem?_eq_some_iff.1 b2).1
  have l3 := (Array.getElem?_eq_some_iff.1 b3).1
  have two : ∀ i, i < W2.heap.size → i ≠ Bd → i ≠ w.heap.size + 1 + 1 → ((W2.setCell ⟨Bd, 0, none⟩ (.int .u32 0)).setCell ⟨w.heap.size + 1 + 1, 0, none⟩ (.int .u64 300)).heap[i]? = W2.heap[i]? := fun i hi h1 h2 =>
    (k2.block i (Nat.lt_of_lt_of_le hi k1.size) (by intro e; injection e with e; exact h2 e)).trans (k1.block i hi (by intro e; injection e with e; exact h1 e))
  refine ⟨((KO.trans (KeepsOthers.setCell _ _ _)).trans (KeepsOthers.setCell _ _ _)).trans (KeepsOthers.drew _), trivial, ?_, ?_, ?_, ?_, ?_⟩
  · exact (two _ l1 (by omega) (by omega)).trans b1
  · exact (two _ l2 (by omega) (by omega)).trans b2
  · have e : (W2.setCell ⟨Bd, 0, none⟩ (.int .u32 0)).heap[w.heap.size + 1 + 1]? = some (.cells #[.int .u64 300] 85 (0, 0)) := (k1.block _ l3 (by intro e; injection e with e; omega)).trans b3
    show ((W2.setCell ⟨Bd, 0, none⟩ (.int .u32 0)).setCell ⟨w.heap.size + 1 + 1, 0, none⟩ (.int .u64 300)).heap[w.heap.size + 1 + 1]? = _
    generalize W2.setCell ⟨Bd, 0, none⟩ (.int .u32 0) = W3 at *
    simp [World.setCell, Array.getElem?_modify, e]
  · have h1 : BlkL (W2.setCell ⟨Bd, 0, none⟩ (enc4 0)) Bd 87 enc4 [0] := b4.set 0 0
    exact BlkL.kept h1 (grow_drew k2) (by intro e; injection e with e; omega)
  · exact grow_drew ⟨(k2.os.trans k1.os).trans G5.os, (k2.tape.trans k1.tape).trans G5.tape, (k2.output.trans k1.output).trans G5.output, Nat.le_trans G5.size (Nat.le_trans k1.size k2.size), fun i hi hn =>
      (two i (Nat.lt_of_lt_of_le hi G5.size) (fun e => hn (by rw [e])) (by omega)).trans (G5.block i hi hn)⟩

set_option maxRecDepth 100000 in
set_option maxHeartbeats 4000000 in
theorem cutBy300 (w : World) (Bd : Nat) (hd : Bd < w.heap.size) (hD : BlkL w Bd 87 enc4 [300]) :
    Calls Tryz.prog 116 #[.slice (some ⟨Bd, 0, none⟩) 1 1, .int .u32 1000000000] w fun e w' => e = .returned (.int .u32 300) ∧ BlkL w' Bd 87 enc4 [0] ∧ w.grownBy w' (some Bd) := by
  refine (callsIn_wide (n := 5)).1 ?_
  refine callsIn_of_wp_marks Tryz.func116 rfl trivial ?_ rfl
  simp only [Tryz.ntmps116, List.size_toArray, List.length_cons, List.length_nil, Nat.reduceAdd, Nat.reduceSub, Array.replicate_succ, Array.replicate_zero, List.push_toArray, List.append_toArray, List.nil_append, List.cons_append]
  gi_wp2
  refine ⟨trivial, ?_⟩
  refine (callsIn_wide.2 (backward_any _ ⟨_, _, _, rfl⟩ _)).mono ?_
  rintro e w' ⟨rfl, rfl⟩
  gi_wp2
  have hD0 := hD.cell 0 (by simp)
  simp only [List.getElem?_cons_zero, Option.getD_some] at hD0
  have hG0 : w.grownBy ((((w.alloc (Obj.cells #[Value.slice (some ⟨Bd, 0, none⟩) 1 1] 88)).alloc (Obj.cells #[Value.int IntKind.u32 1000000000] 87)).alloc (Obj.cells #[Value.int IntKind.u64 0] 85)).alloc (Obj.cells #[Value.slice (some ⟨Bd, 0, none⟩) 1 1] 88)) none := grow4 _ _ _ _ _
  have h3 : ((((w.alloc (Obj.cells #[Value.slice (some ⟨Bd, 0, none⟩) 1 1] 88)).alloc (Obj.cells #[Value.int IntKind.u32 1000000000] 87)).alloc (Obj.cells #[Value.int IntKind.u64 0] 85)).alloc (Obj.cells #[Value.slice (some ⟨Bd, 0, none⟩) 1 1] 88)).cell? ⟨w.heap.size + 1 + 1 + 1, 0, none⟩ = some (Value.slice (some ⟨Bd, 0, none⟩) 1 1) := by
    have := heap_alloc_new (((w.alloc (Obj.cells #[Value.slice (some ⟨Bd, 0, none⟩) 1 1] 88)).alloc (Obj.cells #[Value.int IntKind.u32 1000000000] 87)).alloc (Obj.cells #[Value.int IntKind.u64 0] 85)) (Obj.cells #[Value.slice (some ⟨Bd, 0, none⟩) 1 1] 88)
    simp only [World.size_alloc] at this
    unfold World.cell?
    simp only [this]
    rfl
  refine wpIn_rangeFunc_ownF rfl (by omega) (gf := 163) (lb := #[.pointer (some ⟨w.heap.size + 1 + 1 + 1, 0, none⟩)]) rfl trivial (enters_of Tryz.func163 (by kernel_rfl) rfl)
    (back1_stops Fence.wide (5 - 1) trivial rfl (by omega) (w.heap.size + 1 + 1 + 1) Bd _ (by simp) (by simp; omega) h3 (grownBy_cell hG0 hD0 (by simp))) (fun _ _ => trivial) (fun _ _ _ _ _ _ _ _ => trivial) (Below.refl _ _) (fun _ => rfl)
    (cutI w Bd) (fun _ _ _ => False) (cutI_own w Bd _ (by simp; omega)) (fun _ _ _ _ _ h _ _ => h)
    ⟨old_alloc _ _ (old_alloc _ _ (old_alloc _ _ (heap_alloc_new _ _))), old_alloc _ _ (old_alloc _ _ (heap_alloc2_new _ _ _)), old_alloc _ _ (at_alloc3 _ _ _ _), hD.kept hG0 (by simp), grownBy_any hG0⟩
    (fun _ => { tmps := #[.slice (some ⟨Bd, 0, none⟩) 1 1, .int .u32 1000000000, .pointer (some ⟨w.heap.size, 0, none⟩), .pointer (some ⟨w.heap.size + 1, 0, none⟩), .int .u32 0, .pointer (some ⟨w.heap.size + 1 + 1, 0, none⟩), .int .i64 0, .int .u32 300, .slice (some ⟨Bd, 0, none⟩) 1 1, .func (.func 163) #[] #[.pointer (some ⟨w.heap.size + 1 + 1 + 1, 0, none⟩)], .int .i64 0, .int .u32 300, undef, undef, undef, undef, undef, undef, undef, undef, undef, undef, undef, undef, undef, undef, undef, undef, undef, undef, undef, undef], defers := [] }) ?assign ?body ?done ?stop
  case assign =>
    intro l x W K hK
    gi_wp2
    exact hK
  case stop =>
    rintro D c pre W _ _ h _
    exact h.elim
  case body =>
    rintro l pre x W ⟨h1, h2, h3, h4, h5⟩ hlen
    obtain rfl : pre = [] := by simpa using hlen
    simp only [if_true] at h3 h4
    have c1 : W.cell? ⟨w.heap.size, 0, none⟩ = some (.slice (some ⟨Bd, 0, none⟩) 1 1) := by simp [World.cell?, h1]
    have c2 : W.cell? ⟨w.heap.size + 1, 0, none⟩ = some (.int .u32 1000000000) := by simp [World.cell?, h2]
    have c3 : W.cell? ⟨w.heap.size + 1 + 1, 0, none⟩ = some (.int .u64 0) := by simp [World.cell?, h3]
    have f3 : W.frozen? ⟨w.heap.size + 1 + 1, 0, none⟩ = false := by simp [World.frozen?, h3]
    have c4 := h4.cell 0 (by simp)
    have f4 := h4.frozen 0
    simp only [List.getElem?_cons_zero, Option.getD_some] at c4
    have hor : bits .or .u64 0 300 = 300 := by decide +kernel
    gi_wp2
    have hne1 : w.heap.size + 1 + 1 ≠ w.heap.size := by omega
    have hne2 : w.heap.size + 1 + 1 ≠ w.heap.size + 1 := by omega
    have hne3 : w.heap.size + 1 + 1 ≠ Bd := by omega
    have g1 : (W.setCell ⟨w.heap.size + 1 + 1, 0, none⟩ (.int .u64 0)).setCell ⟨w.heap.size + 1 + 1, 0, none⟩ (.int .u64 300) = (W.setCell ⟨w.heap.size + 1 + 1, 0, none⟩ (.int .u64 0)).setCell ⟨w.heap.size + 1 + 1, 0, none⟩ (.int .u64 300) := rfl
    have k1 : W.grownBy ((W.setCell ⟨w.heap.size + 1 + 1, 0, none⟩ (.int .u64 0)).setCell ⟨w.heap.size + 1 + 1, 0, none⟩ (.int .u64 300)) (some (w.heap.size + 1 + 1)) := grownBy_trans (grownBy_setCell _ _ _ _) (grownBy_setCell _ _ _ _)
    have KO : KeepsOthers W ((W.setCell ⟨w.heap.size + 1 + 1, 0, none⟩ (.int .u64 0)).setCell ⟨w.heap.size + 1 + 1, 0, none⟩ (.int .u64 300)) := (KeepsOthers.setCell _ _ _).trans (KeepsOthers.setCell _ _ _)
    have b1 := (k1.block w.heap.size (Array.getElem?_eq_some_iff.1 h1).1 (by intro e; injection e with e; omega)).trans h1
    have b2 := (k1.block (w.heap.size + 1) (Array.getElem?_eq_some_iff.1 h2).1 (by intro e; injection e with e; omega)).trans h2
    have b4 := h4.kept k1 (by intro e; injection e with e; omega)
    have b3 : ((W.setCell ⟨w.heap.size + 1 + 1, 0, none⟩ (.int .u64 0)).setCell ⟨w.heap.size + 1 + 1, 0, none⟩ (.int .u64 300)).heap[w.heap.size + 1 + 1]? = some (.cells #[.int .u64 300] 85 (0, 0)) := by
      have e : W.heap[w.heap.size + 1 + 1]? = some (.cells #[.int .u64 0] 85 (0, 0)) := h3
      simp [World.setCell, Array.getElem?_modify, e]
    have G5 : w.grownBy ((W.setCell ⟨w.heap.size + 1 + 1, 0, none⟩ (.int .u64 0)).setCell ⟨w.heap.size + 1 + 1, 0, none⟩ (.int .u64 300)) (some Bd) := ⟨k1.os.trans h5.os, k1.tape.trans h5.tape, k1.output.trans h5.output, Nat.le_trans h5.size k1.size, fun i hi hn => (k1.block i (Nat.lt_of_lt_of_le hi h5.size) (by intro e; injection e with e; omega)).trans (h5.block i hi hn)⟩
    clear h1 h2 h3 h4 h5 c1 c2 c3 c4 f3 f4 k1 g1
    generalize (W.setCell ⟨w.heap.size + 1 + 1, 0, none⟩ (.int .u64 0)).setCell ⟨w.heap.size + 1 + 1, 0, none⟩ (.int .u64 300) = W2 at *
    have c1 : W2.cell? ⟨w.heap.size, 0, none⟩ = some (.slice (some ⟨Bd, 0, none⟩) 1 1) := by simp [World.cell?, b1]
    have c2 : W2.cell? ⟨w.heap.size + 1, 0, none⟩ = some (.int .u32 1000000000) := by simp [World.cell?, b2]
    have c3 : W2.cell? ⟨w.heap.size + 1 + 1, 0, none⟩ = some (.int .u64 300) := by simp [World.cell?, b3]
    have f3 : W2.frozen? ⟨w.heap.size + 1 + 1, 0, none⟩ = false := by simp [World.frozen?, b3]
    have c4 := b4.cell 0 (by simp)
    have f4 := b4.frozen 0
    simp only [List.getElem?_cons_zero, Option.getD_some] at c4
    have hmx : Tryz.prog.follows .mixedOrders = true := by kernel_rfl
    have h0f : ((1000000000 : Int) == 0) = false := by decide
    have CE := cut_end hd KO b1 b2 b3 b4 G5
    gi_region
    all_goals gi_wp2
    all_goals exact CE
  case done =>
    rintro D ys W hD' rfl ⟨h1, h2, h3, h4, h5⟩ hK
    have c3 : W.cell? ⟨w.heap.size + 1 + 1, 0, none⟩ = some (.int .u64 300) := by simp [World.cell?, h3]
    gi_wp2
    refine ⟨by simp, .inl ⟨_, _, rfl, run_takeDeferred hK, ?_⟩⟩
    have kD := grownBy_putObj' W D (.deferred none)
    have hDs : w.heap.size ≤ D := by simp at hD'; omega
    refine ⟨_, results_tmp rfl _ _ _, rfl, BlkL.kept h4 kD (by intro e; injection e with e; omega), ?_⟩
    exact ⟨kD.os.trans h5.os, kD.tape.trans h5.tape, kD.output.trans h5.output, Nat.le_trans h5.size kD.size, fun i hi hn => (kD.block i (Nat.lt_of_lt_of_le hi h5.size) (by intro e; injection e with e; omega)).trans (h5.block i hi hn)⟩
end Go.Proofs.YtgemkfiippooeaaGreatDoor
