/-
  slices.Backward of digits: what a range over it goes through, the last place first.
-/
import Derived.RangeFuncFrom
import Derived.RangeFuncNested
import Derived.RangeFuncBound
import Derived.RangeFuncCalls
import Derived.RangeFuncLeaves
import Derived.RangeFuncBox
import Derived.Shelf.Abstract
import Derived.Shelf.RegionOpen
import Derived.OwnWalkIn
import Derived.TacticsInMore
import Derived.LoopNIn
import Derived.LoopIn
import Derived.Test.YtmgbkcfocbbofabGreatDoorBunMor
namespace Go.Proofs.YtmgbkcfocbbofabGreatDoor
open Go.RowKit Go.Lib Go.Sort Go.Shelf
attribute [local go_sem] Oper.semAt_some

/-- The blocks of K are as they were. -/
def KeepsIn (K : Nat → Prop) (A B : World) : Prop := ∀ i, K i → B.heap[i]? = A.heap[i]?
theorem KeepsIn.refl (K : Nat → Prop) (A : World) : KeepsIn K A A := fun _ _ => rfl
theorem KeepsIn.trans {K : Nat → Prop} {A B C : World} (h : KeepsIn K A B) (k : KeepsIn K B C) : KeepsIn K A C := fun i hi => (k i hi).trans (h i hi)
theorem KeepsIn.cell {K : Nat → Prop} {A B : World} (h : KeepsIn K A B) {b o : Nat} (hb : K b) : B.cell? ⟨b, o, none⟩ = A.cell? ⟨b, o, none⟩ := by
  simp only [World.cell?, h b hb]
theorem KeepsIn.put {K : Nat → Prop} {w : World} (hK : ∀ i, K i → i < w.heap.size) (W : World) (l : Nat) (o o' : Obj) (hl : w.heap.size ≤ l) (h : W.heap[l]? = some o) (_ : o.isCells = false) (_ : o.isWalk = false) : KeepsIn K W (W.putObj l o') := fun i hi => by
  have hlt := hK i hi
  have hls := (Array.getElem?_eq_some_iff.1 h).1
  exact (grownBy_putObj' W l o').block i (by omega) (by intro e; injection e with e; omega)
theorem KeepsIn.grown {K : Nat → Prop} {A B : World} {row : Option Nat} (hg : A.grownBy B row) (hK : ∀ i, K i → i < A.heap.size ∧ row ≠ some i) : KeepsIn K A B := fun i hi => hg.block i (hK i hi).1 (fun e => (hK i hi).2 e.symm)

/-- The places of k digits, the last one first. -/
def Down (k : Nat) (xs : List (Fin k)) : Prop := ∀ t (h : t < xs.length), (xs[t]).1 + t + 1 = k
theorem Down.nil (k : Nat) : Down k [] := fun t h => by simp at h
theorem Down.snoc {k : Nat} {xs : List (Fin k)} (h : Down k xs) (x : Fin k) (hx : x.1 + xs.length + 1 = k) : Down k (xs ++ [x]) := by
  intro t ht
  rw [List.length_append, List.length_singleton] at ht
  by_cases h1 : t < xs.length
  · rw [List.getElem_append_left h1]; exact h t h1
  · obtain rfl : t = xs.length := by omega
    simpa using hx

def encD {k : Nat} (L : List Nat) (x : Fin k) : Array Value := #[.int .i64 (x.1 : Int), .int .u32 ((L[x.1]?.getD 0 : Nat) : Int)]

set_option maxRecDepth 100000 in
set_option maxHeartbeats 2000000 in
theorem back_in (F : Fence) (n : Nat) (hf : F.fn 87) (hro : F.round = none) (hn : 1 ≤ n) (l Bs : Nat) (K : Nat → Prop) (L : List Nat) (k cp : Nat) (ab : Option Addr) (hk9 : (k : Int) ≤ 1000000000) (J Jx : List (Fin k) → World → Prop)
    (hY : ∀ pre x W, J pre W → pre.length < k → YieldAt F (n - 1) Tryz.prog l (encD L x) W fun e W' =>
      (e = .returned (.bool true) ∧ J (pre ++ [x]) W' ∧ KeepsIn K W W') ∨ (e = .returned (.bool false) ∧ Jx (pre ++ [x]) W'))
    (W : World) (HC : Hid (∀ W', KeepsIn K W W' → W'.cell? ⟨Bs, 0, none⟩ = some (.slice ab k cp) ∧ ∀ j, j < k → ∃ B off, ab = some ⟨B, off, none⟩ ∧ W'.cell? ⟨B, off + j, none⟩ = some (.int .u32 ((L[j]?.getD 0 : Nat) : Int)) ∧ k ≤ cp)) (h0 : J [] W) :
    CallsIn F n Tryz.prog 87 #[.func (.yield l) #[] #[], .pointer (some ⟨Bs, 0, none⟩)] W fun e W' => (∃ v, e = .returned v) ∧
      ((∃ ys, (Down k ys ∧ ys.length = k) ∧ J ys W') ∨ (∃ pre, (Down k pre ∧ 0 < pre.length) ∧ Jx pre W')) := by
  have hcs := (HC.out W (KeepsIn.refl _ _)).1
  refine callsIn_of_wp Tryz.func87 rfl hf ?_ hro
  simp only [Tryz.ntmps87, List.size_toArray, List.length_cons, List.length_nil, Nat.reduceAdd, Nat.reduceSub, Array.replicate_succ, Array.replicate_zero, List.push_toArray, List.append_toArray, List.nil_append, List.cons_append]
  gi_wp2
  clear hcs
  gi_loopw [3] (fun i wr => ∃ (m : Nat) (pre : List (Fin k)), m ≤ k ∧ i = .int .i64 ((m : Int) - 1) ∧ pre.length + m = k ∧ Down k pre ∧ J pre wr ∧ KeepsIn K W wr) (fun i _ => (RowKit.intOf i + 1).toNat)
  case atStart => exact ⟨k, [], Nat.le_refl _, rfl, by simp, Down.nil _, h0, KeepsIn.refl _ _⟩
  case round =>
    obtain ⟨m, pre, hm, rfl, hl, hd, hJ, hK⟩ := hrel
    obtain ⟨hcs, hdig⟩ := HC.out wr hK
    rcases Nat.eq_zero_or_pos m with rfl | hm0
    · gi_wp2
      go_end0
      exact ⟨⟨_, rfl⟩, .inl ⟨pre, ⟨hd, by omega⟩, hJ⟩⟩
    · obtain ⟨q, rfl⟩ : ∃ q, m = q + 1 := ⟨m - 1, by omega⟩
      obtain ⟨B, off, rfl, hc, hcp⟩ := hdig q (by omega)
      have hY1 : YieldAt F (n - 1) Tryz.prog l #[.int .i64 (q : Int), .int .u32 ((L[q]?.getD 0 : Nat) : Int)] wr fun e W' =>
        (e = .returned (.bool true) ∧ J (pre ++ [⟨q, by omega⟩]) W' ∧ KeepsIn K wr W') ∨ (e = .returned (.bool false) ∧ Jx (pre ++ [⟨q, by omega⟩]) W') := hY pre ⟨q, by omega⟩ wr hJ (by omega)
      rw [show (((q + 1 : Nat) : Int) - 1) = (q : Int) by omega]
      have hqk : (q : Int) < (k : Int) := by omega
      clear hdig
      obtain ⟨fn, tmps, assign, body, hy, hR⟩ := hY1
      gi_wp2
      refine hR.mono ?_
      rintro e W3 (⟨rfl, hJ3, hK3⟩ | ⟨rfl, hJx3⟩)
      · gi_wp2
        go_roundw
        case rel => exact ⟨q, pre ++ [⟨q, by omega⟩], by omega, rfl, by simp; omega, hd.snoc _ (by simp; omega), hJ3, hK.trans hK3⟩
        case measure => simp [RowKit.intOf]
      · gi_wp2
        refine bodyPost_ret (results_none rfl _ _ _) rfl ?_
        exact ⟨⟨_, rfl⟩, .inr ⟨_, ⟨hd.snoc ⟨q, by omega⟩ (by simp; omega), by simp⟩, hJx3⟩⟩

/-- The contract of the iterator: K's blocks (the digits', the captured slice's) must stay while the body runs. -/
theorem back_stops (F : Fence) (n : Nat) (hf : F.fn 87) (hro : F.round = none) (hn : 1 ≤ n) (Bs : Nat) (K : Nat → Prop) (L : List Nat) (k cp : Nat) (ab : Option Addr) (hk9 : (k : Int) ≤ 1000000000) (w : World) (hL : L.length = k)
    (hKs : K Bs) (hKd : 0 < k → ∀ b, ab = some b → K b.block) (hKw : ∀ i, K i → i < w.heap.size) (hs : w.cell? ⟨Bs, 0, none⟩ = some (.slice ab k cp)) (hd : D4 w (.slice ab k cp) L) :
    SeqStopsK F n Tryz.prog 87 #[.pointer (some ⟨Bs, 0, none⟩)] (encD (k := k) L) (KeepsIn K) (fun ys => Down k ys ∧ ys.length = k) (fun pre => Down k pre ∧ 0 < pre.length) k w := fun l J Jx W hW _ _ hY h0 =>
  back_in F n hf hro hn l Bs K L k cp ab hk9 J Jx hY W (by
    intro W' hK
    have hk : KeepsIn K w W' := fun i hi => (hK i hi).trans (hW.block i (hKw i hi))
    refine ⟨(hk.cell hKs).trans hs, fun j hj => ?_⟩
    rcases hd with ⟨_, e⟩ | ⟨B, off, c, e, hc, h⟩
    · rw [e] at hL; simp at hL; omega
    · obtain ⟨rfl, _, rfl⟩ := Value.slice.inj e
      exact ⟨B, off, rfl, (hk.cell (hKd (by omega) _ rfl)).trans (h j (by omega)), by omega⟩) h0

set_option maxHeartbeats 1600000 in
set_option maxRecDepth 1000000 in
theorem backward_all (a : Option Addr) (n c : Nat) (w : World) :
    Calls Tryz.prog 61 #[.slice a n c] w fun e w' => e = .returned (.func (.func 87) #[] #[.pointer (some ⟨w.heap.size, 0, none⟩)]) ∧ w' = w.alloc (.cells #[.slice a n c] 52) := by
  go_enter Tryz.func61, Tryz.ntmps61
  go_wp2
  go_ret
  exact ⟨rfl, rfl⟩
end Go.Proofs.YtmgbkcfocbbofabGreatDoor
