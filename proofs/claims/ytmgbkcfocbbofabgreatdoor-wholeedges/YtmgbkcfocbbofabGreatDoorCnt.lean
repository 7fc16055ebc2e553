/-
  A range over a function whose rounds are counted: the caller's invariant goes from round to round by their number, and the iterator may lean on it. With slices.Backward of digits that the body writes itself.
-/
import Derived.Test.YtmgbkcfocbbofabGreatDoorBwd
namespace Go.Proofs.YtmgbkcfocbbofabGreatDoor
open Go.RowKit Go.Lib Go.Sort Go.Shelf
attribute [local go_sem] Oper.semAt_some

/-- The iterator hands over encs 0, encs 1 .. encs (N - 1), whatever J the loop carries, if J says I. -/
def Hands (F : Fence) (n : Nat) (P : Program) (gf : Nat) (lb : Array Value) (encs : Nat → Array Value) (N : Nat) (I : Nat → World → Prop) : Prop :=
  ∀ (l : Nat) (J : Nat → World → Prop), (∀ t W, J t W → I t W) →
    (∀ t W, t < N → J t W → YieldAt F (n - 1) P l (encs t) W fun e W' => e = .returned (.bool true) ∧ J (t + 1) W') →
    ∀ W, J 0 W → CallsIn F n P gf (#[.func (.yield l) #[] #[]] ++ lb) W fun e W' => (∃ v, e = .returned v) ∧ J N W'

/-- How the body of a counted round ends. -/
def roundTo (I : Nat → World → Prop) (t : Nat) (W : World) : Exit → Act → World → Prop
  | .normal, _, W' => KeepsOthers W W' ∧ I t W'
  | _, _, _ => False

theorem wpIn_counted {F : Fence} {n : Nat} {P : Program} {g : Operand} {ps : Array Tmp} {assign body : Code} {Q : Exit → Act → World → Prop} {a : Act} {w : World}
    (hro : F.round = none) (h1 : 1 ≤ n) {gf : Nat} {lb : Array Value} (hg : a.eval g = .func (.func gf) #[] lb) (hFg : F.fn gf) (eg : ∀ args w, (callFunc gf args).run P w = .ok (.enter gf args) w)
    (encs : Nat → Array Value) (N : Nat) (hps : ∀ t, (encs t).size = ps.size) (I : Nat → World → Prop) (hI : OwnFrom w.heap.size I) (h0 : I 0 w) (hit : Hands F (n - 1) P gf lb encs N I) (a₁ : Nat → Act)
    (hassign : ∀ (l t : Nat) (W : World) (K : Act → World → Prop), K (a₁ t) W →
      assign.wpIn (F.inRound l) (n - 1 - 1) P (Exit.then K (fun _ _ _ => False)) { tmps := (ps.zip (encs t)).foldl (fun t (p, v) => t.setIfInBounds p v) a.tmps, defers := [] } W)
    (hbody : ∀ (l t : Nat) (W : World), t < N → I t W → body.wpIn (F.inRound l) (n - 1 - 1) P (roundTo I (t + 1) W) (a₁ t) W)
    (hdone : ∀ (D : Nat) (W : World), w.heap.size ≤ D → I N W → W.heap[D]? = some (.deferred (some [])) → Q .normal { a with defers := { target := .collected D, args := #[] } :: a.defers } W) :
    (Code.rangeFunc g ps assign body).wpIn F n P Q a w := by
  refine wpIn_rangeFunc fun fn hfn => ?_
  rw [hro]
  obtain ⟨r, hr⟩ : ∃ r : Loop, r = { state := .ready, pending := none, fn, tmps := a.tmps, params := ps, assign, body, defers := w.heap.size } := ⟨_, rfl⟩
  have hen : (Instr.enterLoop fn a.tmps ps assign body none).run P w = .ok (w.heap.size + 1, [{ target := .collected w.heap.size, args := #[] }]) ((w.alloc (.deferred (some []))).alloc (.loop r)) := by
    rw [hr]; exact run_enterLoop_outer _ _ _ _ _
  have rs : r.state = .ready := by rw [hr]
  have rp : r.pending = none := by rw [hr]
  have back : ({ { r with state := .busy } with state := .ready, pending := none } : Loop) = r := by rw [hr]
  have hyl : ∀ (W : World) (t : Nat), W.heap[w.heap.size + 1]? = some (.loop r) → (Instr.yield (w.heap.size + 1) (encs t)).run P W = .ok (.round (w.heap.size + 1) fn ((ps.zip (encs t)).foldl (fun t (p, v) => t.setIfInBounds p v) a.tmps) assign body) W := by
    intro W t hl
    have := run_yield (P := P) (args := encs t) hl (by rw [hr]; exact hps t)
    rw [hr] at this
    exact this
  clear hr
  have hl1 : ((w.alloc (.deferred (some []))).alloc (.loop r)).heap[w.heap.size + 1]? = some (.loop r) := by
    have := World.alloc_heap_new (w.alloc (.deferred (some []))) (.loop r)
    rwa [World.size_alloc] at this
  have hd1 : ((w.alloc (.deferred (some []))).alloc (.loop r)).heap[w.heap.size]? = some (.deferred (some [])) := (Below.heap_alloc _ _ _ (by simp)).trans (World.alloc_heap_new w _)
  have hi1 : I 0 ((w.alloc (.deferred (some []))).alloc (.loop r)) := hI.alloc _ (hI.alloc _ h0)
  generalize hW1 : (w.alloc (.deferred (some []))).alloc (.loop r) = W1 at *
  refine ⟨w.heap.size + 1, [{ target := .collected w.heap.size, args := #[] }], W1, { target := .fn (.func gf) lb, args := #[.func (.yield (w.heap.size + 1)) #[] #[]] }, W1, gf, #[.func (.yield (w.heap.size + 1)) #[] #[]] ++ lb, W1, hen, ?_, ?_, ?_, fun _ => h1, ?_⟩
  · simp only [resolve, hg]
    simp [go_sem]
  · intro f' hf'
    simp [Target.leads] at hf'
    subst hf'
    exact hFg
  · simp [invoke, go_sem, eg]
  refine (hit (w.heap.size + 1) (fun t W => I t W ∧ W.heap[w.heap.size + 1]? = some (.loop r) ∧ W.heap[w.heap.size]? = some (.deferred (some []))) (fun _ _ h => h.1) ?_ _ ⟨hi1, hl1, hd1⟩).mono ?_
  · rintro t W ht ⟨hi, hl, hd⟩
    have hlt := (Array.getElem?_eq_some_iff.1 hl).1
    refine ⟨_, _, _, _, hyl W t hl, roundIn_of_wpIn hfn (hassign _ t W _ ⟨_, run_beginRound hl rs, ?_⟩)⟩
    have hlb : (W.putObj (w.heap.size + 1) (.loop { r with state := .busy })).heap[w.heap.size + 1]? = some (.loop { r with state := .busy }) := World.putObj_heap_same hlt
    have hdb : (W.putObj (w.heap.size + 1) (.loop { r with state := .busy })).heap[w.heap.size]? = some (.deferred (some [])) := (World.putObj_heap_other (by omega)).trans hd
    refine wpIn_mono (hbody _ t _ ht (hI.putObj _ hi (by omega) hl rfl)) ?_
    rintro e a3 W3 hp
    cases e with
    | normal =>
      obtain ⟨hk, hi3⟩ := hp
      have hl3 := hk.same _ _ hlb rfl
      have hd3 := hk.same _ _ hdb rfl
      have hen3 := run_endRound (P := P) none hl3
      simp only [Option.isNone_none, if_true] at hen3
      rw [back] at hen3
      exact ⟨_, _, hen3, rfl, hI.putObj _ hi3 (by omega) hl3 rfl, World.putObj_heap_same (Array.getElem?_eq_some_iff.1 hl3).1, (World.putObj_heap_other (by omega)).trans hd3⟩
    | ret => exact hp.elim
    | exit id => exact hp.elim
    | goto t => exact hp.elim
    | panic c => exact hp.elim
    | outgrown => exact hp.elim
  · rintro e W2 ⟨⟨v, rfl⟩, hi, hl, hd⟩
    have hend := run_endLoop (P := P) hl (by rw [rs]; simp)
    rw [rp] at hend
    exact ⟨none, _, hend, hdone _ _ (Nat.le_refl _) (hI.putObj _ hi (by omega) hl rfl) ((World.putObj_heap_other (by omega)).trans hd)⟩

/-- What slices.Backward hands over in the round t: a place and its digit, the last one first. -/
def encC (L : List Nat) (t : Nat) : Array Value := #[.int .i64 ((L.length - 1 - t : Nat) : Int), .int .u32 ((L[L.length - 1 - t]?.getD 0 : Nat) : Int)]

set_option maxRecDepth 100000 in
set_option maxHeartbeats 2000000 in
theorem back_hands (F : Fence) (n : Nat) (hf : F.fn 87) (hro : F.round = none) (hn : 1 ≤ n) (Bs : Nat) (L : List Nat) (cp : Nat) (ab : Option Addr) (hk9 : (L.length : Int) ≤ 1000000000) (I : Nat → World → Prop)
    (hI : ∀ t W, I t W → W.cell? ⟨Bs, 0, none⟩ = some (.slice ab L.length cp) ∧ ∀ q, q + t + 1 = L.length → ∃ B off, ab = some ⟨B, off, none⟩ ∧ W.cell? ⟨B, off + q, none⟩ = some (.int .u32 ((L[q]?.getD 0 : Nat) : Int)) ∧ L.length ≤ cp) :
    Hands F n Tryz.prog 87 #[.pointer (some ⟨Bs, 0, none⟩)] (encC L) L.length I := by
  intro l J hJI hY W h0
  have HI : Hid (∀ t W, J t W → W.cell? ⟨Bs, 0, none⟩ = some (.slice ab L.length cp) ∧ ∀ q, q + t + 1 = L.length → ∃ B off, ab = some ⟨B, off, none⟩ ∧ W.cell? ⟨B, off + q, none⟩ = some (.int .u32 ((L[q]?.getD 0 : Nat) : Int)) ∧ L.length ≤ cp) := fun t W h => hI t W (hJI t W h)
  have HY : Hid (∀ q t W, q + t + 1 = L.length → J t W → YieldAt F (n - 1) Tryz.prog l #[.int .i64 (q : Int), .int .u32 ((L[q]?.getD 0 : Nat) : Int)] W fun e W' => e = .returned (.bool true) ∧ J (t + 1) W') := fun q t W hq hj => by
    have h := hY t W (by omega) hj
    unfold encC at h
    rw [show L.length - 1 - t = q by omega] at h
    exact h
  clear hI hJI hY
  obtain ⟨k, hk⟩ : ∃ k, L.length = k := ⟨_, rfl⟩
  rw [hk] at hk9 HI HY ⊢
  have hcs := (HI.out 0 W h0).1
  have HJ0 : Hid (J 0 W) := h0
  clear h0
  refine callsIn_of_wp Tryz.func87 rfl hf ?_ hro
  simp only [Tryz.ntmps87, List.size_toArray, List.length_cons, List.length_nil, Nat.reduceAdd, Nat.reduceSub, Array.replicate_succ, Array.replicate_zero, List.push_toArray, List.append_toArray, List.nil_append, List.cons_append]
  gi_wp2
  clear hcs
  gi_loopw [3] (fun i wr => ∃ (m t : Nat), i = .int .i64 ((m : Int) - 1) ∧ t + m = k ∧ J t wr) (fun i _ => (RowKit.intOf i + 1).toNat)
  case atStart => exact ⟨k, 0, rfl, by omega, HJ0.out⟩
  case round =>
    obtain ⟨m, t, rfl, hm, hJ⟩ := hrel
    obtain ⟨hcs, hdig⟩ := HI.out t wr hJ
    rcases Nat.eq_zero_or_pos m with rfl | hm0
    · obtain rfl : t = k := by omega
      gi_wp2
      go_end0
      exact ⟨⟨_, rfl⟩, hJ⟩
    · obtain ⟨q, rfl⟩ : ∃ q, m = q + 1 := ⟨m - 1, by omega⟩
      obtain ⟨B, off, rfl, hc, hcp⟩ := hdig q (by omega)
      have hY1 : YieldAt F (n - 1) Tryz.prog l #[.int .i64 (q : Int), .int .u32 ((L[q]?.getD 0 : Nat) : Int)] wr fun e W' => e = .returned (.bool true) ∧ J (t + 1) W' := HY.out q t wr (by omega) hJ
      rw [show (((q + 1 : Nat) : Int) - 1) = (q : Int) by omega]
      have hqk : (q : Int) < (k : Int) := by omega
      clear hdig
      obtain ⟨fn, tmps, assign, body, hy, hR⟩ := hY1
      gi_wp2
      refine hR.mono ?_
      rintro e W3 ⟨rfl, hJ3⟩
      gi_wp2
      go_roundw
      case rel => exact ⟨q, t + 1, rfl, by omega, hJ3⟩
      case measure => simp [RowKit.intOf]
end Go.Proofs.YtmgbkcfocbbofabGreatDoor
