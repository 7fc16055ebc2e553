/-
  A range over a function that is left in its last round, or gone through: wpIn_countedK with both ends.
  slices.Backward of whole numbers, where the last round that is asked may leave it.
  frac's Quotients: what it hands over, where the last round that is asked may leave it.
-/
import Derived.Test.YtdfliaogmlpefaaGreatDoorBunRfs
import Derived.Test.YtdfliaogmlpefaaGreatDoorBunBwh
namespace Go.Proofs.YtdfliaogmlpefaaGreatDoor
open Go.RowKit Go.Lib Go.Sort Go.Shelf
attribute [local go_sem] Oper.semAt_some
set_option maxHeartbeats 4000000
set_option maxRecDepth 100000
def HandsG (F : Fence) (n : Nat) (P : Program) (gf : Nat) (lb : Array Value) (encs : Nat → Array Value) (N : Nat) (b : Bool) (B : Nat) (I : Nat × Option Nat → World → Prop) : Prop :=
  ∀ (l : Nat) (J : Nat → Option Nat → World → Prop), (∀ t o W, J t o W → I (t, o) W) → (∀ t o W W', J t o W → W.grownBy W' none → J t o W') →
    (∀ t o W W' r, J t o W → W.grownBy W' (some r) → B ≤ r → some r ≠ o → J t o W') →
    (∀ t o W, t < N → J t o W → YieldAt F (n - 1) P l (encs t) W fun e W' => e = .returned (.bool (b || decide (t + 1 < N))) ∧ ∃ o', J (t + 1) o' W' ∧ Above B o W W' ∧ (o' = o ∨ ∃ g, o' = some g ∧ W.heap.size ≤ g)) →
    ∀ o W, B ≤ W.heap.size → (∀ r, o = some r → r < W.heap.size) → J 0 o W → CallsIn F n P gf (#[.func (.yield l) #[] #[]] ++ lb) W fun e W' => (∃ v, e = .returned v) ∧ ∃ o', J N o' W'
def lvExit : Option Nat → Exit
  | none => .ret
  | some id => .exit id
def lvCode : Option Nat → Code
  | none => .ret
  | some id => .exit id
def roundToG (go : Bool) (lv : Option Nat) (B : Nat) (I : Nat × Option Nat → World → Prop) (t : Nat) (o : Option Nat) (W : World) (e : Exit) (_ : Act) (W' : World) : Prop :=
  e = (if go then .normal else lvExit lv) ∧ KeepsOthers W W' ∧ ∃ o', I (t, o') W' ∧ Above B o W W' ∧ (o' = o ∨ ∃ g, o' = some g ∧ W.heap.size ≤ g)
theorem wpIn_countedG {F : Fence} {n : Nat} {P : Program} {g : Operand} {ps : Array Tmp} {assign body : Code} {Q : Exit → Act → World → Prop} {a : Act} {w : World}
    (hro : F.round = none) (h1 : 1 ≤ n) {gf : Nat} {lb : Array Value} (hg : a.eval g = .func (.func gf) #[] lb) (hFg : F.fn gf) (eg : ∀ args w, (callFunc gf args).run P w = .ok (.enter gf args) w)
    (encs : Nat → Array Value) (N : Nat) (b : Bool) (lv : Option Nat) (hbN : b = false → 1 ≤ N) (hps : ∀ t, (encs t).size = ps.size) (I : Nat × Option Nat → World → Prop) (hI : OwnFrom w.heap.size I) (o0 : Option Nat) (ho0 : o0 = none ∨ ∃ g, o0 = some g ∧ g < w.heap.size) (h0 : I (0, o0) w) (hit : HandsG F (n - 1) P gf lb encs N b (w.heap.size + 2) I)
    (hIB : ∀ p W W' r, I p W → W.grownBy W' (some r) → w.heap.size ≤ r → some r ≠ p.2 → I p W')
    (A : Nat × Option Nat → Act × World → Prop) (hA : ∀ a1, OwnFrom w.heap.size (fun p W => A p (a1, W)))
    (hassign : ∀ (l t : Nat) (o : Option Nat) (W : World), t < N → I (t, o) W →
      assign.wpIn (F.inRound l) (n - 1 - 1) P (Exit.then (fun a' W' => A (t, o) (a', W') ∧ W.grownBy W' none) (fun _ _ _ => False)) { tmps := (ps.zip (encs t)).foldl (fun t (p, v) => t.setIfInBounds p v) a.tmps, defers := [] } W)
    (hbody : ∀ (l t : Nat) (o : Option Nat) (a' : Act) (W : World), t < N → A (t, o) (a', W) → body.wpIn (F.inRound l) (n - 1 - 1) P (roundToG (b || decide (t + 1 < N)) lv (w.heap.size + 2) I (t + 1) o W) a' W)
    (hdone : ∀ (D : Nat) (o : Option Nat) (W : World), w.heap.size ≤ D → I (N, o) W → W.heap[D]? = some (.deferred (some [])) → if b = true then Q .normal { a with defers := { target := .collected D, args := #[] } :: a.defers } W else (lvCode lv).wpIn F n P Q { a with defers := { target := .collected D, args := #[] } :: a.defers } W) :
    (Code.rangeFunc g ps assign body).wpIn F n P Q a w := by
  refine wpIn_rangeFunc fun fn hfn => ?_
  rw [hro]
  obtain ⟨r, hr⟩ : ∃ r : Loop, r = { state := .ready, pending := none, fn, tmps := a.tmps, params := ps, assign, body, defers := w.heap.size } := ⟨_, rfl⟩
  have hen : (Instr.enterLoop fn a.tmps ps assign body none).run P w = .ok (w.heap.size + 1, [{ target := .collected w.heap.size, args := #[] }]) ((w.alloc (.deferred (some []))).alloc (.loop r)) := by
    rw [hr]; exact run_enterLoop_outer _ _ _ _ _
  have rs : r.state = .ready := by rw [hr]
  have rp : r.pending = none := by rw [hr]
  have back : ({ { r with state := .busy } with state := .ready, pending := none } : Loop) = r := by rw [hr]
  obtain ⟨rd, hrd⟩ : ∃ rd : Loop, rd = { { r with state := .busy } with state := .done, pending := some (lvCode lv) } := ⟨_, rfl⟩
  have hyl : ∀ (W : World) (t : Nat), W.heap[w.heap.size + 1]? = some (.loop r) → (Instr.yield (w.heap.size + 1) (encs t)).run P W = .ok (.round (w.heap.size + 1) fn ((ps.zip (encs t)).foldl (fun t (p, v) => t.setIfInBounds p v) a.tmps) assign body) W := by
    intro W t hl
    have := run_yield (P := P) (args := encs t) hl (by rw [hr]; exact hps t)
    rw [hr] at this
    exact this
  clear hr
  have hl1 : ((w.alloc (.deferred (some []))).alloc (.loop r)).heap[w.heap.size + 1]? = some (.loop r) := by
    have := World.alloc_heap_new (w.alloc (.deferred (some []))) (.loop r)
    rwa [World.size_alloc] at this
  have hd1 : ((w.alloc (.deferred (some []))).alloc (.loop r)).heap[w.heap.size]? = some (.deferred (some [])) := (Below.heap_alloc _ _ _ (by simp)).trans (World.alloc_heap_new w _)
  have hi1 : I (0, o0) ((w.alloc (.deferred (some []))).alloc (.loop r)) := hI.alloc _ (hI.alloc _ h0)
  generalize hW1 : (w.alloc (.deferred (some []))).alloc (.loop r) = W1 at *
  refine ⟨w.heap.size + 1, [{ target := .collected w.heap.size, args := #[] }], W1, { target := .fn (.func gf) lb, args := #[.func (.yield (w.heap.size + 1)) #[] #[]] }, W1, gf, #[.func (.yield (w.heap.size + 1)) #[] #[]] ++ lb, W1, hen, ?_, ?_, ?_, fun _ => h1, ?_⟩
  · simp only [resolve, hg]
    simp [go_sem]
  · intro f' hf'
    simp [Target.leads] at hf'
    subst hf'
    exact hFg
  · simp [invoke, go_sem, eg]
  have blk : ∀ {W W' : World} {i : Nat} {o : Obj}, W.grownBy W' none → W.heap[i]? = some o → W'.heap[i]? = some o := fun {W W' i o} hg h => (hg.block i (Array.getElem?_eq_some_iff.1 h).1 (by simp)).trans h
  refine (hit (w.heap.size + 1) (fun t o W => I (t, o) W ∧ W.heap[w.heap.size + 1]? = some (.loop (if (b || decide (t < N)) = true then r else rd)) ∧ W.heap[w.heap.size]? = some (.deferred (some [])) ∧ o ≠ some (w.heap.size + 1) ∧ o ≠ some w.heap.size) (fun _ _ _ h => h.1) ?_ ?_ ?_ o0 _ (by rw [← hW1]; simp) (by
    intro r e
    rcases ho0 with h | ⟨g, h, hgg⟩
    · rw [h] at e; cases e
    · rw [h] at e; cases e; rw [← hW1]; simp; omega) ⟨hi1, (by rw [if_pos (by cases b with | true => rfl | false => simp; have := hbN rfl; omega)]; exact hl1), hd1, ?_, ?_⟩).mono ?_
  · rintro t o W W' ⟨hi, hl, hd, ho⟩ hg
    exact ⟨hI _ _ _ none hi hg (fun r e => by cases e), blk hg hl, blk hg hd, ho⟩
  · rintro t o W W' r ⟨hi, hl, hd, ho⟩ hg hB hr
    refine ⟨hIB _ _ _ r hi hg (by omega) hr, ?_, ?_, ho⟩
    · exact (hg.block _ (Array.getElem?_eq_some_iff.1 hl).1 (by intro e; injection e with e; omega)).trans hl
    · exact (hg.block _ (Array.getElem?_eq_some_iff.1 hd).1 (by intro e; injection e with e; omega)).trans hd
  · rintro t o W ht ⟨hi, hl, hd, ho, hoD⟩
    rw [if_pos (by simp [ht])] at hl
    refine ⟨_, _, _, _, hyl W t hl, roundIn_of_wpIn hfn (wpIn_mono (hassign _ t o W ht hi) ?_)⟩
    rintro e a2 W2 h2
    cases e with
    | normal =>
      obtain ⟨hA2, hg2⟩ := h2
      have hl2 := blk hg2 hl
      have hd2 := blk hg2 hd
      have hlt := (Array.getElem?_eq_some_iff.1 hl2).1
      refine ⟨_, run_beginRound hl2 rs, ?_⟩
      have hlb : (W2.putObj (w.heap.size + 1) (.loop { r with state := .busy })).heap[w.heap.size + 1]? = some (.loop { r with state := .busy }) := World.putObj_heap_same hlt
      have hdb : (W2.putObj (w.heap.size + 1) (.loop { r with state := .busy })).heap[w.heap.size]? = some (.deferred (some [])) := (World.putObj_heap_other (by omega)).trans hd2
      refine wpIn_mono (hbody _ t o a2 _ ht ((hA a2).putObj _ hA2 (by omega) hl2 rfl)) ?_
      rintro e a3 W3 hp
      obtain ⟨he, hk, o', hi3, hg3, hfr⟩ := hp
      have hl3 := hk.same _ _ hlb rfl
      have hd3 := hk.same _ _ hdb rfl
      have kA := grownBy_putObj' W2 (w.heap.size + 1) (.loop { r with state := .busy })
      have hsz : W.heap.size ≤ (W2.putObj (w.heap.size + 1) (.loop { r with state := .busy })).heap.size := Nat.le_trans hg2.size kA.size
      have hlp : w.heap.size + 1 < W.heap.size := (Array.getElem?_eq_some_iff.1 hl).1
      have fin : ∀ rx : Loop, rx = (if (b || decide (t + 1 < N)) = true then r else rd) → (fun o W => I (t + 1, o) W ∧ W.heap[w.heap.size + 1]? = some (.loop (if (b || decide (t + 1 < N)) = true then r else rd)) ∧ W.heap[w.heap.size]? = some (.deferred (some [])) ∧ o ≠ some (w.heap.size + 1) ∧ o ≠ some w.heap.size) o' (W3.putObj (w.heap.size + 1) (.loop rx)) ∧ Above (w.heap.size + 2) o W (W3.putObj (w.heap.size + 1) (.loop rx)) ∧ (o' = o ∨ ∃ g, o' = some g ∧ W.heap.size ≤ g) := by
        intro rx hrx
        have kB := grownBy_putObj' W3 (w.heap.size + 1) (.loop rx)
        refine ⟨⟨hI.putObj _ hi3 (by omega) hl3 rfl, ?_, (World.putObj_heap_other (by omega)).trans hd3, ?_, ?_⟩, ?_, ?_⟩
        · rw [← hrx]; exact World.putObj_heap_same (Array.getElem?_eq_some_iff.1 hl3).1
        · rcases hfr with rfl | ⟨g, rfl, hgg⟩
          · exact ho
          · intro e; injection e with e; omega
        · rcases hfr with rfl | ⟨g, rfl, hgg⟩
          · exact hoD
          · intro e; injection e with e; omega
        · refine ⟨Nat.le_trans hsz (Nat.le_trans hg3.1 kB.size), fun i hB hi hn => ?_⟩
          have ne : some i ≠ some (w.heap.size + 1) := fun h => by injection h with h; omega
          rw [kB.block i (Nat.lt_of_lt_of_le hi (Nat.le_trans hsz hg3.1)) ne, hg3.2 i hB (Nat.lt_of_lt_of_le hi hsz) hn, kA.block i (Nat.lt_of_lt_of_le hi hg2.size) ne, hg2.block i hi (by simp)]
        · rcases hfr with rfl | ⟨g, rfl, hgg⟩
          · exact .inl rfl
          · exact .inr ⟨g, rfl, by omega⟩
      cases hgo : (b || decide (t + 1 < N)) with
      | true =>
        rw [hgo, if_pos rfl] at he
        subst he
        have hen3 := run_endRound (P := P) none hl3
        simp only [Option.isNone_none, if_true] at hen3
        rw [back] at hen3
        have := fin r (by rw [hgo, if_pos rfl])
        rw [hgo] at this
        exact ⟨_, _, hen3, rfl, o', this⟩
      | false =>
        rw [hgo, if_neg (by simp)] at he
        have h3 := fin rd (by rw [hgo, if_neg (by simp)])
        rw [hgo] at h3
        have hen3 := run_endRound (P := P) (some (lvCode lv)) hl3
        simp only [Option.isNone_some] at hen3
        rw [if_neg (by simp)] at hen3
        rw [← hrd] at hen3
        cases lv with
        | none => subst he; exact ⟨_, _, hen3, rfl, o', h3⟩
        | some id => subst he; exact ⟨_, _, hen3, rfl, o', h3⟩
    | ret => exact h2.elim
    | exit id => exact h2.elim
    | goto t => exact h2.elim
    | panic c => exact h2.elim
    | outgrown => exact h2.elim
  · rcases ho0 with rfl | ⟨g, rfl, hgg⟩
    · simp
    · intro e; injection e with e; omega
  · rcases ho0 with rfl | ⟨g, rfl, hgg⟩
    · simp
    · intro e; injection e with e; omega
  · rintro e W2 ⟨⟨v, rfl⟩, o', hi, hl, hd, _⟩
    cases b with
    | true =>
      rw [Bool.true_or, if_pos rfl] at hl
      have hend := run_endLoop (P := P) hl (by rw [rs]; simp)
      rw [rp] at hend
      exact ⟨none, _, hend, hdone _ o' _ (Nat.le_refl _) (hI.putObj _ hi (by omega) hl rfl) ((World.putObj_heap_other (by omega)).trans hd)⟩
    | false =>
      rw [if_neg (by simp)] at hl
      have hend := run_endLoop (P := P) hl (by rw [hrd]; simp)
      rw [hrd] at hend
      exact ⟨some (lvCode lv), _, hend, hdone _ o' _ (Nat.le_refl _) (hI.putObj _ hi (by omega) (by rw [← hrd] at *; exact hl) rfl) ((World.putObj_heap_other (by omega)).trans hd)⟩
end Go.Proofs.YtdfliaogmlpefaaGreatDoor
namespace Go.Proofs.YtdfliaogmlpefaaGreatDoor
open Go.RowKit Go.Lib Go.Sort Go.Shelf
set_option linter.unusedVariables false
attribute [local go_sem] Oper.semAt_some
set_option maxHeartbeats 4000000
set_option maxRecDepth 100000
theorem bwh_handsG (F : Fence) (n : Nat) (hf : F.fn 159) (hro : F.round = none) (hn : 1 ≤ n) (Bs : Nat) (Z : Nat → Bool × ByteArray) (k : Nat) (cp : Nat) (ab : Option Addr) (hk9 : (k : Int) ≤ 1000000000) (N9 : Nat) (bl : Bool) (hN : N9 ≤ k) (hN1 : 1 ≤ N9) (hbl : bl = true → N9 = k) (B : Nat) (I : Nat × Option Nat → World → Prop)
    (hI : ∀ p W, p.1 < k → (bl = true ∨ p.1 < N9) → I p W → W.cell? ⟨Bs, 0, none⟩ = some (.slice ab k cp) ∧ ∀ q, q + p.1 + 1 = k → ∃ B off, ab = some ⟨B, off, none⟩ ∧ W.cell? ⟨B, off + q * 2, none⟩ = some (.bool (Z q).1) ∧ W.cell? ⟨B, off + q * 2 + 1, none⟩ = some (.string (Z q).2) ∧ k ≤ cp) :
    HandsG F n Tryz.prog 159 #[.pointer (some ⟨Bs, 0, none⟩)] (encW Z k) N9 bl B I := by
  intro lo J hJI hJg hJr hY o W hB ho h0
  have HI : Hid (∀ t o W, t < N9 → J t o W → W.cell? ⟨Bs, 0, none⟩ = some (.slice ab k cp) ∧ ∀ q, q + t + 1 = k → ∃ B off, ab = some ⟨B, off, none⟩ ∧ W.cell? ⟨B, off + q * 2, none⟩ = some (.bool (Z q).1) ∧ W.cell? ⟨B, off + q * 2 + 1, none⟩ = some (.string (Z q).2) ∧ k ≤ cp) := fun t o W ht h => hI (t, o) W (Nat.lt_of_lt_of_le ht hN) (.inr ht) (hJI t o W h)
  have HY : Hid (∀ q t o W, q + t + 1 = k → t < N9 → J t o W → YieldAt F (n - 1) Tryz.prog lo #[.int .i64 (q : Int), whole (Z q).1 (Z q).2] W fun e W' => e = .returned (.bool (bl || decide (t + 1 < N9))) ∧ ∃ o', J (t + 1) o' W') := fun q t o W hq ht hj => by
    have h := hY t o W ht hj
    unfold encW at h
    rw [show k - 1 - t = q by omega] at h
    obtain ⟨fn, tmps, assign, body, hy, hR⟩ := h
    exact ⟨fn, tmps, assign, body, hy, hR.mono (by rintro e W' ⟨rfl, o', h1, _⟩; exact ⟨rfl, o', h1⟩)⟩
  have HN : Hid (N9 ≤ k ∧ 1 ≤ N9 ∧ (bl = true → N9 = k)) := ⟨hN, hN1, hbl⟩
  have hcs := (HI.out 0 o W hN1 h0).1
  have HJ0 : Hid (J 0 o W) := h0
  clear hI hJI hJg hJr hY hN hN1 hbl hB ho h0
  refine callsIn_of_wp Tryz.func159 rfl hf ?_ hro
  simp only [Tryz.ntmps159, List.size_toArray, List.length_cons, List.length_nil, Nat.reduceAdd, Nat.reduceSub, Array.replicate_succ, Array.replicate_zero, List.push_toArray, List.append_toArray, List.nil_append, List.cons_append]
  gi_wp2
  clear hcs
  gi_loopw [3] (fun i wr => ∃ (m t : Nat) (o : Option Nat), i = .int .i64 ((m : Int) - 1) ∧ t + m = k ∧ (t < N9 ∨ t = k ∧ N9 = k) ∧ J t o wr) (fun i _ => (RowKit.intOf i + 1).toNat)
  case atStart => exact ⟨k, 0, o, rfl, by omega, .inl HN.out.2.1, HJ0.out⟩
  case round =>
    obtain ⟨m, t, o1, rfl, hm, ht, hJ⟩ := hrel
    rcases Nat.eq_zero_or_pos m with rfl | hm0
    · obtain rfl : t = k := by omega
      have hNk : N9 = t := by have := HN.out.1; omega
      have HJ : Hid (J N9 o1 wr) := (by rw [hNk]; exact hJ)
      clear hJ hNk hm ht
      gi_wp2
      go_end0
      exact ⟨⟨_, rfl⟩, o1, HJ.out⟩
    · obtain ⟨q, rfl⟩ : ∃ q, m = q + 1 := ⟨m - 1, by omega⟩
      have htN : t < N9 := by omega
      obtain ⟨hcs, hdig⟩ := HI.out t o1 wr htN hJ
      obtain ⟨B, off, rfl, hc0, hc1, hcp⟩ := hdig q (by omega)
      have hY1 := HY.out q t o1 wr (by omega) htN hJ
      rw [show (((q + 1 : Nat) : Int) - 1) = (q : Int) by omega]
      have hqk : (q : Int) < (k : Int) := by omega
      obtain ⟨bv, hbv⟩ : ∃ bv, (bl || decide (t + 1 < N9)) = bv := ⟨_, rfl⟩
      have HBV : Unit → (bl || decide (t + 1 < N9)) = bv := fun _ => hbv
      have HT : Hid (t + (q + 1) = k ∧ t < N9) := ⟨hm, htN⟩
      rw [hbv] at hY1
      clear hdig hbv ht htN hm hm0
      obtain ⟨fn, tmps, assign, body, hy, hR⟩ := hY1
      gi_wp2
      refine hR.mono ?_
      rintro e W3 ⟨rfl, o3, hJ3⟩
      have HJ3 : Hid (J (t + 1) o3 W3) := hJ3
      clear hJ3 hJ hc0 hc1 hcs
      cases bv
      · gi_wp2
        refine bodyPost_ret (results_none rfl _ _ _) rfl ?_
        refine ⟨⟨_, rfl⟩, o3, ?_⟩
        have hk : t + 1 = N9 := by
          have h1 := HBV ()
          rw [Bool.or_eq_false_iff, decide_eq_false_iff_not] at h1
          have h2 := HT.out.2
          omega
        rw [← hk]
        exact HJ3.out
      · gi_wp2
        go_roundw
        case rel =>
          refine ⟨q, t + 1, o3, rfl, by have := HT.out.1; omega, ?_, HJ3.out⟩
          have h7 := HBV ()
          rw [Bool.or_eq_true, decide_eq_true_eq] at h7
          have h8 := HT.out
          rcases h7 with h7 | h7
          · have := HN.out.2.2 h7
            omega
          · exact .inl h7
        case measure => simp [RowKit.intOf]
end Go.Proofs.YtdfliaogmlpefaaGreatDoor
namespace Go.Proofs.YtdfliaogmlpefaaGreatDoor
open Go.RowKit Go.Lib Go.Sort Go.Shelf
set_option linter.unusedVariables false
attribute [local go_sem] Oper.semAt_some
set_option maxHeartbeats 4000000
set_option maxRecDepth 100000
def QgI (J : Nat → Option Nat → World → Prop) (l : List Int) (N9 P Q : Nat) (W : World) : Prop :=
  ∃ (k : Nat) (o : Option Nat) (N D : Int) (nN dD : Bool) (sN tD : ByteArray), k < N9 ∧ J k o W ∧ WBlk W P (.bool nN) (.string sN) ∧ WBlk W Q (.bool dD) (.string tD) ∧ Sz 1024 N nN sN ∧ Sz 1024 D dD tD ∧ Eu N D (l.drop k) ∧ some P ≠ o ∧ some Q ≠ o
theorem quot_handsG {x y : Int} {n d : Bool} {s t : ByteArray} (h : IsQ x y n s d t) (l : List Int) (hl : Eu x y l) (Z : Nat → Bool × ByteArray) (hZ : ∀ i q, l[i]? = some q → IsZ q (Z i).1 (Z i).2) (N9 : Nat) (bl : Bool) (hN : N9 ≤ l.length) (hN1 : 1 ≤ N9) (hbl : bl = true → N9 = l.length) (m : Nat) (hm : 1 ≤ m) (Bx B : Nat) (I : Nat × Option Nat → World → Prop) (hI : ∀ p W, I p W → QBlk W Bx (.bool n) (.string s) (.bool d) (.string t)) :
    HandsG Fence.wide m Tryz.prog 79 #[.pointer (some ⟨Bx, 0, none⟩)] (fun i => #[whole (Z i).1 (Z i).2]) N9 bl B I := by
  intro lo J hJI hJg hJr hY o W hB ho hJ0
  have HM : Hid (∀ w, Calls Tryz.prog 40 #[frac n s d t] w fun e w' => e = .returned (.bool true) ∧ w.grownBy w' none) := fun w => h.call w
  have hlen : 0 < N9 := hN1
  have HN : Hid (N9 ≤ l.length ∧ (bl = true → N9 = l.length)) := ⟨hN, hbl⟩
  clear hN hN1 hbl
  have HQ0 : Hid (Sz 1024 x n s ∧ Sz 1024 y d t ∧ Eu x y (l.drop 0)) := ⟨h.zn, h.zd, hl⟩
  have HZ : Hid (∀ i q, l[i]? = some q → IsZ q (Z i).1 (Z i).2) := hZ
  have hx := hI _ _ (hJI _ _ _ hJ0)
  have c0 := hx.c0
  have c1 := hx.c1
  have c2 := hx.c2
  have c3 := hx.c3
  clear hx h hl hZ
  refine callsIn_of_wp Tryz.func79 rfl trivial ?_ rfl
  simp only [Tryz.ntmps79, List.size_toArray, List.length_cons, List.length_nil, Nat.reduceAdd, Nat.reduceSub, Array.replicate_succ, Array.replicate_zero, List.push_toArray, List.append_toArray, List.nil_append, List.cons_append]
  gi_wp2
  refine ⟨trivial, ?_⟩
  refine (callsIn_wide.2 (HM.out _)).mono ?_
  rintro e w1 ⟨rfl, g1⟩
  clear c0 c1 c2 c3
  have hJ1 : J 0 o w1 := hJg _ _ _ _ hJ0 g1
  have hB1 : B ≤ w1.heap.size := Nat.le_trans hB g1.size
  have ho1 : ∀ r, o = some r → r < w1.heap.size := fun r e => Nat.lt_of_lt_of_le (ho r e) g1.size
  clear g1 hJ0 hB ho
  have hx := hI _ _ (hJI _ _ _ hJ1)
  have c0 := hx.c0
  have c1 := hx.c1
  have c2 := hx.c2
  have c3 := hx.c3
  clear hx
  gi_wp2
  refine ⟨trivial, ?_⟩
  refine (callsIn_wide.2 (steps_any n d s t _)).mono ?_
  rintro e w2 ⟨P, Q, rfl, hP, hQ, lP, lQ, ne, g2⟩
  clear c0 c1 c2 c3
  have HI0 : Hid (QgI J l N9 P Q w2) := ⟨0, o, x, y, n, d, s, t, hlen, hJg _ _ _ _ hJ1 g2, hP, hQ, HQ0.out.1, HQ0.out.2.1, HQ0.out.2.2, fun e => by have := ho1 P e.symm; omega, fun e => by have := ho1 Q e.symm; omega⟩
  have HPQ : Hid (P ≠ Q ∧ B ≤ P ∧ B ≤ Q) := ⟨ne, by omega, by omega⟩
  clear hP hQ lP lQ ne g2 HM HQ0 hJ1 hB1 ho1 hlen
  have eg := eg_steps2
  gi_wp2
  gi_loopw [4] (fun s4 wr => QgI J l N9 P Q wr) (fun _ wr => denV wr Q)
  case atStart => exact HI0.out
  case round =>
    obtain ⟨k, o1, N, D, nN, dD, sN, tD, hkN, hJ, hP, hQ, zN, zD, hE, oP, oQ⟩ := hrel
    have hk : k < l.length := Nat.lt_of_lt_of_le hkN HN.out.1
    obtain ⟨q, tl, hdr, hkq⟩ : ∃ q tl, l.drop k = q :: tl ∧ l[k]? = some q := ⟨_, _, List.drop_eq_getElem_cons hk, List.getElem?_eq_getElem hk⟩
    have htl : l.drop (k + 1) = tl := by rw [← List.drop_drop, hdr]; rfl
    rw [hdr] at hE
    obtain ⟨hD0, hq, hcase⟩ := hE.head
    have hz := HZ.out k q hkq
    have HYk := fun W hj => hY k o1 W hkN hj
    obtain ⟨bv, hbv⟩ : ∃ bv, (bl || decide (k + 1 < N9)) = bv := ⟨_, rfl⟩
    have HBV : Unit → (bl || decide (k + 1 < N9)) = bv := fun _ => hbv
    simp only [hbv] at HYk
    obtain ⟨z1, hz1⟩ : ∃ z1, (Z k).1 = z1 := ⟨_, rfl⟩
    obtain ⟨z2, hz2⟩ : ∃ z2, (Z k).2 = z2 := ⟨_, rfl⟩
    simp only [hz1, hz2] at HYk hz
    rw [← hq] at hz
    obtain ⟨r1, r2, zr⟩ := isz_ex (N % D)
    have hDne : D ≠ 0 := Int.ne_of_gt hD0
    have zr1 : Sz 1024 (N % D) r1 r2 := zr.sz (Nat.lt_trans (emod_abs_lt N D hDne) zD.2)
    have HD : Hid (∀ w, Calls Tryz.prog 55 #[whole nN sN, whole dD tD] w fun e w' => e = .returned (.tuple #[whole z1 z2, whole r1 r2, .int .i64 0]) ∧ w.grownBy w' none) := fun w => divr_is (by decide) (by decide) hDne zN zD hz zr w
    have HS : Hid (Calls Tryz.prog 124 #[.pointer (some ⟨P, 0, none⟩), .pointer (some ⟨Q, 0, none⟩)] wr (StepX wr P Q dD tD z1 z2 r1 r2 (decide (N % D = 0)))) := steps1_x wr P Q nN dD z1 r1 sN tD z2 r2 HD hP hQ HPQ.out.1 _ (rest_b (by decide) zr1)
    have HDV : Hid (denV wr Q = D.natAbs ∧ (N % D).natAbs < D.natAbs) := ⟨denV_is hQ zD, emod_abs_lt N D hDne⟩
    have HC : Hid ((tl = [] ∧ N % D = 0) ∨ (tl ≠ [] ∧ 0 < N % D ∧ N % D < D ∧ Eu D (N % D) tl)) := hcase
    have HZD : Hid (Sz 1024 D dD tD ∧ Sz 1024 (N % D) r1 r2) := ⟨zD, zr1⟩
    have HJ : Hid (J k o1 wr ∧ some P ≠ o1 ∧ some Q ≠ o1 ∧ Q < wr.heap.size) := ⟨hJ, oP, oQ, hQ.lt⟩
    have HTL : Hid (l.drop (k + 1) = tl ∧ k < l.length ∧ k < N9) := ⟨htl, hk, hkN⟩
    obtain ⟨b, hb⟩ : ∃ b, decide (N % D = 0) = b := ⟨_, rfl⟩
    have HB : Unit → decide (N % D = 0) = b := fun _ => hb
    rw [hb] at HS
    clear hJ hP hQ zN zD hE oP oQ hdr hkq htl hD0 hq hcase hz zr zr1 hDne HD hk hb hz1 hz2 hkN hbv
    gi_wp2
    refine ⟨trivial, ?_⟩
    refine (callsIn_wide.2 HS.out).mono ?_
    rintro e w3 ⟨rfl, hP3, hQ3, h2⟩
    have hJ3 : J k o1 w3 := by
      obtain ⟨V, v1, v2⟩ := h2.cut HJ.out.2.2.2
      exact hJr _ _ _ _ Q (hJr _ _ _ _ P HJ.out.1 v1 HPQ.out.2.1 HJ.out.2.1) v2 HPQ.out.2.2 HJ.out.2.2.1
    have hJ4 : J k o1 (w3.alloc (wObj z1 z2)) := hJg _ _ _ _ hJ3 (grow1 _ _)
    have HP4 : Hid (WBlk (w3.alloc (wObj z1 z2)) P (.bool dD) (.string tD)) := old_alloc _ _ hP3
    have HQ4 : Hid (WBlk (w3.alloc (wObj z1 z2)) Q (.bool r1) (.string r2)) := old_alloc _ _ hQ3
    obtain ⟨fn, tmps, assign, body, hy, hR⟩ := HYk _ hJ4
    clear HS hP3 hQ3 h2 hJ3 hJ4 HYk
    gi_wp2
    refine hR.mono ?_
    rintro e W5 ⟨rfl, o2, hJ5, hg5, hfr⟩
    have HP5 : Hid (WBlk W5 P (.bool dD) (.string tD)) := (hg5.2 P HPQ.out.2.1 HP4.out.lt HJ.out.2.1).trans HP4.out
    have HQ5 : Hid (WBlk W5 Q (.bool r1) (.string r2)) := (hg5.2 Q HPQ.out.2.2 HQ4.out.lt HJ.out.2.2.1).trans HQ4.out
    have HO5 : Hid (some P ≠ o2 ∧ some Q ≠ o2) := (by
      have l1 := HP4.out.lt
      have l2 := HQ4.out.lt
      rcases hfr with rfl | ⟨g, rfl, hgg⟩
      · exact ⟨HJ.out.2.1, HJ.out.2.2.1⟩
      · exact ⟨by intro e; injection e with e; omega, by intro e; injection e with e; omega⟩)
    have HJ5 : Hid (J (k + 1) o2 W5) := hJ5
    clear hJ5 hg5 hfr hR hy HP4 HQ4
    cases bv
    · gi_wp2
      refine bodyPost_ret (results_none rfl _ _ _) rfl ?_
      refine ⟨⟨_, rfl⟩, o2, ?_⟩
      have hk : k + 1 = N9 := by
        have h1 := HBV ()
        rw [Bool.or_eq_false_iff, decide_eq_false_iff_not] at h1
        have h2 := HTL.out.2.2
        omega
      rw [← hk]
      exact HJ5.out
    · -- the round wants more
      cases b
      · gi_wp2
        go_roundw
        case rel =>
          have hne : N % D ≠ 0 := by have := HB (); simpa using this
          rcases HC.out with ⟨_, h0⟩ | ⟨h1, h2, h3, h4⟩
          · exact absurd h0 hne
          · refine ⟨k + 1, o2, D, N % D, dD, r1, tD, r2, ?_, HJ5.out, HP5.out, HQ5.out, HZD.out.1, HZD.out.2, by rw [HTL.out.1]; exact h4, HO5.out.1, HO5.out.2⟩
            have h5 := HTL.out
            have h6 : k + 1 < l.length := Classical.byContradiction fun hc => h1 (by
              rw [← h5.1]
              exact List.drop_eq_nil_of_le (by omega))
            have h7 := HBV ()
            rw [Bool.or_eq_true, decide_eq_true_eq] at h7
            rcases h7 with h7 | h7
            · have := HN.out.2 h7
              omega
            · exact h7
        case measure =>
          have h1 := denV_is HQ5.out HZD.out.2
          have h2 := HDV.out
          omega
      · gi_wp2
        refine bodyPost_ret (results_none rfl _ _ _) rfl ?_
        refine ⟨⟨_, rfl⟩, o2, ?_⟩
        have h0 : N % D = 0 := by have := HB (); simpa using this
        have hk : k + 1 = N9 := by
          have h8 := HN.out.1
          have h9 := HTL.out.2.2
          rcases HC.out with ⟨h1, _⟩ | ⟨_, h2, _⟩
          · have h3 := HTL.out
            have h4 := congrArg List.length h3.1
            rw [h1, List.length_drop] at h4
            simp at h4
            omega
          · omega
        rw [← hk]
        exact HJ5.out
end Go.Proofs.YtdfliaogmlpefaaGreatDoor
