/-
  A pair read, and lists of pairs.
-/
import Derived.Test.YtanbnefdodkniaaLst
import Derived.Test.YtanbnefdodkniaaBck
namespace Go.Proofs.Ytanbnefdodkniaa
open Go.RowKit Go.Lib Go.Sort

abbrev two (a b : Nat) : Value := .agg #[.int .u64 a, .int .u64 b]
abbrev zto : Obj := .cells #[.int .u64 0, .int .u64 0] 84

set_option maxHeartbeats 1600000 in
set_option maxRecDepth 1000000 in
theorem pair_no (w : World) (rb : Nat) (v : Value) (L : List Int) (k j n e : Nat) (h : Rdr w rb v L k) (he : e ≠ 0)
    (H : Reads 36 (w.alloc zto) rb v L j (.int .u64 n) e) : Reads 48 w rb v L j (two 0 0) e := by
  have hne : ((e : Int) == 0) = false := by simpa using he
  have hl := h.lt
  have hv : v.ownBlock ≠ some w.heap.size := fun e => by have := (h.own.lt _ e).2; omega
  go_enter Try.func48, Try.ntmps48
  go_wp2_with (first | (go_at_call 36; refine H.out.mono ?_; rintro e w1 ⟨rfl, hr, hg⟩; obtain ⟨a0, a1, f0, f1, _⟩ := kept2 (heap_alloc_new w _) hg (by intro e; cases e; omega)))
  refine bodyPost_ret (v := .tuple #[two 0 0, .int .i64 e]) (by simp [results, Try.results48, go_sem, a0, a1]) rfl ⟨rfl, ?_, ?_⟩
  · exact (hr.put2 (by omega) hv _ _).put2 (by omega) hv _ _
  · exact grownBy_put (grownBy_put (grownBy_trans (World.grownBy_alloc _ _ _) hg) (Nat.le_refl _) _ _) (Nat.le_refl _) _ _

set_option maxHeartbeats 1600000 in
set_option maxRecDepth 1000000 in
theorem pair_yes (w : World) (rb : Nat) (v : Value) (L : List Int) (k j i n m e : Nat) (h : Rdr w rb v L k)
    (H : Reads 36 (w.alloc zto) rb v L j (.int .u64 n) 0) (H2 : ∀ w1, Rdr w1 rb v L j → Reads 36 w1 rb v L i (.int .u64 m) e) : Reads 48 w rb v L i (two n m) e := by
  have hl := h.lt
  have hv : v.ownBlock ≠ some w.heap.size := fun e => by have := (h.own.lt _ e).2; omega
  have HH : Hid (∀ w1, Rdr w1 rb v L j → Reads 36 w1 rb v L i (.int .u64 m) e) := H2
  clear H2
  go_enter Try.func48, Try.ntmps48
  go_wp2_with fail
  refine H.out.mono ?_
  rintro e1 w1 ⟨rfl, hr, hg⟩
  obtain ⟨_, _, _, _, hB⟩ := kept2 (heap_alloc_new w _) hg (by intro e; cases e; omega)
  go_wp2_with fail
  refine (HH.out w1 hr).out.mono ?_
  rintro e2 w2 ⟨rfl, hr2, hg2⟩
  obtain ⟨b0, b1, i0, i1, _⟩ := kept2 hB hg2 (by intro e; cases e; omega)
  go_wp2
  refine bodyPost_ret (v := .tuple #[two n m, .int .i64 e]) (by simp [results, Try.results48, go_sem, b0, b1]) rfl ⟨rfl, ?_, ?_⟩
  · exact (hr2.put2 (by omega) hv _ _).put2 (by omega) hv _ _
  · exact grownBy_put (grownBy_put (grownBy_trans (grownBy_trans (World.grownBy_alloc _ _ _) hg) hg2) (Nat.le_refl _) _ _) (Nat.le_refl _) _ _

/-- A pair read: the two numbers, where the reader stands, the error. -/
def pR (L : List Int) (k : Nat) : (Nat × Nat) × Nat × Nat :=
  if (rdN 0 0 (L.drop k)).2.2 ≠ 0 then ((0, 0), k, (rdN 0 0 (L.drop k)).2.2)
  else (((rdN 0 0 (L.drop k)).1, if (rdN 0 0 (L.drop (k + (rdN 0 0 (L.drop k)).2.1))).2.2 = 0 then (rdN 0 0 (L.drop (k + (rdN 0 0 (L.drop k)).2.1))).1 else 0),
    k + (rdN 0 0 (L.drop k)).2.1 + (rdN 0 0 (L.drop (k + (rdN 0 0 (L.drop k)).2.1))).2.1, (rdN 0 0 (L.drop (k + (rdN 0 0 (L.drop k)).2.1))).2.2)

theorem pair_any (w : World) (rb : Nat) (v : Value) (L : List Int) (k : Nat) (h : Rdr w rb v L k) :
    Reads 48 w rb v L (pR L k).2.1 (two (pR L k).1.1 (pR L k).1.2) (pR L k).2.2 := by
  have H := Number_any _ rb v L k (h.al zto)
  have hc := rdN_code (L.drop k) 0 0
  unfold pR
  by_cases he : (rdN 0 0 (L.drop k)).2.2 = 0
  · rw [if_neg (by simpa using he)]
    rw [if_pos he] at H
    rw [he] at H
    exact pair_yes w rb v L k _ _ _ _ _ h H (fun w1 h1 => Number_any w1 rb v L _ h1)
  · rw [if_pos he]
    have hc0 : (rdN 0 0 (L.drop k)).2.1 = 0 := by omega
    rw [if_neg he, hc0, Nat.add_zero] at H
    exact pair_no w rb v L k _ _ _ h he H

/-- Pairs read one behind the other. -/
def rdA (L : List Int) : Nat → List (Nat × Nat) → Nat → List (Nat × Nat) × Nat × Nat
  | 0, acc, k => (acc, k, 0)
  | n + 1, acc, k => if (pR L k).2.2 ≠ 0 then ([], (pR L k).2.1, (pR L k).2.2) else rdA L n (acc ++ [(pR L k).1]) (pR L k).2.1
end Go.Proofs.Ytanbnefdodkniaa
