/-
  Fractions: the program's Frac as it is told outside, the document's Frac.
-/
import Derived.Test.YtanbnefdodkniaaDrd
import Derived.Test.YtanbnefdodkniaaRdi
namespace Go.Proofs.Ytanbnefdodkniaa
open Go.RowKit Go.Lib Go.Sort

theorem zfo_is : zfo = fop zz := rfl

set_option maxHeartbeats 3200000 in
set_option maxRecDepth 1000000 in
theorem backF_ok (w : World) (rb : Nat) (v : Value) (L : List Int) (k j : Nat) (x : FN) (h : Rdr w rb v L k)
    (H : ∀ w1, Rdr w1 rb v L k → Reads 89 w1 rb v L j (fvp x) 0) :
    Calls Try.prog 99 #[rp rb, .func (.func 89) #[] #[]] w fun en w' => en = .returned (.tuple #[fvp x, .int .i64 0]) ∧ Rdr w' rb v L j ∧ w.grownBy w' (some rb) := by
  have hl := h.lt
  have hv : v.ownBlock ≠ some w.heap.size := fun e => by have := (h.own.lt _ e).2; omega
  have h0 := (h.al zfo).al zfo
  have h1 := h0.c1
  have HH : Hid (∀ w1, Rdr w1 rb v L k → Reads 89 w1 rb v L j (fvp x) 0) := H
  have HT : Hid (Rdr ((w.alloc zfo).alloc zfo) rb v L k) := h0
  clear H h0
  go_enter Try.func99, Try.ntmps99
  go_wp2_with (first | (go_at_call 73; refine (there_any _ rb v L k HT.out).mono ?_; rintro e w' ⟨rfl, rfl⟩))
  refine (HH.out _ HT.out).out.mono ?_
  rintro e w1 ⟨rfl, hr, hg⟩
  obtain ⟨_, _, hB⟩ := keptN (first2F w) hg (by intro e; cases e; omega)
  obtain ⟨a0, a1, a2, a3, fa⟩ := cells4 hB
  have f0 := fa 0
  have f1 := fa 1
  have f2 := fa 2
  have f3 := fa 3
  have hlt : w.heap.size < w1.heap.size := (Array.getElem?_eq_some_iff.1 hB).1
  have HK : Hid (Rdr w1 rb v L j ∧ w.grownBy w1 (some rb) ∧ w1.heap[w.heap.size]? = some zfo) := ⟨hr, grownBy_trans (grownBy_trans (World.grownBy_alloc _ _ _) (World.grownBy_alloc _ _ _)) hg, hB⟩
  clear fa hr hg hB h1
  go_wp2
  have C := over4 (x := .bool x.1.1) (y := .string x.1.2) (z := .bool x.2.1) (t := .string x.2.2) HK.out.2.2
  have hs : (setF w1 w.heap.size x).heap.size = w1.heap.size := by simp [setF, set4, World.setCell]
  have C2 : ((setF w1 w.heap.size x).alloc (fop x)).heap[w.heap.size]? = some (fop x) := by
    rw [Below.heap_alloc _ _ _ (by omega)]; exact C
  obtain ⟨r0, r1, r2, r3, _⟩ := cells4 C2
  have R : Rdr ((setF w1 w.heap.size x).alloc (fop x)) rb v L j := (HK.out.1.set4 (by omega) hv _ _ _ _).al _
  have G : w.grownBy ((setF w1 w.heap.size x).alloc (fop x)) (some rb) := grownBy_trans (grownBy_set4 HK.out.2.1 (Nat.le_refl _) _ _ _ _) (World.grownBy_alloc _ _ _)
  simp only [setF, set4] at r0 r1 r2 r3
  refine bodyPost_ret (v := .tuple #[fvp x, .int .i64 0]) (by simp [results, Try.results99, go_sem, r0, r1, r2, r3]) rfl ⟨rfl, R, G⟩

set_option maxHeartbeats 3200000 in
set_option maxRecDepth 1000000 in
theorem backF_no (w : World) (rb : Nat) (v : Value) (L : List Int) (k j e : Nat) (x : FN) (h : Rdr w rb v L k) (he : e ≠ 0)
    (H : ∀ w1, Rdr w1 rb v L k → Reads 89 w1 rb v L j (fvp x) e) :
    Calls Try.prog 99 #[rp rb, .func (.func 89) #[] #[]] w fun en w' => en = .returned (.tuple #[zf, .int .i64 e]) ∧ Rdr w' rb v L k ∧ w.grownBy w' (some rb) := by
  have hne : ((e : Int) == 0) = false := by simpa using he
  have hl := h.lt
  have hk := h.le
  have hv : v.ownBlock ≠ some w.heap.size := fun e => by have := (h.own.lt _ e).2; omega
  have h0 := (h.al zfo).al zfo
  have h1 := h0.c1
  have HH : Hid (∀ w1, Rdr w1 rb v L k → Reads 89 w1 rb v L j (fvp x) e) := H
  have HT : Hid (Rdr ((w.alloc zfo).alloc zfo) rb v L k) := h0
  have n1 : ¬ rb = w.heap.size := by omega
  have n2 : ¬ rb = w.heap.size + 1 := by omega
  clear H h0
  go_enter Try.func99, Try.ntmps99
  go_wp2_with (first | (go_at_call 73; refine (there_any _ rb v L k HT.out).mono ?_; rintro e w' ⟨rfl, rfl⟩))
  refine (HH.out _ HT.out).out.mono ?_
  rintro e1 w1 ⟨rfl, hr, hg⟩
  obtain ⟨_, _, hB⟩ := keptN (first2F w) hg (by intro e; cases e; omega)
  obtain ⟨_, _, hB2⟩ := keptN (second2F w) hg (by intro e; cases e; omega)
  obtain ⟨a0, a1, a2, a3, fa⟩ := cells4 hB
  obtain ⟨b0, b1, b2, b3, _⟩ := cells4 hB2
  have f0 := fa 0
  have f1 := fa 1
  have f2 := fa 2
  have f3 := fa 3
  have hlt : w.heap.size < w1.heap.size := (Array.getElem?_eq_some_iff.1 hB).1
  have hlt2 : w.heap.size + 1 < w1.heap.size := (Array.getElem?_eq_some_iff.1 hB2).1
  have hr1 := hr.c1
  have hf1 := hr.fr 1
  have hrlt := hr.lt
  have HK : Hid (Rdr w1 rb v L j ∧ w.grownBy w1 (some rb) ∧ w1.heap[w.heap.size]? = some zfo) := ⟨hr, grownBy_trans (grownBy_trans (World.grownBy_alloc _ _ _) (World.grownBy_alloc _ _ _)) hg, hB⟩
  clear fa hr hg hB hB2 h1
  go_wp2
  have hk2 := HK.out.1.put k hk
  have hB3 : (w1.setCell ⟨rb, 1, none⟩ (.int .i64 k)).heap[w.heap.size]? = some zfo := (Below.heap_setCell _ _ _ _ (by simp; omega)).trans HK.out.2.2
  have C := over4 (x := .bool false) (y := .string ⟨#[]⟩) (z := .bool false) (t := .string ⟨#[]⟩) hB3
  have hs : (setF (w1.setCell ⟨rb, 1, none⟩ (.int .i64 k)) w.heap.size zz).heap.size = w1.heap.size := by simp [setF, set4, World.setCell]
  have C2 : ((setF (w1.setCell ⟨rb, 1, none⟩ (.int .i64 k)) w.heap.size zz).alloc (fop x)).heap[w.heap.size]? = some zfo := by
    rw [Below.heap_alloc _ _ _ (by omega)]; exact C
  obtain ⟨r0, r1, r2, r3, _⟩ := cells4 C2
  have R : Rdr ((setF (w1.setCell ⟨rb, 1, none⟩ (.int .i64 k)) w.heap.size zz).alloc (fop x)) rb v L k := (hk2.set4 (by omega) hv _ _ _ _).al _
  have G : w.grownBy ((setF (w1.setCell ⟨rb, 1, none⟩ (.int .i64 k)) w.heap.size zz).alloc (fop x)) (some rb) := grownBy_trans (grownBy_set4 (grownBy_trans HK.out.2.1 (grownBy_setCell _ _ _ _)) (Nat.le_refl _) _ _ _ _) (World.grownBy_alloc _ _ _)
  simp only [setF, set4] at r0 r1 r2 r3
  refine bodyPost_ret (v := .tuple #[zf, .int .i64 e]) (by simp [results, Try.results99, go_sem, r0, r1, r2, r3]) rfl ⟨rfl, R, G⟩

set_option maxHeartbeats 3200000 in
set_option maxRecDepth 1000000 in
theorem Frac_of_back (w : World) (rb : Nat) (v : Value) (L : List Int) (k j e : Nat) (x : FN) (h : Rdr w rb v L k)
    (H : Calls Try.prog 99 #[rp rb, .func (.func 89) #[] #[]] (w.alloc zfo) fun en w' => en = .returned (.tuple #[fvp x, .int .i64 e]) ∧ Rdr w' rb v L j ∧ (w.alloc zfo).grownBy w' (some rb)) :
    Reads 69 w rb v L j (fvp x) e := by
  have hl := h.lt
  have hv : v.ownBlock ≠ some w.heap.size := fun e => by have := (h.own.lt _ e).2; omega
  go_enter Try.func69, Try.ntmps69
  go_wp2_with fail
  refine H.mono ?_
  rintro e1 w1 ⟨rfl, hr, hg⟩
  obtain ⟨_, _, hB⟩ := keptN (heap_alloc_new w zfo) hg (by intro e; cases e; omega)
  obtain ⟨a0, a1, a2, a3, fa⟩ := cells4 hB
  have f0 := fa 0
  have f1 := fa 1
  have f2 := fa 2
  have f3 := fa 3
  have HK : Hid (Rdr w1 rb v L j ∧ w.grownBy w1 (some rb) ∧ w1.heap[w.heap.size]? = some zfo) := ⟨hr, grownBy_trans (World.grownBy_alloc _ _ _) hg, hB⟩
  clear fa hr hg hB
  go_wp2
  obtain ⟨r0, r1, r2, r3, _⟩ := cells4 (over4 (x := .bool x.1.1) (y := .string x.1.2) (z := .bool x.2.1) (t := .string x.2.2) HK.out.2.2)
  have R := HK.out.1.set4 (by omega) hv (.bool x.1.1) (.string x.1.2) (.bool x.2.1) (.string x.2.2)
  have G := grownBy_set4 HK.out.2.1 (Nat.le_refl _) (.bool x.1.1) (.string x.1.2) (.bool x.2.1) (.string x.2.2)
  simp only [set4] at r0 r1 r2 r3
  refine bodyPost_ret (v := .tuple #[fvp x, .int .i64 e]) (by simp [results, Try.results69, go_sem, r0, r1, r2, r3]) rfl ⟨rfl, R, G⟩

/-- What Frac answers. -/
def fcR (L : List Int) (k : Nat) : FN × Nat × Nat := if (frR L k).2.2 = 0 then frR L k else (zz, k, (frR L k).2.2)
theorem Frac_n (w : World) (rb : Nat) (v : Value) (L : List Int) (k : Nat) (h : Rdr w rb v L k) : Reads 69 w rb v L (fcR L k).2.1 (fvp (fcR L k).1) (fcR L k).2.2 := by
  have H := fun w1 (h1 : Rdr w1 rb v L k) => rd_frac w1 rb v L k h1
  unfold fcR
  revert H
  generalize frR L k = r
  obtain ⟨x, j, e⟩ := r
  simp only []
  intro H
  by_cases he : e = 0
  · subst he
    rw [if_pos rfl]
    exact Frac_of_back w rb v L k _ 0 _ h (backF_ok (w.alloc zfo) rb v L k j x (h.al zfo) H)
  · rw [if_neg he]
    exact Frac_of_back w rb v L k _ e zz h (backF_no (w.alloc zfo) rb v L k j e x (h.al zfo) he H)
end Go.Proofs.Ytanbnefdodkniaa
