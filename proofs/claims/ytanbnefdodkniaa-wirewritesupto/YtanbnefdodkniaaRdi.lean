/-
  The exported readers of exact complex numbers.
-/
import Derived.Test.YtanbnefdodkniaaRdh
namespace Go.Proofs.Ytanbnefdodkniaa
open Go.RowKit Go.Lib Go.Sort

theorem first2G (w : World) : ((w.alloc (gop zgz)).alloc (gop zgz)).heap[w.heap.size]? = some (gop zgz) := (Below.heap_alloc (w.alloc (gop zgz)) _ _ (by simp)).trans (heap_alloc_new w _)
theorem second2G (w : World) : ((w.alloc (gop zgz)).alloc (gop zgz)).heap[w.heap.size + 1]? = some (gop zgz) := by
  have := heap_alloc_new (w.alloc (gop zgz)) (gop zgz); simpa using this

set_option maxHeartbeats 3200000 in
set_option maxRecDepth 1000000 in
theorem backG_ok (w : World) (rb : Nat) (v : Value) (L : List Int) (k j : Nat) (z : FN × FN) (h : Rdr w rb v L k)
    (H : ∀ w1, Rdr w1 rb v L k → Reads 87 w1 rb v L j (gvp z) 0) :
    Calls Try.prog 86 #[rp rb, .func (.func 87) #[] #[]] w fun en w' => en = .returned (.tuple #[gvp z, .int .i64 0]) ∧ Rdr w' rb v L j ∧ w.grownBy w' (some rb) := by
  have hl := h.lt
  have hv : v.ownBlock ≠ some w.heap.size := fun e => by have := (h.own.lt _ e).2; omega
  have h0 := (h.al (gop zgz)).al (gop zgz)
  have h1 := h0.c1
  have HH : Hid (∀ w1, Rdr w1 rb v L k → Reads 87 w1 rb v L j (gvp z) 0) := H
  have HT : Hid (Rdr ((w.alloc (gop zgz)).alloc (gop zgz)) rb v L k) := h0
  clear H h0
  go_enter Try.func86, Try.ntmps86
  go_wp2_with (first | (go_at_call 73; refine (there_any _ rb v L k HT.out).mono ?_; rintro e w' ⟨rfl, rfl⟩))
  refine (HH.out _ HT.out).out.mono ?_
  rintro e w1 ⟨rfl, hr, hg⟩
  obtain ⟨_, _, hB⟩ := keptN (first2G w) hg (by intro e; cases e; omega)
  obtain ⟨a0, a1, a2, a3, a4, a5, a6, a7, fa⟩ := cellsG (z := zgz) hB
  have f0 := fa 0
  have f1 := fa 1
  have f2 := fa 2
  have f3 := fa 3
  have f4 := fa 4
  have f5 := fa 5
  have f6 := fa 6
  have f7 := fa 7
  have hlt : w.heap.size < w1.heap.size := (Array.getElem?_eq_some_iff.1 hB).1
  have HK : Hid (Rdr w1 rb v L j ∧ w.grownBy w1 (some rb) ∧ w1.heap[w.heap.size]? = some (gop zgz)) := ⟨hr, grownBy_trans (grownBy_trans (World.grownBy_alloc _ _ _) (World.grownBy_alloc _ _ _)) hg, hB⟩
  clear fa hr hg hB h1
  go_wp2
  have C := overG (z := z) HK.out.2.2
  have hs : (setG w1 w.heap.size z).heap.size = w1.heap.size := by simp [setG, set4, World.setCell]
  have C2 : ((setG w1 w.heap.size z).alloc (gop z)).heap[w.heap.size]? = some (gop z) := by
    rw [Below.heap_alloc _ _ _ (by omega)]; exact C
  obtain ⟨r0, r1, r2, r3, r4, r5, r6, r7, _⟩ := cellsG C2
  have R : Rdr ((setG w1 w.heap.size z).alloc (gop z)) rb v L j := (HK.out.1.setG (by omega) hv _).al _
  have G : w.grownBy ((setG w1 w.heap.size z).alloc (gop z)) (some rb) := grownBy_trans (grownBy_setG HK.out.2.1 (Nat.le_refl _) _) (World.grownBy_alloc _ _ _)
  simp only [setG, set4] at r0 r1 r2 r3 r4 r5 r6 r7
  refine bodyPost_ret (v := .tuple #[gvp z, .int .i64 0]) (by simp [results, Try.results86, go_sem, r0, r1, r2, r3, r4, r5, r6, r7]) rfl ⟨rfl, R, G⟩

set_option maxHeartbeats 3200000 in
set_option maxRecDepth 1000000 in
theorem backG_no (w : World) (rb : Nat) (v : Value) (L : List Int) (k j e : Nat) (z : FN × FN) (h : Rdr w rb v L k) (he : e ≠ 0)
    (H : ∀ w1, Rdr w1 rb v L k → Reads 87 w1 rb v L j (gvp z) e) :
    Calls Try.prog 86 #[rp rb, .func (.func 87) #[] #[]] w fun en w' => en = .returned (.tuple #[gvp zgz, .int .i64 e]) ∧ Rdr w' rb v L k ∧ w.grownBy w' (some rb) := by
  have hne : ((e : Int) == 0) = false := by simpa using he
  have hl := h.lt
  have hk := h.le
  have hv : v.ownBlock ≠ some w.heap.size := fun e => by have := (h.own.lt _ e).2; omega
  have h0 := (h.al (gop zgz)).al (gop zgz)
  have h1 := h0.c1
  have HH : Hid (∀ w1, Rdr w1 rb v L k → Reads 87 w1 rb v L j (gvp z) e) := H
  have HT : Hid (Rdr ((w.alloc (gop zgz)).alloc (gop zgz)) rb v L k) := h0
  have n1 : ¬ rb = w.heap.size := by omega
  have n2 : ¬ rb = w.heap.size + 1 := by omega
  clear H h0
  go_enter Try.func86, Try.ntmps86
  go_wp2_with (first | (go_at_call 73; refine (there_any _ rb v L k HT.out).mono ?_; rintro e w' ⟨rfl, rfl⟩))
  refine (HH.out _ HT.out).out.mono ?_
  rintro e1 w1 ⟨rfl, hr, hg⟩
  obtain ⟨_, _, hB⟩ := keptN (first2G w) hg (by intro e; cases e; omega)
  obtain ⟨_, _, hB2⟩ := keptN (second2G w) hg (by intro e; cases e; omega)
  obtain ⟨a0, a1, a2, a3, a4, a5, a6, a7, fa⟩ := cellsG (z := zgz) hB
  obtain ⟨b0, b1, b2, b3, b4, b5, b6, b7, _⟩ := cellsG (z := zgz) hB2
  have f0 := fa 0
  have f1 := fa 1
  have f2 := fa 2
  have f3 := fa 3
  have f4 := fa 4
  have f5 := fa 5
  have f6 := fa 6
  have f7 := fa 7
  have hlt : w.heap.size < w1.heap.size := (Array.getElem?_eq_some_iff.1 hB).1
  have hlt2 : w.heap.size + 1 < w1.heap.size := (Array.getElem?_eq_some_iff.1 hB2).1
  have hr1 := hr.c1
  have hf1 := hr.fr 1
  have hrlt := hr.lt
  have HK : Hid (Rdr w1 rb v L j ∧ w.grownBy w1 (some rb) ∧ w1.heap[w.heap.size]? = some (gop zgz)) := ⟨hr, grownBy_trans (grownBy_trans (World.grownBy_alloc _ _ _) (World.grownBy_alloc _ _ _)) hg, hB⟩
  clear fa hr hg hB hB2 h1
  go_wp2
  have hk2 := HK.out.1.put k hk
  have hB3 : (w1.setCell ⟨rb, 1, none⟩ (.int .i64 k)).heap[w.heap.size]? = some (gop zgz) := (Below.heap_setCell _ _ _ _ (by simp; omega)).trans HK.out.2.2
  have C := overG (z := zgz) hB3
  have hs : (setG (w1.setCell ⟨rb, 1, none⟩ (.int .i64 k)) w.heap.size zgz).heap.size = w1.heap.size := by simp [setG, set4, World.setCell]
  have C2 : ((setG (w1.setCell ⟨rb, 1, none⟩ (.int .i64 k)) w.heap.size zgz).alloc (gop z)).heap[w.heap.size]? = some (gop zgz) := by
    rw [Below.heap_alloc _ _ _ (by omega)]; exact C
  obtain ⟨r0, r1, r2, r3, r4, r5, r6, r7, _⟩ := cellsG C2
  have R : Rdr ((setG (w1.setCell ⟨rb, 1, none⟩ (.int .i64 k)) w.heap.size zgz).alloc (gop z)) rb v L k := (hk2.setG (by omega) hv _).al _
  have G : w.grownBy ((setG (w1.setCell ⟨rb, 1, none⟩ (.int .i64 k)) w.heap.size zgz).alloc (gop z)) (some rb) := grownBy_trans (grownBy_setG (grownBy_trans HK.out.2.1 (grownBy_setCell _ _ _ _)) (Nat.le_refl _) _) (World.grownBy_alloc _ _ _)
  simp only [setG, set4] at r0 r1 r2 r3 r4 r5 r6 r7
  refine bodyPost_ret (v := .tuple #[gvp zgz, .int .i64 e]) (by simp [results, Try.results86, go_sem, r0, r1, r2, r3, r4, r5, r6, r7]) rfl ⟨rfl, R, G⟩

set_option maxHeartbeats 3200000 in
set_option maxRecDepth 1000000 in
theorem Gauss_of_back (w : World) (rb : Nat) (v : Value) (L : List Int) (k j e : Nat) (z : FN × FN) (h : Rdr w rb v L k)
    (H : Calls Try.prog 86 #[rp rb, .func (.func 87) #[] #[]] (w.alloc (gop zgz)) fun en w' => en = .returned (.tuple #[gvp z, .int .i64 e]) ∧ Rdr w' rb v L j ∧ (w.alloc (gop zgz)).grownBy w' (some rb)) :
    Reads 42 w rb v L j (gvp z) e := by
  have hl := h.lt
  have hv : v.ownBlock ≠ some w.heap.size := fun e => by have := (h.own.lt _ e).2; omega
  go_enter Try.func42, Try.ntmps42
  go_wp2_with fail
  refine H.mono ?_
  rintro e1 w1 ⟨rfl, hr, hg⟩
  obtain ⟨_, _, hB⟩ := keptN (heap_alloc_new w (gop zgz)) hg (by intro e; cases e; omega)
  obtain ⟨a0, a1, a2, a3, a4, a5, a6, a7, fa⟩ := cellsG (z := zgz) hB
  have f0 := fa 0
  have f1 := fa 1
  have f2 := fa 2
  have f3 := fa 3
  have f4 := fa 4
  have f5 := fa 5
  have f6 := fa 6
  have f7 := fa 7
  have HK : Hid (Rdr w1 rb v L j ∧ w.grownBy w1 (some rb) ∧ w1.heap[w.heap.size]? = some (gop zgz)) := ⟨hr, grownBy_trans (World.grownBy_alloc _ _ _) hg, hB⟩
  clear fa hr hg hB
  go_wp2
  obtain ⟨r0, r1, r2, r3, r4, r5, r6, r7, _⟩ := cellsG (overG (z := z) HK.out.2.2)
  have R := HK.out.1.setG (by omega) hv z
  have G := grownBy_setG HK.out.2.1 (Nat.le_refl _) z
  simp only [setG, set4] at r0 r1 r2 r3 r4 r5 r6 r7
  refine bodyPost_ret (v := .tuple #[gvp z, .int .i64 e]) (by simp [results, Try.results42, go_sem, r0, r1, r2, r3, r4, r5, r6, r7]) rfl ⟨rfl, R, G⟩

/-- Gauss: what a reader answers. -/
theorem Gauss_rd (w : World) (rb : Nat) (v : Value) (L : List Int) (k : Nat) (h : Rdr w rb v L k) (z : FN × FN) (j e : Nat) (hz : gR L k = (z, j, e)) :
    Reads 42 w rb v L (if e = 0 then j else k) (gvp (if e = 0 then z else zgz)) e := by
  have H : ∀ w1, Rdr w1 rb v L k → Reads 87 w1 rb v L j (gvp z) e := fun w1 h1 => by
    have T := twoF_any _ rb v L k (h1.al (gop zgz))
    rw [hz] at T
    exact gauss1_any w1 rb v L k j e z.1 z.2 h1 T
  by_cases he : e = 0
  · subst he
    rw [if_pos rfl, if_pos rfl]
    exact Gauss_of_back w rb v L k j 0 z h (backG_ok (w.alloc (gop zgz)) rb v L k j z (h.al _) H)
  · rw [if_neg he, if_neg he]
    exact Gauss_of_back w rb v L k k e zgz h (backG_no (w.alloc (gop zgz)) rb v L k j e z (h.al _) he H)
end Go.Proofs.Ytanbnefdodkniaa
