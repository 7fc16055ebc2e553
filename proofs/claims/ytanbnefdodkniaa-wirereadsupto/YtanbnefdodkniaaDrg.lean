/-
  The document's Gauss; the program's, as it is told outside.
-/
import Derived.Test.YtanbnefdodkniaaDrf
namespace Go.Proofs.Ytanbnefdodkniaa
open Go.RowKit Go.Lib Go.Sort

theorem DRdr.setG {w : World} {db : Nat} {v : Value} {L : List Int} {k g : Nat} (h : DRdr w db v L k) (hg : g ≠ db) (hv : DFar v L g) (z : FN × FN) : DRdr (Ytanbnefdodkniaa.setG w g z) db v L k := by
  have h1 := h.set4 hg hv (.bool z.1.1.1) (.string z.1.1.2) (.bool z.1.2.1) (.string z.1.2.2)
  have h2 := h1.put2 hg hv 4 (.bool z.2.1.1)
  have h3 := h2.put2 hg hv 5 (.string z.2.1.2)
  have h4 := h3.put2 hg hv 6 (.bool z.2.2.1)
  exact h4.put2 hg hv 7 (.string z.2.2.2)

set_option maxHeartbeats 3200000 in
set_option maxRecDepth 1000000 in
theorem dgauss_one (w : World) (db : Nat) (v : Value) (L : List Int) (k j e : Nat) (x : FN) (h : DRdr w db v L k) (he : e ≠ 0) (H : DReads 70 (w.alloc (gop zgz)) db v L j (fvp x) e) : DReads 71 w db v L j (gvp zgz) e := by
  have hne : ((e : Int) == 0) = false := by simpa using he
  have hl := h.lt
  have hf := h.far
  have h1 := (h.al (gop zgz)).c1
  go_enter Try.func71, Try.ntmps71
  go_wp2_with fail
  refine H.out.mono ?_
  rintro e1 w1 ⟨rfl, hr, hg⟩
  obtain ⟨_, _, hB⟩ := keptN (heap_alloc_new w (gop zgz)) hg (by intro e; cases e; omega)
  obtain ⟨a0, a1, a2, a3, a4, a5, a6, a7, ff⟩ := cellsG (z := zgz) hB
  have f0 := ff 0
  have f1 := ff 1
  have f2 := ff 2
  have f3 := ff 3
  have f4 := ff 4
  have f5 := ff 5
  have f6 := ff 6
  have f7 := ff 7
  have hlt : w.heap.size < w1.heap.size := (Array.getElem?_eq_some_iff.1 hB).1
  have m1 : ¬ w.heap.size = w1.heap.size := by omega
  have m2 : ¬ w1.heap.size = w.heap.size := by omega
  have HK : Hid (DRdr w1 db v L j ∧ w.grownBy w1 (some db) ∧ w1.heap[w.heap.size]? = some (gop zgz)) := ⟨hr, grownBy_trans (World.grownBy_alloc _ _ _) hg, hB⟩
  clear ff hr hg hB h1
  go_wp2
  have C := overG (z := zgz) HK.out.2.2
  have hs : (setG w1 w.heap.size zgz).heap.size = w1.heap.size := by simp [setG, set4, World.setCell]
  have C2 : ((setG w1 w.heap.size zgz).alloc (fop x)).heap[w.heap.size]? = some (gop zgz) := by
    rw [Below.heap_alloc _ _ _ (by omega)]; exact C
  obtain ⟨r0, r1, r2, r3, r4, r5, r6, r7, _⟩ := cellsG C2
  have R : DRdr ((setG w1 w.heap.size zgz).alloc (fop x)) db v L j := (HK.out.1.setG (by omega) hf _).al _
  have G : w.grownBy ((setG w1 w.heap.size zgz).alloc (fop x)) (some db) := grownBy_trans (grownBy_setG HK.out.2.1 (Nat.le_refl _) _) (World.grownBy_alloc _ _ _)
  simp only [setG, set4] at r0 r1 r2 r3 r4 r5 r6 r7
  refine bodyPost_ret (v := .tuple #[gvp zgz, .int .i64 e]) (by simp [results, Try.results71, go_sem, r0, r1, r2, r3, r4, r5, r6, r7]) rfl ⟨rfl, R, G⟩

set_option maxHeartbeats 3200000 in
set_option maxRecDepth 1000000 in
theorem dgauss_two (w : World) (db : Nat) (v : Value) (L : List Int) (k j i e : Nat) (x y : FN) (h : DRdr w db v L k) (he : e ≠ 0) (H : DReads 70 (w.alloc (gop zgz)) db v L j (fvp x) 0) (H2 : ∀ w1, DRdr w1 db v L j → DReads 70 w1 db v L i (fvp y) e) : DReads 71 w db v L k (gvp zgz) e := by
  have hne : ((e : Int) == 0) = false := by simpa using he
  have hl := h.lt
  have hf := h.far
  have hk := h.le
  have h1 := (h.al (gop zgz)).c1
  have HH : Hid (∀ w1, DRdr w1 db v L j → DReads 70 w1 db v L i (fvp y) e) := H2
  have n1 : ¬ db = w.heap.size := by omega
  have n2 : ¬ w.heap.size = db := by omega
  clear H2
  go_enter Try.func71, Try.ntmps71
  go_wp2_with fail
  refine H.out.mono ?_
  rintro e1 w1 ⟨rfl, hr, hg⟩
  obtain ⟨_, _, hB⟩ := keptN (heap_alloc_new w (gop zgz)) hg (by intro e; cases e; omega)
  have hlt : w.heap.size < w1.heap.size := (Array.getElem?_eq_some_iff.1 hB).1
  have hlt1 := hr.lt
  have HK : Hid (DRdr (w1.alloc (fop x)) db v L j ∧ w.grownBy (w1.alloc (fop x)) (some db) ∧ (w1.alloc (fop x)).heap[w.heap.size]? = some (gop zgz)) := ⟨hr.al _, grownBy_trans (grownBy_trans (World.grownBy_alloc _ _ _) hg) (World.grownBy_alloc _ _ _), (Below.heap_alloc _ _ _ hlt).trans hB⟩
  clear hr hg hB h1
  go_wp2_with fail
  refine (HH.out _ HK.out.1).out.mono ?_
  rintro e2 w2 ⟨rfl, hr2, hg2⟩
  obtain ⟨_, _, hC⟩ := keptN HK.out.2.2 hg2 (by intro e; cases e; omega)
  obtain ⟨a0, a1, a2, a3, a4, a5, a6, a7, ff⟩ := cellsG (z := zgz) hC
  have f0 := ff 0
  have f1 := ff 1
  have f2 := ff 2
  have f3 := ff 3
  have f4 := ff 4
  have f5 := ff 5
  have f6 := ff 6
  have f7 := ff 7
  have s1 := hr2.c1
  have s2 := hr2.fr 1
  have hlt2 : w.heap.size < w2.heap.size := (Array.getElem?_eq_some_iff.1 hC).1
  have hlt3 := hr2.lt
  have HQ : Hid (DRdr w2 db v L i ∧ w.grownBy w2 (some db) ∧ w2.heap[w.heap.size]? = some (gop zgz)) := ⟨hr2, grownBy_trans HK.out.2.1 hg2, hC⟩
  have m1 : ¬ w.heap.size = w2.heap.size := by omega
  have m2 : ¬ w2.heap.size = w.heap.size := by omega
  have m5 : ¬ db = w2.heap.size := by omega
  have m6 : ¬ w2.heap.size = db := by omega
  clear ff hr2 hg2 hC HK
  go_wp2
  have hk2 := HQ.out.1.put k hk
  have hB3 : (w2.setCell ⟨db, 1, none⟩ (.int .i64 k)).heap[w.heap.size]? = some (gop zgz) := (Below.heap_setCell _ _ _ _ (by simp; omega)).trans HQ.out.2.2
  have C := overG (z := zgz) hB3
  have hs : (setG (w2.setCell ⟨db, 1, none⟩ (.int .i64 k)) w.heap.size zgz).heap.size = w2.heap.size := by simp [setG, set4, World.setCell]
  have C2 : ((setG (w2.setCell ⟨db, 1, none⟩ (.int .i64 k)) w.heap.size zgz).alloc (fop y)).heap[w.heap.size]? = some (gop zgz) := by
    rw [Below.heap_alloc _ _ _ (by omega)]; exact C
  obtain ⟨r0, r1, r2, r3, r4, r5, r6, r7, _⟩ := cellsG C2
  have R : DRdr ((setG (w2.setCell ⟨db, 1, none⟩ (.int .i64 k)) w.heap.size zgz).alloc (fop y)) db v L k := (hk2.setG (by omega) hf _).al _
  have G : w.grownBy ((setG (w2.setCell ⟨db, 1, none⟩ (.int .i64 k)) w.heap.size zgz).alloc (fop y)) (some db) := grownBy_trans (grownBy_setG (grownBy_trans HQ.out.2.1 (grownBy_setCell _ _ _ _)) (Nat.le_refl _) _) (World.grownBy_alloc _ _ _)
  simp only [setG, set4] at r0 r1 r2 r3 r4 r5 r6 r7
  refine bodyPost_ret (v := .tuple #[gvp zgz, .int .i64 e]) (by simp [results, Try.results71, go_sem, r0, r1, r2, r3, r4, r5, r6, r7]) rfl ⟨rfl, R, G⟩

set_option maxHeartbeats 3200000 in
set_option maxRecDepth 1000000 in
theorem dgauss_yes (w : World) (db : Nat) (v : Value) (L : List Int) (k j i : Nat) (x y : FN) (h : DRdr w db v L k) (H : DReads 70 (w.alloc (gop zgz)) db v L j (fvp x) 0) (H2 : ∀ w1, DRdr w1 db v L j → DReads 70 w1 db v L i (fvp y) 0) : DReads 71 w db v L i (gvp (x, y)) 0 := by
  have hl := h.lt
  have hf := h.far
  have h1 := (h.al (gop zgz)).c1
  have HH : Hid (∀ w1, DRdr w1 db v L j → DReads 70 w1 db v L i (fvp y) 0) := H2
  have n1 : ¬ db = w.heap.size := by omega
  have n2 : ¬ w.heap.size = db := by omega
  clear H2
  go_enter Try.func71, Try.ntmps71
  go_wp2_with fail
  refine H.out.mono ?_
  rintro e1 w1 ⟨rfl, hr, hg⟩
  obtain ⟨_, _, hB⟩ := keptN (heap_alloc_new w (gop zgz)) hg (by intro e; cases e; omega)
  have hlt : w.heap.size < w1.heap.size := (Array.getElem?_eq_some_iff.1 hB).1
  have hlt1 := hr.lt
  have HK : Hid (DRdr (w1.alloc (fop x)) db v L j ∧ w.grownBy (w1.alloc (fop x)) (some db) ∧ (w1.alloc (fop x)).heap[w.heap.size]? = some (gop zgz) ∧ (w1.alloc (fop x)).heap[w1.heap.size]? = some (fop x)) := ⟨hr.al _, grownBy_trans (grownBy_trans (World.grownBy_alloc _ _ _) hg) (World.grownBy_alloc _ _ _), (Below.heap_alloc _ _ _ hlt).trans hB, heap_alloc_new _ _⟩
  clear hr hg hB h1
  go_wp2_with fail
  refine (HH.out _ HK.out.1).out.mono ?_
  rintro e2 w2 ⟨rfl, hr2, hg2⟩
  obtain ⟨_, _, hC⟩ := keptN HK.out.2.2.1 hg2 (by intro e; cases e; omega)
  obtain ⟨_, _, hX⟩ := keptN HK.out.2.2.2 hg2 (by intro e; cases e; omega)
  obtain ⟨a0, a1, a2, a3, a4, a5, a6, a7, ff⟩ := cellsG (z := zgz) hC
  obtain ⟨x0, x1, x2, x3, _⟩ := cells4 hX
  have f0 := ff 0
  have f1 := ff 1
  have f2 := ff 2
  have f3 := ff 3
  have f4 := ff 4
  have f5 := ff 5
  have f6 := ff 6
  have f7 := ff 7
  have hlt2 : w.heap.size < w2.heap.size := (Array.getElem?_eq_some_iff.1 hC).1
  have hltx : w1.heap.size < w2.heap.size := (Array.getElem?_eq_some_iff.1 hX).1
  have HQ : Hid (DRdr w2 db v L i ∧ w.grownBy w2 (some db) ∧ w2.heap[w.heap.size]? = some (gop zgz)) := ⟨hr2, grownBy_trans HK.out.2.1 hg2, hC⟩
  have m1 : ¬ w.heap.size = w2.heap.size := by omega
  have m2 : ¬ w2.heap.size = w.heap.size := by omega
  have m3 : ¬ w1.heap.size = w2.heap.size := by omega
  have m4 : ¬ w2.heap.size = w1.heap.size := by omega
  have m7 : ¬ w1.heap.size = w.heap.size := by omega
  have m8 : ¬ w.heap.size = w1.heap.size := by omega
  clear ff hr2 hg2 hC HK hX
  go_wp2
  have C := overG (z := (x, y)) HQ.out.2.2
  have hs : (setG w2 w.heap.size (x, y)).heap.size = w2.heap.size := by simp [setG, set4, World.setCell]
  have C2 : ((setG w2 w.heap.size (x, y)).alloc (fop y)).heap[w.heap.size]? = some (gop (x, y)) := by
    rw [Below.heap_alloc _ _ _ (by omega)]; exact C
  obtain ⟨r0, r1, r2, r3, r4, r5, r6, r7, _⟩ := cellsG C2
  have R : DRdr ((setG w2 w.heap.size (x, y)).alloc (fop y)) db v L i := (HQ.out.1.setG (by omega) hf _).al _
  have G : w.grownBy ((setG w2 w.heap.size (x, y)).alloc (fop y)) (some db) := grownBy_trans (grownBy_setG HQ.out.2.1 (Nat.le_refl _) _) (World.grownBy_alloc _ _ _)
  simp only [setG, set4] at r0 r1 r2 r3 r4 r5 r6 r7
  refine bodyPost_ret (v := .tuple #[gvp (x, y), .int .i64 0]) (by simp [results, Try.results71, go_sem, r0, r1, r2, r3, r4, r5, r6, r7]) rfl ⟨rfl, R, G⟩

/-- What Gauss answers. -/
def gaR (L : List Int) (k : Nat) : (FN × FN) × Nat × Nat := if (gR L k).2.2 = 0 then gR L k else (zgz, k, (gR L k).2.2)
theorem Gauss_n (w : World) (rb : Nat) (v : Value) (L : List Int) (k : Nat) (h : Rdr w rb v L k) : Reads 42 w rb v L (gaR L k).2.1 (gvp (gaR L k).1) (gaR L k).2.2 := by
  have H := Gauss_rd w rb v L k h (gR L k).1 (gR L k).2.1 (gR L k).2.2 rfl
  unfold gaR
  by_cases he : (gR L k).2.2 = 0
  · rw [if_pos he]; rw [if_pos he, if_pos he] at H; exact H
  · rw [if_neg he]; rw [if_neg he, if_neg he] at H; exact H
theorem fcR_code (L : List Int) (k : Nat) : (fcR L k).2.2 ≠ 0 → (fcR L k).2.1 = k := by
  unfold fcR
  by_cases he : (frR L k).2.2 = 0
  · rw [if_pos he]; exact fun hn => absurd he hn
  · rw [if_neg he]; exact fun _ => rfl
theorem fcR_frR (L : List Int) (k : Nat) : (frR L k).2.2 = (fcR L k).2.2 ∧ ((frR L k).2.2 = 0 → frR L k = fcR L k) := by
  unfold fcR
  by_cases he : (frR L k).2.2 = 0
  · rw [if_pos he]; exact ⟨rfl, fun _ => rfl⟩
  · rw [if_neg he]; exact ⟨rfl, fun h => absurd h he⟩
theorem gaR_by (L : List Int) (k : Nat) : gaR L k = if (fcR L k).2.2 ≠ 0 then (zgz, k, (fcR L k).2.2) else if (fcR L (fcR L k).2.1).2.2 ≠ 0 then (zgz, k, (fcR L (fcR L k).2.1).2.2)
    else (((fcR L k).1, (fcR L (fcR L k).2.1).1), (fcR L (fcR L k).2.1).2.1, 0) := by
  obtain ⟨h1, h2⟩ := fcR_frR L k
  by_cases he : (frR L k).2.2 = 0
  · have e1 := h2 he
    obtain ⟨g1, g2⟩ := fcR_frR L (fcR L k).2.1
    rw [if_neg (by omega)]
    have ht : gR L k = (((fcR L k).1, (frR L (fcR L k).2.1).1), (frR L (fcR L k).2.1).2.1, (frR L (fcR L k).2.1).2.2) := by unfold gR; rw [if_neg (by omega), e1]
    by_cases he2 : (frR L (fcR L k).2.1).2.2 = 0
    · have e2 := g2 he2
      rw [if_neg (by omega)]
      have hz : (fcR L (fcR L k).2.1).2.2 = 0 := by omega
      unfold gaR; rw [ht, e2]; simp only []; rw [if_pos hz, hz]
    · rw [if_pos (by omega), ← g1]
      unfold gaR; rw [ht]; simp only []; rw [if_neg he2]
  · rw [if_pos (by omega), ← h1]
    have ht : (gR L k).2 = ((frR L k).2.1, (frR L k).2.2) := by unfold gR; rw [if_pos he]
    unfold gaR; rw [ht]; simp only []; rw [if_neg he]
/-- The document's Gauss. -/
theorem dgauss (w : World) (db : Nat) (v : Value) (L : List Int) (k : Nat) (h : DRdr w db v L k) : DReads 71 w db v L (gaR L k).2.1 (gvp (gaR L k).1) (gaR L k).2.2 := by
  have H := dfrac _ db v L k (h.al (gop zgz))
  have H2 := fun w1 (h1 : DRdr w1 db v L (fcR L k).2.1) => dfrac w1 db v L _ h1
  have hc := fcR_code L k
  rw [gaR_by]
  revert H H2 hc
  generalize fcR L (fcR L k).2.1 = r2
  generalize fcR L k = r1
  obtain ⟨x, j, e⟩ := r1
  obtain ⟨y, i, e2⟩ := r2
  intro H H2 hc
  simp only [] at H H2 hc ⊢
  by_cases he : e = 0
  · subst he
    rw [if_neg (by simp)]
    by_cases he2 : e2 = 0
    · subst he2
      rw [if_neg (by simp)]
      exact dgauss_yes w db v L k j i x y h H H2
    · rw [if_pos he2]
      exact dgauss_two w db v L k j i e2 x y h he2 H H2
  · rw [if_pos he]
    have := dgauss_one w db v L k j e x h he H
    rw [hc he] at this
    exact this
end Go.Proofs.Ytanbnefdodkniaa
