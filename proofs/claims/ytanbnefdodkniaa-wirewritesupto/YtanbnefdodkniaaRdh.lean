/-
  Exact complex numbers read.
-/
import Derived.Test.YtanbnefdodkniaaRdg
namespace Go.Proofs.Ytanbnefdodkniaa
open Go.RowKit Go.Lib Go.Sort

abbrev FN := WN × WN
abbrev zn : WN := (false, ⟨#[]⟩)
abbrev zz : FN := (zn, zn)
abbrev fvp (x : FN) : Value := fv x.1 x.2
abbrev fop (x : FN) : Obj := fob x.1 x.2
abbrev setF (w : World) (g : Nat) (x : FN) : World := set4 w g (.bool x.1.1) (.string x.1.2) (.bool x.2.1) (.string x.2.2)

/-- A fraction read. -/
def frR (L : List Int) (k : Nat) : FN × Nat × Nat :=
  if (twW L k).2.2 ≠ 0 then (zz, (twW L k).2.1, (twW L k).2.2)
  else if plainFr (twW L k).1.1 (twW L k).1.2 then ((twW L k).1, (twW L k).2.1, 0)
  else (zz, (twW L k).2.1, 111)
theorem rd_frac (w : World) (rb : Nat) (v : Value) (L : List Int) (k : Nat) (h : Rdr w rb v L k) : Reads 89 w rb v L (frR L k).2.1 (fvp (frR L k).1) (frR L k).2.2 := by
  have H := twoW_any _ rb v L k (h.al zfo)
  have hs := twW_size L k
  unfold frR
  by_cases he : (twW L k).2.2 = 0
  · rw [if_neg (by simpa using he)]
    rw [he] at H
    have T := frac_got w rb v L k _ _ _ _ h hs.1 hs.2 rfl H
    split
    · rename_i hp; simpa [hp] using T
    · rename_i hp; simpa [hp] using T
  · rw [if_pos he]
    exact frac_err w rb v L k _ _ _ _ h he H

theorem second2F (w : World) : ((w.alloc zfo).alloc zfo).heap[w.heap.size + 1]? = some zfo := by
  have := heap_alloc_new (w.alloc zfo) zfo; simpa using this
theorem first2F (w : World) : ((w.alloc zfo).alloc zfo).heap[w.heap.size]? = some zfo := (Below.heap_alloc (w.alloc zfo) zfo _ (by simp)).trans (heap_alloc_new w zfo)

set_option maxHeartbeats 3200000 in
set_option maxRecDepth 1000000 in
theorem twoF_no (w : World) (rb : Nat) (v : Value) (L : List Int) (k j e : Nat) (x : FN) (h : Rdr w rb v L k) (he : e ≠ 0) (H : Reads 89 ((w.alloc zfo).alloc zfo) rb v L j (fvp x) e) :
    Calls Try.prog 88 #[rp rb, .func (.func 89) #[] #[]] w fun en w' => en = .returned (.tuple #[fvp x, zf, .int .i64 e]) ∧ Rdr w' rb v L j ∧ w.grownBy w' (some rb) := by
  have hne : ((e : Int) == 0) = false := by simpa using he
  have hl := h.lt
  have hv : ∀ g, w.heap.size ≤ g → v.ownBlock ≠ some g := fun g hg e => by have := (h.own.lt _ e).2; omega
  have HV : Hid (∀ g, w.heap.size ≤ g → v.ownBlock ≠ some g) := hv
  clear hv
  go_enter Try.func88, Try.ntmps88
  go_wp2_with fail
  refine H.out.mono ?_
  rintro e1 w1 ⟨rfl, hr, hg⟩
  obtain ⟨_, _, hB⟩ := keptN (first2F w) hg (by intro e; cases e; omega)
  obtain ⟨_, _, hB2⟩ := keptN (second2F w) hg (by intro e; cases e; omega)
  obtain ⟨a0, a1, a2, a3, fa⟩ := cells4 hB
  obtain ⟨b0, b1, b2, b3, fb⟩ := cells4 hB2
  have f0 := fa 0
  have f1 := fa 1
  have f2 := fa 2
  have f3 := fa 3
  have i0 := fb 0
  have i1 := fb 1
  have i2 := fb 2
  have i3 := fb 3
  have HK : Hid (Rdr w1 rb v L j ∧ w.grownBy w1 (some rb) ∧ w1.heap[w.heap.size]? = some zfo ∧ w1.heap[w.heap.size + 1]? = some zfo) := ⟨hr, grownBy_trans (grownBy_trans (World.grownBy_alloc _ _ _) (World.grownBy_alloc _ _ _)) hg, hB, hB2⟩
  clear fa fb hr hg hB hB2
  go_wp2
  go_region
  go_wp2
  have C0 : (setF (setF (setF w1 w.heap.size x) w.heap.size x) (w.heap.size + 1) zz).heap[w.heap.size]? = some (fop x) := by
    rw [set4_other (by omega)]; exact over4 (over4 HK.out.2.2.1)
  have C1 : (setF (setF (setF w1 w.heap.size x) w.heap.size x) (w.heap.size + 1) zz).heap[w.heap.size + 1]? = some zfo := by
    refine over4 (a := .bool false) (b := .string ⟨#[]⟩) (c := .bool false) (d := .string ⟨#[]⟩) ?_
    rw [set4_other (by omega), set4_other (by omega)]; exact HK.out.2.2.2
  obtain ⟨r0, r1, r2, r3, _⟩ := cells4 C0
  obtain ⟨s0, s1, s2, s3, _⟩ := cells4 C1
  have R : Rdr (setF (setF (setF w1 w.heap.size x) w.heap.size x) (w.heap.size + 1) zz) rb v L j :=
    ((HK.out.1.set4 (by omega) (HV.out _ (Nat.le_refl _)) _ _ _ _).set4 (by omega) (HV.out _ (Nat.le_refl _)) _ _ _ _).set4 (by omega) (HV.out _ (by omega)) _ _ _ _
  have G : w.grownBy (setF (setF (setF w1 w.heap.size x) w.heap.size x) (w.heap.size + 1) zz) (some rb) :=
    grownBy_set4 (grownBy_set4 (grownBy_set4 HK.out.2.1 (Nat.le_refl _) _ _ _ _) (Nat.le_refl _) _ _ _ _) (by omega) _ _ _ _
  simp only [setF, set4] at r0 r1 r2 r3 s0 s1 s2 s3
  refine bodyPost_ret (v := .tuple #[fvp x, zf, .int .i64 e]) (by simp [results, Try.results88, go_sem, r0, r1, r2, r3, s0, s1, s2, s3]) rfl ⟨rfl, R.drewN 1, grownBy_drewN G 1⟩

set_option maxHeartbeats 3200000 in
set_option maxRecDepth 1000000 in
theorem twoF_yes (w : World) (rb : Nat) (v : Value) (L : List Int) (k j i e : Nat) (x y : FN) (h : Rdr w rb v L k) (H : Reads 89 ((w.alloc zfo).alloc zfo) rb v L j (fvp x) 0) (H2 : ∀ w1, Rdr w1 rb v L j → Reads 89 w1 rb v L i (fvp y) e) :
    Calls Try.prog 88 #[rp rb, .func (.func 89) #[] #[]] w fun en w' => en = .returned (.tuple #[fvp x, fvp y, .int .i64 e]) ∧ Rdr w' rb v L i ∧ w.grownBy w' (some rb) := by
  have hl := h.lt
  have hv : ∀ g, w.heap.size ≤ g → v.ownBlock ≠ some g := fun g hg e => by have := (h.own.lt _ e).2; omega
  have HV : Hid (∀ g, w.heap.size ≤ g → v.ownBlock ≠ some g) := hv
  have HH : Hid (∀ w1, Rdr w1 rb v L j → Reads 89 w1 rb v L i (fvp y) e) := H2
  clear H2 hv
  go_enter Try.func88, Try.ntmps88
  go_wp2_with fail
  refine H.out.mono ?_
  rintro e1 w1 ⟨rfl, hr, hg⟩
  obtain ⟨_, _, hB⟩ := keptN (first2F w) hg (by intro e; cases e; omega)
  obtain ⟨_, _, hB2⟩ := keptN (second2F w) hg (by intro e; cases e; omega)
  obtain ⟨a0, a1, a2, a3, fa⟩ := cells4 hB
  have f0 := fa 0
  have f1 := fa 1
  have f2 := fa 2
  have f3 := fa 3
  have G1 : w.grownBy w1 (some rb) := grownBy_trans (grownBy_trans (World.grownBy_alloc _ _ _) (World.grownBy_alloc _ _ _)) hg
  have K0 : Hid ((setF w1 w.heap.size x).heap[w.heap.size]? = some (fop x) ∧ (setF w1 w.heap.size x).heap[w.heap.size + 1]? = some zfo ∧ w.grownBy (setF w1 w.heap.size x) (some rb)) :=
    ⟨over4 hB, by rw [set4_other (by omega)]; exact hB2, grownBy_set4 G1 (Nat.le_refl _) _ _ _ _⟩
  have HR1 : Hid (Rdr (setF w1 w.heap.size x) rb v L j) := hr.set4 (by omega) (HV.out _ (Nat.le_refl _)) _ _ _ _
  clear hr hg hB hB2 G1 fa
  go_wp2_with fail
  refine (HH.out _ HR1.out).out.mono ?_
  rintro e2 w2 ⟨rfl, hr2, hg2⟩
  obtain ⟨_, _, hC⟩ := keptN K0.out.1 hg2 (by intro e; cases e; omega)
  obtain ⟨_, _, hD⟩ := keptN K0.out.2.1 hg2 (by intro e; cases e; omega)
  obtain ⟨c0, c1, c2, c3, fc⟩ := cells4 hC
  obtain ⟨d0, d1, d2, d3, fd⟩ := cells4 hD
  have g0 := fc 0
  have g1 := fc 1
  have g2 := fc 2
  have g3 := fc 3
  have i0 := fd 0
  have i1 := fd 1
  have i2 := fd 2
  have i3 := fd 3
  have HK : Hid (Rdr w2 rb v L i ∧ w.grownBy w2 (some rb) ∧ w2.heap[w.heap.size]? = some (fop x) ∧ w2.heap[w.heap.size + 1]? = some zfo) := ⟨hr2, grownBy_trans K0.out.2.2 hg2, hC, hD⟩
  clear a0 a1 a2 a3 f0 f1 f2 f3 K0 HR1 hg2 hr2 fc fd hC hD
  go_wp2
  go_region
  go_wp2
  have C0 : (setF (setF (setF w2 (w.heap.size + 1) y) w.heap.size x) (w.heap.size + 1) y).heap[w.heap.size]? = some (fop x) := by
    rw [set4_other (by omega)]
    refine over4 (a := .bool x.1.1) (b := .string x.1.2) (c := .bool x.2.1) (d := .string x.2.2) ?_
    rw [set4_other (by omega)]; exact HK.out.2.2.1
  have C1 : (setF (setF (setF w2 (w.heap.size + 1) y) w.heap.size x) (w.heap.size + 1) y).heap[w.heap.size + 1]? = some (fop y) := by
    refine over4 (a := .bool y.1.1) (b := .string y.1.2) (c := .bool y.2.1) (d := .string y.2.2) ?_
    rw [set4_other (by omega)]; exact over4 HK.out.2.2.2
  obtain ⟨r0, r1, r2, r3, _⟩ := cells4 C0
  obtain ⟨s0, s1, s2, s3, _⟩ := cells4 C1
  have R : Rdr (setF (setF (setF w2 (w.heap.size + 1) y) w.heap.size x) (w.heap.size + 1) y) rb v L i :=
    ((HK.out.1.set4 (by omega) (HV.out _ (by omega)) _ _ _ _).set4 (by omega) (HV.out _ (Nat.le_refl _)) _ _ _ _).set4 (by omega) (HV.out _ (by omega)) _ _ _ _
  have G : w.grownBy (setF (setF (setF w2 (w.heap.size + 1) y) w.heap.size x) (w.heap.size + 1) y) (some rb) :=
    grownBy_set4 (grownBy_set4 (grownBy_set4 HK.out.2.1 (by omega) _ _ _ _) (Nat.le_refl _) _ _ _ _) (by omega) _ _ _ _
  simp only [setF, set4] at r0 r1 r2 r3 s0 s1 s2 s3
  refine bodyPost_ret (v := .tuple #[fvp x, fvp y, .int .i64 e]) (by simp [results, Try.results88, go_sem, r0, r1, r2, r3, s0, s1, s2, s3]) rfl ⟨rfl, R.drewN 1, grownBy_drewN G 1⟩

/-- Two fractions, one behind the other. -/
def gR (L : List Int) (k : Nat) : (FN × FN) × Nat × Nat :=
  if (frR L k).2.2 ≠ 0 then (((frR L k).1, zz), (frR L k).2.1, (frR L k).2.2)
  else (((frR L k).1, (frR L (frR L k).2.1).1), (frR L (frR L k).2.1).2.1, (frR L (frR L k).2.1).2.2)
theorem twoF_any (w : World) (rb : Nat) (v : Value) (L : List Int) (k : Nat) (h : Rdr w rb v L k) :
    Calls Try.prog 88 #[rp rb, .func (.func 89) #[] #[]] w fun en w' => en = .returned (.tuple #[fvp (gR L k).1.1, fvp (gR L k).1.2, .int .i64 (gR L k).2.2]) ∧ Rdr w' rb v L (gR L k).2.1 ∧ w.grownBy w' (some rb) := by
  have H := rd_frac _ rb v L k ((h.al zfo).al zfo)
  have H2 : ∀ w1, Rdr w1 rb v L (frR L k).2.1 → Reads 89 w1 rb v L (frR L (frR L k).2.1).2.1 (fvp (frR L (frR L k).2.1).1) (frR L (frR L k).2.1).2.2 := fun w1 h1 => rd_frac w1 rb v L _ h1
  unfold gR
  revert H H2
  generalize frR L (frR L k).2.1 = r2
  generalize frR L k = r1
  obtain ⟨x, j, e⟩ := r1
  obtain ⟨y, i, e2⟩ := r2
  intro H H2
  simp only [] at H H2 ⊢
  by_cases he : e = 0
  · subst he
    rw [if_neg (by simp)]
    exact twoF_yes w rb v L k j i e2 x y h H H2
  · rw [if_pos he]
    exact twoF_no w rb v L k j e x h he H

abbrev gvp (z : FN × FN) : Value := gv z.1.1 z.1.2 z.2.1 z.2.2
abbrev gop (z : FN × FN) : Obj := gob z.1.1 z.1.2 z.2.1 z.2.2
abbrev zgz : FN × FN := (zz, zz)
abbrev setG (w : World) (g : Nat) (z : FN × FN) : World := ((((set4 w g (.bool z.1.1.1) (.string z.1.1.2) (.bool z.1.2.1) (.string z.1.2.2)).setCell ⟨g, 4, none⟩ (.bool z.2.1.1)).setCell ⟨g, 5, none⟩ (.string z.2.1.2)).setCell ⟨g, 6, none⟩ (.bool z.2.2.1)).setCell ⟨g, 7, none⟩ (.string z.2.2.2)
theorem Rdr.setG {w : World} {rb : Nat} {v : Value} {L : List Int} {k g : Nat} (h : Rdr w rb v L k) (hg : g ≠ rb) (hv : v.ownBlock ≠ some g) (z : FN × FN) : Rdr (Ytanbnefdodkniaa.setG w g z) rb v L k := by
  have h1 := h.set4 hg hv (.bool z.1.1.1) (.string z.1.1.2) (.bool z.1.2.1) (.string z.1.2.2)
  have h2 := h1.put2 hg hv 4 (.bool z.2.1.1)
  have h3 := h2.put2 hg hv 5 (.string z.2.1.2)
  have h4 := h3.put2 hg hv 6 (.bool z.2.2.1)
  exact h4.put2 hg hv 7 (.string z.2.2.2)
theorem grownBy_setG {a b : World} {row : Option Nat} {g : Nat} (h : a.grownBy b row) (hg : a.heap.size ≤ g) (z : FN × FN) : a.grownBy (setG b g z) row := by
  have h1 := grownBy_set4 h hg (.bool z.1.1.1) (.string z.1.1.2) (.bool z.1.2.1) (.string z.1.2.2)
  have h2 := grownBy_put h1 hg 4 (.bool z.2.1.1)
  have h3 := grownBy_put h2 hg 5 (.string z.2.1.2)
  have h4 := grownBy_put h3 hg 6 (.bool z.2.2.1)
  exact grownBy_put h4 hg 7 (.string z.2.2.2)
theorem overG {w : World} {g : Nat} {y z : FN × FN} (h : w.heap[g]? = some (gop y)) : (setG w g z).heap[g]? = some (gop z) := by
  simp [setG, set4, World.setCell, Array.getElem?_modify, h]
theorem cellsG {w : World} {g : Nat} {z : FN × FN} (h : w.heap[g]? = some (gop z)) : w.cell? ⟨g, 0, none⟩ = some (.bool z.1.1.1) ∧ w.cell? ⟨g, 1, none⟩ = some (.string z.1.1.2) ∧ w.cell? ⟨g, 2, none⟩ = some (.bool z.1.2.1) ∧ w.cell? ⟨g, 3, none⟩ = some (.string z.1.2.2) ∧
    w.cell? ⟨g, 4, none⟩ = some (.bool z.2.1.1) ∧ w.cell? ⟨g, 5, none⟩ = some (.string z.2.1.2) ∧ w.cell? ⟨g, 6, none⟩ = some (.bool z.2.2.1) ∧ w.cell? ⟨g, 7, none⟩ = some (.string z.2.2.2) ∧ (∀ o, w.frozen? ⟨g, o, none⟩ = false) := by
  refine ⟨?_, ?_, ?_, ?_, ?_, ?_, ?_, ?_, fun o => ?_⟩ <;> simp [World.cell?, World.frozen?, h]

set_option maxHeartbeats 3200000 in
set_option maxRecDepth 1000000 in
theorem gauss1_any (w : World) (rb : Nat) (v : Value) (L : List Int) (k j e : Nat) (x y : FN) (h : Rdr w rb v L k)
    (H : Calls Try.prog 88 #[rp rb, .func (.func 89) #[] #[]] (w.alloc (gop zgz)) fun en w' => en = .returned (.tuple #[fvp x, fvp y, .int .i64 e]) ∧ Rdr w' rb v L j ∧ (w.alloc (gop zgz)).grownBy w' (some rb)) :
    Reads 87 w rb v L j (gvp (x, y)) e := by
  have hl := h.lt
  have hv : v.ownBlock ≠ some w.heap.size := fun e => by have := (h.own.lt _ e).2; omega
  go_enter Try.func87, Try.ntmps87
  go_wp2_with fail
  refine H.mono ?_
  rintro e1 w1 ⟨rfl, hr, hg⟩
  obtain ⟨_, _, hB⟩ := keptN (heap_alloc_new w (gop zgz)) hg (by intro e; cases e; omega)
  obtain ⟨a0, a1, a2, a3, a4, a5, a6, a7, fa⟩ := cellsG (z := zgz) hB
  have f0 := fa 0
  have f1 := fa 1
  have f2 := fa 2
  have f3 := fa 3
  have f4 := fa 4
  have f5 := fa 5
  have f6 := fa 6
  have f7 := fa 7
  have hlt : w.heap.size < w1.heap.size := (Array.getElem?_eq_some_iff.1 hB).1
  have HK : Hid (Rdr w1 rb v L j ∧ w.grownBy w1 (some rb) ∧ w1.heap[w.heap.size]? = some (gop zgz)) := ⟨hr, grownBy_trans (World.grownBy_alloc _ _ _) hg, hB⟩
  clear fa hr hg hB
  go_wp2
  have C := overG (z := (x, y)) HK.out.2.2
  have hs : (setG w1 w.heap.size (x, y)).heap.size = w1.heap.size := by simp [setG, set4, World.setCell]
  have C2 : (((setG w1 w.heap.size (x, y)).alloc (fop x)).alloc (fop y)).heap[w.heap.size]? = some (gop (x, y)) := by
    rw [Below.heap_alloc _ _ _ (by simp; omega), Below.heap_alloc _ _ _ (by omega)]; exact C
  obtain ⟨r0, r1, r2, r3, r4, r5, r6, r7, _⟩ := cellsG C2
  have R : Rdr (((setG w1 w.heap.size (x, y)).alloc (fop x)).alloc (fop y)) rb v L j := ((HK.out.1.setG (by omega) hv _).al _).al _
  have G : w.grownBy (((setG w1 w.heap.size (x, y)).alloc (fop x)).alloc (fop y)) (some rb) := grownBy_trans (grownBy_trans (grownBy_setG HK.out.2.1 (Nat.le_refl _) _) (World.grownBy_alloc _ _ _)) (World.grownBy_alloc _ _ _)
  simp only [setG, set4] at r0 r1 r2 r3 r4 r5 r6 r7
  refine bodyPost_ret (v := .tuple #[gvp (x, y), .int .i64 e]) (by simp [results, Try.results87, go_sem, r0, r1, r2, r3, r4, r5, r6, r7]) rfl ⟨rfl, R, G⟩
end Go.Proofs.Ytanbnefdodkniaa
