/-
  The document's Frac and Gauss.
-/
import Derived.Test.YtanbnefdodkniaaDre
namespace Go.Proofs.Ytanbnefdodkniaa
open Go.RowKit Go.Lib Go.Sort

theorem DRdr.set4 {w : World} {db : Nat} {v : Value} {L : List Int} {k g : Nat} (h : DRdr w db v L k) (hg : g ≠ db) (hv : DFar v L g) (x y z t : Value) : DRdr (Ytanbnefdodkniaa.set4 w g x y z t) db v L k := (((h.put2 hg hv _ _).put2 hg hv _ _).put2 hg hv _ _).put2 hg hv _ _

set_option maxHeartbeats 3200000 in
set_option maxRecDepth 1000000 in
theorem dfrac_one (w : World) (db : Nat) (v : Value) (L : List Int) (k j e : Nat) (a : WN) (h : DRdr w db v L k) (he : e ≠ 0) (H : DReads 68 (w.alloc zfo) db v L j (wv a) e) : DReads 70 w db v L j zf e := by
  have hne : ((e : Int) == 0) = false := by simpa using he
  have hl := h.lt
  have hf := h.far
  have h1 := (h.al zfo).c1
  go_enter Try.func70, Try.ntmps70
  go_wp2_with fail
  refine H.out.mono ?_
  rintro e1 w1 ⟨rfl, hr, hg⟩
  obtain ⟨_, _, hB⟩ := keptN (heap_alloc_new w zfo) hg (by intro e; cases e; omega)
  obtain ⟨a0, a1, a2, a3, ff⟩ := cells4 hB
  have f0 := ff 0
  have f1 := ff 1
  have f2 := ff 2
  have f3 := ff 3
  have hlt : w.heap.size < w1.heap.size := (Array.getElem?_eq_some_iff.1 hB).1
  have HK : Hid (DRdr w1 db v L j ∧ w.grownBy w1 (some db) ∧ w1.heap[w.heap.size]? = some zfo) := ⟨hr, grownBy_trans (World.grownBy_alloc _ _ _) hg, hB⟩
  clear ff hr hg hB h1
  go_wp2
  have C := over4 (x := .bool false) (y := .string ⟨#[]⟩) (z := .bool false) (t := .string ⟨#[]⟩) HK.out.2.2
  have hs : (setF w1 w.heap.size zz).heap.size = w1.heap.size := by simp [setF, set4, World.setCell]
  have C2 : ((setF w1 w.heap.size zz).alloc (.cells #[.bool a.1, .string a.2] 24)).heap[w.heap.size]? = some zfo := by
    rw [Below.heap_alloc _ _ _ (by omega)]; exact C
  obtain ⟨r0, r1, r2, r3, _⟩ := cells4 C2
  have R : DRdr ((setF w1 w.heap.size zz).alloc (.cells #[.bool a.1, .string a.2] 24)) db v L j := (HK.out.1.set4 (by omega) hf _ _ _ _).al _
  have G : w.grownBy ((setF w1 w.heap.size zz).alloc (.cells #[.bool a.1, .string a.2] 24)) (some db) := grownBy_trans (grownBy_set4 HK.out.2.1 (Nat.le_refl _) _ _ _ _) (World.grownBy_alloc _ _ _)
  simp only [setF, set4] at r0 r1 r2 r3
  refine bodyPost_ret (v := .tuple #[zf, .int .i64 e]) (by simp [results, Try.results70, go_sem, r0, r1, r2, r3]) rfl ⟨rfl, R, G⟩

abbrev wo (a : WN) : Obj := .cells #[.bool a.1, .string a.2] 24

set_option maxHeartbeats 3200000 in
set_option maxRecDepth 1000000 in
theorem dfrac_two (w : World) (db : Nat) (v : Value) (L : List Int) (k j i e : Nat) (a b : WN) (h : DRdr w db v L k) (he : e ≠ 0) (H : DReads 68 (w.alloc zfo) db v L j (wv a) 0) (H2 : ∀ w1, DRdr w1 db v L j → DReads 68 w1 db v L i (wv b) e) : DReads 70 w db v L k zf e := by
  have hne : ((e : Int) == 0) = false := by simpa using he
  have hl := h.lt
  have hf := h.far
  have hk := h.le
  have h1 := (h.al zfo).c1
  have HH : Hid (∀ w1, DRdr w1 db v L j → DReads 68 w1 db v L i (wv b) e) := H2
  have n1 : ¬ db = w.heap.size := by omega
  have n2 : ¬ w.heap.size = db := by omega
  clear H2
  go_enter Try.func70, Try.ntmps70
  go_wp2_with fail
  refine H.out.mono ?_
  rintro e1 w1 ⟨rfl, hr, hg⟩
  obtain ⟨_, _, hB⟩ := keptN (heap_alloc_new w zfo) hg (by intro e; cases e; omega)
  have hlt : w.heap.size < w1.heap.size := (Array.getElem?_eq_some_iff.1 hB).1
  have hlt1 := hr.lt
  have HK : Hid (DRdr (w1.alloc (wo a)) db v L j ∧ w.grownBy (w1.alloc (wo a)) (some db) ∧ (w1.alloc (wo a)).heap[w.heap.size]? = some zfo ∧ (w1.alloc (wo a)).heap[w1.heap.size]? = some (wo a)) := ⟨hr.al _, grownBy_trans (grownBy_trans (World.grownBy_alloc _ _ _) hg) (World.grownBy_alloc _ _ _), (Below.heap_alloc _ _ _ hlt).trans hB, heap_alloc_new _ _⟩
  clear hr hg hB h1
  go_wp2_with fail
  refine (HH.out _ HK.out.1).out.mono ?_
  rintro e2 w2 ⟨rfl, hr2, hg2⟩
  obtain ⟨_, _, hC⟩ := keptN HK.out.2.2.1 hg2 (by intro e; cases e; omega)
  obtain ⟨p0, p1, _, _, hA⟩ := kept2 HK.out.2.2.2 hg2 (by intro e; cases e; omega)
  obtain ⟨a0, a1, a2, a3, ff⟩ := cells4 hC
  have f0 := ff 0
  have f1 := ff 1
  have f2 := ff 2
  have f3 := ff 3
  have s1 := hr2.c1
  have s2 := hr2.fr 1
  have hlt2 : w1.heap.size < w2.heap.size := (Array.getElem?_eq_some_iff.1 hA).1
  have HQ : Hid (DRdr w2 db v L i ∧ w.grownBy w2 (some db) ∧ w2.heap[w.heap.size]? = some zfo) := ⟨hr2, grownBy_trans HK.out.2.1 hg2, hC⟩
  have m1 : ¬ w.heap.size = w2.heap.size := by omega
  have m2 : ¬ w2.heap.size = w.heap.size := by omega
  have m3 : ¬ w.heap.size = w2.heap.size + 1 := by omega
  have m4 : ¬ w2.heap.size + 1 = w.heap.size := by omega
  have m5 : ¬ db = w2.heap.size := by omega
  have m6 : ¬ w2.heap.size = db := by omega
  have m7 : ¬ db = w2.heap.size + 1 := by omega
  have m8 : ¬ w2.heap.size + 1 = db := by omega
  have m9 : w.heap.size < w2.heap.size := by omega
  have m10 : db < w2.heap.size := by omega
  clear ff hr2 hg2 hC hA HK
  go_wp2
  have hk2 := HQ.out.1.put k hk
  have hB3 : (w2.setCell ⟨db, 1, none⟩ (.int .i64 k)).heap[w.heap.size]? = some zfo := (Below.heap_setCell _ _ _ _ (by simp; omega)).trans HQ.out.2.2
  have C := over4 (x := .bool false) (y := .string ⟨#[]⟩) (z := .bool false) (t := .string ⟨#[]⟩) hB3
  have hs : (setF (w2.setCell ⟨db, 1, none⟩ (.int .i64 k)) w.heap.size zz).heap.size = w2.heap.size := by simp [setF, set4, World.setCell]
  have C2 : (((setF (w2.setCell ⟨db, 1, none⟩ (.int .i64 k)) w.heap.size zz).alloc (wo b)).alloc (fob a b)).heap[w.heap.size]? = some zfo := by
    rw [Below.heap_alloc _ _ _ (by simp; omega), Below.heap_alloc _ _ _ (by omega)]; exact C
  obtain ⟨r0, r1, r2, r3, _⟩ := cells4 C2
  have R : DRdr (((setF (w2.setCell ⟨db, 1, none⟩ (.int .i64 k)) w.heap.size zz).alloc (wo b)).alloc (fob a b)) db v L k := ((hk2.set4 (by omega) hf _ _ _ _).al _).al _
  have G : w.grownBy (((setF (w2.setCell ⟨db, 1, none⟩ (.int .i64 k)) w.heap.size zz).alloc (wo b)).alloc (fob a b)) (some db) := grownBy_trans (grownBy_trans (grownBy_set4 (grownBy_trans HQ.out.2.1 (grownBy_setCell _ _ _ _)) (Nat.le_refl _) _ _ _ _) (World.grownBy_alloc _ _ _)) (World.grownBy_alloc _ _ _)
  simp only [setF, set4] at r0 r1 r2 r3
  refine bodyPost_ret (v := .tuple #[zf, .int .i64 e]) (by simp [results, Try.results70, go_sem, r0, r1, r2, r3]) rfl ⟨rfl, R, G⟩

set_option maxHeartbeats 3200000 in
set_option maxRecDepth 1000000 in
theorem dfrac_got (w : World) (db : Nat) (v : Value) (L : List Int) (k j i : Nat) (a b : WN) (pl : Bool) (h : DRdr w db v L k) (ha : a.2.size ≤ 16384) (hb : b.2.size ≤ 16384) (hpl : plainFr a b = pl) (J E : Nat) (A : FN) (HY : Hid (pl = true → J = i ∧ E = 0 ∧ A = (a, b))) (HZ : Hid (pl = false → J = k ∧ E = 111 ∧ A = zz))
    (H : DReads 68 (w.alloc zfo) db v L j (wv a) 0) (H2 : ∀ w1, DRdr w1 db v L j → DReads 68 w1 db v L i (wv b) 0) : DReads 70 w db v L J (fvp A) E := by
  have hl := h.lt
  have hf := h.far
  have hk := h.le
  have h1 := (h.al zfo).c1
  have HH : Hid (∀ w1, DRdr w1 db v L j → DReads 68 w1 db v L i (wv b) 0) := H2
  have HP : Hid (∀ w1, Calls Try.prog 26 #[fv a b] w1 fun e w' => e = .returned (.bool pl) ∧ w1.grownBy w' none) := by
    intro w1; rw [← hpl]; exact dplainFrac a b (by unfold maxLen; omega) (by unfold maxLen; omega) w1
  have n1 : ¬ db = w.heap.size := by omega
  have n2 : ¬ w.heap.size = db := by omega
  clear H2 hpl
  go_enter Try.func70, Try.ntmps70
  go_wp2_with fail
  refine H.out.mono ?_
  rintro e1 w1 ⟨rfl, hr, hg⟩
  obtain ⟨_, _, hB⟩ := keptN (heap_alloc_new w zfo) hg (by intro e; cases e; omega)
  have hlt : w.heap.size < w1.heap.size := (Array.getElem?_eq_some_iff.1 hB).1
  have hlt1 := hr.lt
  have HK : Hid (DRdr (w1.alloc (wo a)) db v L j ∧ w.grownBy (w1.alloc (wo a)) (some db) ∧ (w1.alloc (wo a)).heap[w.heap.size]? = some zfo ∧ (w1.alloc (wo a)).heap[w1.heap.size]? = some (wo a)) := ⟨hr.al _, grownBy_trans (grownBy_trans (World.grownBy_alloc _ _ _) hg) (World.grownBy_alloc _ _ _), (Below.heap_alloc _ _ _ hlt).trans hB, heap_alloc_new _ _⟩
  clear hr hg hB h1
  go_wp2_with fail
  refine (HH.out _ HK.out.1).out.mono ?_
  rintro e2 w2 ⟨rfl, hr2, hg2⟩
  obtain ⟨_, _, hC⟩ := keptN HK.out.2.2.1 hg2 (by intro e; cases e; omega)
  obtain ⟨p0, p1, _, _, hA⟩ := kept2 HK.out.2.2.2 hg2 (by intro e; cases e; omega)
  have hlt2 : w1.heap.size < w2.heap.size := (Array.getElem?_eq_some_iff.1 hA).1
  have HQ : Hid (DRdr w2 db v L i ∧ w.grownBy w2 (some db) ∧ w2.heap[w.heap.size]? = some zfo) := ⟨hr2, grownBy_trans HK.out.2.1 hg2, hC⟩
  clear hr2 hg2 hC hA HK
  have HU : Hid (DRdr ((w2.alloc (wo b)).alloc (fob a b)) db v L i ∧ w.grownBy ((w2.alloc (wo b)).alloc (fob a b)) (some db) ∧ ((w2.alloc (wo b)).alloc (fob a b)).heap[w.heap.size]? = some zfo ∧ ((w2.alloc (wo b)).alloc (fob a b)).heap[w2.heap.size + 1]? = some (fob a b)) := by
    refine ⟨(HQ.out.1.al _).al _, grownBy_trans (grownBy_trans HQ.out.2.1 (World.grownBy_alloc _ _ _)) (World.grownBy_alloc _ _ _), ?_, ?_⟩
    · rw [Below.heap_alloc _ _ _ (by simp; omega), Below.heap_alloc _ _ _ (by omega)]; exact HQ.out.2.2
    · have := heap_alloc_new (w2.alloc (wo b)) (fob a b); simpa using this
  clear HQ
  go_wp2_with fail
  refine (HP.out _).mono ?_
  rintro e3 w3 ⟨rfl, hg3⟩
  obtain ⟨_, _, hD⟩ := keptN HU.out.2.2.1 hg3 (by simp)
  obtain ⟨_, _, hE⟩ := keptN HU.out.2.2.2 hg3 (by simp)
  obtain ⟨a0, a1, a2, a3, ff⟩ := cells4 hD
  obtain ⟨b0, b1, b2, b3, _⟩ := cells4 hE
  have f0 := ff 0
  have f1 := ff 1
  have f2 := ff 2
  have f3 := ff 3
  have hr3 := HU.out.1.kept0 hg3
  have s1 := hr3.c1
  have s2 := hr3.fr 1
  have HQ : Hid (DRdr w3 db v L i ∧ w.grownBy w3 (some db) ∧ w3.heap[w.heap.size]? = some zfo) := ⟨hr3, grownBy_trans HU.out.2.1 (grownBy_any hg3), hD⟩
  have m3 : ¬ w.heap.size = w2.heap.size + 1 := by omega
  have m4 : ¬ w2.heap.size + 1 = w.heap.size := by omega
  have m7 : ¬ db = w2.heap.size + 1 := by omega
  have m8 : ¬ w2.heap.size + 1 = db := by omega
  clear ff hr3 hg3 hD hE HU p0 p1
  cases pl
  · obtain ⟨rfl, rfl, rfl⟩ := HZ.out rfl
    go_wp2
    have hk2 := HQ.out.1.put J hk
    have hB3 : (w3.setCell ⟨db, 1, none⟩ (.int .i64 J)).heap[w.heap.size]? = some zfo := (Below.heap_setCell _ _ _ _ (by simp; omega)).trans HQ.out.2.2
    obtain ⟨r0, r1, r2, r3, _⟩ := cells4 (over4 (x := .bool false) (y := .string ⟨#[]⟩) (z := .bool false) (t := .string ⟨#[]⟩) hB3)
    have R : DRdr (setF (w3.setCell ⟨db, 1, none⟩ (.int .i64 J)) w.heap.size zz) db v L J := hk2.set4 (by omega) hf _ _ _ _
    have G : w.grownBy (setF (w3.setCell ⟨db, 1, none⟩ (.int .i64 J)) w.heap.size zz) (some db) := grownBy_set4 (grownBy_trans HQ.out.2.1 (grownBy_setCell _ _ _ _)) (Nat.le_refl _) _ _ _ _
    simp only [set4] at r0 r1 r2 r3
    refine bodyPost_ret (v := .tuple #[zf, .int .i64 111]) (by simp [results, Try.results70, go_sem, r0, r1, r2, r3]) rfl ⟨rfl, R, G⟩
  · obtain ⟨rfl, rfl, rfl⟩ := HY.out rfl
    go_wp2
    obtain ⟨r0, r1, r2, r3, _⟩ := cells4 (over4 (x := .bool a.1) (y := .string a.2) (z := .bool b.1) (t := .string b.2) HQ.out.2.2)
    have R : DRdr (setF w3 w.heap.size (a, b)) db v L J := HQ.out.1.set4 (by omega) hf _ _ _ _
    have G : w.grownBy (setF w3 w.heap.size (a, b)) (some db) := grownBy_set4 HQ.out.2.1 (Nat.le_refl _) _ _ _ _
    simp only [set4] at r0 r1 r2 r3
    refine bodyPost_ret (v := .tuple #[fvp (a, b), .int .i64 0]) (by simp [results, Try.results70, go_sem, r0, r1, r2, r3]) rfl ⟨rfl, R, G⟩

theorem whR_code (L : List Int) (k : Nat) : (whR L k).2.2 ≠ 0 → (whR L k).2.1 = k ∧ (whR L k).1 = (false, ⟨#[]⟩) := by
  unfold whR
  by_cases he : (wR L k).2.2 = 0
  · rw [if_pos he]; exact fun hn => absurd he hn
  · rw [if_neg he]; exact fun _ => ⟨rfl, rfl⟩
theorem whR_wR (L : List Int) (k : Nat) : (wR L k).2.2 = (whR L k).2.2 ∧ ((wR L k).2.2 = 0 → wR L k = whR L k) := by
  unfold whR
  by_cases he : (wR L k).2.2 = 0
  · rw [if_pos he]; exact ⟨rfl, fun _ => rfl⟩
  · rw [if_neg he]; exact ⟨rfl, fun h => absurd h he⟩
theorem whR_size (L : List Int) (k : Nat) : (whR L k).1.2.size ≤ 16384 := by
  have h0 : (⟨#[]⟩ : ByteArray).size ≤ 16384 := by decide
  unfold whR
  split
  · exact wR_size L k
  · exact h0
/-- Frac by what Whole answers. -/
theorem fcR_by (L : List Int) (k : Nat) : fcR L k = if (whR L k).2.2 ≠ 0 then (zz, k, (whR L k).2.2) else if (whR L (whR L k).2.1).2.2 ≠ 0 then (zz, k, (whR L (whR L k).2.1).2.2)
    else if plainFr (whR L k).1 (whR L (whR L k).2.1).1 then (((whR L k).1, (whR L (whR L k).2.1).1), (whR L (whR L k).2.1).2.1, 0) else (zz, k, 111) := by
  obtain ⟨h1, h2⟩ := whR_wR L k
  by_cases he : (wR L k).2.2 = 0
  · have e1 := h2 he
    obtain ⟨g1, g2⟩ := whR_wR L (whR L k).2.1
    rw [if_neg (by omega)]
    have ht : twW L k = (((whR L k).1, (wR L (whR L k).2.1).1), (wR L (whR L k).2.1).2.1, (wR L (whR L k).2.1).2.2) := by unfold twW; rw [if_neg (by omega), e1]
    by_cases he2 : (wR L (whR L k).2.1).2.2 = 0
    · have e2 := g2 he2
      rw [if_neg (by omega)]
      have hz : (whR L (whR L k).2.1).2.2 = 0 := by omega
      by_cases hp : plainFr (whR L k).1 (whR L (whR L k).2.1).1 = true
      · have hf : frR L k = (((whR L k).1, (whR L (whR L k).2.1).1), (whR L (whR L k).2.1).2.1, 0) := by unfold frR; rw [ht, e2]; simp only []; rw [if_neg (by omega), if_pos hp]
        rw [if_pos hp]; unfold fcR; rw [hf]; rfl
      · have hf : frR L k = (zz, (whR L (whR L k).2.1).2.1, 111) := by unfold frR; rw [ht, e2]; simp only []; rw [if_neg (by omega), if_neg hp]
        rw [if_neg hp]; unfold fcR; rw [hf]; rfl
    · rw [if_pos (by omega), ← g1]
      have hf : frR L k = (zz, (wR L (whR L k).2.1).2.1, (wR L (whR L k).2.1).2.2) := by unfold frR; rw [ht]; simp only []; rw [if_pos he2]
      unfold fcR; rw [hf]; simp only []; rw [if_neg he2]
  · rw [if_pos (by omega), ← h1]
    have ht : (twW L k).2 = ((wR L k).2.1, (wR L k).2.2) := by unfold twW; rw [if_pos he]
    have hf : frR L k = (zz, (wR L k).2.1, (wR L k).2.2) := by unfold frR; rw [ht]; simp only []; rw [if_pos he]
    unfold fcR; rw [hf]; simp only []; rw [if_neg he]

/-- The document's Frac. -/
theorem dfrac (w : World) (db : Nat) (v : Value) (L : List Int) (k : Nat) (h : DRdr w db v L k) : DReads 70 w db v L (fcR L k).2.1 (fvp (fcR L k).1) (fcR L k).2.2 := by
  have H := dwhole _ db v L k (h.al zfo)
  have H2 := fun w1 (h1 : DRdr w1 db v L (whR L k).2.1) => dwhole w1 db v L _ h1
  rw [fcR_by]
  by_cases he : (whR L k).2.2 = 0
  · rw [if_neg (by omega)]
    rw [he] at H
    by_cases he2 : (whR L (whR L k).2.1).2.2 = 0
    · rw [if_neg (by omega)]
      rw [he2] at H2
      cases hp : plainFr (whR L k).1 (whR L (whR L k).2.1).1
      · exact dfrac_got w db v L k _ _ _ _ _ h (whR_size _ _) (whR_size _ _) hp _ _ _ (fun hq => by cases hq) (fun _ => ⟨rfl, rfl, rfl⟩) H H2
      · exact dfrac_got w db v L k _ _ _ _ _ h (whR_size _ _) (whR_size _ _) hp _ _ _ (fun _ => ⟨rfl, rfl, rfl⟩) (fun hq => by cases hq) H H2
    · rw [if_pos he2]
      exact dfrac_two w db v L k _ _ _ _ _ h he2 H H2
  · rw [if_pos he]
    have := dfrac_one w db v L k _ _ _ h he H
    rw [(whR_code L k he).1] at this
    exact this
end Go.Proofs.Ytanbnefdodkniaa
