/-
  Fractions and exact complex numbers read.
-/
import Derived.Test.YtanbnefdodkniaaGau
namespace Go.Proofs.Ytanbnefdodkniaa
open Go.RowKit Go.Lib Go.Sort

theorem second2 (w : World) : ((w.alloc zo).alloc zo).heap[w.heap.size + 1]? = some zo := by
  have := heap_alloc_new (w.alloc zo) zo; simpa using this
theorem first2 (w : World) : ((w.alloc zo).alloc zo).heap[w.heap.size]? = some zo := (Below.heap_alloc (w.alloc zo) zo _ (by simp)).trans (heap_alloc_new w zo)

/-- Two cells written. -/
abbrev set2 (w : World) (g : Nat) (x y : Value) : World := (w.setCell ⟨g, 0, none⟩ x).setCell ⟨g, 1, none⟩ y
theorem set2_other {w : World} {g h : Nat} (hne : h ≠ g) (x y : Value) : (set2 w g x y).heap[h]? = w.heap[h]? := by
  unfold set2
  rw [Below.heap_setCell _ _ _ _ (by simpa using hne), Below.heap_setCell _ _ _ _ (by simpa using hne)]
theorem Rdr.set2 {w : World} {rb : Nat} {v : Value} {L : List Int} {k g : Nat} (h : Rdr w rb v L k) (hg : g ≠ rb) (hv : v.ownBlock ≠ some g) (x y : Value) : Rdr (Ytanbnefdodkniaa.set2 w g x y) rb v L k := (h.put2 hg hv _ _).put2 hg hv _ _
theorem grownBy_set2 {a b : World} {row : Option Nat} {g : Nat} (h : a.grownBy b row) (hg : a.heap.size ≤ g) (x y : Value) : a.grownBy (set2 b g x y) row := grownBy_put (grownBy_put h hg _ _) hg _ _
theorem cells2 {w : World} {g : Nat} {a b : Value} {t : TypeId} (h : w.heap[g]? = some (.cells #[a, b] t (0, 0))) : w.cell? ⟨g, 0, none⟩ = some a ∧ w.cell? ⟨g, 1, none⟩ = some b ∧ w.frozen? ⟨g, 0, none⟩ = false ∧ w.frozen? ⟨g, 1, none⟩ = false := by
  refine ⟨?_, ?_, ?_, ?_⟩ <;> simp [World.cell?, World.frozen?, h]

set_option maxHeartbeats 3200000 in
set_option maxRecDepth 1000000 in
theorem twoW_no (w : World) (rb : Nat) (v : Value) (L : List Int) (k j e : Nat) (a : WN) (h : Rdr w rb v L k) (he : e ≠ 0) (H : Reads 96 ((w.alloc zo).alloc zo) rb v L j (wv a) e) :
    Calls Try.prog 103 #[rp rb, .func (.func 96) #[] #[]] w fun en w' => en = .returned (.tuple #[wv a, zw, .int .i64 e]) ∧ Rdr w' rb v L j ∧ w.grownBy w' (some rb) := by
  have hne : ((e : Int) == 0) = false := by simpa using he
  have hl := h.lt
  have hv : ∀ g, w.heap.size ≤ g → v.ownBlock ≠ some g := fun g hg e => by have := (h.own.lt _ e).2; omega
  go_enter Try.func103, Try.ntmps103
  go_wp2_with (go_at_call 96; refine H.out.mono ?_; rintro e w1 ⟨rfl, hr, hg⟩; obtain ⟨a0, a1, f0, f1, hB⟩ := kept2 (first2 w) hg (by intro e; cases e; omega); obtain ⟨b0, b1, i0, i1, hB2⟩ := kept2 (second2 w) hg (by intro e; cases e; omega))
  go_region
  go_wp2
  have C0 : (set2 (set2 (set2 w1 w.heap.size (.bool a.1) (.string a.2)) w.heap.size (.bool a.1) (.string a.2)) (w.heap.size + 1) (.bool false) (.string ⟨#[]⟩)).heap[w.heap.size]? = some (.cells #[.bool a.1, .string a.2] 24 (0, 0)) := by
    rw [set2_other (by omega)]; exact over2 (over2 hB)
  have C1 : (set2 (set2 (set2 w1 w.heap.size (.bool a.1) (.string a.2)) w.heap.size (.bool a.1) (.string a.2)) (w.heap.size + 1) (.bool false) (.string ⟨#[]⟩)).heap[w.heap.size + 1]? = some zo := by
    refine over2 (a := .bool false) (b := .string ⟨#[]⟩) ?_
    rw [set2_other (by omega), set2_other (by omega)]; exact hB2
  obtain ⟨r0, r1, _, _⟩ := cells2 C0
  obtain ⟨r2, r3, _, _⟩ := cells2 C1
  have R : Rdr (set2 (set2 (set2 w1 w.heap.size (.bool a.1) (.string a.2)) w.heap.size (.bool a.1) (.string a.2)) (w.heap.size + 1) (.bool false) (.string ⟨#[]⟩)) rb v L j :=
    ((hr.set2 (by omega) (hv _ (Nat.le_refl _)) _ _).set2 (by omega) (hv _ (Nat.le_refl _)) _ _).set2 (by omega) (hv _ (by omega)) _ _
  have G : w.grownBy (set2 (set2 (set2 w1 w.heap.size (.bool a.1) (.string a.2)) w.heap.size (.bool a.1) (.string a.2)) (w.heap.size + 1) (.bool false) (.string ⟨#[]⟩)) (some rb) :=
    grownBy_set2 (grownBy_set2 (grownBy_set2 (grownBy_trans (grownBy_trans (World.grownBy_alloc _ _ _) (World.grownBy_alloc _ _ _)) hg) (Nat.le_refl _) _ _) (Nat.le_refl _) _ _) (by omega) _ _
  unfold set2 at r0 r1 r2 r3
  refine bodyPost_ret (v := .tuple #[wv a, zw, .int .i64 e]) (by simp [results, Try.results103, go_sem, r0, r1, r2, r3]) rfl ⟨rfl, R.drewN 1, grownBy_drewN G 1⟩

set_option maxHeartbeats 3200000 in
set_option maxRecDepth 1000000 in
theorem twoW_yes (w : World) (rb : Nat) (v : Value) (L : List Int) (k j i e : Nat) (a b : WN) (h : Rdr w rb v L k) (H : Reads 96 ((w.alloc zo).alloc zo) rb v L j (wv a) 0) (H2 : ∀ w1, Rdr w1 rb v L j → Reads 96 w1 rb v L i (wv b) e) :
    Calls Try.prog 103 #[rp rb, .func (.func 96) #[] #[]] w fun en w' => en = .returned (.tuple #[wv a, wv b, .int .i64 e]) ∧ Rdr w' rb v L i ∧ w.grownBy w' (some rb) := by
  have hl := h.lt
  have hv : ∀ g, w.heap.size ≤ g → v.ownBlock ≠ some g := fun g hg e => by have := (h.own.lt _ e).2; omega
  have HV : Hid (∀ g, w.heap.size ≤ g → v.ownBlock ≠ some g) := hv
  have HH : Hid (∀ w1, Rdr w1 rb v L j → Reads 96 w1 rb v L i (wv b) e) := H2
  clear H2 hv
  go_enter Try.func103, Try.ntmps103
  go_wp2_with fail
  refine H.out.mono ?_
  rintro e1 w1 ⟨rfl, hr, hg⟩
  obtain ⟨a0, a1, f0, f1, hB⟩ := kept2 (first2 w) hg (by intro e; cases e; omega)
  obtain ⟨_, _, _, _, hB2⟩ := kept2 (second2 w) hg (by intro e; cases e; omega)
  have G1 : w.grownBy w1 (some rb) := grownBy_trans (grownBy_trans (World.grownBy_alloc _ _ _) (World.grownBy_alloc _ _ _)) hg
  have R1 : Rdr (set2 w1 w.heap.size (.bool a.1) (.string a.2)) rb v L j := hr.set2 (by omega) (HV.out _ (Nat.le_refl _)) _ _
  have K0 : Hid ((set2 w1 w.heap.size (.bool a.1) (.string a.2)).heap[w.heap.size]? = some (.cells #[.bool a.1, .string a.2] 24 (0, 0)) ∧ (set2 w1 w.heap.size (.bool a.1) (.string a.2)).heap[w.heap.size + 1]? = some zo ∧ w.grownBy (set2 w1 w.heap.size (.bool a.1) (.string a.2)) (some rb)) :=
    ⟨over2 hB, by rw [set2_other (by omega)]; exact hB2, grownBy_set2 G1 (Nat.le_refl _) _ _⟩
  have HR1 : Hid (Rdr (set2 w1 w.heap.size (.bool a.1) (.string a.2)) rb v L j) := R1
  clear hr hg hB hB2 G1 R1
  go_wp2_with fail
  refine (HH.out _ HR1.out).out.mono ?_
  rintro e2 w2 ⟨rfl, hr2, hg2⟩
  obtain ⟨c0, c1, g0, g1, hC⟩ := kept2 K0.out.1 hg2 (by intro e; cases e; omega)
  obtain ⟨d0, d1, i0, i1, hD⟩ := kept2 K0.out.2.1 hg2 (by intro e; cases e; omega)
  have G2 : Hid (w.grownBy w2 (some rb)) := grownBy_trans K0.out.2.2 hg2
  clear a0 a1 f0 f1 K0 HR1 hg2
  go_wp2
  go_region
  go_wp2
  have C0 : (set2 (set2 (set2 w2 (w.heap.size + 1) (.bool b.1) (.string b.2)) w.heap.size (.bool a.1) (.string a.2)) (w.heap.size + 1) (.bool b.1) (.string b.2)).heap[w.heap.size]? = some (.cells #[.bool a.1, .string a.2] 24 (0, 0)) := by
    rw [set2_other (by omega)]
    refine over2 (a := .bool a.1) (b := .string a.2) ?_
    rw [set2_other (by omega)]; exact hC
  have C1 : (set2 (set2 (set2 w2 (w.heap.size + 1) (.bool b.1) (.string b.2)) w.heap.size (.bool a.1) (.string a.2)) (w.heap.size + 1) (.bool b.1) (.string b.2)).heap[w.heap.size + 1]? = some (.cells #[.bool b.1, .string b.2] 24 (0, 0)) := by
    refine over2 (a := .bool b.1) (b := .string b.2) ?_
    rw [set2_other (by omega)]; exact over2 hD
  obtain ⟨r0, r1, _, _⟩ := cells2 C0
  obtain ⟨r2, r3, _, _⟩ := cells2 C1
  have R : Rdr (set2 (set2 (set2 w2 (w.heap.size + 1) (.bool b.1) (.string b.2)) w.heap.size (.bool a.1) (.string a.2)) (w.heap.size + 1) (.bool b.1) (.string b.2)) rb v L i :=
    ((hr2.set2 (by omega) (HV.out _ (by omega)) _ _).set2 (by omega) (HV.out _ (Nat.le_refl _)) _ _).set2 (by omega) (HV.out _ (by omega)) _ _
  have G : w.grownBy (set2 (set2 (set2 w2 (w.heap.size + 1) (.bool b.1) (.string b.2)) w.heap.size (.bool a.1) (.string a.2)) (w.heap.size + 1) (.bool b.1) (.string b.2)) (some rb) :=
    grownBy_set2 (grownBy_set2 (grownBy_set2 G2.out (by omega) _ _) (Nat.le_refl _) _ _) (by omega) _ _
  unfold set2 at r0 r1 r2 r3
  refine bodyPost_ret (v := .tuple #[wv a, wv b, .int .i64 e]) (by simp [results, Try.results103, go_sem, r0, r1, r2, r3]) rfl ⟨rfl, R.drewN 1, grownBy_drewN G 1⟩

/-- Two whole numbers, one behind the other. -/
def twW (L : List Int) (k : Nat) : (WN × WN) × Nat × Nat :=
  if (wR L k).2.2 ≠ 0 then (((wR L k).1, (false, ⟨#[]⟩)), (wR L k).2.1, (wR L k).2.2)
  else (((wR L k).1, (wR L (wR L k).2.1).1), (wR L (wR L k).2.1).2.1, (wR L (wR L k).2.1).2.2)
theorem twoW_any (w : World) (rb : Nat) (v : Value) (L : List Int) (k : Nat) (h : Rdr w rb v L k) :
    Calls Try.prog 103 #[rp rb, .func (.func 96) #[] #[]] w fun en w' => en = .returned (.tuple #[wv (twW L k).1.1, wv (twW L k).1.2, .int .i64 (twW L k).2.2]) ∧ Rdr w' rb v L (twW L k).2.1 ∧ w.grownBy w' (some rb) := by
  have H := rd_whole _ rb v L k ((h.al zo).al zo)
  unfold twW
  by_cases he : (wR L k).2.2 = 0
  · rw [if_neg (by simpa using he)]
    rw [he] at H
    exact twoW_yes w rb v L k _ _ _ _ _ h H (fun w1 h1 => rd_whole w1 rb v L _ h1)
  · rw [if_pos he]
    exact twoW_no w rb v L k _ _ _ h he H
theorem wR_size (L : List Int) (k : Nat) : (wR L k).1.2.size ≤ 16384 := by
  have h0 : (⟨#[]⟩ : ByteArray).size ≤ 16384 := by decide
  unfold wR
  split
  · exact h0
  · split
    · exact h0
    · split
      · exact h0
      · split
        · simp only []
          rw [strOf_size]; simp; omega
        · exact h0
theorem twW_size (L : List Int) (k : Nat) : (twW L k).1.1.2.size ≤ 16384 ∧ (twW L k).1.2.2.size ≤ 16384 := by
  have h0 : (⟨#[]⟩ : ByteArray).size ≤ 16384 := by decide
  unfold twW
  split
  · exact ⟨wR_size L k, h0⟩
  · exact ⟨wR_size L k, wR_size L _⟩

abbrev zfo : Obj := .cells #[.bool false, .string ⟨#[]⟩, .bool false, .string ⟨#[]⟩] 26
abbrev zf : Value := .agg #[.bool false, .string ⟨#[]⟩, .bool false, .string ⟨#[]⟩]
abbrev set4 (w : World) (g : Nat) (x y z t : Value) : World := (((w.setCell ⟨g, 0, none⟩ x).setCell ⟨g, 1, none⟩ y).setCell ⟨g, 2, none⟩ z).setCell ⟨g, 3, none⟩ t
theorem set4_other {w : World} {g h : Nat} (hne : h ≠ g) (x y z t : Value) : (set4 w g x y z t).heap[h]? = w.heap[h]? := by
  unfold set4
  rw [Below.heap_setCell _ _ _ _ (by simpa using hne), Below.heap_setCell _ _ _ _ (by simpa using hne), Below.heap_setCell _ _ _ _ (by simpa using hne), Below.heap_setCell _ _ _ _ (by simpa using hne)]
theorem Rdr.set4 {w : World} {rb : Nat} {v : Value} {L : List Int} {k g : Nat} (h : Rdr w rb v L k) (hg : g ≠ rb) (hv : v.ownBlock ≠ some g) (x y z t : Value) : Rdr (Ytanbnefdodkniaa.set4 w g x y z t) rb v L k := (((h.put2 hg hv _ _).put2 hg hv _ _).put2 hg hv _ _).put2 hg hv _ _
theorem grownBy_set4 {a b : World} {row : Option Nat} {g : Nat} (h : a.grownBy b row) (hg : a.heap.size ≤ g) (x y z t : Value) : a.grownBy (set4 b g x y z t) row := grownBy_put (grownBy_put (grownBy_put (grownBy_put h hg _ _) hg _ _) hg _ _) hg _ _
theorem over4 {w : World} {g : Nat} {a b c d x y z t : Value} {ty : TypeId} (h : w.heap[g]? = some (.cells #[a, b, c, d] ty (0, 0))) : (set4 w g x y z t).heap[g]? = some (.cells #[x, y, z, t] ty (0, 0)) := by
  simp [set4, World.setCell, Array.getElem?_modify, h]
theorem cells4 {w : World} {g : Nat} {a b c d : Value} {t : TypeId} (h : w.heap[g]? = some (.cells #[a, b, c, d] t (0, 0))) : w.cell? ⟨g, 0, none⟩ = some a ∧ w.cell? ⟨g, 1, none⟩ = some b ∧ w.cell? ⟨g, 2, none⟩ = some c ∧ w.cell? ⟨g, 3, none⟩ = some d ∧ (∀ o, w.frozen? ⟨g, o, none⟩ = false) := by
  refine ⟨?_, ?_, ?_, ?_, fun o => ?_⟩ <;> simp [World.cell?, World.frozen?, h]

set_option maxHeartbeats 3200000 in
set_option maxRecDepth 1000000 in
theorem frac_err (w : World) (rb : Nat) (v : Value) (L : List Int) (k j e : Nat) (a b : WN) (h : Rdr w rb v L k) (he : e ≠ 0)
    (H : Calls Try.prog 103 #[rp rb, .func (.func 96) #[] #[]] (w.alloc zfo) fun en w' => en = .returned (.tuple #[wv a, wv b, .int .i64 e]) ∧ Rdr w' rb v L j ∧ (w.alloc zfo).grownBy w' (some rb)) :
    Reads 89 w rb v L j zf e := by
  have hne : ((e : Int) == 0) = false := by simpa using he
  have hl := h.lt
  have hv : v.ownBlock ≠ some w.heap.size := fun e => by have := (h.own.lt _ e).2; omega
  go_enter Try.func89, Try.ntmps89
  go_wp2_with fail
  refine H.mono ?_
  rintro e1 w1 ⟨rfl, hr, hg⟩
  obtain ⟨A1, F1, hB⟩ := keptN (heap_alloc_new w zfo) hg (by intro e; cases e; omega)
  obtain ⟨a0, a1, a2, a3, ff⟩ := cells4 hB
  have f0 := ff 0
  have f1 := ff 1
  have f2 := ff 2
  have f3 := ff 3
  have hlt : w.heap.size < w1.heap.size := (Array.getElem?_eq_some_iff.1 hB).1
  have G1 : w.grownBy w1 (some rb) := grownBy_trans (World.grownBy_alloc _ _ _) hg
  have HK : Hid (Rdr w1 rb v L j ∧ w.grownBy w1 (some rb) ∧ w1.heap[w.heap.size]? = some zfo) := ⟨hr, G1, hB⟩
  clear A1 F1 ff hr hg G1 hB
  go_wp2
  have C := over4 (x := .bool false) (y := .string ⟨#[]⟩) (z := .bool false) (t := .string ⟨#[]⟩) HK.out.2.2
  have hs4 : (set4 w1 w.heap.size (.bool false) (.string ⟨#[]⟩) (.bool false) (.string ⟨#[]⟩)).heap.size = w1.heap.size := by simp [set4, World.setCell]
  have C2 : (((set4 w1 w.heap.size (.bool false) (.string ⟨#[]⟩) (.bool false) (.string ⟨#[]⟩)).alloc (.cells #[.bool a.1, .string a.2] 24)).alloc (.cells #[.bool b.1, .string b.2] 24)).heap[w.heap.size]? = some zfo := by
    rw [Below.heap_alloc _ _ _ (by simp; omega), Below.heap_alloc _ _ _ (by omega)]; exact C
  obtain ⟨r0, r1, r2, r3, _⟩ := cells4 C2
  have R : Rdr (((set4 w1 w.heap.size (.bool false) (.string ⟨#[]⟩) (.bool false) (.string ⟨#[]⟩)).alloc (.cells #[.bool a.1, .string a.2] 24)).alloc (.cells #[.bool b.1, .string b.2] 24)) rb v L j := ((HK.out.1.set4 (by omega) hv _ _ _ _).al _).al _
  have G : w.grownBy (((set4 w1 w.heap.size (.bool false) (.string ⟨#[]⟩) (.bool false) (.string ⟨#[]⟩)).alloc (.cells #[.bool a.1, .string a.2] 24)).alloc (.cells #[.bool b.1, .string b.2] 24)) (some rb) := grownBy_trans (grownBy_trans (grownBy_set4 HK.out.2.1 (Nat.le_refl _) _ _ _ _) (World.grownBy_alloc _ _ _)) (World.grownBy_alloc _ _ _)
  unfold set4 at r0 r1 r2 r3
  refine bodyPost_ret (v := .tuple #[zf, .int .i64 e]) (by simp [results, Try.results89, go_sem, r0, r1, r2, r3]) rfl ⟨rfl, R, G⟩

set_option maxHeartbeats 3200000 in
set_option maxRecDepth 1000000 in
theorem frac_got (w : World) (rb : Nat) (v : Value) (L : List Int) (k j : Nat) (a b : WN) (pl : Bool) (h : Rdr w rb v L k) (ha : a.2.size ≤ 16384) (hb : b.2.size ≤ 16384) (hpl : plainFr a b = pl)
    (H : Calls Try.prog 103 #[rp rb, .func (.func 96) #[] #[]] (w.alloc zfo) fun en w' => en = .returned (.tuple #[wv a, wv b, .int .i64 0]) ∧ Rdr w' rb v L j ∧ (w.alloc zfo).grownBy w' (some rb)) :
    Reads 89 w rb v L j (if pl then fv a b else zf) (if pl then 0 else 111) := by
  have hl := h.lt
  have hv : v.ownBlock ≠ some w.heap.size := fun e => by have := (h.own.lt _ e).2; omega
  have HP : Hid (∀ w1, Calls Try.prog 60 #[fv a b] w1 fun e w' => e = .returned (.bool pl) ∧ w1.grownBy w' none) := by
    intro w1; rw [← hpl]; exact plainFrac_any a b (by unfold maxLen; omega) (by unfold maxLen; omega) w1
  clear hpl
  go_enter Try.func89, Try.ntmps89
  go_wp2_with fail
  refine H.mono ?_
  rintro e1 w1 ⟨rfl, hr, hg⟩
  obtain ⟨_, _, hB⟩ := keptN (heap_alloc_new w zfo) hg (by intro e; cases e; omega)
  have hlt : w.heap.size < w1.heap.size := (Array.getElem?_eq_some_iff.1 hB).1
  have HK : Hid (Rdr w1 rb v L j ∧ w.grownBy w1 (some rb) ∧ w1.heap[w.heap.size]? = some zfo) := ⟨hr, grownBy_trans (World.grownBy_alloc _ _ _) hg, hB⟩
  clear hr hg hB
  go_wp2_with fail
  refine (HP.out _).mono ?_
  rintro e2 w2 ⟨rfl, hg2⟩
  have hF : (((w1.alloc (.cells #[.bool a.1, .string a.2] 24)).alloc (.cells #[.bool b.1, .string b.2] 24)).alloc (fob a b)).heap[w1.heap.size + 1 + 1]? = some (fob a b) := by
    have := heap_alloc_new ((w1.alloc (.cells #[.bool a.1, .string a.2] 24)).alloc (.cells #[.bool b.1, .string b.2] 24)) (fob a b); simpa using this
  have hZ : (((w1.alloc (.cells #[.bool a.1, .string a.2] 24)).alloc (.cells #[.bool b.1, .string b.2] 24)).alloc (fob a b)).heap[w.heap.size]? = some zfo := by
    rw [Below.heap_alloc _ _ _ (by simp; omega), Below.heap_alloc _ _ _ (by simp; omega), Below.heap_alloc _ _ _ (by omega)]; exact HK.out.2.2
  obtain ⟨_, _, hF2⟩ := keptN hF hg2 (by simp)
  obtain ⟨_, _, hZ2⟩ := keptN hZ hg2 (by simp)
  obtain ⟨q0, q1, q2, q3, _⟩ := cells4 hF2
  obtain ⟨a0, a1, a2, a3, ff⟩ := cells4 hZ2
  have f0 := ff 0
  have f1 := ff 1
  have f2 := ff 2
  have f3 := ff 3
  have gA : w1.grownBy w2 none := grownBy_trans (grownBy_trans (grownBy_trans (World.grownBy_alloc _ _ _) (World.grownBy_alloc _ _ _)) (World.grownBy_alloc _ _ _)) hg2
  have HK2 : Hid (Rdr w2 rb v L j ∧ w.grownBy w2 (some rb) ∧ w2.heap[w.heap.size]? = some zfo) := ⟨HK.out.1.kept0 gA, grownBy_trans HK.out.2.1 (grownBy_any gA), hZ2⟩
  clear HK hg2 gA hF hZ hF2 hZ2 ff
  cases pl
  · go_wp2
    have C := over4 (x := .bool false) (y := .string ⟨#[]⟩) (z := .bool false) (t := .string ⟨#[]⟩) HK2.out.2.2
    obtain ⟨r0, r1, r2, r3, _⟩ := cells4 C
    have R : Rdr (set4 w2 w.heap.size (.bool false) (.string ⟨#[]⟩) (.bool false) (.string ⟨#[]⟩)) rb v L j := HK2.out.1.set4 (by omega) hv _ _ _ _
    have G := grownBy_set4 HK2.out.2.1 (Nat.le_refl _) (.bool false) (.string ⟨#[]⟩) (.bool false) (.string ⟨#[]⟩)
    unfold set4 at r0 r1 r2 r3
    refine bodyPost_ret (v := .tuple #[zf, .int .i64 111]) (by simp [results, Try.results89, go_sem, r0, r1, r2, r3]) rfl ⟨rfl, R, G⟩
  · go_wp2
    have C := over4 (x := .bool a.1) (y := .string a.2) (z := .bool b.1) (t := .string b.2) HK2.out.2.2
    obtain ⟨r0, r1, r2, r3, _⟩ := cells4 C
    have R : Rdr (set4 w2 w.heap.size (.bool a.1) (.string a.2) (.bool b.1) (.string b.2)) rb v L j := HK2.out.1.set4 (by omega) hv _ _ _ _
    have G := grownBy_set4 HK2.out.2.1 (Nat.le_refl _) (.bool a.1) (.string a.2) (.bool b.1) (.string b.2)
    unfold set4 at r0 r1 r2 r3
    refine bodyPost_ret (v := .tuple #[fv a b, .int .i64 0]) (by simp [results, Try.results89, go_sem, r0, r1, r2, r3]) rfl ⟨rfl, R, G⟩
end Go.Proofs.Ytanbnefdodkniaa
