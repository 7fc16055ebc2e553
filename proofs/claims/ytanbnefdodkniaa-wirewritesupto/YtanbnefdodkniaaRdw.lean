/-
  What a reader's whole answers: a whole number, read.
-/
import Derived.Test.YtanbnefdodkniaaKno
namespace Go.Proofs.Ytanbnefdodkniaa
open Go.RowKit Go.Lib Go.Sort

/-- A block of two cells, as it was. -/
theorem kept2 {w w1 : World} {row : Option Nat} {g : Nat} {a b : Value} {t : TypeId} (h : w.heap[g]? = some (.cells #[a, b] t (0, 0))) (hg : w.grownBy w1 row) (hne : row ≠ some g) :
    w1.cell? ⟨g, 0, none⟩ = some a ∧ w1.cell? ⟨g, 1, none⟩ = some b ∧ w1.frozen? ⟨g, 0, none⟩ = false ∧ w1.frozen? ⟨g, 1, none⟩ = false ∧ w1.heap[g]? = some (.cells #[a, b] t (0, 0)) := by
  have e : w1.heap[g]? = some (.cells #[a, b] t (0, 0)) := (hg.block g (Array.getElem?_eq_some_iff.1 h).1 (fun e => hne e.symm)).trans h
  refine ⟨?_, ?_, ?_, ?_, e⟩ <;> simp [World.cell?, World.frozen?, e]

theorem grownBy_put {a b : World} {row : Option Nat} {g : Nat} (h : a.grownBy b row) (hg : a.heap.size ≤ g) (o : Nat) (x : Value) : a.grownBy (b.setCell ⟨g, o, none⟩ x) row :=
  ⟨h.os, h.tape, h.output, by simpa [World.setCell] using h.size, fun i hi hn => (Below.heap_setCell _ _ _ _ (by simp; omega)).trans (h.block i hi hn)⟩
theorem Rdr.put2 {w : World} {rb : Nat} {v : Value} {L : List Int} {k g : Nat} (h : Rdr w rb v L k) (hg : g ≠ rb) (hv : v.ownBlock ≠ some g) (o : Nat) (x : Value) : Rdr (w.setCell ⟨g, o, none⟩ x) rb v L k :=
  h.kept (grownBy_setCell w g o x) (by intro e; cases e; exact hg rfl) (.inr hv)

abbrev zw : Value := whole false ⟨#[]⟩

set_option maxHeartbeats 1600000 in
set_option maxRecDepth 1000000 in
theorem whole_err (w : World) (rb : Nat) (v : Value) (L : List Int) (k j n e : Nat) (h : Rdr w rb v L k) (he : e ≠ 0)
    (H : Reads 75 (w.alloc (.cells #[.bool false, .string ByteArray.empty] 24)) rb v L j (.int .u64 n) e) : Reads 96 w rb v L j zw e := by
  have hne : ((e : Int) == 0) = false := by simpa using he
  have hl := h.lt
  have hv : v.ownBlock ≠ some w.heap.size := fun e => by have := (h.own.lt _ e).2; omega
  go_enter Try.func96, Try.ntmps96
  go_wp2_with (first | (go_at_call 75; refine H.out.mono ?_; rintro e w1 ⟨rfl, hr, hg⟩; obtain ⟨a0, a1, f0, f1, _⟩ := kept2 (heap_alloc_new w _) hg (by intro e; cases e; omega)))
  refine bodyPost_ret (v := .tuple #[zw, .int .i64 e]) (by simp [results, Try.results96, go_sem, a0, a1]) rfl ⟨rfl, ?_, ?_⟩
  · exact (hr.put2 (by omega) hv _ _).put2 (by omega) hv _ _
  · exact grownBy_put (grownBy_put (grownBy_trans (World.grownBy_alloc _ _ _) hg) (Nat.le_refl _) _ _) (Nat.le_refl _) _ _

set_option maxHeartbeats 1600000 in
set_option maxRecDepth 1000000 in
theorem whole_big (w : World) (rb : Nat) (v : Value) (L : List Int) (k j n : Nat) (h : Rdr w rb v L k) (hn : 16384 < n / 2)
    (H : Reads 75 (w.alloc (.cells #[.bool false, .string ByteArray.empty] 24)) rb v L j (.int .u64 n) 0) : Reads 96 w rb v L j zw 111 := by
  have hl := h.lt
  have hv : v.ownBlock ≠ some w.heap.size := fun e => by have := (h.own.lt _ e).2; omega
  have hn2 : (16384 : Int) < (n : Int) / 2 := by omega
  go_enter Try.func96, Try.ntmps96
  go_wp2_with (first | (go_at_call 75; refine H.out.mono ?_; rintro e w1 ⟨rfl, hr, hg⟩; obtain ⟨a0, a1, f0, f1, _⟩ := kept2 (heap_alloc_new w _) hg (by intro e; cases e; omega)))
  refine bodyPost_ret (v := .tuple #[zw, .int .i64 111]) (by simp [results, Try.results96, go_sem, a0, a1]) rfl ⟨rfl, ?_, ?_⟩
  · exact (hr.put2 (by omega) hv _ _).put2 (by omega) hv _ _
  · exact grownBy_put (grownBy_put (grownBy_trans (World.grownBy_alloc _ _ _) hg) (Nat.le_refl _) _ _) (Nat.le_refl _) _ _

set_option maxHeartbeats 1600000 in
set_option maxRecDepth 1000000 in
theorem whole_end (w : World) (rb : Nat) (v : Value) (L : List Int) (k j n : Nat) (h : Rdr w rb v L k) (hn : n / 2 ≤ 16384) (hx : ¬ n / 2 ≤ L.length - j)
    (H : Reads 75 (w.alloc (.cells #[.bool false, .string ByteArray.empty] 24)) rb v L j (.int .u64 n) 0) : Reads 96 w rb v L j zw 110 := by
  have hl := h.lt
  have hv : v.ownBlock ≠ some w.heap.size := fun e => by have := (h.own.lt _ e).2; omega
  have hn2 : (n : Int) / 2 ≤ 16384 := by omega
  have N : ∀ w1, Rdr w1 rb v L j → Calls Try.prog 85 #[rp rb, .int .u64 (n / 2 : Nat)] w1 fun e w' => e = .returned (.tuple #[.slice none 0 0, .int .i64 110]) ∧ ∃ n, w' = w1.drewN n := fun w1 hr1 => next_no w1 rb v L j (n / 2) hr1 (by omega) (by omega)
  have HN : Hid (∀ w1, Rdr w1 rb v L j → Calls Try.prog 85 #[rp rb, .int .u64 (n / 2 : Nat)] w1 fun e w' => e = .returned (.tuple #[.slice none 0 0, .int .i64 110]) ∧ ∃ n, w' = w1.drewN n) := N
  clear N hx
  go_enter Try.func96, Try.ntmps96
  go_wp2_with (first | (go_at_call 75; refine H.out.mono ?_; rintro e w1 ⟨rfl, hr, hg⟩; obtain ⟨a0, a1, f0, f1, _⟩ := kept2 (heap_alloc_new w _) hg (by intro e; cases e; omega)) | (go_at_call 85; rw [show (n : Int) / 2 = ((n / 2 : Nat) : Int) by omega]; refine (HN.out _ hr).mono ?_; rintro e w2 ⟨rfl, q, rfl⟩))
  refine bodyPost_ret (v := .tuple #[zw, .int .i64 110]) (by simp [results, Try.results96, go_sem, a0, a1]) rfl ⟨rfl, ?_, ?_⟩
  · exact ((hr.drewN q).put2 (by omega) hv _ _).put2 (by omega) hv _ _
  · exact grownBy_put (grownBy_put (grownBy_drewN (grownBy_trans (World.grownBy_alloc _ _ _) hg) q) (Nat.le_refl _) _ _) (Nat.le_refl _) _ _

theorem and1 (n : Nat) (h : n < 18446744073709551616) : bits .and .u64 (n : Int) 1 = (n : Int) % 2 :=
  bits_mask .u64 64 (by decide) wraps_u64 1 (by decide) n (by omega) (by simpa using (by omega : (n : Int) < 18446744073709551616))

set_option maxHeartbeats 1600000 in
set_option maxRecDepth 1000000 in
theorem whole_got (w : World) (rb : Nat) (v : Value) (L : List Int) (k j n : Nat) (neg pl : Bool) (mag : ByteArray) (h : Rdr w rb v L k) (hn : n / 2 ≤ 16384) (hx : n / 2 ≤ L.length - j)
    (hneg : ((n : Int) % 2 != 0) = neg) (hmag : strOf ((L.drop j).take (n / 2)) = mag) (hms : mag.size ≤ 16384) (hpl : plainW neg mag = pl)
    (H : Reads 75 (w.alloc (.cells #[.bool false, .string ByteArray.empty] 24)) rb v L j (.int .u64 n) 0) : Reads 96 w rb v L (j + n / 2) (if pl then whole neg mag else zw) (if pl then 0 else 111) := by
  have hl := h.lt
  have hv : v.ownBlock ≠ some w.heap.size := fun e => by have := (h.own.lt _ e).2; omega
  have hn2 : (n : Int) / 2 ≤ 16384 := by omega
  have ha := and1 n (by omega)
  have HN : Hid (∀ w1, Rdr w1 rb v L j → Calls Try.prog 85 #[rp rb, .int .u64 (n / 2 : Nat)] w1 fun e w' => ∃ s, e = .returned (.tuple #[s, .int .i64 0]) ∧ (convert 33 9 s).run Try.prog w' = .ok (.string mag) w' ∧ Rdr w' rb v L (j + n / 2) ∧ w1.grownBy w' (some rb)) := by
    intro w1 hr1
    refine (next_yes w1 rb v L j (n / 2) hr1 hx).mono ?_
    rintro e w' ⟨s, rfl, hs, hr, hg⟩
    exact ⟨s, rfl, by rw [← hmag]; exact conv_src hs, hr, hg⟩
  have HP : Hid (∀ w1, Calls Try.prog 59 #[whole neg mag] w1 fun e w' => e = .returned (.bool pl) ∧ w1.grownBy w' none) := by
    intro w1; rw [← hpl]; exact plainWhole_any neg mag (by unfold maxLen; omega) w1
  clear hx hmag hpl
  go_enter Try.func96, Try.ntmps96
  go_wp2_with (first | (go_at_call 75; refine H.out.mono ?_; rintro e w1 ⟨rfl, hr, hg⟩; obtain ⟨a0, a1, f0, f1, hB⟩ := kept2 (heap_alloc_new w _) hg (by intro e; cases e; omega)) | (go_at_call 85; rw [show (n : Int) / 2 = ((n / 2 : Nat) : Int) by omega]; refine (HN.out _ hr).mono ?_; rintro e w2 ⟨s, rfl, hcv, hr2, hg2⟩; obtain ⟨b0, b1, e0, e1, hB2⟩ := kept2 hB hg2 (by intro e; cases e; omega)))
  refine (HP.out _).mono ?_
  rintro e w3 ⟨rfl, hg3⟩
  obtain ⟨c0, c1, _, _, _⟩ := kept2 (heap_alloc_new w2 _) hg3 (by simp)
  have hlt2 : w.heap.size < w2.heap.size := (Array.getElem?_eq_some_iff.1 hB2).1
  obtain ⟨d0, d1, i0, i1, _⟩ := kept2 ((Below.heap_alloc w2 (.cells #[Value.bool neg, Value.string mag] 24) _ hlt2).trans hB2) hg3 (by simp)
  have g0 : w.grownBy w2 (some rb) := grownBy_trans (grownBy_trans (World.grownBy_alloc _ _ _) hg) hg2
  have g3 : w.grownBy w3 (some rb) := grownBy_trans g0 (grownBy_any (grownBy_trans (World.grownBy_alloc _ _ _) hg3))
  have hr3 : Rdr w3 rb v L (j + n / 2) := hr2.kept0 (grownBy_trans (World.grownBy_alloc _ _ _) hg3)
  clear hB hB2 b0 b1 e0 e1 a0 a1 f0 f1 hcv hr hr2 hg hg2 hg3 g0
  cases pl
  · go_wp2
    refine bodyPost_ret (v := .tuple #[zw, .int .i64 111]) (by simp [results, Try.results96, go_sem, d0, d1]) rfl ⟨rfl, ?_, ?_⟩
    · exact (hr3.put2 (by omega) hv _ _).put2 (by omega) hv _ _
    · exact grownBy_put (grownBy_put g3 (Nat.le_refl _) _ _) (Nat.le_refl _) _ _
  · go_wp2
    refine bodyPost_ret (v := .tuple #[whole neg mag, .int .i64 0]) (by simp [results, Try.results96, go_sem, d0, d1]) rfl ⟨rfl, ?_, ?_⟩
    · exact (hr3.put2 (by omega) hv _ _).put2 (by omega) hv _ _
    · exact grownBy_put (grownBy_put g3 (Nat.le_refl _) _ _) (Nat.le_refl _) _ _

/-- A whole number read: its sign and magnitude, where the reader stands, the error. -/
def wR (L : List Int) (k : Nat) : (Bool × ByteArray) × Nat × Nat :=
  if (rdN 0 0 (L.drop k)).2.2 ≠ 0 then ((false, ⟨#[]⟩), k, (rdN 0 0 (L.drop k)).2.2)
  else if 16384 < (rdN 0 0 (L.drop k)).1 / 2 then ((false, ⟨#[]⟩), k + (rdN 0 0 (L.drop k)).2.1, 111)
  else if ¬ (rdN 0 0 (L.drop k)).1 / 2 ≤ L.length - (k + (rdN 0 0 (L.drop k)).2.1) then ((false, ⟨#[]⟩), k + (rdN 0 0 (L.drop k)).2.1, 110)
  else if plainW (((rdN 0 0 (L.drop k)).1 : Int) % 2 != 0) (strOf ((L.drop (k + (rdN 0 0 (L.drop k)).2.1)).take ((rdN 0 0 (L.drop k)).1 / 2))) then
    ((((rdN 0 0 (L.drop k)).1 : Int) % 2 != 0, strOf ((L.drop (k + (rdN 0 0 (L.drop k)).2.1)).take ((rdN 0 0 (L.drop k)).1 / 2))), k + (rdN 0 0 (L.drop k)).2.1 + (rdN 0 0 (L.drop k)).1 / 2, 0)
  else ((false, ⟨#[]⟩), k + (rdN 0 0 (L.drop k)).2.1 + (rdN 0 0 (L.drop k)).1 / 2, 111)

theorem strOf_size (L : List Int) : (strOf L).size = L.length := by
  have : (strOf L).data.toList.length = L.length := by
    unfold strOf
    have h : ∀ (L : List Int) (s : ByteArray), (L.foldl (fun r n => r.push (UInt8.ofNat n.toNat)) s).data.toList.length = s.data.toList.length + L.length := by
      intro L
      induction L with
      | nil => intro s; simp
      | cons x xs ih => intro s; rw [List.foldl_cons, ih]; simp [ByteArray.push]; omega
    rw [h]; simp
  rw [Array.length_toList] at this
  exact this

theorem rd_whole (w : World) (rb : Nat) (v : Value) (L : List Int) (k : Nat) (h : Rdr w rb v L k) :
    Reads 96 w rb v L (wR L k).2.1 (whole (wR L k).1.1 (wR L k).1.2) (wR L k).2.2 := by
  have h0 : Rdr (w.alloc (.cells #[.bool false, .string ByteArray.empty] 24)) rb v L k := h.kept0 (World.grownBy_alloc _ _ _)
  have H := rd_number _ rb v L k h0
  have hc := rdN_code (L.drop k) 0 0
  unfold wR
  revert H hc
  generalize rdN 0 0 (L.drop k) = r
  obtain ⟨n, c, e⟩ := r
  simp only []
  intro H hc
  by_cases he : e = 0
  · subst he
    rw [if_neg (by simp)]
    by_cases h1 : 16384 < n / 2
    · rw [if_pos h1]; exact whole_big w rb v L k _ n h h1 H
    · rw [if_neg h1]
      by_cases h2 : n / 2 ≤ L.length - (k + c)
      · rw [if_neg (by simpa using h2)]
        have := whole_got w rb v L k (k + c) n _ _ _ h (by omega) h2 rfl rfl (by rw [strOf_size]; simp; omega) rfl H
        split
        · rename_i hp; simpa [hp] using this
        · rename_i hp; simpa [hp] using this
      · rw [if_pos h2]; exact whole_end w rb v L k _ n h (by omega) h2 H
  · rw [if_pos he]
    obtain rfl : c = 0 := by omega
    exact whole_err w rb v L k _ n e h he H

set_option maxHeartbeats 1600000 in
theorem there_any (w : World) (rb : Nat) (v : Value) (L : List Int) (k : Nat) (h : Rdr w rb v L k) :
    Calls Try.prog 73 #[rp rb] w fun e w' => e = .returned (.bool true) ∧ w' = w := by
  have h2 := h.c2
  go_enter Try.func73, Try.ntmps73
  go_wp2
  go_ret
  exact ⟨rfl, rfl⟩

/-- A block of two cells that is written over. -/
theorem over2 {w : World} {g : Nat} {a b x y : Value} {t : TypeId} (h : w.heap[g]? = some (.cells #[a, b] t (0, 0))) :
    ((w.setCell ⟨g, 0, none⟩ x).setCell ⟨g, 1, none⟩ y).heap[g]? = some (.cells #[x, y] t (0, 0)) := by
  simp [World.setCell, Array.getElem?_modify, h]

/-- A block of a whole number that is nothing. -/
abbrev zo : Obj := .cells #[.bool false, .string ⟨#[]⟩] 24
theorem Rdr.al {w : World} {rb : Nat} {v : Value} {L : List Int} {k : Nat} (h : Rdr w rb v L k) (o : Obj) : Rdr (w.alloc o) rb v L k := h.kept0 (World.grownBy_alloc _ _ _)

set_option maxHeartbeats 1600000 in
set_option maxRecDepth 1000000 in
/-- orBack around whole: what it answers where all is well. -/
theorem backW_ok (w : World) (rb : Nat) (v : Value) (L : List Int) (k j : Nat) (neg : Bool) (mag : ByteArray) (h : Rdr w rb v L k)
    (H : ∀ w1, Rdr w1 rb v L k → Reads 96 w1 rb v L j (whole neg mag) 0) :
    Calls Try.prog 95 #[rp rb, .func (.func 96) #[] #[]] w fun en w' => en = .returned (.tuple #[whole neg mag, .int .i64 0]) ∧ Rdr w' rb v L j ∧ w.grownBy w' (some rb) := by
  have hl := h.lt
  have hv : ∀ g, w.heap.size ≤ g → v.ownBlock ≠ some g := fun g hg e => by have := (h.own.lt _ e).2; omega
  have h0 := (h.al zo).al zo
  have h1 := h0.c1
  have HH : Hid (∀ w1, Rdr w1 rb v L k → Reads 96 w1 rb v L j (whole neg mag) 0) := H
  have HT : Hid (Rdr ((w.alloc zo).alloc zo) rb v L k) := h0
  clear H h0
  go_enter Try.func95, Try.ntmps95
  go_wp2_with (first | (go_at_call 73; refine (there_any _ rb v L k HT.out).mono ?_; rintro e w' ⟨rfl, rfl⟩) | (go_at_call 96; refine (HH.out _ HT.out).out.mono ?_; rintro e w1 ⟨rfl, hr, hg⟩; obtain ⟨a0, a1, f0, f1, hB⟩ := kept2 ((Below.heap_alloc (w.alloc zo) zo _ (by simp)).trans (heap_alloc_new w zo)) hg (by intro e; cases e; omega); have hlt : w.heap.size < w1.heap.size := (Array.getElem?_eq_some_iff.1 hB).1))
  obtain ⟨r0, r1, _⟩ := kept2 (over2 (x := .bool neg) (y := .string mag) hB) (World.grownBy_alloc _ (.cells #[.bool neg, .string mag] 24) none) (by simp)
  refine bodyPost_ret (v := .tuple #[whole neg mag, .int .i64 0]) (by simp [results, Try.results95, go_sem, r0, r1]) rfl ⟨rfl, ?_, ?_⟩
  · exact ((hr.put2 (by omega) (hv _ (Nat.le_refl _)) _ _).put2 (by omega) (hv _ (Nat.le_refl _)) _ _).al _
  · exact grownBy_trans (grownBy_put (grownBy_put (grownBy_trans (grownBy_trans (World.grownBy_alloc _ _ _) (World.grownBy_alloc _ _ _)) hg) (Nat.le_refl _) _ _) (Nat.le_refl _) _ _) (World.grownBy_alloc _ _ _)

set_option maxHeartbeats 1600000 in
set_option maxRecDepth 1000000 in
theorem backW_no (w : World) (rb : Nat) (v : Value) (L : List Int) (k j e : Nat) (x : Bool) (y : ByteArray) (h : Rdr w rb v L k) (he : e ≠ 0)
    (H : ∀ w1, Rdr w1 rb v L k → Reads 96 w1 rb v L j (whole x y) e) :
    Calls Try.prog 95 #[rp rb, .func (.func 96) #[] #[]] w fun en w' => en = .returned (.tuple #[zw, .int .i64 e]) ∧ Rdr w' rb v L k ∧ w.grownBy w' (some rb) := by
  have hl := h.lt
  have hk := h.le
  have hne : ((e : Int) == 0) = false := by simpa using he
  have hv : ∀ g, w.heap.size ≤ g → v.ownBlock ≠ some g := fun g hg e => by have := (h.own.lt _ e).2; omega
  have h0 := (h.al zo).al zo
  have h1 := h0.c1
  have HH : Hid (∀ w1, Rdr w1 rb v L k → Reads 96 w1 rb v L j (whole x y) e) := H
  have HT : Hid (Rdr ((w.alloc zo).alloc zo) rb v L k) := h0
  clear H h0
  have n1 : ¬ rb = w.heap.size := by omega
  have n2 : ¬ rb = w.heap.size + 1 := by omega
  go_enter Try.func95, Try.ntmps95
  go_wp2_with (first | (go_at_call 73; refine (there_any _ rb v L k HT.out).mono ?_; rintro e w' ⟨rfl, rfl⟩) | (go_at_call 96; refine (HH.out _ HT.out).out.mono ?_; rintro e w1 ⟨rfl, hr, hg⟩; obtain ⟨a0, a1, f0, f1, hB⟩ := kept2 ((Below.heap_alloc (w.alloc zo) zo _ (by simp)).trans (heap_alloc_new w zo)) hg (by intro e; cases e; omega); have hX : ((w.alloc zo).alloc zo).heap[w.heap.size + 1]? = some zo := (by have := heap_alloc_new (w.alloc zo) zo; simpa using this); obtain ⟨b0, b1, e0, e1, hB2⟩ := kept2 hX hg (by intro e; cases e; omega); have hlt : w.heap.size < w1.heap.size := (Array.getElem?_eq_some_iff.1 hB).1; have hlt2 : w.heap.size + 1 < w1.heap.size := (Array.getElem?_eq_some_iff.1 hB2).1; have hr1 := hr.c1; have hf1 := hr.fr 1; have hrlt := hr.lt; clear hX))
  have hk2 := hr.put k hk
  have hB3 : (w1.setCell ⟨rb, 1, none⟩ (.int .i64 k)).heap[w.heap.size]? = some zo := (Below.heap_setCell _ _ _ _ (by simp; omega)).trans hB
  obtain ⟨r0, r1, _⟩ := kept2 (over2 (x := .bool false) (y := .string ⟨#[]⟩) hB3) (World.grownBy_alloc _ (.cells #[.bool x, .string y] 24) none) (by simp)
  refine bodyPost_ret (v := .tuple #[zw, .int .i64 e]) (by simp [results, Try.results95, go_sem, r0, r1]) rfl ⟨rfl, ?_, ?_⟩
  · exact ((hk2.put2 (by omega) (hv _ (Nat.le_refl _)) _ _).put2 (by omega) (hv _ (Nat.le_refl _)) _ _).al _
  · exact grownBy_trans (grownBy_put (grownBy_put (grownBy_trans (grownBy_trans (grownBy_trans (World.grownBy_alloc _ _ _) (World.grownBy_alloc _ _ _)) hg) (grownBy_setCell _ _ _ _)) (Nat.le_refl _) _ _) (Nat.le_refl _) _ _) (World.grownBy_alloc _ _ _)

set_option maxHeartbeats 1600000 in
set_option maxRecDepth 1000000 in
theorem Whole_of_back (w : World) (rb : Nat) (v : Value) (L : List Int) (k j e : Nat) (neg : Bool) (mag : ByteArray) (h : Rdr w rb v L k)
    (H : Calls Try.prog 95 #[rp rb, .func (.func 96) #[] #[]] (w.alloc zo) fun en w' => en = .returned (.tuple #[whole neg mag, .int .i64 e]) ∧ Rdr w' rb v L j ∧ (w.alloc zo).grownBy w' (some rb)) :
    Reads 52 w rb v L j (whole neg mag) e := by
  have hl := h.lt
  have hv : ∀ g, w.heap.size ≤ g → v.ownBlock ≠ some g := fun g hg e => by have := (h.own.lt _ e).2; omega
  go_enter Try.func52, Try.ntmps52
  go_wp2_with (first | (go_at_call 95; refine H.mono ?_; rintro e w1 ⟨rfl, hr, hg⟩; obtain ⟨a0, a1, f0, f1, hB⟩ := kept2 (heap_alloc_new w zo) hg (by intro e; cases e; omega)))
  obtain ⟨r0, r1, _⟩ := kept2 (over2 (x := .bool neg) (y := .string mag) hB) (World.grownBy.refl _ none) (by simp)
  refine bodyPost_ret (v := .tuple #[whole neg mag, .int .i64 e]) (by simp [results, Try.results52, go_sem, r0, r1]) rfl ⟨rfl, ?_, ?_⟩
  · exact (hr.put2 (by omega) (hv _ (Nat.le_refl _)) _ _).put2 (by omega) (hv _ (Nat.le_refl _)) _ _
  · exact grownBy_put (grownBy_put (grownBy_trans (World.grownBy_alloc _ _ _) hg) (Nat.le_refl _) _ _) (Nat.le_refl _) _ _

/-- Whole: what a reader answers. -/
theorem Whole_rd (w : World) (rb : Nat) (v : Value) (L : List Int) (k : Nat) (h : Rdr w rb v L k) :
    Reads 52 w rb v L (if (wR L k).2.2 = 0 then (wR L k).2.1 else k) (if (wR L k).2.2 = 0 then whole (wR L k).1.1 (wR L k).1.2 else zw) (wR L k).2.2 := by
  have H := fun w1 (h1 : Rdr w1 rb v L k) => rd_whole w1 rb v L k h1
  revert H
  generalize wR L k = r
  obtain ⟨⟨neg, mag⟩, j, e⟩ := r
  simp only []
  intro H
  by_cases he : e = 0
  · subst he
    rw [if_pos rfl, if_pos rfl]
    exact Whole_of_back w rb v L k _ 0 _ _ h (backW_ok (w.alloc zo) rb v L k j neg mag (h.al zo) H)
  · rw [if_neg he, if_neg he]
    exact Whole_of_back w rb v L k _ e _ _ h (backW_no (w.alloc zo) rb v L k j e neg mag (h.al zo) he H)
end Go.Proofs.Ytanbnefdodkniaa
