/-
  What a reader's count and Text answer.
-/
import Derived.Test.YtanbnefdodkniaaRdm
namespace Go.Proofs.Ytanbnefdodkniaa
open Go.RowKit Go.Lib Go.Sort

/-- The string of some bytes. -/
def strOf (L : List Int) : ByteArray := L.foldl (fun r n => r.push (UInt8.ofNat n.toNat)) ByteArray.empty
theorem strOf_nil : strOf [] = ByteArray.empty := rfl

theorem conv_src {w : World} {s : Value} {L : List Int} (h : Src w s L) : (convert 33 9 s).run Try.prog w = .ok (.string (strOf L)) w := by
  rcases h with ⟨rfl, rfl⟩ | ⟨b, off, c, rfl, hc⟩
  · rw [run_convert_bytes_string w 33 9 5 none 0 0 Try.underlying33 Try.underlying5 Try.underlying9]
    simp [Conv.bytesToString, Sem.run_pure, strOf]
  · rw [run_convert_bytes_string w 33 9 5 _ _ _ Try.underlying33 Try.underlying5 Try.underlying9]
    have h1 := run_loadCells_list (P := Try.prog) w ⟨b, off, none⟩ (L.map encB) (fun j v hv => by rw [Addr.add_lit]; exact hc j v hv)
    rw [List.length_map] at h1
    rw [run_bytesToString w ⟨b, off, none⟩ L.length c L h1]
    rfl

set_option maxHeartbeats 1600000 in
set_option maxRecDepth 1000000 in
theorem count_neg (w : World) (rb : Nat) (most : Int) (hm : most < 0) :
    Calls Try.prog 84 #[rp rb, .int .i64 most] w fun e w' => e = .returned (.tuple #[.int .u64 0, .int .i64 2]) ∧ w' = w := by
  go_enter Try.func84, Try.ntmps84
  go_wp2
  go_ret2
  exact ⟨rfl, rfl⟩

set_option maxHeartbeats 1600000 in
set_option maxRecDepth 1000000 in
theorem count_ok (w : World) (rb : Nat) (v : Value) (L : List Int) (m j n : Nat) (hm1 : m ≤ 9223372036854775807) (hb : n ≤ m) (H : Reads 75 w rb v L j (.int .u64 n) 0) :
    Calls Try.prog 84 #[rp rb, .int .i64 m] w fun en w' => en = .returned (.tuple #[.int .u64 n, .int .i64 0]) ∧ Rdr w' rb v L j ∧ w.grownBy w' (some rb) := by
  go_enter Try.func84, Try.ntmps84
  go_wp2_with (go_at_call 75; refine H.out.mono ?_; rintro e w' ⟨rfl, hr, hg⟩)
  go_ret2
  exact ⟨rfl, hr, hg⟩
set_option maxHeartbeats 1600000 in
set_option maxRecDepth 1000000 in
theorem count_long (w : World) (rb : Nat) (v : Value) (L : List Int) (m j n : Nat) (hm1 : m ≤ 9223372036854775807) (hb : m < n) (H : Reads 75 w rb v L j (.int .u64 n) 0) :
    Calls Try.prog 84 #[rp rb, .int .i64 m] w fun en w' => en = .returned (.tuple #[.int .u64 0, .int .i64 3]) ∧ Rdr w' rb v L j ∧ w.grownBy w' (some rb) := by
  go_enter Try.func84, Try.ntmps84
  go_wp2_with (go_at_call 75; refine H.out.mono ?_; rintro e w' ⟨rfl, hr, hg⟩)
  go_ret2
  exact ⟨rfl, hr, hg⟩
set_option maxHeartbeats 1600000 in
set_option maxRecDepth 1000000 in
theorem count_err (w : World) (rb : Nat) (v : Value) (L : List Int) (m j n e : Nat) (he : e ≠ 0) (H : Reads 75 w rb v L j (.int .u64 n) e) :
    Calls Try.prog 84 #[rp rb, .int .i64 m] w fun en w' => en = .returned (.tuple #[.int .u64 n, .int .i64 e]) ∧ Rdr w' rb v L j ∧ w.grownBy w' (some rb) := by
  have hne : ((e : Int) == 0) = false := by simpa using he
  go_enter Try.func84, Try.ntmps84
  go_wp2_with (go_at_call 75; refine H.out.mono ?_; rintro e w' ⟨rfl, hr, hg⟩)
  go_ret2
  exact ⟨rfl, hr, hg⟩

/-- What count answers, in one: the number, the error, where the reader stands. -/
def cnt (most : Int) (L : List Int) (k : Nat) : Nat × Nat × Nat :=
  if most < 0 then (0, k, 2)
  else if (rdN 0 0 (L.drop k)).2.2 ≠ 0 then ((rdN 0 0 (L.drop k)).1, k, (rdN 0 0 (L.drop k)).2.2)
  else if most < (rdN 0 0 (L.drop k)).1 then (0, k + (rdN 0 0 (L.drop k)).2.1, 3)
  else ((rdN 0 0 (L.drop k)).1, k + (rdN 0 0 (L.drop k)).2.1, 0)

theorem count_any (w : World) (rb : Nat) (v : Value) (L : List Int) (k : Nat) (most : Int) (h : Rdr w rb v L k) (hm1 : most ≤ 9223372036854775807) :
    Calls Try.prog 84 #[rp rb, .int .i64 most] w fun en w' => en = .returned (.tuple #[.int .u64 (cnt most L k).1, .int .i64 (cnt most L k).2.2]) ∧ Rdr w' rb v L (cnt most L k).2.1 ∧ w.grownBy w' (some rb) := by
  unfold cnt
  by_cases hm : most < 0
  · rw [if_pos hm]
    refine (count_neg w rb most hm).mono ?_
    rintro e w' ⟨rfl, rfl⟩
    exact ⟨rfl, h, World.grownBy.refl _ _⟩
  · rw [if_neg hm]
    obtain ⟨m, rfl⟩ := Int.eq_ofNat_of_zero_le (show 0 ≤ most by omega)
    have H := rd_number w rb v L k h
    have hc := rdN_code (L.drop k) 0 0
    by_cases he : (rdN 0 0 (L.drop k)).2.2 = 0
    · rw [if_neg (by simpa using he)]
      rw [he] at H
      by_cases hb : m < (rdN 0 0 (L.drop k)).1
      · rw [if_pos (by simpa using hb)]
        exact count_long w rb v L m _ _ (by omega) hb H
      · rw [if_neg (by simpa using hb)]
        exact count_ok w rb v L m _ _ (by omega) (by omega) H
    · rw [if_pos he]
      have hc0 : (rdN 0 0 (L.drop k)).2.1 = 0 := by omega
      rw [hc0, Nat.add_zero] at H
      exact count_err w rb v L m _ _ _ he H
theorem cnt_val (most : Int) (L : List Int) (k : Nat) : (cnt most L k).1 < 18446744073709551616 := by
  have := rdN_val (L.drop k) 0 0 (by omega)
  unfold cnt; split
  · simp
  · split
    · simpa using this
    · split
      · simp
      · simpa using this

/-- What next answers beside its slice. -/
theorem next_any (w : World) (rb : Nat) (v : Value) (L : List Int) (k n : Nat) (h : Rdr w rb v L k) (hn2 : n < 18446744073709551616) :
    Calls Try.prog 85 #[rp rb, .int .u64 n] w fun e w' => ∃ s, e = .returned (.tuple #[s, .int .i64 (if n ≤ L.length - k then 0 else 110 : Nat)]) ∧
      Src w' s (if n ≤ L.length - k then (L.drop k).take n else []) ∧ Rdr w' rb v L (if n ≤ L.length - k then k + n else k) ∧ w.grownBy w' (some rb) := by
  by_cases hn : n ≤ L.length - k
  · simp only [if_pos hn]
    exact next_yes w rb v L k n h hn
  · simp only [if_neg hn]
    refine (next_no w rb v L k n h (by omega) hn2).mono ?_
    rintro e w' ⟨rfl, q, rfl⟩
    exact ⟨_, rfl, .inl ⟨rfl, rfl⟩, h.drewN q, grownBy_drewN (World.grownBy.refl _ _) q⟩

/-- What is inside Text: the bytes, the error, where the reader stands. -/
def txt (most : Int) (L : List Int) (k : Nat) : List Int × Nat × Nat :=
  if (cnt most L k).2.2 ≠ 0 then ([], (cnt most L k).2.1, (cnt most L k).2.2)
  else if (cnt most L k).1 ≤ L.length - (cnt most L k).2.1 then ((L.drop (cnt most L k).2.1).take (cnt most L k).1, (cnt most L k).2.1 + (cnt most L k).1, 0)
  else ([], (cnt most L k).2.1, 110)

set_option maxHeartbeats 1600000 in
set_option maxRecDepth 1000000 in
theorem text1_err (w : World) (rb cb : Nat) (v : Value) (L : List Int) (k : Nat) (most : Int) (h : Rdr w rb v L k) (hm1 : most ≤ 9223372036854775807) (hc : w.cell? ⟨cb, 0, none⟩ = some (.int .i64 most)) (he : (cnt most L k).2.2 ≠ 0) :
    Calls Try.prog 83 #[rp rb, .pointer (some ⟨cb, 0, none⟩)] w fun en w' => en = .returned (.tuple #[.string ByteArray.empty, .int .i64 (cnt most L k).2.2]) ∧ Rdr w' rb v L (cnt most L k).2.1 ∧ w.grownBy w' (some rb) := by
  have H := count_any w rb v L k most h hm1
  revert H he
  generalize cnt most L k = r
  obtain ⟨n, j, e⟩ := r
  simp only []
  intro he H
  have hne : ((e : Int) == 0) = false := by simpa using he
  go_enter Try.func83, Try.ntmps83
  go_wp2_with (go_at_call 84; refine H.mono ?_; rintro e w' ⟨rfl, hr, hg⟩)
  go_ret2
  exact ⟨rfl, hr, hg⟩

/-- A closure that orBack[string] is handed: as 'Reads', with its captured variable. -/
def ReadsC (f cb : Nat) (w : World) (rb : Nat) (v : Value) (L : List Int) (j : Nat) (x : Value) (e : Nat) : Prop :=
  Calls Try.prog f #[rp rb, .pointer (some ⟨cb, 0, none⟩)] w fun en w' => en = .returned (.tuple #[x, .int .i64 e]) ∧ Rdr w' rb v L j ∧ w.grownBy w' (some rb)
theorem ReadsC.out {f cb : Nat} {w : World} {rb : Nat} {v : Value} {L : List Int} {j : Nat} {x : Value} {e : Nat} (h : ReadsC f cb w rb v L j x e) :
  Calls Try.prog f #[rp rb, .pointer (some ⟨cb, 0, none⟩)] w fun en w' => en = .returned (.tuple #[x, .int .i64 e]) ∧ Rdr w' rb v L j ∧ w.grownBy w' (some rb) := h

set_option maxHeartbeats 1600000 in
set_option maxRecDepth 1000000 in
theorem text1_ok (w : World) (rb cb : Nat) (v : Value) (L : List Int) (k : Nat) (most : Int) (h : Rdr w rb v L k) (hm1 : most ≤ 9223372036854775807) (hc : w.cell? ⟨cb, 0, none⟩ = some (.int .i64 most)) (n j : Nat) (he : cnt most L k = (n, j, 0)) (hn : n < 18446744073709551616) :
    ReadsC 83 cb w rb v L (if n ≤ L.length - j then j + n else j) (.string (strOf (if n ≤ L.length - j then (L.drop j).take n else []))) (if n ≤ L.length - j then 0 else 110) := by
  have H := count_any w rb v L k most h hm1
  rw [he] at H
  simp only [] at H
  have HE : Hid (cnt most L k = (n, j, 0)) := he
  clear he
  generalize hX : (if n ≤ L.length - j then (L.drop j).take n else []) = X
  generalize hE : (if n ≤ L.length - j then 0 else 110 : Nat) = E
  generalize hJ : (if n ≤ L.length - j then j + n else j) = J
  have N : ∀ w1, Rdr w1 rb v L j → Calls Try.prog 85 #[rp rb, .int .u64 n] w1 fun e w' => ∃ s, e = .returned (.tuple #[s, .int .i64 E]) ∧ Src w' s X ∧ Rdr w' rb v L J ∧ w1.grownBy w' (some rb) := by
    intro w1 hr1
    have := next_any w1 rb v L j n hr1 hn
    rw [hX, hE, hJ] at this
    exact this
  have HN : Hid (∀ w1, Rdr w1 rb v L j → Calls Try.prog 85 #[rp rb, .int .u64 n] w1 fun e w' => ∃ s, e = .returned (.tuple #[s, .int .i64 E]) ∧ Src w' s X ∧ Rdr w' rb v L J ∧ w1.grownBy w' (some rb)) := N
  clear N hX hE hJ
  go_enter Try.func83, Try.ntmps83
  go_wp2_with (first | (go_at_call 84; refine H.mono ?_; rintro e w' ⟨rfl, hr, hg⟩) | (go_at_call 85; refine (HN.out _ hr).mono ?_; rintro e w2 ⟨s, rfl, hs, hr2, hg2⟩; have hcv := conv_src hs))
  go_ret2
  exact ⟨rfl, hr2, grownBy_trans hg hg2⟩

theorem text1_any (w : World) (rb cb : Nat) (v : Value) (L : List Int) (k : Nat) (most : Int) (h : Rdr w rb v L k) (hm1 : most ≤ 9223372036854775807) (hc : w.cell? ⟨cb, 0, none⟩ = some (.int .i64 most)) :
    ReadsC 83 cb w rb v L (txt most L k).2.1 (.string (strOf (txt most L k).1)) (txt most L k).2.2 := by
  unfold txt
  by_cases he : (cnt most L k).2.2 ≠ 0
  · rw [if_pos he]
    exact text1_err w rb cb v L k most h hm1 hc he
  · rw [if_neg he]
    have := text1_ok w rb cb v L k most h hm1 hc (cnt most L k).1 (cnt most L k).2.1 (by rw [show cnt most L k = ((cnt most L k).1, (cnt most L k).2.1, (cnt most L k).2.2) from rfl]; simp; omega) (cnt_val most L k)
    split
    · rename_i hl; simpa [hl] using this
    · rename_i hl; simpa [hl] using this

set_option maxHeartbeats 1600000 in
set_option maxRecDepth 1000000 in
theorem Text_ok (w : World) (rb : Nat) (v : Value) (L : List Int) (k j : Nat) (most : Int) (x : ByteArray) (h : Rdr w rb v L k)
    (H : ReadsC 83 w.heap.size (w.alloc (.cells #[.int .i64 most] 3)) rb v L j (.string x) 0) :
    Calls Try.prog 39 #[rp rb, .int .i64 most] w fun en w' => en = .returned (.tuple #[.string x, .int .i64 0]) ∧ Rdr w' rb v L j ∧ w.grownBy w' (some rb) := by
  have h1 := h.c1
  have h2 := h.c2
  have hl := h.lt
  go_enter Try.func39, Try.ntmps39
  go_wp2_with (first | (go_at_call 82; go_in) | (go_at_call 73; go_in) | (go_at_call 83; refine H.out.mono ?_; rintro e w' ⟨rfl, hr, hg⟩))
  go_ret2
  exact ⟨rfl, hr, grownBy_trans (World.grownBy_alloc _ _ _) hg⟩
set_option maxHeartbeats 1600000 in
set_option maxRecDepth 1000000 in
theorem Text_no (w : World) (rb : Nat) (v : Value) (L : List Int) (k j e : Nat) (most : Int) (x : ByteArray) (h : Rdr w rb v L k) (he : e ≠ 0)
    (H : ReadsC 83 w.heap.size (w.alloc (.cells #[.int .i64 most] 3)) rb v L j (.string x) e) :
    Calls Try.prog 39 #[rp rb, .int .i64 most] w fun en w' => en = .returned (.tuple #[.string ByteArray.empty, .int .i64 e]) ∧ Rdr w' rb v L k ∧ w.grownBy w' (some rb) := by
  have h1 := h.c1
  have h2 := h.c2
  have hl := h.lt
  have hne : ((e : Int) == 0) = false := by simpa using he
  go_enter Try.func39, Try.ntmps39
  go_wp2_with (first | (go_at_call 82; go_in) | (go_at_call 73; go_in) | (go_at_call 83; refine H.out.mono ?_; rintro e w' ⟨rfl, hr, hg⟩; have hr1 := hr.fr 1; have hr0 := hr.c1))
  go_ret2
  exact ⟨rfl, hr.back (grownBy_trans (World.grownBy_alloc _ _ _) hg) h.le⟩

/-- Text: what it answers. -/
theorem Text_any (w : World) (rb : Nat) (v : Value) (L : List Int) (k : Nat) (most : Int) (h : Rdr w rb v L k) (hm1 : most ≤ 9223372036854775807) :
    Calls Try.prog 39 #[rp rb, .int .i64 most] w fun en w' => en = .returned (.tuple #[.string (strOf (if (txt most L k).2.2 = 0 then (txt most L k).1 else [])), .int .i64 (txt most L k).2.2]) ∧
      Rdr w' rb v L (if (txt most L k).2.2 = 0 then (txt most L k).2.1 else k) ∧ w.grownBy w' (some rb) := by
  have hk : Rdr (w.alloc (.cells #[.int .i64 most] 3)) rb v L k := h.kept (World.grownBy_alloc _ _ none) (by simp) (by cases v.ownBlock <;> simp)
  have H := text1_any (w.alloc (.cells #[.int .i64 most] 3)) rb w.heap.size v L k most hk hm1 (by simp)
  by_cases he : (txt most L k).2.2 = 0
  · rw [if_pos he, if_pos he, he]
    rw [he] at H
    exact Text_ok w rb v L k _ most _ h H
  · rw [if_neg he, if_neg he]
    exact Text_no w rb v L k _ _ most _ h he H
end Go.Proofs.Ytanbnefdodkniaa
