/-
  The document's Float and Complex; the program's, as they are told outside.
-/
import Derived.Test.YtanbnefdodkniaaDra
import Derived.Test.YtanbnefdodkniaaPar
import Derived.Test.YtanbnefdodkniaaBk2
namespace Go.Proofs.Ytanbnefdodkniaa
open Go.RowKit Go.Lib Go.Sort
attribute [local go_sem] ext56 ext9

/-- What Float answers: the bits, where the reader stands, the error. -/
def flR (L : List Int) (k : Nat) : Nat × Nat × Nat :=
  if 8 ≤ L.length - k then
    if bitsF (bits8 ((L.drop k).take 8)) = bits8 ((L.drop k).take 8) then (bits8 ((L.drop k).take 8), k + 8, 0) else (0, k, 111)
  else (0, k, 110)

set_option maxHeartbeats 1600000 in
set_option maxRecDepth 1000000 in
theorem dfloat_end (w : World) (db : Nat) (v : Value) (L : List Int) (k : Nat) (h : DRdr w db v L k) (hk : ¬ 8 ≤ L.length - k) : DReads 66 w db v L k (.int .u64 0) 110 := by
  have H := dleft w db v L k h
  have hx := h.max
  go_enter Try.func66, Try.ntmps66
  go_wp2_with (go_at_call 35; refine H.mono ?_; rintro e w1 ⟨rfl, q, rfl⟩)
  go_ret2
  exact ⟨rfl, h.drewN q, grownBy_drewN (World.grownBy.refl _ _) q⟩

theorem DRdr.grew_drewN {w : World} {db : Nat} {v : Value} {L : List Int} {k : Nat} (h : DRdr w db v L k) (q : Nat) : DRdr (w.drewN q) db v L k ∧ w.grownBy (w.drewN q) (some db) := ⟨h.drewN q, grownBy_drewN (World.grownBy.refl _ _) q⟩

set_option maxHeartbeats 3200000 in
set_option maxRecDepth 1000000 in
theorem dfloat_got (w : World) (db : Nat) (v : Value) (L : List Int) (k u b J M E : Nat) (h : DRdr w db v L k) (hk : 8 ≤ L.length - k) (hu : bits8 ((L.drop k).take 8) = u) (hb : bitsF u = b)
    (HY : Hid (b = u → J = k + 8 ∧ M = u ∧ E = 0)) (HZ : Hid (¬ b = u → J = k ∧ M = 0 ∧ E = 111)) : DReads 66 w db v L J (.int .u64 M) E := by
  have H := dleft w db v L k h
  have hx := h.max
  have h0 := h.c0
  have h1 := h.c1
  have hf := h.fr 1
  have hrx : ∀ x ∈ (L.drop k).take 8, 0 ≤ x ∧ x ≤ 255 := fun x hx => h.rng x (List.mem_of_mem_drop (List.mem_of_mem_take hx))
  have hl8 : ((L.drop k).take 8).length = 8 := by simp; omega
  have HRX : Hid (∀ m : Nat, 0 ≤ ((L.drop k).take 8)[m]?.getD 0 ∧ ((L.drop k).take 8)[m]?.getD 0 ≤ 255) := rng_at hrx
  have HPR : Hid (∀ m, m ≤ 8 → bits8 (((L.drop k).take 8).take m) < 256 ^ m) := fun m hm => by
    have := bits8_lt (((L.drop k).take 8).take m) (fun x hx => hrx x (List.mem_of_mem_take hx))
    rw [List.length_take, hl8, Nat.min_eq_left hm] at this
    exact this
  have HST : Hid (∀ m, m < 8 → bits8 (((L.drop k).take 8).take (m + 1)) = bits8 (((L.drop k).take 8).take m) * 256 + (((L.drop k).take 8)[m]?.getD 0).toNat) := fun m hm => bits8_step _ m (by rw [hl8]; exact hm)
  have HU : Hid (bits8 (((L.drop k).take 8).take 8) = u) := by rw [List.take_of_length_le (by omega)]; exact hu
  have hu64 : u < 18446744073709551616 := by
    have := bits8_lt _ hrx
    rw [hl8, hu] at this
    exact this
  have HN : Hid (∀ w1, Calls Try.prog 58 #[.float .f64 u] w1 fun e w' => e = .returned (.int .u64 b) ∧ w' = w1) := by intro w1; rw [← hb]; exact bits_any u w1
  have HD : Hid (DRdr w db v L k) := h
  rcases h.src with ⟨ao, c, rfl, rfl⟩ | ⟨g, off, cap, rfl, hc1, hc2, hgr, hgs, hcell⟩
  · simp at hk
  · unfold maxLen at hc2
    have HC : Hid (∀ m, m < 8 → w.cell? ⟨g, off + (k + m), none⟩ = some (.int .u8 (((L.drop k).take 8)[m]?.getD 0))) := fun m hm => by
      rw [hcell (k + m) (by omega), List.getElem?_take, if_pos hm, List.getElem?_drop]
    revert HRX HPR HST HU HC
    generalize (L.drop k).take 8 = X
    intro HRX HPR HST HU HC
    clear hcell hrx hl8 hu hb h
    go_enter Try.func66, Try.ntmps66
    go_wp2_with (go_at_call 35; refine H.mono ?_; rintro e w1 ⟨rfl, q, rfl⟩)
    clear H
    go_loopw [4, 5] (fun x i wr => ∃ m q : Nat, m ≤ 8 ∧ i = .int .i64 m ∧ x = .int .u64 (bits8 (X.take m)) ∧ wr = w.drewN q) (fun _ i _ => 8 - (RowKit.intOf i).toNat)
    case atStart => exact ⟨0, q, by omega, rfl, rfl, rfl⟩
    case round =>
      obtain ⟨m, q2, hm, rfl, rfl, rfl⟩ := hrel
      by_cases hlt : m < 8
      · have hcm := HC.out m hlt
        have hrm := HRX.out m
        have hpm := HPR.out m hm
        have hpow : (256 : Nat) ^ m ≤ 256 ^ 7 := Nat.pow_le_pow_right (by decide) (by omega)
        have HSm : Hid (bits8 (X.take (m + 1)) = bits8 (X.take m) * 256 + (X[m]?.getD 0).toNat) := HST.out m hlt
        have hb7 : bits8 (X.take m) < 72057594037927936 := by
          have : (256 : Nat) ^ 7 = 72057594037927936 := by decide
          omega
        clear hpm hpow
        generalize X[m]?.getD 0 = y at *
        generalize bits8 (X.take m) = t at *
        have hkm : (k : Int) + m < L.length := by omega
        go_wp2
        go_quiet (fail)
        go_wp2
        go_roundw
        case rel => exact ⟨m + 1, _, by omega, by go_num, num_eq (by rw [HSm.out]; omega), rfl⟩
        case measure => simp [RowKit.intOf]; omega
      · obtain rfl : m = 8 := by omega
        rw [HU.out]
        have htn : ((u : Int)).toNat = u := by simp
        clear HU HC HST HPR HRX
        by_cases hq : b = u
        · subst hq
          have HG : Hid (∀ q, DRdr ((w.drewN q).setCell ⟨db, 1, none⟩ (.int .i64 ((k + 8 : Nat) : Int))) db (.slice (some ⟨g, off, none⟩) L.length cap) L (k + 8) ∧ w.grownBy ((w.drewN q).setCell ⟨db, 1, none⟩ (.int .i64 ((k + 8 : Nat) : Int))) (some db)) :=
            fun q => (HD.out.drewN q).back (HD.out.grew_drewN q).2 (by omega)
          have e8 : ((k + 8 : Nat) : Int) = k + 8 := by omega
          rw [e8] at HG
          obtain ⟨rfl, rfl, rfl⟩ := HY.out rfl
          go_wp2_with (go_at_call 58; refine (HN.out _).mono ?_; rintro e w1 ⟨rfl, rfl⟩)
          go_ret2
          exact ⟨rfl, HG.out _⟩
        · have hq2 : ((u : Int) == (b : Int)) = false := by simp; omega
          have HQ : Hid (¬ b = u) := hq
          obtain ⟨rfl, rfl, rfl⟩ := HZ.out hq
          clear hq
          go_wp2_with (go_at_call 58; refine (HN.out _).mono ?_; rintro e w1 ⟨rfl, rfl⟩)
          go_ret2
          exact ⟨rfl, HD.out.grew_drewN _⟩

theorem dfloat (w : World) (db : Nat) (v : Value) (L : List Int) (k : Nat) (h : DRdr w db v L k) : DReads 66 w db v L (flR L k).2.1 (.int .u64 (flR L k).1) (flR L k).2.2 := by
  unfold flR
  by_cases hk : 8 ≤ L.length - k
  · rw [if_pos hk]
    by_cases hb : bitsF (bits8 ((L.drop k).take 8)) = bits8 ((L.drop k).take 8)
    · rw [if_pos hb]; exact dfloat_got w db v L k _ _ _ _ _ h hk rfl rfl (fun _ => ⟨rfl, rfl, rfl⟩) (fun hn => absurd hb hn)
    · rw [if_neg hb]; exact dfloat_got w db v L k _ _ _ _ _ h hk rfl rfl (fun hn => absurd hn hb) (fun _ => ⟨rfl, rfl, rfl⟩)
  · rw [if_neg hk]; exact dfloat_end w db v L k h hk
theorem bitsF_zero : bitsF 0 = 0 := by decide +kernel
theorem flR_bits (L : List Int) (k : Nat) : bitsF (flR L k).1 = (flR L k).1 := by
  unfold flR
  split
  · split
    · assumption
    · exact bitsF_zero
  · exact bitsF_zero
theorem flR_code (L : List Int) (k : Nat) : (flR L k).2.2 = 0 ∨ (flR L k).2.2 ≠ 0 ∧ (flR L k).2.1 = k ∧ (flR L k).1 = 0 := by
  unfold flR
  split
  · split
    · exact .inl rfl
    · exact .inr ⟨by simp, rfl, rfl⟩
  · exact .inr ⟨by simp, rfl, rfl⟩
theorem fR_flR (L : List Int) (k : Nat) : (fR L k).2.2 = (flR L k).2.2 ∧ ((fR L k).2.2 = 0 → (fR L k).1 = (flR L k).1 ∧ (fR L k).2.1 = (flR L k).2.1) := by
  unfold fR flR
  by_cases hk : 8 ≤ L.length - k
  · rw [if_pos hk, if_pos hk]
    generalize bits8 ((L.drop k).take 8) = u
    unfold bitsF fVal fErr
    by_cases hn : nanB u = true
    · by_cases hu : u = 9221120237041090560
      · simp [hu]
      · simp [hn, hu, Ne.symm hu]
    · simp [hn]
  · rw [if_neg hk, if_neg hk]
    simp

/-- The program's Float. -/
theorem Float_n (w : World) (rb : Nat) (v : Value) (L : List Int) (k : Nat) (h : Rdr w rb v L k) : Reads 43 w rb v L (flR L k).2.1 (.float .f64 (flR L k).1) (flR L k).2.2 := by
  have H := rd_float w rb v L k h
  obtain ⟨h1, h2⟩ := fR_flR L k
  by_cases he : (fR L k).2.2 = 0
  · obtain ⟨h3, h4⟩ := h2 he
    rw [he] at H h1
    rw [← h1, ← h3, ← h4]
    exact Float_ok w rb v L k _ _ h H
  · have := Float_no w rb v L k _ _ _ h he H
    rcases flR_code L k with hc | ⟨hc, hc2, hc3⟩
    · omega
    · rw [hc2, hc3, ← h1]; exact this

/-- What Complex answers: the bits of both parts, where the reader stands, the error. -/
def cxR (L : List Int) (k : Nat) : (Nat × Nat) × Nat × Nat :=
  if (flR L k).2.2 ≠ 0 then ((0, 0), k, (flR L k).2.2)
  else if (flR L (flR L k).2.1).2.2 ≠ 0 then ((0, 0), k, (flR L (flR L k).2.1).2.2)
  else (((flR L k).1, (flR L (flR L k).2.1).1), (flR L (flR L k).2.1).2.1, 0)
theorem cxR_bits (L : List Int) (k : Nat) : bitsF (cxR L k).1.1 = (cxR L k).1.1 ∧ bitsF (cxR L k).1.2 = (cxR L k).1.2 := by
  unfold cxR
  split
  · exact ⟨bitsF_zero, bitsF_zero⟩
  · split
    · exact ⟨bitsF_zero, bitsF_zero⟩
    · exact ⟨flR_bits _ _, flR_bits _ _⟩
theorem Complex_n (w : World) (rb : Nat) (v : Value) (L : List Int) (k : Nat) (h : Rdr w rb v L k) : Reads 38 w rb v L (cxR L k).2.1 (.complex .f64 (cxR L k).1.1 (cxR L k).1.2) (cxR L k).2.2 := by
  have H := rd_complex w rb v L k h
  obtain ⟨h1, h2⟩ := fR_flR L k
  unfold cR at H
  unfold cxR
  by_cases he : (fR L k).2.2 = 0
  · obtain ⟨h3, h4⟩ := h2 he
    rw [if_neg (by omega)]
    rw [if_neg (by omega), h4, h3] at H
    obtain ⟨g1, g2⟩ := fR_flR L (flR L k).2.1
    by_cases he2 : (fR L (flR L k).2.1).2.2 = 0
    · obtain ⟨g3, g4⟩ := g2 he2
      rw [if_neg (by omega)]
      rw [he2, g3, g4] at H
      exact Complex_ok w rb v L k _ _ _ h H
    · rw [if_pos (by omega), ← g1]
      exact Complex_no w rb v L k _ _ _ _ h he2 H
  · rw [if_pos (by omega), ← h1]
    rw [if_pos he] at H
    exact Complex_no w rb v L k _ _ _ _ h he H

set_option maxHeartbeats 1600000 in
set_option maxRecDepth 1000000 in
theorem dcomplex_one (w : World) (db : Nat) (v : Value) (L : List Int) (k j n e : Nat) (h : DRdr w db v L k) (he : e ≠ 0) (H : DReads 66 (w.alloc zto) db v L j (.int .u64 n) e) : DReads 67 w db v L j (two 0 0) e := by
  have hne : ((e : Int) == 0) = false := by simpa using he
  have hl := h.lt
  have hf := h.far
  have h1 := (h.al zto).c1
  have HT : Hid (DRdr w db v L k) := h
  clear h
  go_enter Try.func67, Try.ntmps67
  go_wp2_with (first | (go_at_call 66; refine H.out.mono ?_; rintro e w1 ⟨rfl, hr, hg⟩; obtain ⟨a0, a1, f0, f1, _⟩ := kept2 (heap_alloc_new w _) hg (by intro e; cases e; omega)))
  refine bodyPost_ret (v := .tuple #[two 0 0, .int .i64 e]) (by simp [results, Try.results67, go_sem, a0, a1]) rfl ⟨rfl, ?_, ?_⟩
  · exact (hr.put2 (by omega) hf _ _).put2 (by omega) hf _ _
  · exact grownBy_put (grownBy_put (grownBy_trans (World.grownBy_alloc _ _ _) hg) (Nat.le_refl _) _ _) (Nat.le_refl _) _ _

set_option maxHeartbeats 1600000 in
set_option maxRecDepth 1000000 in
theorem dcomplex_two (w : World) (db : Nat) (v : Value) (L : List Int) (k j i n m e : Nat) (h : DRdr w db v L k) (he : e ≠ 0) (H : DReads 66 (w.alloc zto) db v L j (.int .u64 n) 0) (H2 : ∀ w1, DRdr w1 db v L j → DReads 66 w1 db v L i (.int .u64 m) e) : DReads 67 w db v L k (two 0 0) e := by
  have hne : ((e : Int) == 0) = false := by simpa using he
  have hl := h.lt
  have hf := h.far
  have hk := h.le
  have h1 := (h.al zto).c1
  have HH : Hid (∀ w1, DRdr w1 db v L j → DReads 66 w1 db v L i (.int .u64 m) e) := H2
  clear H2 h
  go_enter Try.func67, Try.ntmps67
  go_wp2_with fail
  refine H.out.mono ?_
  rintro e1 w1 ⟨rfl, hr, hg⟩
  obtain ⟨_, _, _, _, hB⟩ := kept2 (heap_alloc_new w _) hg (by intro e; cases e; omega)
  go_wp2_with fail
  refine (HH.out w1 hr).out.mono ?_
  rintro e2 w2 ⟨rfl, hr2, hg2⟩
  obtain ⟨b0, b1, i0, i1, hB2⟩ := kept2 hB hg2 (by intro e; cases e; omega)
  have c1 := hr2.c1
  have cf := hr2.fr 1
  have n1 : ¬ db = w.heap.size := by omega
  have n2 : ¬ w.heap.size = db := by omega
  clear h1
  go_wp2
  have hk2 := hr2.put k hk
  obtain ⟨r0, r1, _, _, _⟩ := kept2 (over2 (x := .int .u64 0) (y := .int .u64 0) ((Below.heap_setCell w2 ⟨db, 1, none⟩ (.int .i64 k) _ (by simp; omega)).trans hB2)) (World.grownBy.refl _ none) (by simp)
  refine bodyPost_ret (v := .tuple #[two 0 0, .int .i64 e]) (by simp [results, Try.results67, go_sem, r0, r1]) rfl ⟨rfl, ?_, ?_⟩
  · exact (hk2.put2 (by omega) hf _ _).put2 (by omega) hf _ _
  · exact grownBy_put (grownBy_put (grownBy_trans (grownBy_trans (grownBy_trans (World.grownBy_alloc _ _ _) hg) hg2) (grownBy_setCell _ _ _ _)) (Nat.le_refl _) _ _) (Nat.le_refl _) _ _

set_option maxHeartbeats 1600000 in
set_option maxRecDepth 1000000 in
theorem dcomplex_yes (w : World) (db : Nat) (v : Value) (L : List Int) (k j i n m : Nat) (h : DRdr w db v L k) (H : DReads 66 (w.alloc zto) db v L j (.int .u64 n) 0) (H2 : ∀ w1, DRdr w1 db v L j → DReads 66 w1 db v L i (.int .u64 m) 0) : DReads 67 w db v L i (two n m) 0 := by
  have hl := h.lt
  have hf := h.far
  have h1 := (h.al zto).c1
  have HH : Hid (∀ w1, DRdr w1 db v L j → DReads 66 w1 db v L i (.int .u64 m) 0) := H2
  clear H2 h
  go_enter Try.func67, Try.ntmps67
  go_wp2_with fail
  refine H.out.mono ?_
  rintro e1 w1 ⟨rfl, hr, hg⟩
  obtain ⟨_, _, _, _, hB⟩ := kept2 (heap_alloc_new w _) hg (by intro e; cases e; omega)
  go_wp2_with fail
  refine (HH.out w1 hr).out.mono ?_
  rintro e2 w2 ⟨rfl, hr2, hg2⟩
  obtain ⟨b0, b1, i0, i1, _⟩ := kept2 hB hg2 (by intro e; cases e; omega)
  clear h1
  go_wp2
  refine bodyPost_ret (v := .tuple #[two n m, .int .i64 0]) (by simp [results, Try.results67, go_sem, b0, b1]) rfl ⟨rfl, ?_, ?_⟩
  · exact (hr2.put2 (by omega) hf _ _).put2 (by omega) hf _ _
  · exact grownBy_put (grownBy_put (grownBy_trans (grownBy_trans (World.grownBy_alloc _ _ _) hg) hg2) (Nat.le_refl _) _ _) (Nat.le_refl _) _ _

theorem dcomplex (w : World) (db : Nat) (v : Value) (L : List Int) (k : Nat) (h : DRdr w db v L k) : DReads 67 w db v L (cxR L k).2.1 (two (cxR L k).1.1 (cxR L k).1.2) (cxR L k).2.2 := by
  have H := dfloat _ db v L k (h.al zto)
  have H2 : ∀ w1, DRdr w1 db v L (flR L k).2.1 → DReads 66 w1 db v L (flR L (flR L k).2.1).2.1 (.int .u64 (flR L (flR L k).2.1).1) (flR L (flR L k).2.1).2.2 := fun w1 h1 => dfloat w1 db v L _ h1
  unfold cxR
  by_cases he : (flR L k).2.2 = 0
  · rw [if_neg (by simpa using he)]
    rw [he] at H
    by_cases he2 : (flR L (flR L k).2.1).2.2 = 0
    · rw [if_neg (by simpa using he2)]
      rw [he2] at H2
      exact dcomplex_yes w db v L k _ _ _ _ h H H2
    · rw [if_pos he2]
      exact dcomplex_two w db v L k _ _ _ _ _ h he2 H H2
  · rw [if_pos he]
    rcases flR_code L k with hc | ⟨hc, hc2, hc3⟩
    · exact absurd hc he
    · have := dcomplex_one w db v L k _ _ _ h he H
      rw [hc2] at this
      exact this
end Go.Proofs.Ytanbnefdodkniaa
