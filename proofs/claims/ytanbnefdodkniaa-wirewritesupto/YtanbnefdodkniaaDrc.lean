/-
  The document's PlainWhole, PlainFrac, Text.
-/
import Derived.Test.YtanbnefdodkniaaDrb
namespace Go.Proofs.Ytanbnefdodkniaa
open Go.RowKit Go.Lib Go.Sort

set_option maxHeartbeats 1600000 in
set_option maxRecDepth 1000000 in
theorem dplainWhole (neg : Bool) (mag : ByteArray) (hm : mag.size ≤ maxLen) (w : World) :
    Calls Try.prog 24 #[whole neg mag] w fun e w' => e = .returned (.bool (plainW neg mag)) ∧ w.grownBy w' none := by
  unfold maxLen at hm
  by_cases h0 : mag.size = 0
  · obtain rfl := empty_of_size h0
    go_enter Try.func24, Try.ntmps24
    go_wp2
    go_ret
    exact ⟨rfl, World.grownBy_alloc _ _ _⟩
  · have he := isEmpty_of h0
    have hp : 0 < mag.size := by omega
    by_cases h1 : mag.size ≤ 16384
    · go_enter Try.func24, Try.ntmps24
      go_wp2
      go_ret
      refine ⟨ret_bool ?_, World.grownBy_alloc _ _ _⟩
      unfold plainW
      rw [if_neg h0, sB_head mag hp]
      simp [h1]
    · go_enter Try.func24, Try.ntmps24
      go_wp2
      go_ret
      refine ⟨ret_bool ?_, World.grownBy_alloc _ _ _⟩
      unfold plainW
      rw [if_neg h0]
      simp [h1]

set_option maxHeartbeats 1600000 in
set_option maxRecDepth 1000000 in
theorem dplainFrac_one (a b : WN) (w : World) (HA : Hid (∀ w1, Calls Try.prog 24 #[wv a] w1 fun e w' => e = .returned (.bool false) ∧ w1.grownBy w' none)) :
    Calls Try.prog 26 #[fv a b] w fun e w' => e = .returned (.bool false) ∧ w.grownBy w' none := by
  go_enter Try.func26, Try.ntmps26
  go_wp2_with fail
  refine (HA.out _).mono ?_
  rintro e w1 ⟨rfl, hg1⟩
  go_wp2
  go_ret
  exact ⟨rfl, grownBy_trans (World.grownBy_alloc _ _ _) hg1⟩
set_option maxHeartbeats 3200000 in
set_option maxRecDepth 1000000 in
theorem dplainFrac_two (na nb pb : Bool) (ma mb : ByteArray) (sa sb : Bool) (ha0 : ma.size ≤ maxLen) (hb0 : mb.size ≤ maxLen) (w : World) (hsa : decide ((ma.size : Int) ≤ 1024) = sa) (hsb : decide ((mb.size : Int) ≤ 1024) = sb) (ez : Bool) (hez : mb.toList.isEmpty = ez)
    (HA : Hid (∀ w1, Calls Try.prog 24 #[whole na ma] w1 fun e w' => e = .returned (.bool true) ∧ w1.grownBy w' none))
    (HB : Hid (∀ w1, Calls Try.prog 24 #[whole nb mb] w1 fun e w' => e = .returned (.bool pb) ∧ w1.grownBy w' none)) :
    Calls Try.prog 26 #[fv (na, ma) (nb, mb)] w fun e w' => e = .returned (.bool (pb && (sa && (sb && (!nb && !ez))))) ∧ w.grownBy w' none := by
  have ha : ma.size ≤ 9223372036854775807 := by unfold maxLen at ha0; omega
  have hb : mb.size ≤ 9223372036854775807 := by unfold maxLen at hb0; omega
  clear ha0 hb0
  go_enter Try.func26, Try.ntmps26
  go_wp2_with fail
  refine (HA.out _).mono ?_
  rintro e w1 ⟨rfl, hg1⟩
  obtain ⟨A1, _, B1⟩ := keptN (heap_alloc_new w (fob (na, ma) (nb, mb))) hg1 (by simp)
  have a2 := A1 2 _ rfl
  have a3 := A1 3 _ rfl
  clear A1
  go_wp2_with fail
  refine (HB.out _).mono ?_
  rintro e w2 ⟨rfl, hg2⟩
  obtain ⟨A2, _, B2⟩ := keptN B1 hg2 (by simp)
  have b1 := A2 1 _ rfl
  have b2 := A2 2 _ rfl
  have b3 := A2 3 _ rfl
  have g2 : w.grownBy w2 none := grownBy_trans (grownBy_trans (World.grownBy_alloc _ _ _) hg1) hg2
  clear A2 a2 a3 hg1 hg2 B1 B2
  cases pb
  · go_wp2
    go_ret
    exact ⟨rfl, g2⟩
  cases sa
  · go_wp2
    go_ret
    exact ⟨rfl, g2⟩
  cases sb
  · go_wp2
    go_ret
    exact ⟨rfl, g2⟩
  cases nb
  · cases ez
    · go_wp2
      go_ret
      exact ⟨rfl, g2⟩
    · go_wp2
      go_ret
      exact ⟨rfl, g2⟩
  · go_wp2
    go_ret
    exact ⟨rfl, g2⟩

theorem empty_bool (s : ByteArray) : s.toList.isEmpty = decide (s.size = 0) := by
  by_cases h : s.size = 0
  · obtain rfl := empty_of_size h; first | (simp; done) | decide +kernel | kernel_rfl
  · rw [isEmpty_of h]; simp [h]
theorem dplainFrac (a b : WN) (ha : a.2.size ≤ maxLen) (hb : b.2.size ≤ maxLen) (w : World) : Calls Try.prog 26 #[fv a b] w fun e w' => e = .returned (.bool (plainFr a b)) ∧ w.grownBy w' none := by
  have HA : Hid (∀ w1, Calls Try.prog 24 #[wv a] w1 fun e w' => e = .returned (.bool (plainW a.1 a.2)) ∧ w1.grownBy w' none) := fun w1 => dplainWhole a.1 a.2 ha w1
  have HB : Hid (∀ w1, Calls Try.prog 24 #[wv b] w1 fun e w' => e = .returned (.bool (plainW b.1 b.2)) ∧ w1.grownBy w' none) := fun w1 => dplainWhole b.1 b.2 hb w1
  obtain ⟨na, ma⟩ := a
  obtain ⟨nb, mb⟩ := b
  unfold plainFr plainP
  simp only [] at HA HB ha hb ⊢
  cases hpa : plainW na ma
  · rw [hpa] at HA
    simpa using dplainFrac_one _ _ w HA
  · rw [hpa] at HA
    refine (dplainFrac_two na nb _ ma mb _ _ ha hb w rfl rfl _ rfl HA HB).mono ?_
    rintro e w' ⟨rfl, hg⟩
    refine ⟨ret_bool ?_, hg⟩
    rw [empty_bool]
    have e1 : decide ((ma.size : Int) ≤ 1024) = decide (ma.size ≤ 1024) := by simp; omega
    have e2 : decide ((mb.size : Int) ≤ 1024) = decide (mb.size ≤ 1024) := by simp; omega
    rw [e1, e2]
    generalize plainW nb mb = p
    generalize decide (ma.size ≤ 1024) = x
    generalize decide (mb.size ≤ 1024) = y
    generalize decide (mb.size = 0) = z
    cases p <;> cases x <;> cases y <;> cases nb <;> cases z <;> rfl

/-- What Text answers of a bound that is not below 0: the bytes, where the reader stands, the error. -/
def teR (most : Nat) (L : List Int) (k : Nat) : List Int × Nat × Nat :=
  if (nR L k).2.2 ≠ 0 then ([], k, (nR L k).2.2)
  else if most < (nR L k).1 then ([], k, 3)
  else if (nR L k).1 ≤ L.length - (nR L k).2.1 then ((L.drop (nR L k).2.1).take (nR L k).1, (nR L k).2.1 + (nR L k).1, 0)
  else ([], k, 110)

/-- The program's Text. -/
theorem Text_n (w : World) (rb : Nat) (v : Value) (L : List Int) (k most : Nat) (h : Rdr w rb v L k) (hm1 : most ≤ 9223372036854775807) :
    Calls Try.prog 39 #[rp rb, .int .i64 most] w fun en w' => en = .returned (.tuple #[.string (strOf (teR most L k).1), .int .i64 (teR most L k).2.2]) ∧ Rdr w' rb v L (teR most L k).2.1 ∧ w.grownBy w' (some rb) := by
  have H := Text_any w rb v L k most h (by omega)
  have E : (if (txt most L k).2.2 = 0 then (txt most L k).1 else []) = (teR most L k).1 ∧ (txt most L k).2.2 = (teR most L k).2.2 ∧ (if (txt most L k).2.2 = 0 then (txt most L k).2.1 else k) = (teR most L k).2.1 := by
    have hc := rdN_code (L.drop k) 0 0
    unfold txt cnt teR nR
    revert hc
    generalize rdN 0 0 (L.drop k) = r
    obtain ⟨n, c, e⟩ := r
    simp only []
    intro hc
    have hm0 : ¬ ((most : Int) < 0) := by omega
    by_cases h1 : e = 0
    · subst h1
      by_cases h2 : most < n
      · simp [hm0, h2]
      · by_cases h3 : n ≤ L.length - (k + c)
        · simp [hm0, h2, h3]
        · simp [hm0, h2, h3]
    · simp [hm0, h1]
  rw [E.1, E.2.2, E.2.1] at H
  exact H

def DReadsT (w : World) (db most : Nat) (v : Value) (L : List Int) (j : Nat) (x : Value) (e : Nat) : Prop :=
  Calls Try.prog 100 #[rp db, .int .i64 most] w fun en w' => en = .returned (.tuple #[x, .int .i64 e]) ∧ DRdr w' db v L j ∧ w.grownBy w' (some db)

set_option maxHeartbeats 1600000 in
set_option maxRecDepth 1000000 in
theorem dtext_err (w : World) (db most : Nat) (v : Value) (L : List Int) (k j n e : Nat) (h : DRdr w db v L k) (he : e ≠ 0) (H : DReads 64 w db v L j (.int .u64 n) e) : DReadsT w db most v L k (.string ByteArray.empty) e := by
  have hne : ((e : Int) == 0) = false := by simpa using he
  have hk := h.le
  have h1 := h.c1
  go_enter Try.func100, Try.ntmps100
  go_wp2_with (go_at_call 64; refine H.out.mono ?_; rintro e w' ⟨rfl, hr, hg⟩; have hr0 := hr.c1; have hr1 := hr.fr 1)
  go_ret2
  exact ⟨rfl, hr.back hg hk⟩
set_option maxHeartbeats 1600000 in
set_option maxRecDepth 1000000 in
theorem dtext_long (w : World) (db most : Nat) (v : Value) (L : List Int) (k j n : Nat) (h : DRdr w db v L k) (hm : most ≤ 9223372036854775807) (hn : most < n) (H : DReads 64 w db v L j (.int .u64 n) 0) : DReadsT w db most v L k (.string ByteArray.empty) 3 := by
  have hk := h.le
  have h1 := h.c1
  have hn2 : (most : Int) < n := by omega
  go_enter Try.func100, Try.ntmps100
  go_wp2_with (go_at_call 64; refine H.out.mono ?_; rintro e w' ⟨rfl, hr, hg⟩; have hr0 := hr.c1; have hr1 := hr.fr 1)
  go_ret2
  exact ⟨rfl, hr.back hg hk⟩
set_option maxHeartbeats 1600000 in
set_option maxRecDepth 1000000 in
theorem dtext_end (w : World) (db most : Nat) (v : Value) (L : List Int) (k j n : Nat) (h : DRdr w db v L k) (hm : most ≤ 9223372036854775807) (hn : n ≤ most) (hx : ¬ n ≤ L.length - j) (H : DReads 64 w db v L j (.int .u64 n) 0) : DReadsT w db most v L k (.string ByteArray.empty) 110 := by
  have hk := h.le
  have h1 := h.c1
  have hmx := h.max
  have hn2 : (n : Int) ≤ most := by omega
  have hx2 : ((L.length - j : Nat) : Int) < n := by omega
  have HL : Hid (∀ w1, DRdr w1 db v L j → Calls Try.prog 35 #[rp db] w1 fun e w' => e = .returned (.int .i64 (L.length - j : Nat)) ∧ ∃ n, w' = w1.drewN n) := fun w1 h1 => dleft w1 db v L j h1
  obtain ⟨l, hl⟩ : ∃ l, L.length - j = l := ⟨_, rfl⟩
  rw [hl] at HL hx2
  have hl2 : l ≤ 225000000000000 := by omega
  clear hx hl
  go_enter Try.func100, Try.ntmps100
  go_wp2_with (first | (go_at_call 64; refine H.out.mono ?_; rintro e w' ⟨rfl, hr, hg⟩; have hr0 := hr.c1; have hr1 := hr.fr 1) | (go_at_call 35; refine (HL.out _ hr).mono ?_; rintro e w2 ⟨rfl, q, rfl⟩))
  go_ret2
  exact ⟨rfl, (hr.drewN q).back (grownBy_drewN hg q) hk⟩

/-- The bytes from j on, n of them, as a slice of the reader's. -/
theorem DRdr.cut {w : World} {db : Nat} {L : List Int} {k g off cap : Nat} (h : DRdr w db (.slice (some ⟨g, off, none⟩) L.length cap) L k) (j n : Nat) (hn : j + n ≤ L.length) (c : Nat) (hL : L ≠ []) : Src w (.slice (some ⟨g, off + j, none⟩) n c) ((L.drop j).take n) := by
  rcases h.src with ⟨ao, c, e, rfl⟩ | ⟨g', off', cap', e, a, b, d, f, hc⟩
  · exact absurd rfl hL
  · cases e
    refine .inr ⟨g, off + j, c, by rw [show ((L.drop j).take n).length = n by simp; omega], fun i u hu => ?_⟩
    obtain ⟨h1, rfl⟩ := cut_cells hu
    rw [Nat.add_assoc]
    exact hc (j + i) h1

set_option maxHeartbeats 1600000 in
set_option maxRecDepth 1000000 in
theorem dtext_yes (w : World) (db most : Nat) (v : Value) (L : List Int) (k j n : Nat) (h : DRdr w db v L k) (hm : most ≤ 9223372036854775807) (hn : n ≤ most) (hj : k < j) (hjl : j ≤ L.length) (hx : n ≤ L.length - j) (H : DReads 64 w db v L j (.int .u64 n) 0) :
    DReadsT w db most v L (j + n) (.string (strOf ((L.drop j).take n))) 0 := by
  have hk := h.le
  have h1 := h.c1
  have hmx := h.max
  have hL : L ≠ [] := by rintro rfl; simp at hjl; omega
  have hn2 : (n : Int) ≤ most := by omega
  have HL : Hid (∀ w1, DRdr w1 db v L j → Calls Try.prog 35 #[rp db] w1 fun e w' => e = .returned (.int .i64 (L.length - j : Nat)) ∧ ∃ n, w' = w1.drewN n) := fun w1 h1 => dleft w1 db v L j h1
  have hx2 : (n : Int) ≤ (L.length - j : Nat) := by omega
  have hx3 : (j : Int) + n ≤ L.length := by omega
  obtain ⟨l, hl⟩ : ∃ l, L.length - j = l := ⟨_, rfl⟩
  rw [hl] at HL hx2
  have hl2 : l ≤ 225000000000000 := by omega
  rcases h.src with ⟨ao, c, rfl, rfl⟩ | ⟨g, off, cap, rfl, hc1, hc2, hgr, hgs, _⟩
  · exact absurd rfl hL
  unfold maxLen at hc2
  have HS : Hid (∀ w1, DRdr w1 db (.slice (some ⟨g, off, none⟩) L.length cap) L (j + n) → ∀ c, (convert 33 9 (.slice (some ⟨g, off + j, none⟩) n c)).run Try.prog w1 = .ok (.string (strOf ((L.drop j).take n))) w1) :=
    fun w1 h1 c => conv_src (h1.cut j n (by omega) c hL)
  have HJ : Hid (((j + n : Nat) : Int) = j + n ∧ j + n ≤ L.length) := ⟨by omega, by omega⟩
  by_cases hck : cap = j
  · obtain rfl : n = 0 := by omega
    have hjL : j = L.length := by omega
    clear HS hx hl h hx3 hx2
    subst hck
    have hcL : cap ≤ L.length := by omega
    clear hjL
    simp only [List.take_zero, Nat.add_zero]
    have hcv : ∀ w1 o c, (convert 33 9 (.slice (some ⟨g, o, none⟩) 0 c)).run Try.prog w1 = .ok (.string (strOf [])) w1 := fun w1 o c => conv_src (.inr ⟨g, o, c, rfl, fun j u hu => by simp at hu⟩)
    generalize strOf [] = X at *
    go_enter Try.func100, Try.ntmps100
    go_wp2_with fail
    refine H.out.mono ?_
    rintro e w' ⟨rfl, hr, hg⟩
    have hr0 := hr.c1
    have hr1 := hr.fr 1
    have hrc := hr.c0
    go_wp2_with fail
    refine (HL.out _ hr).mono ?_
    rintro e w2 ⟨rfl, q, rfl⟩
    have R : Hid (DRdr ((w'.drewN q).setCell ⟨db, 1, none⟩ (.int .i64 cap)) db (.slice (some ⟨g, off, none⟩) L.length cap) L cap ∧ w.grownBy ((w'.drewN q).setCell ⟨db, 1, none⟩ (.int .i64 cap)) (some db)) :=
      (hr.drewN q).back (grownBy_drewN hg q) (by omega)
    go_wp2
    go_quiet (fail)
    go_wp2
    go_ret2
    exact ⟨rfl, R.out.1.drewN _, grownBy_drewN R.out.2 _⟩
  clear hx hl h
  generalize strOf ((L.drop j).take n) = X at *
  · go_enter Try.func100, Try.ntmps100
    go_wp2_with fail
    refine H.out.mono ?_
    rintro e w' ⟨rfl, hr, hg⟩
    have hr0 := hr.c1
    have hr1 := hr.fr 1
    have hrc := hr.c0
    go_wp2_with fail
    refine (HL.out _ hr).mono ?_
    rintro e w2 ⟨rfl, q, rfl⟩
    have R : Hid (DRdr ((w'.drewN q).setCell ⟨db, 1, none⟩ (.int .i64 (j + n))) db (.slice (some ⟨g, off, none⟩) L.length cap) L (j + n) ∧ w.grownBy ((w'.drewN q).setCell ⟨db, 1, none⟩ (.int .i64 (j + n))) (some db)) := by
      have := (hr.drewN q).back (grownBy_drewN hg q) HJ.out.2
      rw [HJ.out.1] at this
      exact this
    have hcv : ∀ q' c, (convert 33 9 (.slice (some ⟨g, off + j, none⟩) n c)).run Try.prog (((w'.drewN q).setCell ⟨db, 1, none⟩ (.int .i64 (j + n))).drewN q') = .ok (.string X) (((w'.drewN q).setCell ⟨db, 1, none⟩ (.int .i64 (j + n))).drewN q') := fun q' c => HS.out _ (R.out.1.drewN q') c
    go_wp2
    go_quiet (fail)
    go_wp2
    go_ret2
    exact ⟨rfl, R.out.1.drewN _, grownBy_drewN R.out.2 _⟩

/-- The document's Text. -/
theorem dtext (w : World) (db most : Nat) (v : Value) (L : List Int) (k : Nat) (h : DRdr w db v L k) (hm : most ≤ 9223372036854775807) : DReadsT w db most v L (teR most L k).2.1 (.string (strOf (teR most L k).1)) (teR most L k).2.2 := by
  have H := fun n j e hn => dnumber_n w db v L k n j e hn h
  have F := fun n j e hn => nR_facts (L := L) (k := k) (n := n) (j := j) (e := e) hn
  have hcount := rdN_count (L.drop k) 0 0
  have hjl : (nR L k).2.1 ≤ L.length := by
    have := h.le
    rw [List.length_drop] at hcount
    unfold nR
    simp only []
    omega
  unfold teR
  revert H F hjl
  generalize nR L k = r
  obtain ⟨n, j, e⟩ := r
  intro H F hjl
  have H := H n j e rfl
  have F := F n j e rfl
  simp only [] at hjl ⊢
  by_cases he : e = 0
  · subst he
    rw [if_neg (by simp)]
    by_cases h2 : most < n
    · rw [if_pos h2]; exact dtext_long w db most v L k j n h hm h2 H
    · rw [if_neg h2]
      by_cases h3 : n ≤ L.length - j
      · rw [if_pos h3]; exact dtext_yes w db most v L k j n h hm (by omega) (by omega) hjl h3 H
      · rw [if_neg h3]; exact dtext_end w db most v L k j n h hm (by omega) h3 H
  · rw [if_pos he]
    exact dtext_err w db most v L k j n e h he H
end Go.Proofs.Ytanbnefdodkniaa
