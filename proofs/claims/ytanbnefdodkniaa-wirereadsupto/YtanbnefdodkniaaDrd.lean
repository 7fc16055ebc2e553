/-
  The document's Whole.
-/
import Derived.Test.YtanbnefdodkniaaDrc
import Derived.Deep.CutRange
import Derived.Deep.RegionHeld3
namespace Go.Proofs.Ytanbnefdodkniaa
open Go.RowKit Go.Lib Go.Sort

/-- What Whole answers: sign and magnitude, where the reader stands, the error. -/
def whR (L : List Int) (k : Nat) : WN × Nat × Nat := if (wR L k).2.2 = 0 then wR L k else ((false, ⟨#[]⟩), k, (wR L k).2.2)
theorem Whole_n (w : World) (rb : Nat) (v : Value) (L : List Int) (k : Nat) (h : Rdr w rb v L k) : Reads 52 w rb v L (whR L k).2.1 (wv (whR L k).1) (whR L k).2.2 := by
  have H := Whole_rd w rb v L k h
  unfold whR
  by_cases he : (wR L k).2.2 = 0
  · rw [if_pos he]; rw [if_pos he, if_pos he] at H; exact H
  · rw [if_neg he]; rw [if_neg he, if_neg he] at H; exact H

set_option maxHeartbeats 1600000 in
set_option maxRecDepth 1000000 in
theorem dwhole_err (w : World) (db : Nat) (v : Value) (L : List Int) (k j n e : Nat) (h : DRdr w db v L k) (he : e ≠ 0) (H : DReads 64 (w.alloc zo) db v L j (.int .u64 n) e) : DReads 68 w db v L k zw e := by
  have hne : ((e : Int) == 0) = false := by simpa using he
  have hl := h.lt
  have hf := h.far
  have hk := h.le
  have h1 := (h.al zo).c1
  have n1 : ¬ db = w.heap.size := by omega
  have n2 : ¬ w.heap.size = db := by omega
  go_enter Try.func68, Try.ntmps68
  go_wp2_with (first | (go_at_call 64; refine H.out.mono ?_; rintro e w1 ⟨rfl, hr, hg⟩; obtain ⟨a0, a1, f0, f1, hB⟩ := kept2 (heap_alloc_new w _) hg (by intro e; cases e; omega); have hr0 := hr.c1; have hr1 := hr.fr 1))
  obtain ⟨r0, r1, _, _, _⟩ := kept2 (over2 (x := .bool false) (y := .string ⟨#[]⟩) ((Below.heap_setCell w1 ⟨db, 1, none⟩ (.int .i64 k) _ (by simp; omega)).trans hB)) (World.grownBy.refl _ none) (by simp)
  refine bodyPost_ret (v := .tuple #[zw, .int .i64 e]) (by simp [results, Try.results68, go_sem, r0, r1]) rfl ⟨rfl, ?_, ?_⟩
  · exact ((hr.put k hk).put2 (by omega) hf _ _).put2 (by omega) hf _ _
  · exact grownBy_put (grownBy_put (grownBy_trans (grownBy_trans (World.grownBy_alloc _ _ _) hg) (grownBy_setCell _ _ _ _)) (Nat.le_refl _) _ _) (Nat.le_refl _) _ _

set_option maxHeartbeats 1600000 in
set_option maxRecDepth 1000000 in
theorem dwhole_big (w : World) (db : Nat) (v : Value) (L : List Int) (k j n : Nat) (h : DRdr w db v L k) (hn64 : n < 18446744073709551616) (hn : 16384 < n / 2) (H : DReads 64 (w.alloc zo) db v L j (.int .u64 n) 0) : DReads 68 w db v L k zw 111 := by
  have hl := h.lt
  have hf := h.far
  have hk := h.le
  have h1 := (h.al zo).c1
  have n1 : ¬ db = w.heap.size := by omega
  have n2 : ¬ w.heap.size = db := by omega
  have hn2 : (16384 : Int) < (n : Int) / 2 := by omega
  go_enter Try.func68, Try.ntmps68
  go_wp2_with (first | (go_at_call 64; refine H.out.mono ?_; rintro e w1 ⟨rfl, hr, hg⟩; obtain ⟨a0, a1, f0, f1, hB⟩ := kept2 (heap_alloc_new w _) hg (by intro e; cases e; omega); have hr0 := hr.c1; have hr1 := hr.fr 1))
  obtain ⟨r0, r1, _, _, _⟩ := kept2 (over2 (x := .bool false) (y := .string ⟨#[]⟩) ((Below.heap_setCell w1 ⟨db, 1, none⟩ (.int .i64 k) _ (by simp; omega)).trans hB)) (World.grownBy.refl _ none) (by simp)
  refine bodyPost_ret (v := .tuple #[zw, .int .i64 111]) (by simp [results, Try.results68, go_sem, r0, r1]) rfl ⟨rfl, ?_, ?_⟩
  · exact ((hr.put k hk).put2 (by omega) hf _ _).put2 (by omega) hf _ _
  · exact grownBy_put (grownBy_put (grownBy_trans (grownBy_trans (World.grownBy_alloc _ _ _) hg) (grownBy_setCell _ _ _ _)) (Nat.le_refl _) _ _) (Nat.le_refl _) _ _

set_option maxHeartbeats 1600000 in
set_option maxRecDepth 1000000 in
theorem dwhole_end (w : World) (db : Nat) (v : Value) (L : List Int) (k j n : Nat) (h : DRdr w db v L k) (hn : n / 2 ≤ 16384) (hx : ¬ n / 2 ≤ L.length - j) (H : DReads 64 (w.alloc zo) db v L j (.int .u64 n) 0) : DReads 68 w db v L k zw 110 := by
  have hl := h.lt
  have hf := h.far
  have hk := h.le
  have hmx := h.max
  have h1 := (h.al zo).c1
  have n1 : ¬ db = w.heap.size := by omega
  have n2 : ¬ w.heap.size = db := by omega
  have hn2 : (n : Int) / 2 ≤ 16384 := by omega
  have HL : Hid (∀ w1, DRdr w1 db v L j → Calls Try.prog 35 #[rp db] w1 fun e w' => e = .returned (.int .i64 (L.length - j : Nat)) ∧ ∃ n, w' = w1.drewN n) := fun w1 h1 => dleft w1 db v L j h1
  have hx2 : ((L.length - j : Nat) : Int) < (n : Int) / 2 := by omega
  obtain ⟨l, hl3⟩ : ∃ l, L.length - j = l := ⟨_, rfl⟩
  rw [hl3] at HL hx2
  have hl2 : l ≤ 225000000000000 := by omega
  clear hx hl3
  go_enter Try.func68, Try.ntmps68
  go_wp2_with (first | (go_at_call 64; refine H.out.mono ?_; rintro e w1 ⟨rfl, hr, hg⟩; obtain ⟨a0, a1, f0, f1, hB⟩ := kept2 (heap_alloc_new w _) hg (by intro e; cases e; omega); have hr0 := hr.c1; have hr1 := hr.fr 1) | (go_at_call 35; refine (HL.out _ hr).mono ?_; rintro e w2 ⟨rfl, q, rfl⟩))
  have hB2 : (w1.drewN q).heap[w.heap.size]? = some zo := hB
  obtain ⟨r0, r1, _, _, _⟩ := kept2 (over2 (x := .bool false) (y := .string ⟨#[]⟩) ((Below.heap_setCell (w1.drewN q) ⟨db, 1, none⟩ (.int .i64 k) _ (by simp; omega)).trans hB2)) (World.grownBy.refl _ none) (by simp)
  refine bodyPost_ret (v := .tuple #[zw, .int .i64 110]) (by simp [results, Try.results68, go_sem, r0, r1]) rfl ⟨rfl, ?_, ?_⟩
  · exact (((hr.drewN q).put k hk).put2 (by omega) hf _ _).put2 (by omega) hf _ _
  · exact grownBy_put (grownBy_put (grownBy_trans (grownBy_drewN (grownBy_trans (World.grownBy_alloc _ _ _) hg) q) (grownBy_setCell _ _ _ _)) (Nat.le_refl _) _ _) (Nat.le_refl _) _ _

set_option maxHeartbeats 3200000 in
set_option maxRecDepth 1000000 in
theorem dwhole_got (w : World) (db : Nat) (v : Value) (L : List Int) (k j n : Nat) (neg pl : Bool) (mag : ByteArray) (h : DRdr w db v L k) (hn : n / 2 ≤ 16384) (hj : k < j) (hjl : j ≤ L.length) (hx : n / 2 ≤ L.length - j)
    (hneg : ((n : Int) % 2 == 1) = neg) (hmag : strOf ((L.drop j).take (n / 2)) = mag) (hms : mag.size ≤ 16384) (hpl : plainW neg mag = pl) (J E : Nat) (A : WN) (HY : Hid (pl = true → J = j + n / 2 ∧ E = 0 ∧ A = (neg, mag))) (HZ : Hid (pl = false → J = k ∧ E = 111 ∧ A = (false, ⟨#[]⟩)))
    (H : DReads 64 (w.alloc zo) db v L j (.int .u64 n) 0) : DReads 68 w db v L J (wv A) E := by
  have hl := h.lt
  have hf := h.far
  have hk := h.le
  have hmx := h.max
  have h1 := (h.al zo).c1
  have hL : L ≠ [] := by rintro rfl; simp at hjl; omega
  have n1 : ¬ db = w.heap.size := by omega
  have n2 : ¬ w.heap.size = db := by omega
  have hn2 : (n : Int) / 2 ≤ 16384 := by omega
  have HL : Hid (∀ w1, DRdr w1 db v L j → Calls Try.prog 35 #[rp db] w1 fun e w' => e = .returned (.int .i64 (L.length - j : Nat)) ∧ ∃ n, w' = w1.drewN n) := fun w1 h1 => dleft w1 db v L j h1
  have HP : Hid (∀ w1, Calls Try.prog 24 #[whole neg mag] w1 fun e w' => e = .returned (.bool pl) ∧ w1.grownBy w' none) := by
    intro w1; rw [← hpl]; exact dplainWhole neg mag (by unfold maxLen; omega) w1
  obtain ⟨n', hn'⟩ : ∃ n', n / 2 = n' := ⟨_, rfl⟩
  have hni : (n : Int) / 2 = n' := by omega
  rw [hn'] at hn hx hmag HY
  rw [hni] at hn2
  have hx2 : (n' : Int) ≤ (L.length - j : Nat) := by omega
  have hx3 : (j : Int) + n' ≤ L.length := by omega
  obtain ⟨l, hl3⟩ : ∃ l, L.length - j = l := ⟨_, rfl⟩
  rw [hl3] at HL hx2
  have hl2 : l ≤ 225000000000000 := by omega
  rcases h.src with ⟨ao, c, rfl, rfl⟩ | ⟨g, off, cap, rfl, hc1, hc2, hgr, hgs, _⟩
  · exact absurd rfl hL
  unfold maxLen at hc2
  have HJ : Hid (((j + n' : Nat) : Int) = j + n' ∧ j + n' ≤ L.length) := ⟨by omega, by omega⟩
  have HS : Hid (∀ w1, DRdr w1 db (.slice (some ⟨g, off, none⟩) L.length cap) L (j + n') → ∀ c, (convert 33 9 (.slice (some ⟨g, off + j, none⟩) n' c)).run Try.prog w1 = .ok (.string mag) w1) := by
    intro w1 h1 c; rw [← hmag]; exact conv_src (h1.cut j n' (by omega) c hL)
  by_cases hck : cap = j
  · obtain rfl : n' = 0 := by omega
    subst hck
    have hcL : cap ≤ L.length := by omega
    have hcL2 : (cap : Int) ≤ L.length := by omega
    have he0 : mag = strOf [] := by rw [← hmag, List.take_zero]
    have HE0 : Hid (mag = strOf []) := he0
    clear he0
    clear hx hl3 hmag hpl hn' HS HJ hx3 hx2
    simp only [Nat.add_zero] at HY
    go_enter Try.func68, Try.ntmps68
    go_wp2_with fail
    refine H.out.mono ?_
    rintro e w1 ⟨rfl, hr, hg⟩
    obtain ⟨a0, a1, f0, f1, hB⟩ := kept2 (heap_alloc_new w _) hg (by intro e; cases e; omega)
    have hr0 := hr.c1
    have hr1 := hr.fr 1
    have hrc := hr.c0
    go_wp2_with fail
    refine (HL.out _ hr).mono ?_
    rintro e w2 ⟨rfl, q, rfl⟩
    have R : Hid (DRdr ((w1.drewN q).setCell ⟨db, 1, none⟩ (.int .i64 cap)) db (.slice (some ⟨g, off, none⟩) L.length cap) L cap ∧ w.grownBy ((w1.drewN q).setCell ⟨db, 1, none⟩ (.int .i64 cap)) (some db)) := by
      exact (hr.drewN q).back (grownBy_drewN (grownBy_trans (World.grownBy_alloc _ _ _) hg) q) hcL
    have hlt : w.heap.size < w1.heap.size := (Array.getElem?_eq_some_iff.1 hB).1
    have hrd : DRdr ((w1.drewN q).setCell ⟨db, 1, none⟩ (.int .i64 cap)) db (.slice (some ⟨g, off, none⟩) L.length cap) L cap := R.out.1
    have u0 := hrd.c0
    have u1 := hrd.c1
    have hB2 : ((w1.drewN q).setCell ⟨db, 1, none⟩ (.int .i64 cap)).heap[w.heap.size]? = some zo := (Below.heap_setCell (w1.drewN q) _ _ _ (by simp; omega)).trans hB
    have hlt2 := hrd.lt
    have HRD : Hid (DRdr ((w1.drewN q).setCell ⟨db, 1, none⟩ (.int .i64 cap)) db (.slice (some ⟨g, off, none⟩) L.length cap) L cap) := hrd
    have HB2 : Hid (((w1.drewN q).setCell ⟨db, 1, none⟩ (.int .i64 cap)).heap[w.heap.size]? = some zo) := hB2
    clear hrd hB2
    go_upto_region 11 with fail
    generalize hU : (w1.drewN q).setCell ⟨db, 1, none⟩ (.int .i64 cap) = U at *
    have hcv : ∀ w1 o c, (convert 33 9 (.slice (some ⟨g, o, none⟩) 0 c)).run Try.prog w1 = .ok (.string mag) w1 := fun w1 o c => by rw [HE0.out]; exact conv_src (.inr ⟨g, o, c, rfl, fun j u hu => by simp at hu⟩)
    have n3 : ¬ db = U.heap.size := by omega
    have n4 : ¬ U.heap.size = db := by omega
    clear a0 a1 f0 f1 hr0 hr1 hrc
    go_cut [7] from 53 to 74 (fun p wx => p = .pointer (some ⟨U.heap.size, 0, none⟩) ∧ wx = (U.alloc (.cells #[.bool neg, .string mag] 24)).drew)
    case first =>
      go_region
      all_goals (go_wp2_with fail; go_meet; exact ⟨rfl, rfl⟩)
    case rest =>
      obtain ⟨rfl, rfl⟩ := hcut
      clear hcv u0 u1
      have HN : Hid (((U.alloc (.cells #[.bool neg, .string mag] 24)).drew).heap[U.heap.size]? = some (.cells #[.bool neg, .string mag] 24)) := heap_alloc_new U _
      have HO : Hid (((U.alloc (.cells #[.bool neg, .string mag] 24)).drew).heap[w.heap.size]? = some zo) := (Below.heap_alloc U _ _ (Array.getElem?_eq_some_iff.1 HB2.out).1).trans HB2.out
      have HQ : Hid (DRdr ((U.alloc (.cells #[.bool neg, .string mag] 24)).drew) db (.slice (some ⟨g, off, none⟩) L.length cap) L cap ∧ w.grownBy ((U.alloc (.cells #[.bool neg, .string mag] 24)).drew) (some db)) := ⟨(HRD.out.al _).drewN 1, grownBy_drewN (grownBy_trans R.out.2 (World.grownBy_alloc _ _ _)) 1⟩
      go_wp2_with fail
      refine (HP.out _).mono ?_
      rintro e w3 ⟨rfl, hg3⟩
      obtain ⟨c0, c1, _, _, _⟩ := kept2 HN.out hg3 (by simp)
      obtain ⟨d0, d1, i0, i1, hB3⟩ := kept2 HO.out hg3 (by simp)
      have hr3 := HQ.out.1.kept0 hg3
      have g3 : w.grownBy w3 (some db) := grownBy_trans HQ.out.2 (grownBy_any hg3)
      have s1 := hr3.c1
      have s2 := hr3.fr 1
      have HR3 : Hid (DRdr w3 db (.slice (some ⟨g, off, none⟩) L.length cap) L cap ∧ w.grownBy w3 (some db) ∧ w3.heap[w.heap.size]? = some zo) := ⟨hr3, g3, hB3⟩
      clear hr3 g3 hB3 hg3 HQ HO HN
      cases pl
      · obtain ⟨rfl, rfl, rfl⟩ := HZ.out rfl
        go_wp2
        have hr4 := HR3.out.1.put J hk
        obtain ⟨r0, r1, _, _, _⟩ := kept2 (over2 (x := .bool false) (y := .string ⟨#[]⟩) ((Below.heap_setCell w3 ⟨db, 1, none⟩ (.int .i64 J) _ (by simp; omega)).trans HR3.out.2.2)) (World.grownBy.refl _ none) (by simp)
        refine bodyPost_ret (v := .tuple #[zw, .int .i64 111]) (by simp [results, Try.results68, go_sem, r0, r1]) rfl ⟨rfl, ?_, ?_⟩
        · exact (hr4.put2 (by omega) hf _ _).put2 (by omega) hf _ _
        · exact grownBy_put (grownBy_put (grownBy_trans HR3.out.2.1 (grownBy_setCell _ _ _ _)) (Nat.le_refl _) _ _) (Nat.le_refl _) _ _
      · obtain ⟨rfl, rfl, rfl⟩ := HY.out rfl
        go_wp2
        obtain ⟨r0, r1, _, _, _⟩ := kept2 (over2 (x := .bool neg) (y := .string mag) HR3.out.2.2) (World.grownBy.refl _ none) (by simp)
        refine bodyPost_ret (v := .tuple #[wv (neg, mag), .int .i64 0]) (by simp [results, Try.results68, go_sem, r0, r1]) rfl ⟨rfl, ?_, ?_⟩
        · exact (HR3.out.1.put2 (by omega) hf _ _).put2 (by omega) hf _ _
        · exact grownBy_put (grownBy_put HR3.out.2.1 (Nat.le_refl _) _ _) (Nat.le_refl _) _ _
  · clear hx hl3 hmag hpl hn'
    go_enter Try.func68, Try.ntmps68
    go_wp2_with fail
    refine H.out.mono ?_
    rintro e w1 ⟨rfl, hr, hg⟩
    obtain ⟨a0, a1, f0, f1, hB⟩ := kept2 (heap_alloc_new w _) hg (by intro e; cases e; omega)
    have hr0 := hr.c1
    have hr1 := hr.fr 1
    have hrc := hr.c0
    go_wp2_with fail
    refine (HL.out _ hr).mono ?_
    rintro e w2 ⟨rfl, q, rfl⟩
    have R : Hid (DRdr ((w1.drewN q).setCell ⟨db, 1, none⟩ (.int .i64 (j + n'))) db (.slice (some ⟨g, off, none⟩) L.length cap) L (j + n') ∧ w.grownBy ((w1.drewN q).setCell ⟨db, 1, none⟩ (.int .i64 (j + n'))) (some db)) := by
      have := (hr.drewN q).back (grownBy_drewN (grownBy_trans (World.grownBy_alloc _ _ _) hg) q) HJ.out.2
      rw [HJ.out.1] at this
      exact this
    have hlt : w.heap.size < w1.heap.size := (Array.getElem?_eq_some_iff.1 hB).1
    have hrd : DRdr ((w1.drewN q).setCell ⟨db, 1, none⟩ (.int .i64 (j + n'))) db (.slice (some ⟨g, off, none⟩) L.length cap) L (j + n') := R.out.1
    have u0 := hrd.c0
    have u1 := hrd.c1
    rw [HJ.out.1] at u1
    have hB2 : ((w1.drewN q).setCell ⟨db, 1, none⟩ (.int .i64 (j + n'))).heap[w.heap.size]? = some zo := (Below.heap_setCell (w1.drewN q) _ _ _ (by simp; omega)).trans hB
    have hlt2 := hrd.lt
    have HRD : Hid (DRdr ((w1.drewN q).setCell ⟨db, 1, none⟩ (.int .i64 (j + n'))) db (.slice (some ⟨g, off, none⟩) L.length cap) L (j + n')) := hrd
    have HB2 : Hid (((w1.drewN q).setCell ⟨db, 1, none⟩ (.int .i64 (j + n'))).heap[w.heap.size]? = some zo) := hB2
    clear hrd hB2
    go_upto_region 11 with fail
    generalize hU : (w1.drewN q).setCell ⟨db, 1, none⟩ (.int .i64 (j + n')) = U at *
    have hcv : ∀ c, (convert 33 9 (.slice (some ⟨g, off + j, none⟩) (j + n' - j) c)).run Try.prog U.drew = .ok (.string mag) U.drew := fun c => by rw [show j + n' - j = n' by omega]; exact HS.out _ (HRD.out.drewN 1) c
    have hcv2 : ∀ c o, (convert 33 9 (.slice (some ⟨g, off + j, none⟩) (j + n' - j) c)).run Try.prog (U.alloc o).drew = .ok (.string mag) (U.alloc o).drew := fun c o => by rw [show j + n' - j = n' by omega]; exact HS.out _ ((HRD.out.al o).drewN 1) c
    have hcv3 : (convert 33 9 (.slice (some ⟨g, off + j, none⟩) n' (cap - j))).run Try.prog U.drew = .ok (.string mag) U.drew := HS.out _ (HRD.out.drewN 1) _
    have hcv4 : (convert 33 9 (.slice (some ⟨g, off + j, none⟩) n' (cap - j))).run Try.prog (U.alloc zo).drew = .ok (.string mag) (U.alloc zo).drew := HS.out _ ((HRD.out.al _).drewN 1) _
    have n3 : ¬ db = U.heap.size := by omega
    have n4 : ¬ U.heap.size = db := by omega
    clear a0 a1 f0 f1 hr0 hr1 hrc
    go_cut [7] from 53 to 74 (fun p wx => p = .pointer (some ⟨U.heap.size, 0, none⟩) ∧ wx = (U.alloc (.cells #[.bool neg, .string mag] 24)).drew)
    case first =>
      go_region
      all_goals (go_wp2_with fail; go_meet; exact ⟨rfl, rfl⟩)
    case rest =>
      obtain ⟨rfl, rfl⟩ := hcut
      clear hcv hcv2 hcv3 hcv4 HS u0 u1
      have HN : Hid (((U.alloc (.cells #[.bool neg, .string mag] 24)).drew).heap[U.heap.size]? = some (.cells #[.bool neg, .string mag] 24)) := heap_alloc_new U _
      have HO : Hid (((U.alloc (.cells #[.bool neg, .string mag] 24)).drew).heap[w.heap.size]? = some zo) := (Below.heap_alloc U _ _ (Array.getElem?_eq_some_iff.1 HB2.out).1).trans HB2.out
      have HQ : Hid (DRdr ((U.alloc (.cells #[.bool neg, .string mag] 24)).drew) db (.slice (some ⟨g, off, none⟩) L.length cap) L (j + n') ∧ w.grownBy ((U.alloc (.cells #[.bool neg, .string mag] 24)).drew) (some db)) := ⟨(HRD.out.al _).drewN 1, grownBy_drewN (grownBy_trans R.out.2 (World.grownBy_alloc _ _ _)) 1⟩
      go_wp2_with fail
      refine (HP.out _).mono ?_
      rintro e w3 ⟨rfl, hg3⟩
      obtain ⟨c0, c1, _, _, _⟩ := kept2 HN.out hg3 (by simp)
      obtain ⟨d0, d1, i0, i1, hB3⟩ := kept2 HO.out hg3 (by simp)
      have hr3 := HQ.out.1.kept0 hg3
      have g3 : w.grownBy w3 (some db) := grownBy_trans HQ.out.2 (grownBy_any hg3)
      have s1 := hr3.c1
      have s2 := hr3.fr 1
      have HR3 : Hid (DRdr w3 db (.slice (some ⟨g, off, none⟩) L.length cap) L (j + n') ∧ w.grownBy w3 (some db) ∧ w3.heap[w.heap.size]? = some zo) := ⟨hr3, g3, hB3⟩
      clear hr3 g3 hB3 hg3 HQ HO HN
      cases pl
      · obtain ⟨rfl, rfl, rfl⟩ := HZ.out rfl
        go_wp2
        have hr4 := HR3.out.1.put J hk
        obtain ⟨r0, r1, _, _, _⟩ := kept2 (over2 (x := .bool false) (y := .string ⟨#[]⟩) ((Below.heap_setCell w3 ⟨db, 1, none⟩ (.int .i64 J) _ (by simp; omega)).trans HR3.out.2.2)) (World.grownBy.refl _ none) (by simp)
        refine bodyPost_ret (v := .tuple #[zw, .int .i64 111]) (by simp [results, Try.results68, go_sem, r0, r1]) rfl ⟨rfl, ?_, ?_⟩
        · exact (hr4.put2 (by omega) hf _ _).put2 (by omega) hf _ _
        · exact grownBy_put (grownBy_put (grownBy_trans HR3.out.2.1 (grownBy_setCell _ _ _ _)) (Nat.le_refl _) _ _) (Nat.le_refl _) _ _
      · obtain ⟨rfl, rfl, rfl⟩ := HY.out rfl
        go_wp2
        obtain ⟨r0, r1, _, _, _⟩ := kept2 (over2 (x := .bool neg) (y := .string mag) HR3.out.2.2) (World.grownBy.refl _ none) (by simp)
        refine bodyPost_ret (v := .tuple #[wv (neg, mag), .int .i64 0]) (by simp [results, Try.results68, go_sem, r0, r1]) rfl ⟨rfl, ?_, ?_⟩
        · exact (HR3.out.1.put2 (by omega) hf _ _).put2 (by omega) hf _ _
        · exact grownBy_put (grownBy_put HR3.out.2.1 (Nat.le_refl _) _ _) (Nat.le_refl _) _ _

theorem neg_bool (n : Nat) : ((n : Int) % 2 == 1) = ((n : Int) % 2 != 0) := by
  have : (n : Int) % 2 = 0 ∨ (n : Int) % 2 = 1 := by omega
  rcases this with h | h <;> rw [h] <;> rfl
/-- The document's Whole. -/
theorem dwhole (w : World) (db : Nat) (v : Value) (L : List Int) (k : Nat) (h : DRdr w db v L k) : DReads 68 w db v L (whR L k).2.1 (wv (whR L k).1) (whR L k).2.2 := by
  have H := dnumber _ db v L k (h.al zo)
  have hc := rdN_code (L.drop k) 0 0
  have hcount := rdN_count (L.drop k) 0 0
  have hv := rdN_val (L.drop k) 0 0 (by omega)
  have hkl := h.le
  rw [List.length_drop] at hcount
  obtain ⟨n, c, e, hr⟩ : ∃ n c e, rdN 0 0 (L.drop k) = (n, c, e) := ⟨_, _, _, rfl⟩
  rw [hr] at H hc hcount hv
  simp only [] at H hc hcount hv
  have out : ∀ a j e', wR L k = (a, j, e') → whR L k = if e' = 0 then (a, j, e') else ((false, ⟨#[]⟩), k, e') := fun a j e' hw => by unfold whR; rw [hw]
  by_cases he : e = 0
  · subst he
    rw [if_pos rfl] at H
    by_cases h1 : 16384 < n / 2
    · have hw : wR L k = ((false, ⟨#[]⟩), k + c, 111) := by unfold wR; rw [hr]; simp only []; rw [if_neg (by simp), if_pos h1]
      rw [out _ _ _ hw]
      exact dwhole_big w db v L k _ n h hv h1 H
    · by_cases h2 : n / 2 ≤ L.length - (k + c)
      · have hsz : (strOf ((L.drop (k + c)).take (n / 2))).size ≤ 16384 := by rw [strOf_size]; simp; omega
        have hw : wR L k = if plainW ((n : Int) % 2 == 1) (strOf ((L.drop (k + c)).take (n / 2))) then (((n : Int) % 2 == 1, strOf ((L.drop (k + c)).take (n / 2))), k + c + n / 2, 0) else ((false, ⟨#[]⟩), k + c + n / 2, 111) := by
          unfold wR; rw [hr]; simp only []; rw [if_neg (by simp), if_neg h1, if_neg (fun q => q h2), neg_bool]
        cases hp : plainW ((n : Int) % 2 == 1) (strOf ((L.drop (k + c)).take (n / 2)))
        · rw [hp] at hw
          rw [out _ _ _ hw]
          exact dwhole_got w db v L k (k + c) n _ _ _ h (by omega) (by omega) (by omega) h2 rfl rfl hsz hp _ _ _ (fun hq => by cases hq) (fun _ => ⟨rfl, rfl, rfl⟩) H
        · rw [hp] at hw
          rw [out _ _ _ hw]
          exact dwhole_got w db v L k (k + c) n _ _ _ h (by omega) (by omega) (by omega) h2 rfl rfl hsz hp _ _ _ (fun _ => ⟨rfl, rfl, rfl⟩) (fun hq => by cases hq) H
      · have hw : wR L k = ((false, ⟨#[]⟩), k + c, 110) := by unfold wR; rw [hr]; simp only []; rw [if_neg (by simp), if_neg h1, if_pos h2]
        rw [out _ _ _ hw]
        exact dwhole_end w db v L k _ n h (by omega) h2 H
  · have hw : wR L k = ((false, ⟨#[]⟩), k, e) := by unfold wR; rw [hr]; simp only []; rw [if_pos he]
    rw [out _ _ _ hw, if_neg he]
    exact dwhole_err w db v L k _ _ e h he H
end Go.Proofs.Ytanbnefdodkniaa
