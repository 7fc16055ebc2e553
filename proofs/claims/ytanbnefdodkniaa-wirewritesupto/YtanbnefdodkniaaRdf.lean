/-
  Signed numbers, floats and complex numbers read.
-/
import Derived.Test.YtanbnefdodkniaaGau
import Derived.Laws.DeepNot64
namespace Go.Proofs.Ytanbnefdodkniaa
open Go.RowKit Go.Lib Go.Sort
attribute [local go_sem] ext56 ext9

/-- A signed number off one without a sign. -/
def unf (n : Nat) : Int := if n % 2 = 1 then -1 - (n / 2 : Nat) else (n / 2 : Nat)

set_option maxHeartbeats 1600000 in
set_option maxRecDepth 1000000 in
theorem signed_rd (w : World) (rb : Nat) (v : Value) (L : List Int) (j n e : Nat) (hn : n < 18446744073709551616) (H : Reads 75 w rb v L j (.int .u64 n) e) : Reads 77 w rb v L j (.int .i64 (unf n)) e := by
  have ha := and1 n hn
  by_cases h1 : n % 2 = 1
  · have hu : Hid (unf n = -1 - (n / 2 : Nat)) := by unfold unf; rw [if_pos h1]; rfl
    have h2 : (n : Int) % 2 = 1 := by omega
    have hx := i64_not (n / 2) (by omega)
    have hx' : bits .xor .i64 (-1) ((n : Int) / 2) = -1 - (n : Int) / 2 := by simpa using hx
    clear hx
    go_enter Try.func77, Try.ntmps77
    go_wp2_with (go_at_call 75; refine H.out.mono ?_; rintro e w' ⟨rfl, hr, hg⟩)
    go_ret2
    refine ⟨?_, hr, hg⟩
    rw [hu.out]
    exact ret2_num (by simp) rfl
  · have hu : Hid (unf n = (n / 2 : Nat)) := by unfold unf; rw [if_neg h1]; rfl
    have h2 : (n : Int) % 2 = 0 := by omega
    go_enter Try.func77, Try.ntmps77
    go_wp2_with (go_at_call 75; refine H.out.mono ?_; rintro e w' ⟨rfl, hr, hg⟩)
    go_ret2
    refine ⟨?_, hr, hg⟩
    rw [hu.out]
    exact ret2_num (by simp) rfl
set_option maxHeartbeats 1600000 in
set_option maxRecDepth 1000000 in
theorem Signed_ok (w : World) (rb : Nat) (v : Value) (L : List Int) (k j : Nat) (n : Int) (h : Rdr w rb v L k) (H : Reads 77 w rb v L j (.int .i64 n) 0) : Reads 37 w rb v L j (.int .i64 n) 0 := by
  have h1 := h.c1
  have h2 := h.c2
  go_enter Try.func37, Try.ntmps37
  go_wp2_with (first | (go_at_call 77; refine H.out.mono ?_; rintro e w' ⟨rfl, hr, hg⟩) | go_in)
  go_ret2
  exact ⟨rfl, hr, hg⟩
set_option maxHeartbeats 1600000 in
set_option maxRecDepth 1000000 in
theorem Signed_no (w : World) (rb : Nat) (v : Value) (L : List Int) (k j e : Nat) (n : Int) (h : Rdr w rb v L k) (he : e ≠ 0) (H : Reads 77 w rb v L j (.int .i64 n) e) : Reads 37 w rb v L k (.int .i64 0) e := by
  have h1 := h.c1
  have h2 := h.c2
  have hne : ((e : Int) == 0) = false := by simpa using he
  go_enter Try.func37, Try.ntmps37
  go_wp2_with (first | (go_at_call 77; refine H.out.mono ?_; rintro e w' ⟨rfl, hr, hg⟩; have hr1 := hr.fr 1; have hr0 := hr.c1) | go_in)
  go_ret2
  exact ⟨rfl, hr.back hg h.le⟩
theorem Signed_any (w : World) (rb : Nat) (v : Value) (L : List Int) (k : Nat) (h : Rdr w rb v L k) :
    Reads 37 w rb v L (k + (rdN 0 0 (L.drop k)).2.1) (.int .i64 (if (rdN 0 0 (L.drop k)).2.2 = 0 then unf (rdN 0 0 (L.drop k)).1 else 0)) (rdN 0 0 (L.drop k)).2.2 := by
  have H := signed_rd w rb v L _ _ _ (rdN_val (L.drop k) 0 0 (by omega)) (rd_number w rb v L k h)
  have hc := rdN_code (L.drop k) 0 0
  by_cases he : (rdN 0 0 (L.drop k)).2.2 = 0
  · rw [if_pos he, he]
    rw [he] at H
    exact Signed_ok w rb v L k _ _ h H
  · have hc0 : (rdN 0 0 (L.drop k)).2.1 = 0 := by omega
    rw [if_neg he, hc0, Nat.add_zero]
    exact Signed_no w rb v L k _ _ _ h he H

/-- Bits off eight bytes. -/
def bits8 (X : List Int) : Nat := X.foldl (fun u x => u * 256 + x.toNat) 0
theorem bits8_snoc (X : List Int) (x : Int) : bits8 (X ++ [x]) = bits8 X * 256 + x.toNat := by simp [bits8]
theorem bits8_from : ∀ (X : List Int) (a : Nat), (∀ x ∈ X, 0 ≤ x ∧ x ≤ 255) → X.foldl (fun u x => u * 256 + x.toNat) a < (a + 1) * 256 ^ X.length
  | [], a, _ => by simp
  | x :: X, a, h => by
    have h1 := bits8_from X (a * 256 + x.toNat) (fun y hy => h y (List.mem_cons_of_mem _ hy))
    have h2 := h x (List.mem_cons_self ..)
    rw [List.foldl_cons, List.length_cons, Nat.pow_succ, Nat.mul_comm (256 ^ X.length) 256, ← Nat.mul_assoc]
    refine Nat.lt_of_lt_of_le h1 (Nat.mul_le_mul_right _ ?_)
    omega
theorem bits8_lt (X : List Int) (h : ∀ x ∈ X, 0 ≤ x ∧ x ≤ 255) : bits8 X < 256 ^ X.length := by
  have := bits8_from X 0 h
  simpa [bits8] using this
theorem bits8_step (X : List Int) (m : Nat) (hm : m < X.length) : bits8 (X.take (m + 1)) = bits8 (X.take m) * 256 + (X[m]?.getD 0).toNat := by
  rw [List.take_succ_eq_append_getElem hm, bits8_snoc]; simp [hm]
theorem or8 (x y : Int) (h₀ : 0 ≤ x) (h₁ : x < 72057594037927936) (h2 : 0 ≤ y) (h3 : y < 256) : bits .or .u64 (x * 256) y = x * 256 + y :=
  bits_join .u64 64 (by decide) wraps_u64 8 (x * 256) y (by omega) (by omega) (by omega) h2 (by omega) (by omega)

set_option maxHeartbeats 1600000 in
set_option maxRecDepth 1000000 in
theorem float_end (w : World) (rb : Nat) (v : Value) (L : List Int) (k : Nat) (h : Rdr w rb v L k) (hk : ¬ 8 ≤ L.length - k) : Reads 81 w rb v L k (.float .f64 0) 110 := by
  have H := next_no w rb v L k 8 h (by omega) (by decide)
  go_enter Try.func81, Try.ntmps81
  go_wp2_with (go_at_call 85; refine H.mono ?_; rintro e w1 ⟨rfl, q, rfl⟩)
  go_ret2
  exact ⟨rfl, h.drewN q, grownBy_drewN (World.grownBy.refl _ _) q⟩

/-- A float off its bits: what is answered, the error. -/
def fVal (nn : Bool) (u : Nat) : Nat := if nn && !decide (u = 9221120237041090560) then 0 else u
def fErr (nn : Bool) (u : Nat) : Nat := if nn && !decide (u = 9221120237041090560) then 111 else 0

set_option maxHeartbeats 1600000 in
set_option maxRecDepth 1000000 in
theorem float_got (w : World) (rb : Nat) (v : Value) (L : List Int) (k : Nat) (h : Rdr w rb v L k) (hk : 8 ≤ L.length - k) (u : Nat) (hu : bits8 ((L.drop k).take 8) = u) (nn : Bool) (hnn : nanB u = nn) :
    Reads 81 w rb v L (k + 8) (.float .f64 (fVal nn u)) (fErr nn u) := by
  have H := next_yes w rb v L k 8 h hk
  have hl8 : ((L.drop k).take 8).length = 8 := by simp; omega
  have hrx : ∀ x ∈ (L.drop k).take 8, 0 ≤ x ∧ x ≤ 255 := fun x hx => h.rng x (List.mem_of_mem_drop (List.mem_of_mem_take hx))
  have hu64 := bits8_lt _ hrx
  rw [hl8, hu] at hu64
  have HRX : Hid (∀ m : Nat, 0 ≤ ((L.drop k).take 8)[m]?.getD 0 ∧ ((L.drop k).take 8)[m]?.getD 0 ≤ 255) := rng_at hrx
  have HPR : Hid (∀ m, m ≤ 8 → bits8 (((L.drop k).take 8).take m) < 256 ^ m) := fun m hm => by
    have := bits8_lt (((L.drop k).take 8).take m) (fun x hx => hrx x (List.mem_of_mem_take hx))
    rw [List.length_take, hl8, Nat.min_eq_left hm] at this
    exact this
  have HST : Hid (∀ m, m < 8 → bits8 (((L.drop k).take 8).take (m + 1)) = bits8 (((L.drop k).take 8).take m) * 256 + (((L.drop k).take 8)[m]?.getD 0).toNat) := fun m hm => bits8_step _ m (by rw [hl8]; exact hm)
  have HU : Hid (bits8 (((L.drop k).take 8).take 8) = u) := by rw [List.take_of_length_le (by omega)]; exact hu
  have HN : Hid (∀ w1, Calls Try.prog 57 #[.float .f64 u] w1 fun e w' => e = .returned (.bool nn) ∧ w' = w1) := by intro w1; rw [← hnn]; exact isNaN_any u w1
  revert H HRX HPR HST HU hl8
  generalize (L.drop k).take 8 = X
  intro H hl8 HRX HPR HST HU
  have HX8 : Hid (X.length = 8) := hl8
  clear hu hnn hrx hl8
  go_enter Try.func81, Try.ntmps81
  go_wp2_with fail
  refine H.mono ?_
  rintro e w1 ⟨s, rfl, hs, hr, hg⟩
  have HG : Hid (Rdr w1 rb v L (k + 8) ∧ w.grownBy w1 (some rb)) := ⟨hr, hg⟩
  obtain ⟨b, off, c, rfl, hc⟩ : ∃ b off c, s = .slice (some ⟨b, off, none⟩) 8 c ∧ ∀ j u, (X.map encB)[j]? = some u → w1.cell? ⟨b, off + j, none⟩ = some u := by
    rcases hs with ⟨_, e0⟩ | ⟨b, off, c, e1, hc⟩
    · have := HX8.out; rw [e0] at this; simp at this
    · rw [HX8.out] at e1; exact ⟨b, off, c, e1, hc⟩
  have HC : Hid (∀ m, m < 8 → w1.cell? ⟨b, off + m, none⟩ = some (.int .u8 (X[m]?.getD 0))) := fun m hm => by
    refine hc m _ ?_
    rw [List.getElem?_map, List.getElem?_eq_getElem (by rw [HX8.out]; exact hm)]; rfl
  clear hs hc hr hg H
  go_wp2
  go_loop [6, 20] (fun x i => ∃ m : Nat, m ≤ 8 ∧ i = .int .i64 m ∧ x = .int .u64 (bits8 (X.take m))) (fun _ i => 8 - (RowKit.intOf i).toNat)
  case atStart => exact ⟨0, by omega, rfl, rfl⟩
  case round =>
    obtain ⟨m, hm, rfl, rfl⟩ := hrel
    by_cases hlt : m < 8
    · have hcm := HC.out m hlt
      have hrm := HRX.out m
      have hpm := HPR.out m hm
      have hpow : (256 : Nat) ^ m ≤ 256 ^ 7 := Nat.pow_le_pow_right (by decide) (by omega)
      have HSm : Hid (bits8 (X.take (m + 1)) = bits8 (X.take m) * 256 + (X[m]?.getD 0).toNat) := HST.out m hlt
      have hb7 : bits8 (X.take m) < 72057594037927936 := by
        have : (256 : Nat) ^ 7 = 72057594037927936 := by decide
        omega
      clear hpm hpow
      generalize X[m]?.getD 0 = y at *
      generalize bits8 (X.take m) = t at *
      have ho := or8 t y (by omega) (by omega) hrm.1 (by omega)
      go_wp2
      go_round
      case rel => exact ⟨m + 1, by omega, by go_num, num_eq (by rw [HSm.out]; omega)⟩
      case measure => simp [RowKit.intOf]; omega
    · obtain rfl : m = 8 := by omega
      rw [HU.out]
      have htn : ((u : Int)).toNat = u := by simp
      by_cases hq : u = 9221120237041090560
      · subst hq
        clear htn HU
        cases nn
        · go_wp2_with (go_at_call 57; refine (HN.out _).mono ?_; rintro e w1 ⟨rfl, rfl⟩)
          go_ret2
          exact ⟨rfl, HG.out⟩
        · go_wp2_with (go_at_call 57; refine (HN.out _).mono ?_; rintro e w1 ⟨rfl, rfl⟩)
          go_ret2
          exact ⟨rfl, HG.out⟩
      · have hq2 : ((u : Int) == 9221120237041090560) = false := by simp; omega
        have HQ : Hid (¬ u = 9221120237041090560) := hq
        clear hq HU
        cases nn
        · go_wp2_with (go_at_call 57; refine (HN.out _).mono ?_; rintro e w1 ⟨rfl, rfl⟩)
          go_ret2
          exact ⟨rfl, HG.out⟩
        · go_wp2_with (go_at_call 57; refine (HN.out _).mono ?_; rintro e w1 ⟨rfl, rfl⟩)
          go_ret2
          refine ⟨?_, HG.out⟩
          have e1 : fVal true u = 0 := by unfold fVal; simp [HQ.out]
          have e2 : fErr true u = 111 := by unfold fErr; simp [HQ.out]
          rw [e1, e2]
          rfl

/-- A float read: its bits, where the reader stands, the error. -/
def fR (L : List Int) (k : Nat) : Nat × Nat × Nat :=
  if 8 ≤ L.length - k then (fVal (nanB (bits8 ((L.drop k).take 8))) (bits8 ((L.drop k).take 8)), k + 8, fErr (nanB (bits8 ((L.drop k).take 8))) (bits8 ((L.drop k).take 8)))
  else (0, k, 110)
theorem rd_float (w : World) (rb : Nat) (v : Value) (L : List Int) (k : Nat) (h : Rdr w rb v L k) : Reads 81 w rb v L (fR L k).2.1 (.float .f64 (fR L k).1) (fR L k).2.2 := by
  unfold fR
  by_cases hk : 8 ≤ L.length - k
  · rw [if_pos hk]
    exact float_got w rb v L k h hk _ rfl _ rfl
  · rw [if_neg hk]
    exact float_end w rb v L k h hk

set_option maxHeartbeats 1600000 in
set_option maxRecDepth 1000000 in
theorem Float_ok (w : World) (rb : Nat) (v : Value) (L : List Int) (k j n : Nat) (h : Rdr w rb v L k) (H : Reads 81 w rb v L j (.float .f64 n) 0) : Reads 43 w rb v L j (.float .f64 n) 0 := by
  have h1 := h.c1
  have h2 := h.c2
  go_enter Try.func43, Try.ntmps43
  go_wp2_with (first | (go_at_call 81; refine H.out.mono ?_; rintro e w' ⟨rfl, hr, hg⟩) | go_in)
  go_ret2
  exact ⟨rfl, hr, hg⟩
set_option maxHeartbeats 1600000 in
set_option maxRecDepth 1000000 in
theorem Float_no (w : World) (rb : Nat) (v : Value) (L : List Int) (k j e n : Nat) (h : Rdr w rb v L k) (he : e ≠ 0) (H : Reads 81 w rb v L j (.float .f64 n) e) : Reads 43 w rb v L k (.float .f64 0) e := by
  have h1 := h.c1
  have h2 := h.c2
  have hne : ((e : Int) == 0) = false := by simpa using he
  go_enter Try.func43, Try.ntmps43
  go_wp2_with (first | (go_at_call 81; refine H.out.mono ?_; rintro e w' ⟨rfl, hr, hg⟩; have hr1 := hr.fr 1; have hr0 := hr.c1) | go_in)
  go_ret2
  exact ⟨rfl, hr.back hg h.le⟩

/-- Two floats, one behind the other. -/
def cR (L : List Int) (k : Nat) : (Nat × Nat) × Nat × Nat :=
  if (fR L k).2.2 ≠ 0 then (((fR L k).1, 0), (fR L k).2.1, (fR L k).2.2)
  else (((fR L k).1, (fR L (fR L k).2.1).1), (fR L (fR L k).2.1).2.1, (fR L (fR L k).2.1).2.2)

set_option maxHeartbeats 1600000 in
set_option maxRecDepth 1000000 in
theorem two_no (w : World) (rb : Nat) (v : Value) (L : List Int) (j n e : Nat) (he : e ≠ 0) (H : Reads 81 w rb v L j (.float .f64 n) e) :
    Calls Try.prog 80 #[rp rb, .func (.func 81) #[] #[]] w fun en w' => en = .returned (.tuple #[.float .f64 n, .float .f64 0, .int .i64 e]) ∧ Rdr w' rb v L j ∧ w.grownBy w' (some rb) := by
  have hne : ((e : Int) == 0) = false := by simpa using he
  go_enter Try.func80, Try.ntmps80
  go_wp2_with (go_at_call 81; refine H.out.mono ?_; rintro e w' ⟨rfl, hr, hg⟩)
  go_ret3
  exact ⟨rfl, hr, hg⟩
set_option maxHeartbeats 1600000 in
set_option maxRecDepth 1000000 in
theorem two_yes (w : World) (rb : Nat) (v : Value) (L : List Int) (j n i m e : Nat) (H : Reads 81 w rb v L j (.float .f64 n) 0) (H2 : ∀ w1, Rdr w1 rb v L j → Reads 81 w1 rb v L i (.float .f64 m) e) :
    Calls Try.prog 80 #[rp rb, .func (.func 81) #[] #[]] w fun en w' => en = .returned (.tuple #[.float .f64 n, .float .f64 m, .int .i64 e]) ∧ Rdr w' rb v L i ∧ w.grownBy w' (some rb) := by
  have HH : Hid (∀ w1, Rdr w1 rb v L j → Reads 81 w1 rb v L i (.float .f64 m) e) := H2
  clear H2
  go_enter Try.func80, Try.ntmps80
  go_wp2_with fail
  refine H.out.mono ?_
  rintro e1 w1 ⟨rfl, hr, hg⟩
  go_wp2_with fail
  refine (HH.out w1 hr).out.mono ?_
  rintro e2 w2 ⟨rfl, hr2, hg2⟩
  go_wp2
  go_ret3
  exact ⟨rfl, hr2, grownBy_trans hg hg2⟩
theorem two_any (w : World) (rb : Nat) (v : Value) (L : List Int) (k : Nat) (h : Rdr w rb v L k) :
    Calls Try.prog 80 #[rp rb, .func (.func 81) #[] #[]] w fun en w' => en = .returned (.tuple #[.float .f64 (cR L k).1.1, .float .f64 (cR L k).1.2, .int .i64 (cR L k).2.2]) ∧ Rdr w' rb v L (cR L k).2.1 ∧ w.grownBy w' (some rb) := by
  have H := rd_float w rb v L k h
  unfold cR
  by_cases he : (fR L k).2.2 = 0
  · rw [if_neg (by simpa using he)]
    rw [he] at H
    exact two_yes w rb v L _ _ _ _ _ H (fun w1 h1 => rd_float w1 rb v L _ h1)
  · rw [if_pos he]
    exact two_no w rb v L _ _ _ he H
set_option maxHeartbeats 1600000 in
set_option maxRecDepth 1000000 in
theorem complex1_any (w : World) (rb : Nat) (v : Value) (L : List Int) (j n m e : Nat)
    (H : Calls Try.prog 80 #[rp rb, .func (.func 81) #[] #[]] w fun en w' => en = .returned (.tuple #[.float .f64 n, .float .f64 m, .int .i64 e]) ∧ Rdr w' rb v L j ∧ w.grownBy w' (some rb)) :
    Reads 79 w rb v L j (.complex .f64 n m) e := by
  go_enter Try.func79, Try.ntmps79
  go_wp2_with (go_at_call 80; refine H.mono ?_; rintro e w' ⟨rfl, hr, hg⟩)
  go_ret2
  exact ⟨rfl, hr, hg⟩
set_option maxHeartbeats 1600000 in
set_option maxRecDepth 1000000 in
theorem Complex_ok (w : World) (rb : Nat) (v : Value) (L : List Int) (k j n m : Nat) (h : Rdr w rb v L k) (H : Reads 79 w rb v L j (.complex .f64 n m) 0) : Reads 38 w rb v L j (.complex .f64 n m) 0 := by
  have h1 := h.c1
  have h2 := h.c2
  go_enter Try.func38, Try.ntmps38
  go_wp2_with (first | (go_at_call 79; refine H.out.mono ?_; rintro e w' ⟨rfl, hr, hg⟩) | go_in)
  go_ret2
  exact ⟨rfl, hr, hg⟩
set_option maxHeartbeats 1600000 in
set_option maxRecDepth 1000000 in
theorem Complex_no (w : World) (rb : Nat) (v : Value) (L : List Int) (k j e n m : Nat) (h : Rdr w rb v L k) (he : e ≠ 0) (H : Reads 79 w rb v L j (.complex .f64 n m) e) : Reads 38 w rb v L k (.complex .f64 0 0) e := by
  have h1 := h.c1
  have h2 := h.c2
  have hne : ((e : Int) == 0) = false := by simpa using he
  go_enter Try.func38, Try.ntmps38
  go_wp2_with (first | (go_at_call 79; refine H.out.mono ?_; rintro e w' ⟨rfl, hr, hg⟩; have hr1 := hr.fr 1; have hr0 := hr.c1) | go_in)
  go_ret2
  exact ⟨rfl, hr.back hg h.le⟩
theorem rd_complex (w : World) (rb : Nat) (v : Value) (L : List Int) (k : Nat) (h : Rdr w rb v L k) : Reads 79 w rb v L (cR L k).2.1 (.complex .f64 (cR L k).1.1 (cR L k).1.2) (cR L k).2.2 :=
  complex1_any w rb v L _ _ _ _ (two_any w rb v L k h)
end Go.Proofs.Ytanbnefdodkniaa
