/-
  The document's Pow.
-/
import Derived.Test.YtjenbicaepldlaaGreatDoorTiw
import Derived.Test.YtjenbicaepldlaaGreatDoorRrt
import Derived.Test.YtjenbicaepldlaaGreatDoorRga
import Derived.Test.YtjenbicaepldlaaGreatDoorDwt
namespace Go.Proofs.YtjenbicaepldlaaGreatDoor
open Go.RowKit Go.Lib Go.Sort

theorem and_i64_nat (a b : Nat) (ha : a < 9223372036854775808) (hb : b < 9223372036854775808) : bits .and .i64 (a : Int) (b : Int) = ((a &&& b : Nat) : Int) := by
  have key : (BitVec.ofInt 64 (a : Int) &&& BitVec.ofInt 64 (b : Int)).toNat = a &&& b := by
    rw [BitVec.toNat_and, BitVec.toNat_ofInt, BitVec.toNat_ofInt]
    congr 1 <;> omega
  show IntKind.i64.wrap ((BitVec.ofInt 64 (a : Int) &&& BitVec.ofInt 64 (b : Int)).toNat : Nat) = _
  rw [key, IntKind.wrap_i64]
  have := Nat.and_le_left (n := a) (m := b)
  omega
theorem and_bit (n k : Nat) : n &&& 2 ^ k = n / 2 ^ k % 2 * 2 ^ k := by
  have h1 : (n &&& 2 ^ k) / 2 ^ k = n / 2 ^ k % 2 := by
    rw [Nat.and_div_two_pow, Nat.div_self (Nat.two_pow_pos k), show (1 : Nat) = 2 ^ 1 - 1 by decide, Nat.and_two_pow_sub_one_eq_mod]
  have h2 : (n &&& 2 ^ k) % 2 ^ k = 0 := by rw [Nat.and_mod_two_pow, Nat.mod_self, Nat.and_zero]
  have h3 := Nat.div_add_mod (n &&& 2 ^ k) (2 ^ k)
  rw [h1, h2] at h3
  rw [← h3, Nat.mul_comm, Nat.add_zero]

theorem isz_val {x : Int} {n1 : Bool} {m1 : ByteArray} (h1 : IsZ x n1 m1) : num n1 m1 = x := h1.num
/-- The document's product of two numbers, by their values. -/
theorem rTimes_isz {x y : Int} {n1 n2 : Bool} {m1 m2 : ByteArray} (h1 : IsZ x n1 m1) (h2 : IsZ y n2 m2) (l1 : m1.size ≤ 100000) (l2 : m2.size ≤ 100000) (w : World) :
    Calls Tryz.prog 70 #[whole n1 m1, whole n2 m2] w fun e w' => ∃ n s, e = .returned (whole n s) ∧ IsZ (x * y) n s ∧ w.grownBy w' none := by
  refine (rTimes_wide n1 n2 m1 m2 l1 l2 w).mono ?_
  rintro e w' ⟨s, rfl, hs, hg⟩
  refine ⟨_, s, rfl, ?_, hg⟩
  rw [← h1.num, ← h2.num]
  have ha : (num n1 m1 * num n2 m2).natAbs = val (bN m1) * val (bN m2) := by
    rw [Int.natAbs_mul]
    cases n1 <;> cases n2 <;> simp [num_f, num_t]
  refine ⟨?_, by rw [ha]; exact hs⟩
  obtain ⟨P, hP⟩ : ∃ P, val (bN m1) * val (bN m2) = P := ⟨_, rfl⟩
  have hPI : ((val (bN m1) : Nat) : Int) * ((val (bN m2) : Nat) : Int) = (P : Int) := by rw [← hP]; simp
  rw [hP]
  cases n1 <;> cases n2
  · rw [num_f, num_f, hPI]; simp
  · rw [num_f, num_t, Int.mul_neg, hPI]
    exact (Bool.true_and _).trans (decide_eq_decide.2 (by omega))
  · rw [num_t, num_f, Int.neg_mul, hPI]
    exact (Bool.true_and _).trans (decide_eq_decide.2 (by omega))
  · rw [num_t, num_t, Int.neg_mul_neg, hPI]; simp
/-- What stands while Pow goes. -/
def PwI (w : World) (Bo : Nat) (neg : Bool) (mag : ByteArray) (Z : Int) (wx : World) : Prop :=
  (∃ ob os, WBlk wx Bo (.bool ob) (.string os) ∧ IsZ Z ob os) ∧ WBlk wx w.heap.size (.bool neg) (.string mag) ∧ WBlk wx (w.heap.size + 1) (.bool false) (.string eS) ∧ w.grownBy wx none
theorem PwI.put {w wx wy : World} {Bo : Nat} {neg : Bool} {mag : ByteArray} {Z Z' : Int} {b : Bool} {s : ByteArray} (h : PwI w Bo neg mag Z wx) (hB : w.heap.size + 1 < Bo) (hg : wx.grownBy wy none) (hz : IsZ Z' b s) :
    PwI w Bo neg mag Z' ((wy.setCell ⟨Bo, 0, none⟩ (.bool b)).setCell ⟨Bo, 1, none⟩ (.string s)) := by
  obtain ⟨⟨ob, os, h1, _⟩, h2, h3, h4⟩ := h
  exact ⟨⟨b, s, (h1.kept hg (by simp)).put _ _, hz⟩, ((h2.kept hg (by simp)).other (by omega)).other (by omega), ((h3.kept hg (by simp)).other (by omega)).other (by omega), grown_set (grown_set (grownBy_trans h4 hg) (by omega)) (by omega)⟩

set_option maxHeartbeats 3200000 in
set_option maxRecDepth 1000000 in
theorem rPow_loop (neg : Bool) (mag : ByteArray) (n : Nat) (w : World) (h0 : 0 < n) (hn : n ≤ 20000) (hm0 : (mag.toList == []) = false) (hm1 : (mag.toList == [1]) = false) (hmz : IsZ (num neg mag) neg mag)
    (hsz : ∀ j, j ≤ n → ∀ b s, IsZ (num neg mag ^ j) b s → s.size ≤ 100000) (hms : mag.size ≤ 100000) :
    Calls Tryz.prog 26 #[whole neg mag, .int .i64 (n : Int)] w fun e w' => ∃ b s, e = .returned (whole b s) ∧ IsZ (num neg mag ^ n) b s ∧ w.grownBy w' none := by
  have hnI : (n : Int) ≤ 20000 := by omega
  have hn0 : (0 : Int) < (n : Int) := by omega
  have HOF : Hid (∀ W : World, Calls Tryz.prog 61 #[.int .i64 1] W fun e w' => ∃ s, e = .returned (whole false s) ∧ IsZ 1 false s ∧ W.grownBy w' none) := fun W => by
    refine (rOf_any 1 (by omega) (by omega) W).mono ?_
    rintro e w' ⟨s, rfl, hs, g⟩
    exact ⟨s, rfl, ⟨rfl, hs⟩, g⟩
  have HSZ : Hid ((∀ j, j ≤ n → ∀ b s, IsZ (num neg mag ^ j) b s → s.size ≤ 100000) ∧ IsZ (num neg mag) neg mag ∧ mag.size ≤ 100000 ∧ n ≤ 20000) := ⟨hsz, hmz, hms, hn⟩
  clear hsz hmz hms hn h0
  obtain ⟨Z, hZ⟩ : ∃ Z, num neg mag = Z := ⟨_, rfl⟩
  rw [hZ] at HSZ ⊢
  clear hZ
  go_enter Tryz.func26, Tryz.ntmps26
  go_wp2_with fail
  refine (HOF.out _).mono ?_
  rintro e w1 ⟨s1, rfl, hs1, g1⟩
  have HI0 : Hid (PwI w w1.heap.size neg mag (Z ^ (n / 2 ^ 21)) (w1.alloc (wObj false s1)) ∧ w.heap.size + 1 < w1.heap.size) := by
    have hsz := g1.size
    simp at hsz
    have e0 : n / 2 ^ 21 = 0 := Nat.div_eq_of_lt (by have := HSZ.out.2.2.2; omega)
    obtain ⟨hA, hR⟩ := blksP (grownBy_trans g1 (grow1 w1 (wObj false s1)))
    refine ⟨⟨⟨false, s1, heap_alloc_new _ _, by rw [e0, Int.pow_zero]; exact hs1⟩, hA, hR, grownBy_trans (grow2 _ _ _) (grownBy_trans g1 (grow1 _ _))⟩, by omega⟩
  clear hs1 g1 HOF
  go_wp2_with fail
  go_loopg [6] 21 (fun g s6 wx => s6 = .int .i64 ((if g = 0 then 0 else 2 ^ (g - 1) : Nat) : Int) ∧ g ≤ 21 ∧ PwI w w1.heap.size neg mag (Z ^ (n / 2 ^ g)) wx)
  case atStart => exact ⟨rfl, by omega, HI0.out.1⟩
  case round =>
    obtain ⟨rfl, hg21, hI⟩ := hrel
    have HI : Hid (PwI w w1.heap.size neg mag (Z ^ (n / 2 ^ gk)) wr ∧ w.heap.size + 1 < w1.heap.size) := ⟨hI, HI0.out.2⟩
    clear hI HI0
    cases gk with
    | zero =>
      simp only [if_true]
      obtain ⟨⟨⟨ob, os, h1, h2⟩, h3, h4, h5⟩, h6⟩ := HI.out
      have HE : Hid (IsZ (Z ^ n) ob os ∧ w.grownBy wr none ∧ WBlk wr (w.heap.size + 1) (.bool false) (.string eS)) := ⟨by simpa using h2, h5, h4⟩
      have o0 := h1.c0
      have o1 := h1.c1
      have c0 := h4.c0
      have c1 := h4.c1
      have c2 := h4.fr 0
      have c3 := h4.fr 1
      clear h1 h2 h3 h4 h5 h6 HI hg21
      go_wp2_with fail
      refine bodyPost_ret (res_cell rfl _ _ (w.heap.size + 1) _ _ _ _ rfl (HE.out.2.2.put _ _)) rfl ?_
      exact ⟨ob, os, rfl, HE.out.1, grown_set (grown_set HE.out.2.1 (by omega)) (by omega)⟩
    | succ k =>
      rw [if_neg (by omega), Nat.add_sub_cancel]
      obtain ⟨T, hT⟩ : ∃ T, n / 2 ^ k = T := ⟨_, rfl⟩
      have hTn : T ≤ n := by rw [← hT]; exact Nat.div_le_self _ _
      have hTh : n / 2 ^ (k + 1) = T / 2 := by rw [← hT, Nat.pow_succ, Nat.div_div_eq_div_mul]
      have hk20 : 2 ^ k ≤ 1048576 := by
        have : (2 : Nat) ^ k ≤ 2 ^ 20 := Nat.pow_le_pow_right (by decide) (by omega)
        have e : (2 : Nat) ^ 20 = 1048576 := by decide
        omega
      have hkp := Nat.two_pow_pos k
      have hband : bits .and .i64 (n : Int) ((2 ^ k : Nat) : Int) = ((T % 2 * 2 ^ k : Nat) : Int) := by
        rw [and_i64_nat n _ (by have := HSZ.out.2.2.2; omega) (by omega), and_bit, hT]
      have HH : Hid (2 ^ k / 2 = if k = 0 then 0 else 2 ^ (k - 1)) := half_pow k
      rw [hTh] at HI
      have HT : Hid (n / 2 ^ k = T ∧ T ≤ n ∧ k ≤ 20) := ⟨hT, hTn, by omega⟩
      obtain ⟨b2, hb2⟩ : ∃ b2, 2 ^ k = b2 := ⟨_, rfl⟩
      rw [hb2] at hband hk20 hkp HH ⊢
      have hbI : (0 : Int) < (b2 : Int) := by omega
      have hbI2 : (b2 : Int) ≤ 1048576 := by omega
      obtain ⟨⟨⟨ob, os, h1, h2⟩, h3, h4, h5⟩, h6⟩ := HI.out
      have HTm : Hid (Calls Tryz.prog 70 #[whole ob os, whole ob os] wr fun e w' => ∃ n s, e = .returned (whole n s) ∧ IsZ (Z ^ (T / 2 + T / 2)) n s ∧ wr.grownBy w' none) := by
        have hs := HSZ.out.1 (T / 2) (by omega) ob os h2
        have := rTimes_isz h2 h2 hs hs wr
        rw [← Int.pow_add] at this
        exact this
      have o0 := h1.c0
      have o1 := h1.c1
      clear hg21 hT hTn hTh hk20 hkp hb2 h2 h3 h4 h5 h6
      go_wp2_with fail
      refine HTm.out.mono ?_
      rintro e w2 ⟨nb, ns, rfl, hz2, g2⟩
      have HI2 : Hid (PwI w w1.heap.size neg mag (Z ^ (T / 2 + T / 2)) ((w2.setCell ⟨w1.heap.size, 0, none⟩ (.bool nb)).setCell ⟨w1.heap.size, 1, none⟩ (.string ns)) ∧ IsZ (Z ^ (T / 2 + T / 2)) nb ns) := ⟨HI.out.1.put HI.out.2 g2 hz2, hz2⟩
      have h1b := h1.kept g2 (by simp)
      have q0 := h1b.c0
      have q1 := h1b.c1
      have q2 := h1b.fr 0
      have q3 := h1b.fr 1
      have hA2 := HI.out.1.2.1.kept g2 (by simp)
      have a0 := hA2.c0
      have a1 := hA2.c1
      have hne : w1.heap.size ≠ w.heap.size := by have := HI.out.2; omega
      have hne2 : w.heap.size ≠ w1.heap.size := by have := HI.out.2; omega
      clear h1 o0 o1 hz2 g2 HTm hA2
      rcases Nat.mod_two_eq_zero_or_one T with hp | hp
      · rw [hp, Nat.zero_mul] at hband
        have HP : Hid (T % 2 = 0) := hp
        clear hp
        go_wp2_with fail
        go_roundg k
        case measure => omega
        case rel =>
          refine ⟨by rw [← HH.out]; rfl, by have := HT.out.2.2; omega, ?_⟩
          have := HI2.out.1
          rw [HT.out.1, show T = T / 2 + T / 2 by have := HP.out; omega]
          exact this
      · rw [hp, Nat.one_mul] at hband
        have HP : Hid (T % 2 = 1) := hp
        clear hp
        have HTm2 : Hid (∀ W : World, Calls Tryz.prog 70 #[whole nb ns, whole neg mag] W fun e w' => ∃ n s, e = .returned (whole n s) ∧ IsZ (Z ^ T) n s ∧ W.grownBy w' none) := fun W => by
          have hs := HSZ.out.1 (T / 2 + T / 2) (by have := HT.out.2.1; omega) nb ns HI2.out.2
          have := rTimes_isz HI2.out.2 HSZ.out.2.1 hs HSZ.out.2.2.1 W
          rw [← Int.pow_succ, show (T / 2 + T / 2).succ = T by have := HP.out; omega] at this
          exact this
        have hb0 : ((b2 : Int) == 0) = false := by rw [beq_eq_false_iff_ne]; omega
        go_wp2_with fail
        refine (HTm2.out _).mono ?_
        rintro e w3 ⟨mb, ms, rfl, hz3, g3⟩
        have HI3 : Hid (PwI w w1.heap.size neg mag (Z ^ T) ((w3.setCell ⟨w1.heap.size, 0, none⟩ (.bool mb)).setCell ⟨w1.heap.size, 1, none⟩ (.string ms))) := HI2.out.1.put HI.out.2 g3 hz3
        obtain ⟨⟨ob3, os3, h31, _⟩, _⟩ := HI2.out.1
        have h1c := h31.kept g3 (by simp)
        have r0 := h1c.c0
        have r1 := h1c.c1
        have r2 := h1c.fr 0
        have r3 := h1c.fr 1
        clear hz3 g3 q0 q1 q2 q3 a0 a1 h31
        go_wp2_with fail
        go_roundg k
        case measure => omega
        case rel =>
          refine ⟨by rw [← HH.out]; rfl, by have := HT.out.2.2; omega, ?_⟩
          rw [HT.out.1]
          exact HI3.out
set_option maxHeartbeats 1600000 in
set_option maxRecDepth 1000000 in
theorem rPow_zero (neg : Bool) (mag : ByteArray) (w : World) :
    Calls Tryz.prog 26 #[whole neg mag, .int .i64 0] w fun e w' => ∃ b s, e = .returned (whole b s) ∧ IsZ 1 b s ∧ w.grownBy w' none := by
  have HOF : Hid (∀ W : World, Calls Tryz.prog 61 #[.int .i64 1] W fun e w' => ∃ s, e = .returned (whole false s) ∧ IsZ 1 false s ∧ W.grownBy w' none) := fun W => by
    refine (rOf_any 1 (by omega) (by omega) W).mono ?_
    rintro e w' ⟨s, rfl, hs, g⟩
    exact ⟨s, rfl, ⟨rfl, hs⟩, g⟩
  go_enter Tryz.func26, Tryz.ntmps26
  go_wp2_with fail
  refine (HOF.out _).mono ?_
  rintro e w1 ⟨s1, rfl, hs1, g1⟩
  have HZ : Hid (IsZ 1 false s1) := hs1
  obtain ⟨_, hR⟩ := blksP g1
  have HG : Hid (w.grownBy w1 none) := grownBy_trans (grow2 _ _ _) g1
  have c0 := hR.c0
  have c1 := hR.c1
  have c2 := hR.fr 0
  have c3 := hR.fr 1
  clear hs1 g1
  go_wp2_with fail
  refine bodyPost_ret (res_cell rfl _ _ (w.heap.size + 1) _ _ _ _ rfl (hR.put _ _)) rfl ?_
  exact ⟨false, s1, rfl, HZ.out, grown_set (grown_set HG.out (by omega)) (by omega)⟩
set_option maxHeartbeats 1600000 in
set_option maxRecDepth 1000000 in
theorem rPow_none (neg : Bool) (mag : ByteArray) (n : Nat) (hn0 : 0 < n) (hn : n < 9223372036854775808) (hm : (mag.toList == []) = true) (w : World) :
    Calls Tryz.prog 26 #[whole neg mag, .int .i64 (n : Int)] w fun e w' => e = .returned (whole neg mag) ∧ w.grownBy w' none := by
  have hnI : (n : Int) ≤ 9223372036854775807 := by omega
  have hn1 : (0 : Int) < (n : Int) := by omega
  clear hn0 hn
  go_enter Tryz.func26, Tryz.ntmps26
  go_wp2_with fail
  refine bodyPost_ret (res_cell rfl _ _ (w.heap.size + 1) _ _ _ _ rfl (heap_alloc2_new _ _ _)) rfl ?_
  exact ⟨rfl, grow2 _ _ _⟩
set_option maxHeartbeats 1600000 in
set_option maxRecDepth 1000000 in
theorem rPow_one (neg : Bool) (mag : ByteArray) (n : Nat) (hn0 : 0 < n) (hn : n < 9223372036854775808) (hm : (mag.toList == []) = false) (hm1 : (mag.toList == [1]) = true) (w : World) :
    Calls Tryz.prog 26 #[whole neg mag, .int .i64 (n : Int)] w fun e w' => e = .returned (whole (neg && decide (n % 2 = 1)) mag) ∧ w.grownBy w' none := by
  have hnI : (n : Int) ≤ 9223372036854775807 := by omega
  have hn1 : (0 : Int) < (n : Int) := by omega
  clear hn0 hn
  cases neg
  · go_enter Tryz.func26, Tryz.ntmps26
    go_wp2_with fail
    refine bodyPost_ret (res_cell rfl _ _ (w.heap.size + 1) _ _ _ _ rfl (heap_alloc2_new _ _ _)) rfl ?_
    exact ⟨rfl, grow2 _ _ _⟩
  · have HB : Hid (((n : Int) % 2 == 1) = decide (n % 2 = 1)) := by
      rcases Nat.mod_two_eq_zero_or_one n with h | h
      · rw [decide_eq_false (by omega), show (n : Int) % 2 = 0 by omega]; rfl
      · rw [decide_eq_true h, show (n : Int) % 2 = 1 by omega]; rfl
    go_enter Tryz.func26, Tryz.ntmps26
    go_wp2_with fail
    refine bodyPost_ret (res_cell rfl _ _ (w.heap.size + 1) _ _ _ _ rfl (heap_alloc2_new _ _ _)) rfl ?_
    refine ⟨?_, grow2 _ _ _⟩
    rw [Bool.true_and, ← HB.out]

theorem pow_size {neg : Bool} {mag : ByteArray} {n : Nat} (h : mag.size * n ≤ 20000) : ∀ j, j ≤ n → ∀ b s, IsZ (num neg mag ^ j) b s → s.size ≤ 100000 := by
  intro j hj b s hz
  rw [isZ_size hz]
  have h1 : (num neg mag ^ j).natAbs = (num neg mag).natAbs ^ j := Int.natAbs_pow _ _
  have h2 := num_lt neg mag
  have h3 : (num neg mag).natAbs ^ j ≤ (256 ^ mag.size) ^ j := Nat.pow_le_pow_left (Nat.le_of_lt h2) j
  rw [← Nat.pow_mul] at h3
  have h4 : mag.size * j ≤ 20000 := Nat.le_trans (Nat.mul_le_mul_left _ hj) h
  obtain ⟨E, hE⟩ : ∃ E, E = 20001 := ⟨_, rfl⟩
  have h5 : 256 ^ (mag.size * j) < 256 ^ E := Nat.pow_lt_pow_right (by decide) (by omega)
  have h6 := bl_of_lt (show (num neg mag ^ j).natAbs < 256 ^ E by rw [h1]; exact Nat.lt_of_le_of_lt h3 h5)
  omega
theorem one_val {mag : ByteArray} (h : (mag.toList == [1]) = true) : val (bN mag) = 1 ∧ bN mag = [1] := by
  have e := eq_of_beq h
  rw [ByteArray.toList_eq] at e
  have : bN mag = [1] := by unfold bN; rw [e]; rfl
  exact ⟨by rw [this]; rfl, this⟩

/-- The document's Pow, where it is asked. -/
theorem rPow_z (neg : Bool) (mag : ByteArray) (h : may neg mag = true) (n : Nat) (hn : n < 9223372036854775808) (hc : n = 0 ∨ mag.size = 0 ∨ (mag.toList == [1]) = true ∨ mag.size * n ≤ 20000) (w : World) :
    Calls Tryz.prog 26 #[whole neg mag, .int .i64 (n : Int)] w fun e w' => ∃ b s, e = .returned (whole b s) ∧ IsZ (num neg mag ^ n) b s ∧ w.grownBy w' none := by
  by_cases h0 : n = 0
  · subst h0
    have := rPow_zero neg mag w
    rw [Int.pow_zero]
    exact this
  · by_cases hs : mag.size = 0
    · have he : (mag.toList == []) = true := empty_b hs
      refine (rPow_none neg mag n (by omega) hn he w).mono ?_
      rintro e w' ⟨rfl, hg⟩
      refine ⟨neg, mag, rfl, ?_, hg⟩
      obtain rfl := empty_of_size hs
      obtain rfl := may_empty h
      have e1 : num false ByteArray.empty = 0 := rfl
      rw [e1, Int.zero_pow h0]
      exact ⟨rfl, by simp [magN_zero, bN]⟩
    · have he := nonempty_b hs
      cases h1 : (mag.toList == [1])
      · have hb : mag.size * n ≤ 20000 := by
          rcases hc with k | k | k | k
          · exact absurd k h0
          · exact absurd k hs
          · rw [h1] at k; cases k
          · exact k
        have hn2 : n ≤ 20000 := Nat.le_trans (Nat.le_mul_of_pos_left n (by omega)) hb
        exact rPow_loop neg mag n w (by omega) hn2 he h1 (may_isz h) (pow_size hb) (by have := may_size h; omega)
      · obtain ⟨v1, v2⟩ := one_val h1
        refine (rPow_one neg mag n (by omega) hn he h1 w).mono ?_
        rintro e w' ⟨rfl, hg⟩
        refine ⟨_, mag, rfl, ?_, hg⟩
        have hm1 : magN 1 = [1] := by rw [magN_pos (by omega), magN_zero]; rfl
        rw [num_pow, v1, Nat.one_pow]
        cases neg
        · exact ⟨by simp, by rw [v2]; simpa using hm1.symm⟩
        · rcases Nat.mod_two_eq_zero_or_one n with k | k
          · rw [k]; exact ⟨by simp, by rw [v2]; simpa using hm1.symm⟩
          · rw [k]; exact ⟨by simp, by rw [v2]; simpa using hm1.symm⟩

set_option maxHeartbeats 1600000 in
set_option maxRecDepth 1000000 in
theorem vast_any (neg : Bool) (mag : ByteArray) (h : may neg mag = true) (n : Int) (w : World) :
    Calls Tryz.prog 25 #[whole neg mag, .int .i64 n] w fun e w' => e = .returned (.bool (decide (1 < bl (val (bN mag))) && decide (((131072 / (bl (val (bN mag)) - 1) : Nat) : Int) < n))) ∧ w.grownBy w' none := by
  have HBi : Hid (∀ w, Calls Tryz.prog 69 #[whole neg mag] w fun e w' => e = .returned (.int .i64 (bl (val (bN mag)))) ∧ w.grownBy w' none) := rBits_any neg mag h
  have hbm := (bl_max h 131072 rfl).2
  obtain ⟨b, hb⟩ : ∃ b, bl (val (bN mag)) = b := ⟨_, rfl⟩
  rw [hb] at HBi hbm ⊢
  have hbI : (b : Int) ≤ 131072 := by omega
  clear h hb
  rcases Nat.lt_or_ge 1 b with h1 | h1
  · obtain ⟨c, rfl⟩ : ∃ c, b = c + 1 := ⟨b - 1, by omega⟩
    have hcI : (0 : Int) < (c : Int) := by omega
    obtain ⟨Q, hQ⟩ : ∃ Q, 131072 / c = Q := ⟨_, rfl⟩
    have hQI : (131072 : Int) / (c : Int) = (Q : Int) := by rw [← hQ]; rfl
    rw [decide_eq_true h1, Bool.true_and, Nat.add_sub_cancel, hQ]
    clear h1 hQ hbm
    go_enter Tryz.func25, Tryz.ntmps25
    go_wp2_with fail
    refine (HBi.out _).mono ?_
    rintro e w1 ⟨rfl, g1⟩
    have HG : Hid (w.grownBy w1 none) := grownBy_trans (grow1 _ _) g1
    clear g1
    go_wp2_with fail
    all_goals (go_ret; exact ⟨rfl, HG.out⟩)
  · have hb1 : (b : Int) ≤ 1 := by omega
    rw [decide_eq_false (by omega), Bool.false_and]
    clear h1 hbm
    go_enter Tryz.func25, Tryz.ntmps25
    go_wp2_with fail
    refine (HBi.out _).mono ?_
    rintro e w1 ⟨rfl, g1⟩
    have HG : Hid (w.grownBy w1 none) := grownBy_trans (grow1 _ _) g1
    clear g1
    go_wp2_with fail
    all_goals (go_ret; exact ⟨rfl, HG.out⟩)
end Go.Proofs.YtjenbicaepldlaaGreatDoor
