/-
  WholeRoots of any number and any n.
-/
import Derived.Test.YtjenbicaepldlaaGreatDoorRts
import Derived.Test.YtjenbicaepldlaaGreatDoorRtu
import Derived.Test.YtjenbicaepldlaaGreatDoorRtv
namespace Go.Proofs.YtjenbicaepldlaaGreatDoor
open Go.RowKit Go.Lib Go.Sort

theorem root_ex (V : Nat) : ∃ r, r * r ≤ V ∧ V < (r + 1) * (r + 1) := by
  induction V with
  | zero => exact ⟨0, by omega, by omega⟩
  | succ V ih =>
    obtain ⟨r, h1, h2⟩ := ih
    rcases Nat.lt_or_ge (V + 1) ((r + 1) * (r + 1)) with k | k
    · exact ⟨r, by omega, k⟩
    · refine ⟨r + 1, by omega, ?_⟩
      have e : (r + 1 + 1) * (r + 1 + 1) = (r + 1) * (r + 1) + 2 * (r + 1) + 1 := by grind
      omega
theorem str_mag (n : Nat) : bN (strOf (ints (magN n))) = magN n := bN_strOf _ (magN_rng _)

/-- The program's and the document's root of a number that is not below 0: one answer. -/
theorem root_pack (mag : ByteArray) (h : may false mag = true) {r : Nat} (h1 : r * r ≤ val (bN mag)) (h2 : val (bN mag) < (r + 1) * (r + 1)) :
    Hid (∀ w, Calls Tryz.prog 21 #[whole false mag] w fun e w' => e = .returned (.tuple #[whole false (strOf (ints (magN r))), whole false (strOf (ints (magN (val (bN mag) - r * r)))), .int .i64 0]) ∧ w.grownBy w' none) ∧
    Hid (∀ w, Calls Tryz.prog 24 #[whole false mag] w fun e w' => e = .returned (.tuple #[whole false (strOf (ints (magN r))), whole false (strOf (ints (magN (val (bN mag) - r * r))))]) ∧ w.grownBy w' none) := by
  refine ⟨fun w => ?_, fun w => ?_⟩
  · refine (root_yes mag h w).mono ?_
    rintro e w' ⟨⟨r', s, s', rfl, k1, k2, k3, k4⟩, hg⟩
    obtain rfl := root_one k1 k2 h1 h2
    rw [bN_inj (k3.trans (str_mag _).symm), bN_inj (k4.trans (str_mag _).symm)]
    exact ⟨rfl, hg⟩
  · refine (rRoot_any mag h w).mono ?_
    rintro e w' ⟨⟨r', s, s', rfl, k1, k2, k3, k4⟩, hg⟩
    obtain rfl := root_one k1 k2 h1 h2
    rw [bN_inj (k3.trans (str_mag _).symm), bN_inj (k4.trans (str_mag _).symm)]
    exact ⟨rfl, hg⟩

theorem pow_bl {neg : Bool} {mag : ByteArray} {n : Nat} (hc : n = 0 ∨ mag.size = 0 ∨ (mag.toList == [1]) = true ∨ mag.size * n ≤ 20000) : bl (num neg mag ^ n).natAbs ≤ 10000000 := by
  have h1 : (num neg mag ^ n).natAbs = val (bN mag) ^ n := by
    rw [num_pow]
    split <;> simp
  rw [h1]
  have small : ∀ {x : Nat}, x ≤ 1 → bl x ≤ 10000000 := fun {x} hx => Nat.le_trans (bl_mono hx) (by decide)
  rcases hc with k | k | k | k
  · subst k; exact small (by simp)
  · obtain rfl := empty_of_size k
    have e : val (bN ByteArray.empty) = 0 := rfl
    rw [e]
    exact small (Nat.le_trans (Nat.pow_le_pow_left (show 0 ≤ 1 by omega) n) (by simp))
  · rw [(one_val k).1]
    exact small (by simp)
  · have h2 : val (bN mag) < 256 ^ mag.size := by
      have := num_lt false mag
      rw [num_f, Int.natAbs_natCast] at this
      exact this
    have h3 : val (bN mag) ^ n ≤ (256 ^ mag.size) ^ n := Nat.pow_le_pow_left (Nat.le_of_lt h2) n
    rw [← Nat.pow_mul] at h3
    obtain ⟨E, hE⟩ : ∃ E, E = 20001 := ⟨_, rfl⟩
    have h5 : 256 ^ (mag.size * n) < 256 ^ E := Nat.pow_lt_pow_right (by decide) (by omega)
    have h6 := bl_of_lt (Nat.lt_of_le_of_lt h3 h5)
    omega

/-- Powers: the program's answer, the document's, and that they are the same. -/
theorem pow_pack (neg : Bool) (mag : ByteArray) (h : may neg mag = true) (n : Nat) (hn : n < 9223372036854775808) (hc : n = 0 ∨ mag.size = 0 ∨ (mag.toList == [1]) = true ∨ mag.size * n ≤ 20000) :
    ∃ (pb tb : Bool) (pm tm : ByteArray) (pe : Int), Hid (∀ w, Calls Tryz.prog 26 #[whole neg mag, .int .i64 (n : Int)] w fun e w' => e = .returned (whole tb tm) ∧ w.grownBy w' none) ∧
      Hid (∀ w, Calls Tryz.prog 15 #[whole pb pm, .int .i64 pe, whole tb tm] w fun e w' => e = .returned (.bool true) ∧ w.grownBy w' none) ∧
      Hid (∀ w, Calls Tryz.prog 23 #[whole neg mag, .int .i64 (n : Int)] w fun e w' => e = .returned (.tuple #[whole pb pm, .int .i64 pe]) ∧ w.grownBy w' none) := by
  obtain ⟨tb, tm, ht⟩ := isZ_ex (num neg mag ^ n)
  obtain ⟨pb, pm, pe, hzr⟩ : ∃ pb pm pe, ZRes (num neg mag ^ n) (.returned (.tuple #[whole pb pm, .int .i64 pe])) := by
    rcases Nat.lt_or_ge 131072 (bl (num neg mag ^ n).natAbs) with k | k
    · exact ⟨false, eS, 4, .inr ⟨k, rfl⟩⟩
    · exact ⟨tb, tm, 0, .inl ⟨k, tb, tm, rfl, ht⟩⟩
  refine ⟨pb, tb, pm, tm, pe, fun w => ?_, fun w => is_yes hzr ht (pow_bl hc) w, fun w => ?_⟩
  · refine (rPow_z neg mag h n hn hc w).mono ?_
    rintro e w' ⟨b, s, rfl, hz, hg⟩
    obtain ⟨rfl, rfl⟩ := isZ_same ht hz
    exact ⟨rfl, hg⟩
  · refine (pow_yes neg mag h n hn w).mono ?_
    rintro e w' ⟨hz, hg⟩
    refine ⟨?_, hg⟩
    rcases hz with ⟨k, b, s, rfl, hz⟩ | ⟨k, rfl⟩
    · rcases hzr with ⟨_, b0, s0, e0, hz0⟩ | ⟨k0, _⟩
      · obtain ⟨rfl, rfl⟩ := isZ_same hz0 hz
        exact e0.symm
      · omega
    · rcases hzr with ⟨k0, _⟩ | ⟨_, e0⟩
      · omega
      · exact e0.symm

/-- What is the same whatever the root is: five ways on. -/
theorem pow_ways (neg : Bool) (mag : ByteArray) (h : may neg mag = true) (n : Int) (h0 : -9223372036854775808 ≤ n) (h1 : n ≤ 9223372036854775807) (Goal : Prop)
    (g1 : n < 0 → Hid (∀ w, Calls Tryz.prog 23 #[whole neg mag, .int .i64 n] w fun e w' => e = .returned (.tuple #[whole false eS, .int .i64 2]) ∧ w.grownBy w' none) → Goal)
    (g3 : 0 < n → Hid (∀ w, Calls Tryz.prog 23 #[whole neg mag, .int .i64 n] w fun e w' => e = .returned (.tuple #[whole false eS, .int .i64 4]) ∧ w.grownBy w' none) → Hid (∀ w, Calls Tryz.prog 25 #[whole neg mag, .int .i64 n] w fun e w' => e = .returned (.bool true) ∧ w.grownBy w' none) → Goal)
    (g4 : 0 < n → (mag.toList == []) = false → (mag.toList == [1]) = false → ∀ {Q m : Int}, (mag.size : Int) = m → 0 < m → 20000 / m = Q → Q < n → Hid (∀ w, Calls Tryz.prog 25 #[whole neg mag, .int .i64 n] w fun e w' => e = .returned (.bool false) ∧ w.grownBy w' none) → Goal)
    (gp : Hid (∀ w, Calls Tryz.prog 25 #[whole neg mag, .int .i64 n] w fun e w' => e = .returned (.bool false) ∧ w.grownBy w' none) → ∀ {pb tb : Bool} {pm tm : ByteArray} {pe : Int}, Hid (∀ w, Calls Tryz.prog 26 #[whole neg mag, .int .i64 n] w fun e w' => e = .returned (whole tb tm) ∧ w.grownBy w' none) →
      Hid (∀ w, Calls Tryz.prog 15 #[whole pb pm, .int .i64 pe, whole tb tm] w fun e w' => e = .returned (.bool true) ∧ w.grownBy w' none) → Hid (∀ w, Calls Tryz.prog 23 #[whole neg mag, .int .i64 n] w fun e w' => e = .returned (.tuple #[whole pb pm, .int .i64 pe]) ∧ w.grownBy w' none) →
      (n = 0 ∨ (0 < n ∧ ((mag.size : Int) = 0 ∨ (∃ m : Int, (mag.size : Int) = m ∧ 0 < m ∧ (mag.toList == [1]) = true) ∨ ∃ Q m : Int, (mag.toList == [1]) = false ∧ (mag.size : Int) = m ∧ 0 < m ∧ 20000 / m = Q ∧ n ≤ Q))) → Goal) : Goal := by
  have hms := may_size h
  rcases Int.lt_or_le n 0 with hn | hn
  · exact g1 hn (fun w => pow_neg neg mag (by unfold maxLen; omega) n h hn w)
  · obtain ⟨N, rfl⟩ : ∃ N : Nat, n = N := ⟨n.toNat, by omega⟩
    have hNlt : N < 9223372036854775808 := by omega
    cases hv : (decide (1 < bl (val (bN mag))) && decide (((131072 / (bl (val (bN mag)) - 1) : Nat) : Int) < (N : Int)))
    · have HVa : Hid (∀ w, Calls Tryz.prog 25 #[whole neg mag, .int .i64 (N : Int)] w fun e w' => e = .returned (.bool false) ∧ w.grownBy w' none) := fun w => by
        have := vast_any neg mag h (N : Int) w
        rw [hv] at this
        exact this
      by_cases hz : N = 0
      · obtain ⟨pb, tb, pm, tm, pe, k1, k2, k3⟩ := pow_pack neg mag h N hNlt (.inl hz)
        exact gp HVa k1 k2 k3 (.inl (by omega))
      · have hpos : (0 : Int) < (N : Int) := by omega
        by_cases hs : mag.size = 0
        · obtain ⟨pb, tb, pm, tm, pe, k1, k2, k3⟩ := pow_pack neg mag h N hNlt (.inr (.inl hs))
          exact gp HVa k1 k2 k3 (.inr ⟨hpos, .inl (by omega)⟩)
        · cases h1' : (mag.toList == [1])
          · have hmp : (0 : Int) < (mag.size : Int) := by omega
            have hQe : (20000 : Int) / (mag.size : Int) = ((20000 / mag.size : Nat) : Int) := rfl
            rcases Nat.lt_or_ge (20000 / mag.size) N with hq | hq
            · exact g4 hpos (nonempty_b hs) h1' rfl hmp hQe (by omega) HVa
            · have hb : mag.size * N ≤ 20000 := Nat.le_trans (Nat.mul_le_mul_left _ hq) (Nat.mul_div_le 20000 mag.size)
              obtain ⟨pb, tb, pm, tm, pe, k1, k2, k3⟩ := pow_pack neg mag h N hNlt (.inr (.inr (.inr hb)))
              exact gp HVa k1 k2 k3 (.inr ⟨hpos, .inr (.inr ⟨_, _, h1', rfl, hmp, hQe, by omega⟩)⟩)
          · obtain ⟨pb, tb, pm, tm, pe, k1, k2, k3⟩ := pow_pack neg mag h N hNlt (.inr (.inr (.inl h1')))
            exact gp HVa k1 k2 k3 (.inr ⟨hpos, .inr (.inl ⟨_, rfl, by omega, h1'⟩)⟩)
    · have HVa : Hid (∀ w, Calls Tryz.prog 25 #[whole neg mag, .int .i64 (N : Int)] w fun e w' => e = .returned (.bool true) ∧ w.grownBy w' none) := fun w => by
        have := vast_any neg mag h (N : Int) w
        rw [hv] at this
        exact this
      simp only [Bool.and_eq_true, decide_eq_true_eq] at hv
      obtain ⟨hb1, hb2⟩ := hv
      have hNp : (0:Int) < (N:Int) := Int.lt_of_le_of_lt (Int.natCast_nonneg _) hb2
      refine g3 hNp (fun w => ?_) HVa
      refine (pow_yes neg mag h N hNlt w).mono ?_
      rintro e w' ⟨hz, hg⟩
      refine ⟨?_, hg⟩
      rcases hz with ⟨k, _⟩ | ⟨_, rfl⟩
      · exfalso
        obtain ⟨c, hc⟩ : ∃ c, bl (val (bN mag)) = c + 1 := ⟨bl (val (bN mag)) - 1, by omega⟩
        rw [hc, Nat.add_sub_cancel] at hb2
        have hc0 : 0 < c := by omega
        have hb3 : 131072 / c < N := by omega
        have h3 : 131072 < c * (131072 / c + 1) := Nat.lt_mul_div_succ 131072 hc0
        have h4 := Nat.mul_le_mul_left c (show 131072 / c + 1 ≤ N by omega)
        have h5 := bl_iff.1 hc
        have h6 : 2 ^ (c * N) ≤ val (bN mag) ^ N := by
          rw [Nat.pow_mul]
          exact Nat.pow_le_pow_left h5.1 N
        have ha : (num neg mag ^ N).natAbs = val (bN mag) ^ N := by
          rw [num_pow]
          split <;> simp
        rw [ha] at k
        have h7 := bl_mono h6
        have h8 : bl (2 ^ (c * N)) = c * N + 1 := bl_iff.2 ⟨Nat.le_refl _, Nat.pow_lt_pow_right (by decide) (by omega)⟩
        omega
      · rfl

theorem roots_any (neg : Bool) (mag : ByteArray) (n : Int) (z : mag.size ≤ maxLen) (h0 : -9223372036854775808 ≤ n) (h1 : n ≤ 9223372036854775807) (w : World) (htab : Lib.TabIs Tryz.prog w "internal/strconv.uint64pow10" .u64 Lib.pow10Tab) :
    Calls Tryz.prog 5 #[whole neg mag, .int .i64 n] w fun e w' => e = .returned (.bool true) ∧ w.grownBy w' none := by
  cases hl : isLong (neg, mag)
  · cases ha : may neg mag
    · have HRt : Hid (∀ w, Calls Tryz.prog 21 #[whole neg mag] w fun e w' => e = .returned (.tuple #[whole false eS, whole false eS, .int .i64 2]) ∧ w.grownBy w' none) := fun w => root_no neg mag z ha w
      exact roots_bad neg mag n z hl HRt (fun w => square_err2 neg mag HRt w) ha (fun w => pow_bad neg mag z n ha w) w htab
    · cases neg
      · obtain ⟨r, k1, k2⟩ := root_ex (val (bN mag))
        obtain ⟨HRt, HRr⟩ := root_pack mag ha k1 k2
        by_cases hsq : val (bN mag) - r * r = 0
        · have hts : strOf (ints (magN (val (bN mag) - r * r))) = eS := by rw [hsq, magN_zero]; rfl
          have htl : ((strOf (ints (magN (val (bN mag) - r * r)))).toList == []) = true := by rw [hts, ByteArray.toList_eq]; rfl
          have HSq := fun w => square_yes false mag HRt hts w
          refine pow_ways false mag ha n h0 h1 _ ?_ ?_ ?_ ?_
          · intro a b; exact roots_s1 false mag n z hl HRt HSq ha rfl htl HRr a b w htab
          · intro a b c; exact roots_s3 false mag n z hl HRt HSq ha rfl htl HRr a b c w htab
          · intro a b c _ _ d e f g i; exact roots_s4 false mag n z hl HRt HSq ha rfl htl HRr a b c d e f g i w htab
          · intro v _ _ _ _ _ p q t hw
            rcases hw with a | ⟨a, b | ⟨m, b, c, d⟩ | ⟨Q, m, b, c, d, e, f⟩⟩
            · exact roots_s2 false mag n z hl HRt HSq ha rfl htl HRr a p q t v w htab
            · exact roots_s5 false mag n z hl HRt HSq ha rfl htl HRr a b p q t v w htab
            · exact roots_s6 false mag n z hl HRt HSq ha rfl htl HRr a b c d p q t v w htab
            · exact roots_s7 false mag n z hl HRt HSq ha rfl htl HRr a b c d e f p q t v w htab
        · have htl : ((strOf (ints (magN (val (bN mag) - r * r)))).toList == []) = false := by
            refine nonempty_b ?_
            intro e
            have h2 := str_mag (val (bN mag) - r * r)
            rw [empty_of_size e, magN_pos (by omega)] at h2
            have h3 := congrArg List.length h2
            simp [bN] at h3
          have HSq := fun w => square_rest false mag HRt htl w
          refine pow_ways false mag ha n h0 h1 _ ?_ ?_ ?_ ?_
          · intro a b; exact roots_r1 false mag n z hl HRt HSq ha rfl htl HRr a b w htab
          · intro a b c; exact roots_r3 false mag n z hl HRt HSq ha rfl htl HRr a b c w htab
          · intro a b c _ _ d e f g i; exact roots_r4 false mag n z hl HRt HSq ha rfl htl HRr a b c d e f g i w htab
          · intro v _ _ _ _ _ p q t hw
            rcases hw with a | ⟨a, b | ⟨m, b, c, d⟩ | ⟨Q, m, b, c, d, e, f⟩⟩
            · exact roots_r2 false mag n z hl HRt HSq ha rfl htl HRr a p q t v w htab
            · exact roots_r5 false mag n z hl HRt HSq ha rfl htl HRr a b p q t v w htab
            · exact roots_r6 false mag n z hl HRt HSq ha rfl htl HRr a b c d p q t v w htab
            · exact roots_r7 false mag n z hl HRt HSq ha rfl htl HRr a b c d e f p q t v w htab
      · have HRt : Hid (∀ w, Calls Tryz.prog 21 #[whole true mag] w fun e w' => e = .returned (.tuple #[whole false eS, whole false eS, .int .i64 7]) ∧ w.grownBy w' none) := fun w => root_neg mag ha w
        have HSq := fun w => square_err7 true mag HRt w
        refine pow_ways true mag ha n h0 h1 _ ?_ ?_ ?_ ?_
        · intro a b; exact roots_n1 true mag n z hl HRt HSq ha rfl a b w htab
        · intro a b c; exact roots_n3 true mag n z hl HRt HSq ha rfl a b c w htab
        · intro a b c _ _ d e f g i; exact roots_n4 true mag n z hl HRt HSq ha rfl a b c d e f g i w htab
        · intro v _ _ _ _ _ p q t hw
          rcases hw with a | ⟨a, b | ⟨m, b, c, d⟩ | ⟨Q, m, b, c, d, e, f⟩⟩
          · exact roots_n2 true mag n z hl HRt HSq ha rfl a p q t v w htab
          · exact roots_n5 true mag n z hl HRt HSq ha rfl a b p q t v w htab
          · exact roots_n6 true mag n z hl HRt HSq ha rfl a b c d p q t v w htab
          · exact roots_n7 true mag n z hl HRt HSq ha rfl a b c d e f p q t v w htab
  · exact roots_long neg mag n z hl w htab
end Go.Proofs.YtjenbicaepldlaaGreatDoor
