/-
  WholeDivs of any two numbers and any n.
-/
import Derived.Test.YtjenbicaepldlaaGreatDoorDws
namespace Go.Proofs.YtjenbicaepldlaaGreatDoor
open Go.RowKit Go.Lib Go.Sort

theorem empty_b {m : ByteArray} (h : m.size = 0) : (m.toList == []) = true := by
  obtain rfl := empty_of_size h
  rw [ByteArray.toList_eq]
  rfl
theorem isZ_ex (z : Int) : ∃ b s, IsZ z b s := ⟨decide (z < 0), strOf (ints (magN z.natAbs)), rfl, bN_strOf _ (magN_rng _)⟩
theorem whole_inj {n n' : Bool} {s s' : ByteArray} (h : whole n s = whole n' s') : n = n' ∧ s = s' := by
  unfold whole at h
  simp at h
  exact h
theorem isZ_same {z : Int} {n n' : Bool} {s s' : ByteArray} (h : IsZ z n s) (h' : IsZ z n' s') : n' = n ∧ s' = s := whole_inj (h'.one h)

/-- The program's Div, of a divisor that is not 0, answers one thing. -/
theorem div_one {n1 n2 : Bool} {m1 m2 : ByteArray} (h1 : may n1 m1 = true) (h2 : may n2 m2 = true) (h0 : m2.size ≠ 0) {b b' : Bool} {s s' : ByteArray} (hq : IsZ (num n1 m1 / num n2 m2) b s) (hr : IsZ (num n1 m1 % num n2 m2) b' s') :
    Hid (∀ w, Calls Tryz.prog 16 #[whole n1 m1, whole n2 m2] w fun e w' => e = .returned (.tuple #[whole b s, whole b' s', .int .i64 0]) ∧ w.grownBy w' none) := fun w => by
  refine (div_yes n1 n2 m1 m2 h1 h2 h0 w).mono ?_
  rintro e w' ⟨⟨c, t, c', t', rfl, k1, k2⟩, hg⟩
  obtain ⟨rfl, rfl⟩ := isZ_same hq k1
  obtain ⟨rfl, rfl⟩ := isZ_same hr k2
  exact ⟨rfl, hg⟩
theorem divMod_one {n1 n2 : Bool} {m1 m2 : ByteArray} (h1 : may n1 m1 = true) (h2 : may n2 m2 = true) (h0 : m2.size ≠ 0) {b b' : Bool} {s s' : ByteArray} (hq : IsZ (num n1 m1 / num n2 m2) b s) (hr : IsZ (num n1 m1 % num n2 m2) b' s') :
    Hid (∀ w, Calls Tryz.prog 20 #[whole n1 m1, whole n2 m2] w fun e w' => e = .returned (.tuple #[whole b s, whole b' s']) ∧ w.grownBy w' none) := fun w => by
  refine (rDivMod_z n1 n2 m1 m2 h1 h2 h0 w).mono ?_
  rintro e w' ⟨c, t, c', t', rfl, k1, k2, hg⟩
  obtain ⟨rfl, rfl⟩ := isZ_same hq k1
  obtain ⟨rfl, rfl⟩ := isZ_same hr k2
  exact ⟨rfl, hg⟩

theorem num_pos {n1 : Bool} {m1 : ByteArray} (h1 : may n1 m1 = true) (h0 : m1.size ≠ 0) : 0 < (num n1 m1).natAbs := by
  have := val_pos h1 h0
  cases n1
  · rw [num_f]; omega
  · rw [num_t]; omega
theorem num_bl {n1 : Bool} {m1 : ByteArray} (h1 : may n1 m1 = true) : bl (num n1 m1).natAbs ≤ 131072 := by
  have := (bl_max h1 131072 rfl).2
  cases n1
  · rw [num_f, Int.natAbs_natCast]; exact this
  · rw [num_t, Int.natAbs_neg, Int.natAbs_natCast]; exact this
theorem bl_shzN (x : Int) (K : Nat) (hx : 0 < x.natAbs) : bl (shz x (K : Int)).natAbs = K + bl x.natAbs := by
  rw [shz_up, Int.natAbs_mul, ← pow_cast, Int.natAbs_natCast]
  exact bl_up x.natAbs K 0 hx (Nat.pow_pos (by decide))

/-- The second half's facts. -/
theorem divs_any (n1 n2 : Bool) (m1 m2 : ByteArray) (n : Int) (z1 : m1.size ≤ maxLen) (z2 : m2.size ≤ maxLen) (hn0 : -9223372036854775808 ≤ n) (w : World) (htab : Lib.TabIs Tryz.prog w "internal/strconv.uint64pow10" .u64 Lib.pow10Tab) :
    Calls Tryz.prog 4 #[whole n1 m1, whole n2 m2, .int .i64 n] w fun e w' => e = .returned (.bool true) ∧ w.grownBy w' none := by
  cases hl : anyLong [(n1, m1), (n2, m2)]
  · cases ha : may n1 m1
    · -- a may not be
      have hno : ¬ (may n1 m1 = true ∧ may n2 m2 = true) := by rw [ha]; simp
      exact divs_a1b1 n1 n2 m1 m2 n z1 z2 hl (fun w => div_no n1 n2 m1 m2 z1 z2 hno w) (fun w => shift_no n1 m1 z1 ha n w) ha (by simp [mayAll, ha]) w htab
    · have all_eq : mayAll [(n1, m1), (n2, m2)] = may n2 m2 := by simp [mayAll, ha]
      by_cases h0 : m1.size = 0
      · -- a is 0
        have he := empty_b h0
        have hsh : Hid (∀ w, Calls Tryz.prog 17 #[whole n1 m1, .int .i64 n] w fun e w' => e = .returned (.tuple #[whole n1 m1, .int .i64 0]) ∧ w.grownBy w' none) := fun w => by
          obtain rfl := empty_of_size h0
          have := may_empty ha
          subst this
          exact shift_zero false n w ha
        cases hb : may n2 m2
        · exact divs_a3b1 n1 n2 m1 m2 n z1 z2 hl (fun w => div_no n1 n2 m1 m2 z1 z2 (by rw [hb]; simp) w) hsh ha he (by rw [all_eq, hb]) w htab
        · by_cases h2 : m2.size = 0
          · exact divs_a3b2 n1 n2 m1 m2 n z1 z2 hl (fun w => div_zero n1 n2 m1 m2 ha hb h2 w) hsh ha he (by rw [all_eq, hb]) (empty_b h2) w htab
          · obtain ⟨b, s, hq⟩ := isZ_ex (num n1 m1 / num n2 m2)
            obtain ⟨b', s', hr⟩ := isZ_ex (num n1 m1 % num n2 m2)
            exact divs_a3b3 n1 n2 m1 m2 n z1 z2 hl (div_one ha hb h2 hq hr) hsh ha he (by rw [all_eq, hb]) (nonempty_b h2) (divMod_one ha hb h2 hq hr) w htab
      · have he := nonempty_b h0
        rcases Int.lt_or_le 131072 n with hn | hn
        · -- too far up
          have hsh : Hid (∀ w, Calls Tryz.prog 17 #[whole n1 m1, .int .i64 n] w fun e w' => e = .returned (.tuple #[whole false eS, .int .i64 4]) ∧ w.grownBy w' none) := fun w => by
            refine (shift_yes n1 m1 ha n hn0 w).mono ?_
            rintro e w' ⟨hz, hg⟩
            refine ⟨?_, hg⟩
            obtain ⟨K, rfl⟩ : ∃ K : Nat, n = K := ⟨n.toNat, by omega⟩
            rcases hz with ⟨hb, _⟩ | ⟨_, he⟩
            · rw [bl_shzN _ K (num_pos ha h0)] at hb
              omega
            · exact he
          cases hb : may n2 m2
          · exact divs_a2b1 n1 n2 m1 m2 n z1 z2 hl (fun w => div_no n1 n2 m1 m2 z1 z2 (by rw [hb]; simp) w) hsh ha he hn (by rw [all_eq, hb]) w htab
          · by_cases h2 : m2.size = 0
            · exact divs_a2b2 n1 n2 m1 m2 n z1 z2 hl (fun w => div_zero n1 n2 m1 m2 ha hb h2 w) hsh ha he hn (by rw [all_eq, hb]) (empty_b h2) w htab
            · obtain ⟨b, s, hq⟩ := isZ_ex (num n1 m1 / num n2 m2)
              obtain ⟨b', s', hr⟩ := isZ_ex (num n1 m1 % num n2 m2)
              exact divs_a2b3 n1 n2 m1 m2 n z1 z2 hl (div_one ha hb h2 hq hr) hsh ha he hn (by rw [all_eq, hb]) (nonempty_b h2) (divMod_one ha hb h2 hq hr) w htab
        · -- as the document's
          obtain ⟨tb, ts, ht⟩ := isZ_ex (shz (num n1 m1) n)
          have hbz : bl (shz (num n1 m1) n).natAbs ≤ 10000000 := by
            have hx := num_bl ha
            rcases Int.lt_or_le n 0 with k | k
            · rw [shz_down _ n _ k rfl]
              exact Nat.le_trans (bl_mono (Int.natAbs_ediv_le_natAbs _ _)) (by omega)
            · obtain ⟨K, rfl⟩ : ∃ K : Nat, n = K := ⟨n.toNat, by omega⟩
              rw [bl_shzN _ K (num_pos ha h0)]
              omega
          have hrs : Hid (∀ w, Calls Tryz.prog 19 #[whole n1 m1, .int .i64 n] w fun e w' => e = .returned (whole tb ts) ∧ w.grownBy w' none) := fun w => by
            refine (rShift_z n1 m1 ha h0 n hn hn0 w).mono ?_
            rintro e w' ⟨b, s, rfl, hz, hg⟩
            obtain ⟨rfl, rfl⟩ := isZ_same ht hz
            exact ⟨rfl, hg⟩
          obtain ⟨sb, sm, se, hzr⟩ : ∃ sb sm se, ZRes (shz (num n1 m1) n) (.returned (.tuple #[whole sb sm, .int .i64 se])) := by
            rcases Nat.lt_or_ge 131072 (bl (shz (num n1 m1) n).natAbs) with k | k
            · exact ⟨false, eS, 4, .inr ⟨k, rfl⟩⟩
            · exact ⟨tb, ts, 0, .inl ⟨k, tb, ts, rfl, ht⟩⟩
          have hsh : Hid (∀ w, Calls Tryz.prog 17 #[whole n1 m1, .int .i64 n] w fun e w' => e = .returned (.tuple #[whole sb sm, .int .i64 se]) ∧ w.grownBy w' none) := fun w => by
            refine (shift_yes n1 m1 ha n hn0 w).mono ?_
            rintro e w' ⟨hz, hg⟩
            refine ⟨?_, hg⟩
            rcases hz with ⟨k, b, s, rfl, hz⟩ | ⟨k, rfl⟩
            · rcases hzr with ⟨_, b0, s0, e0, hz0⟩ | ⟨k0, _⟩
              · obtain ⟨rfl, rfl⟩ := isZ_same hz0 hz
                exact e0.symm
              · omega
            · rcases hzr with ⟨k0, _⟩ | ⟨_, e0⟩
              · omega
              · exact e0.symm
          have his : Hid (∀ w, Calls Tryz.prog 15 #[whole sb sm, .int .i64 se, whole tb ts] w fun e w' => e = .returned (.bool true) ∧ w.grownBy w' none) := fun w => is_yes hzr ht hbz w
          cases hb : may n2 m2
          · exact divs_a4b1 n1 n2 m1 m2 n z1 z2 hl (fun w => div_no n1 n2 m1 m2 z1 z2 (by rw [hb]; simp) w) hsh ha he hn hrs his (by rw [all_eq, hb]) w htab
          · by_cases h2 : m2.size = 0
            · exact divs_a4b2 n1 n2 m1 m2 n z1 z2 hl (fun w => div_zero n1 n2 m1 m2 ha hb h2 w) hsh ha he hn hrs his (by rw [all_eq, hb]) (empty_b h2) w htab
            · obtain ⟨b, s, hq⟩ := isZ_ex (num n1 m1 / num n2 m2)
              obtain ⟨b', s', hr⟩ := isZ_ex (num n1 m1 % num n2 m2)
              exact divs_a4b3 n1 n2 m1 m2 n z1 z2 hl (div_one ha hb h2 hq hr) hsh ha he hn hrs his (by rw [all_eq, hb]) (nonempty_b h2) (divMod_one ha hb h2 hq hr) w htab
  · exact divs_long n1 n2 m1 m2 n z1 z2 hl w htab
end Go.Proofs.YtjenbicaepldlaaGreatDoor
