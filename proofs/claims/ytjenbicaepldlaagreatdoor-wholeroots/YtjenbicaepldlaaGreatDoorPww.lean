/-
  The program's Pow.
-/
import Derived.Test.YtjenbicaepldlaaGreatDoorLen
import Derived.Test.YtjenbicaepldlaaGreatDoorSqr
namespace Go.Proofs.YtjenbicaepldlaaGreatDoor
open Go.RowKit Go.Lib Go.Sort

theorem and_one_i64 (T : Nat) (h : T < 9223372036854775808) : bits .and .i64 (T : Int) 1 = ((T % 2 : Nat) : Int) := by
  have h1 : (BitVec.ofInt 64 1).toNat = 2 ^ 1 - 1 := by decide
  have key : (BitVec.ofInt 64 (T : Int) &&& BitVec.ofInt 64 1).toNat = ((T : Int) % ((2 ^ 64 : Nat) : Int)).toNat % 2 ^ 1 := by
    rw [BitVec.toNat_and, BitVec.toNat_ofInt, h1, Nat.and_two_pow_sub_one_eq_mod]
  show IntKind.i64.wrap ((BitVec.ofInt 64 (T : Int) &&& BitVec.ofInt 64 1).toNat : Nat) = _
  rw [key, IntKind.wrap_i64]
  omega
theorem pow_neg_int (V n : Nat) : (-(V : Int)) ^ n = if n % 2 = 1 then -((V ^ n : Nat) : Int) else ((V ^ n : Nat) : Int) := by
  induction n with
  | zero => simp
  | succ n ih =>
    rw [Int.pow_succ, ih]
    rcases Nat.mod_two_eq_zero_or_one n with h | h
    · rw [if_neg (by omega), if_pos (by omega), Nat.pow_succ]; push_cast; rw [Int.mul_neg]
    · rw [if_pos h, if_neg (by omega), Nat.pow_succ]; push_cast; rw [Int.neg_mul_neg]
theorem num_pow {neg : Bool} {mag : ByteArray} {n : Nat} : num neg mag ^ n = if (neg && decide (n % 2 = 1)) then -((val (bN mag) ^ n : Nat) : Int) else ((val (bN mag) ^ n : Nat) : Int) := by
  cases neg
  · rw [num_f]; simp
  · rw [num_t, pow_neg_int]; simp
/-- The two blocks that Pow lays: its argument, its result. -/
theorem blksP {n1 : Bool} {m1 : ByteArray} {w w1 : World} (g : ((w.alloc (wObj n1 m1)).alloc (wObj false eS)).grownBy w1 none) :
    WBlk w1 w.heap.size (.bool n1) (.string m1) ∧ WBlk w1 (w.heap.size + 1) (.bool false) (.string eS) :=
  ⟨WBlk.kept (old_alloc _ _ (heap_alloc_new _ _)) g (by simp), WBlk.kept (heap_alloc2_new _ _ _) g (by simp)⟩

set_option maxHeartbeats 1600000 in
set_option maxRecDepth 1000000 in
theorem pow_bad (neg : Bool) (mag : ByteArray) (hm : mag.size ≤ maxLen) (n : Int) (h : may neg mag = false) (w : World) :
    Calls Tryz.prog 23 #[whole neg mag, .int .i64 n] w fun e w' => e = .returned (.tuple #[whole false eS, .int .i64 2]) ∧ w.grownBy w' none := by
  have HC : Hid (∀ w, Calls Tryz.prog 27 #[whole neg mag] w fun e w' => e = .returned (.int .i64 2) ∧ w.grownBy w' none) := fun w => by
    have := check_any neg mag hm w
    rw [chk_no h] at this
    refine this.mono ?_
    rintro e w' ⟨rfl, rfl⟩
    exact ⟨rfl, grow1 _ _⟩
  clear h
  go_enter Tryz.func23, Tryz.ntmps23
  go_wp2_with fail
  refine (HC.out _).mono ?_
  rintro e w1 ⟨rfl, g1⟩
  have HG1 : Hid (((w.alloc (wObj neg mag)).alloc (wObj false eS)).grownBy w1 none) := g1
  clear g1
  go_wp2_with fail
  refine (zero_any _).mono ?_
  rintro e w9 ⟨rfl, rfl⟩
  obtain ⟨_, hR⟩ := blksP (grownBy_trans HG1.out (grow1 w1 (wObj false eS)))
  have c0 := hR.c0
  have c1 := hR.c1
  have c2 := hR.fr 0
  have c3 := hR.fr 1
  go_wp2_with fail
  refine bodyPost_ret (res_cell_tmp rfl _ _ (w.heap.size + 1) _ _ _ _ rfl (hR.put _ _)) rfl ?_
  exact ⟨rfl, grown_set (grown_set (grownBy_trans (grow2 _ _ _) (grownBy_trans HG1.out (grow1 _ _))) (by omega)) (by omega)⟩

set_option maxHeartbeats 1600000 in
set_option maxRecDepth 1000000 in
theorem pow_neg (neg : Bool) (mag : ByteArray) (hm : mag.size ≤ maxLen) (n : Int) (h : may neg mag = true) (hn : n < 0) (w : World) :
    Calls Tryz.prog 23 #[whole neg mag, .int .i64 n] w fun e w' => e = .returned (.tuple #[whole false eS, .int .i64 2]) ∧ w.grownBy w' none := by
  have HC : Hid (∀ w, Calls Tryz.prog 27 #[whole neg mag] w fun e w' => e = .returned (.int .i64 0) ∧ w.grownBy w' none) := fun w => by
    have := check_any neg mag hm w
    rw [chk_yes h] at this
    refine this.mono ?_
    rintro e w' ⟨rfl, rfl⟩
    exact ⟨rfl, grow1 _ _⟩
  clear h
  go_enter Tryz.func23, Tryz.ntmps23
  go_wp2_with fail
  refine (HC.out _).mono ?_
  rintro e w1 ⟨rfl, g1⟩
  have HG1 : Hid (((w.alloc (wObj neg mag)).alloc (wObj false eS)).grownBy w1 none) := g1
  clear g1
  go_wp2_with fail
  refine (zero_any _).mono ?_
  rintro e w9 ⟨rfl, rfl⟩
  obtain ⟨_, hR⟩ := blksP (grownBy_trans HG1.out (grow1 w1 (wObj false eS)))
  have c0 := hR.c0
  have c1 := hR.c1
  have c2 := hR.fr 0
  have c3 := hR.fr 1
  go_wp2_with fail
  refine bodyPost_ret (res_cell_tmp rfl _ _ (w.heap.size + 1) _ _ _ _ rfl (hR.put _ _)) rfl ?_
  exact ⟨rfl, grown_set (grown_set (grownBy_trans (grow2 _ _ _) (grownBy_trans HG1.out (grow1 _ _))) (by omega)) (by omega)⟩

set_option maxHeartbeats 1600000 in
set_option maxRecDepth 1000000 in
theorem pow_great (neg : Bool) (mag : ByteArray) (h : may neg mag = true) (n c Q : Nat) (hn : n < 9223372036854775808) (hc : bl (val (bN mag)) = c + 1) (hc0 : 0 < c) (hQ : 131071 / c = Q) (hnQ : Q < n) (w : World) :
    Calls Tryz.prog 23 #[whole neg mag, .int .i64 (n : Int)] w fun e w' => e = .returned (.tuple #[whole false eS, .int .i64 4]) ∧ w.grownBy w' none := by
  have hm := may_size h
  have hbm := (bl_max h 131072 rfl).2
  have HC : Hid (∀ w, Calls Tryz.prog 27 #[whole neg mag] w fun e w' => e = .returned (.int .i64 0) ∧ w.grownBy w' none) := fun w => by
    have := check_any neg mag (by unfold maxLen; omega) w
    rw [chk_yes h] at this
    refine this.mono ?_
    rintro e w' ⟨rfl, rfl⟩
    exact ⟨rfl, grow1 _ _⟩
  have HBi : Hid (∀ w, Calls Tryz.prog 56 #[whole neg mag] w fun e w' => e = .returned (.int .i64 ((c : Int) + 1)) ∧ w.grownBy w' none) := fun w => by
    have := bits_yes neg mag h w
    rw [hc] at this
    exact this
  have hnI : (n : Int) ≤ 9223372036854775807 := by omega
  have hcI : (0 : Int) < (c : Int) := by omega
  have hcI2 : (c : Int) ≤ 131072 := by omega
  have hQI : (131071 : Int) / (c : Int) = (Q : Int) := by rw [← hQ]; rfl
  have hnQI : (Q : Int) < (n : Int) := by omega
  clear h hm hn hbm hc hc0 hQ hnQ
  go_enter Tryz.func23, Tryz.ntmps23
  go_wp2_with fail
  refine (HC.out _).mono ?_
  rintro e w1 ⟨rfl, g1⟩
  have HG1 : Hid (((w.alloc (wObj neg mag)).alloc (wObj false eS)).grownBy w1 none) := g1
  clear g1
  obtain ⟨hA, _⟩ := blksP HG1.out
  have a0 := hA.c0
  have a1 := hA.c1
  go_wp2_with fail
  refine (HBi.out _).mono ?_
  rintro e w2 ⟨rfl, g2⟩
  have HG2 : Hid (((w.alloc (wObj neg mag)).alloc (wObj false eS)).grownBy w2 none) := grownBy_trans HG1.out g2
  clear g2 a0 a1 hA
  go_wp2_with fail
  refine (zero_any _).mono ?_
  rintro e w9 ⟨rfl, rfl⟩
  obtain ⟨_, hR⟩ := blksP (grownBy_trans HG2.out (grow1 w2 (wObj false eS)))
  have c0 := hR.c0
  have c1 := hR.c1
  have c2 := hR.fr 0
  have c3 := hR.fr 1
  go_wp2_with fail
  refine bodyPost_ret (res_cell_tmp rfl _ _ (w.heap.size + 1) _ _ _ _ rfl (hR.put _ _)) rfl ?_
  exact ⟨rfl, grown_set (grown_set (grownBy_trans (grow2 _ _ _) (grownBy_trans HG2.out (grow1 _ _))) (by omega)) (by omega)⟩

set_option maxHeartbeats 3200000 in
set_option maxRecDepth 1000000 in
theorem pow_in1 (neg : Bool) (mag : ByteArray) (h : may neg mag = true) (n b : Nat) (hn : n < 9223372036854775808) (hc : bl (val (bN mag)) = b) (hb : b ≤ 1) (HBD : Hid (∀ j, j ≤ n → val (bN mag) ^ j < B32 ^ 8192)) (w : World) :
    Calls Tryz.prog 23 #[whole neg mag, .int .i64 (n : Int)] w fun e w' => ZRes (num neg mag ^ n) e ∧ w.grownBy w' none := by
  have hm := may_size h
  have HM : Hid (may neg mag = true ∧ mag.size ≤ 16384) := ⟨h, hm⟩
  have HC : Hid (∀ w, Calls Tryz.prog 27 #[whole neg mag] w fun e w' => e = .returned (.int .i64 0) ∧ w.grownBy w' none) := fun w => by
    have := check_any neg mag (by unfold maxLen; omega) w
    rw [chk_yes h] at this
    refine this.mono ?_
    rintro e w' ⟨rfl, rfl⟩
    exact ⟨rfl, grow1 _ _⟩
  have HBi : Hid (∀ w, Calls Tryz.prog 56 #[whole neg mag] w fun e w' => e = .returned (.int .i64 (b : Int)) ∧ w.grownBy w' none) := fun w => by
    have := bits_yes neg mag h w
    rw [hc] at this
    exact this
  have hnI : (n : Int) ≤ 9223372036854775807 := by omega
  have hbI : (b : Int) ≤ 1 := by omega
  clear h hm hn hc hb
  go_enter Tryz.func23, Tryz.ntmps23
  go_wp2_with fail
  refine (HC.out _).mono ?_
  rintro e w1 ⟨rfl, g1⟩
  have HG1 : Hid (((w.alloc (wObj neg mag)).alloc (wObj false eS)).grownBy w1 none) := g1
  clear g1
  obtain ⟨hA, _⟩ := blksP HG1.out
  have a0 := hA.c0
  have a1 := hA.c1
  go_wp2_with fail
  refine (HBi.out _).mono ?_
  rintro e w2 ⟨rfl, g2⟩
  have HG2 : Hid (((w.alloc (wObj neg mag)).alloc (wObj false eS)).grownBy w2 none) := grownBy_trans HG1.out g2
  clear g2 a0 a1 hA HG1
  obtain ⟨hA, _⟩ := blksP HG2.out
  have a0 := hA.c0
  have a1 := hA.c1
  go_wp2_with fail
  refine (digitsOf_any mag HM.out.2 _).mono ?_
  rintro e w3 ⟨B, L, rfl, hB, hL, g3, l3, r3, v3⟩
  have HL : Hid (w2.heap.size ≤ B ∧ D4 w3 (.slice (some ⟨B, 0, none⟩) L.length L.length) L ∧ L.length ≤ 4096 ∧ (∀ x ∈ L, x < B32) ∧ nv B32 L = val (bN mag) ∧ w2.grownBy w3 none) := ⟨hB, hL.d4, by have := HM.out.2; omega, r3, v3, g3⟩
  obtain ⟨nl, hnl⟩ : ∃ nl, L.length = nl := ⟨_, rfl⟩
  have HNL : Hid (L.length = nl) := hnl
  rw [hnl]
  clear hB hL g3 l3 r3 v3 a0 a1 hA hnl
  go_wp2_with fail
  refine (len_any n (by omega) _).mono ?_
  rintro e w4 ⟨rfl, rfl⟩
  have HO : Hid (∃ K, D4 (w3.alloc (.cells #[.int .u32 1] 72)) (.slice (some ⟨w3.heap.size, 0, none⟩) 1 1) K ∧ (∀ x ∈ K, x < B32) ∧ nv B32 K = val (bN mag) ^ (n / 2 ^ bl n) ∧ Trim K ∧ K.length ≤ 8192 ∧ w3.grownBy (w3.alloc (.cells #[.int .u32 1] 72)) none) := by
    have hb1 : BlkL (w3.alloc (.cells #[.int .u32 1] 72)) w3.heap.size 72 enc4 (ints [1]) := heap_alloc_new _ _
    refine ⟨[1], hb1.d4, by intro x hx; simp at hx; subst hx; decide, ?_, .inr (by decide), by simp, grow1 _ _⟩
    rw [Nat.div_eq_of_lt (lt_bl n), Nat.pow_zero]
    simp [nv]
  have hbn : bl n ≤ 63 := bl_le (by omega)
  go_wp2_with fail
  go_loopg [8, 9] (bl n) (fun k s8 s9 wx => ∃ K, s9 = .int .i64 (k : Int) ∧ k ≤ 63 ∧ D4 wx s8 K ∧ (∀ x ∈ K, x < B32) ∧ nv B32 K = val (bN mag) ^ (n / 2 ^ k) ∧ Trim K ∧ K.length ≤ 8192 ∧ w3.grownBy wx none)
  case atStart =>
    obtain ⟨K, o1, o2, o3, o4, o5, o6⟩ := HO.out
    exact ⟨K, rfl, hbn, o1, o2, o3, o4, o5, o6⟩
  case round =>
    obtain ⟨K, rfl, i0, i1, i2, i3, i4, i5, i6⟩ := hrel
    clear HO hbn
    cases gk with
    | zero =>
      have HMd : Hid (∀ ng : Bool, Calls Tryz.prog 43 #[.bool ng, u8] wr fun e w' => Made ng (nv B32 K) e ∧ wr.grownBy w' none) := fun ng => madeP_any ng wr u8 K i1 i2 (by omega)
      have HE : Hid (nv B32 K = val (bN mag) ^ n ∧ w3.grownBy wr none) := ⟨by rw [i3, Nat.pow_zero, Nat.div_one], i6⟩
      have G3 := grownBy_trans HG2.out (grownBy_trans HL.out.2.2.2.2.2 i6)
      obtain ⟨hA, _⟩ := blksP G3
      have a0 := hA.c0
      have a1 := hA.c1
      clear i0 i1 i2 i3 i4 i5 i6
      cases neg
      · rcases Nat.mod_two_eq_zero_or_one n with hp | hp
        · have hbit : bits .and .i64 (n : Int) 1 = 0 := (and_one_i64 n (by omega)).trans (by rw [hp]; rfl)
          have HZQ : Hid (num false mag ^ n = if false = true then -((val (bN mag) ^ n : Nat) : Int) else ((val (bN mag) ^ n : Nat) : Int)) := (by rw [num_pow, hp]; rfl : num false mag ^ n = if false = true then -((val (bN mag) ^ n : Nat) : Int) else ((val (bN mag) ^ n : Nat) : Int))
          clear hp
          go_wp2_with fail
          refine (HMd.out false).mono ?_
          rintro e w9 ⟨hmd, g9⟩
          rw [HE.out.1] at hmd
          have hz := made_z hmd HZQ.out
          obtain ⟨b9, s9, er, rfl⟩ := hz.ans
          have HZ : Hid (ZRes (num false mag ^ n) (.returned (.tuple #[whole b9 s9, .int .i64 er]))) := hz
          have G9 := grownBy_trans (grownBy_trans HG2.out (grownBy_trans HL.out.2.2.2.2.2 HE.out.2)) g9
          obtain ⟨_, hR⟩ := blksP G9
          have HG9 : Hid (w.grownBy w9 none) := grownBy_trans (grow2 _ _ _) G9
          have c0 := hR.c0
          have c1 := hR.c1
          have c2 := hR.fr 0
          have c3 := hR.fr 1
          clear hmd hz g9 G9
          go_wp2_with fail
          refine bodyPost_ret (res_cell_tmp rfl _ _ (w.heap.size + 1) _ _ _ _ rfl (hR.put _ _)) rfl ?_
          exact ⟨HZ.out, grown_set (grown_set HG9.out (by omega)) (by omega)⟩
        · have hbit : bits .and .i64 (n : Int) 1 = 1 := (and_one_i64 n (by omega)).trans (by rw [hp]; rfl)
          have HZQ : Hid (num false mag ^ n = if false = true then -((val (bN mag) ^ n : Nat) : Int) else ((val (bN mag) ^ n : Nat) : Int)) := (by rw [num_pow, hp]; rfl : num false mag ^ n = if false = true then -((val (bN mag) ^ n : Nat) : Int) else ((val (bN mag) ^ n : Nat) : Int))
          clear hp
          go_wp2_with fail
          refine (HMd.out false).mono ?_
          rintro e w9 ⟨hmd, g9⟩
          rw [HE.out.1] at hmd
          have hz := made_z hmd HZQ.out
          obtain ⟨b9, s9, er, rfl⟩ := hz.ans
          have HZ : Hid (ZRes (num false mag ^ n) (.returned (.tuple #[whole b9 s9, .int .i64 er]))) := hz
          have G9 := grownBy_trans (grownBy_trans HG2.out (grownBy_trans HL.out.2.2.2.2.2 HE.out.2)) g9
          obtain ⟨_, hR⟩ := blksP G9
          have HG9 : Hid (w.grownBy w9 none) := grownBy_trans (grow2 _ _ _) G9
          have c0 := hR.c0
          have c1 := hR.c1
          have c2 := hR.fr 0
          have c3 := hR.fr 1
          clear hmd hz g9 G9
          go_wp2_with fail
          refine bodyPost_ret (res_cell_tmp rfl _ _ (w.heap.size + 1) _ _ _ _ rfl (hR.put _ _)) rfl ?_
          exact ⟨HZ.out, grown_set (grown_set HG9.out (by omega)) (by omega)⟩
      · rcases Nat.mod_two_eq_zero_or_one n with hp | hp
        · have hbit : bits .and .i64 (n : Int) 1 = 0 := (and_one_i64 n (by omega)).trans (by rw [hp]; rfl)
          have HZQ : Hid (num true mag ^ n = if false = true then -((val (bN mag) ^ n : Nat) : Int) else ((val (bN mag) ^ n : Nat) : Int)) := (by rw [num_pow, hp]; rfl : num true mag ^ n = if false = true then -((val (bN mag) ^ n : Nat) : Int) else ((val (bN mag) ^ n : Nat) : Int))
          clear hp
          go_wp2_with fail
          refine (HMd.out false).mono ?_
          rintro e w9 ⟨hmd, g9⟩
          rw [HE.out.1] at hmd
          have hz := made_z hmd HZQ.out
          obtain ⟨b9, s9, er, rfl⟩ := hz.ans
          have HZ : Hid (ZRes (num true mag ^ n) (.returned (.tuple #[whole b9 s9, .int .i64 er]))) := hz
          have G9 := grownBy_trans (grownBy_trans HG2.out (grownBy_trans HL.out.2.2.2.2.2 HE.out.2)) g9
          obtain ⟨_, hR⟩ := blksP G9
          have HG9 : Hid (w.grownBy w9 none) := grownBy_trans (grow2 _ _ _) G9
          have c0 := hR.c0
          have c1 := hR.c1
          have c2 := hR.fr 0
          have c3 := hR.fr 1
          clear hmd hz g9 G9
          go_wp2_with fail
          refine bodyPost_ret (res_cell_tmp rfl _ _ (w.heap.size + 1) _ _ _ _ rfl (hR.put _ _)) rfl ?_
          exact ⟨HZ.out, grown_set (grown_set HG9.out (by omega)) (by omega)⟩
        · have hbit : bits .and .i64 (n : Int) 1 = 1 := (and_one_i64 n (by omega)).trans (by rw [hp]; rfl)
          have HZQ : Hid (num true mag ^ n = if true = true then -((val (bN mag) ^ n : Nat) : Int) else ((val (bN mag) ^ n : Nat) : Int)) := (by rw [num_pow, hp]; rfl : num true mag ^ n = if true = true then -((val (bN mag) ^ n : Nat) : Int) else ((val (bN mag) ^ n : Nat) : Int))
          clear hp
          go_wp2_with fail
          refine (HMd.out true).mono ?_
          rintro e w9 ⟨hmd, g9⟩
          rw [HE.out.1] at hmd
          have hz := made_z hmd HZQ.out
          obtain ⟨b9, s9, er, rfl⟩ := hz.ans
          have HZ : Hid (ZRes (num true mag ^ n) (.returned (.tuple #[whole b9 s9, .int .i64 er]))) := hz
          have G9 := grownBy_trans (grownBy_trans HG2.out (grownBy_trans HL.out.2.2.2.2.2 HE.out.2)) g9
          obtain ⟨_, hR⟩ := blksP G9
          have HG9 : Hid (w.grownBy w9 none) := grownBy_trans (grow2 _ _ _) G9
          have c0 := hR.c0
          have c1 := hR.c1
          have c2 := hR.fr 0
          have c3 := hR.fr 1
          clear hmd hz g9 G9
          go_wp2_with fail
          refine bodyPost_ret (res_cell_tmp rfl _ _ (w.heap.size + 1) _ _ _ _ rfl (hR.put _ _)) rfl ?_
          exact ⟨HZ.out, grown_set (grown_set HG9.out (by omega)) (by omega)⟩
    | succ k =>
      have HPr : Hid (Calls Tryz.prog 65 #[u8, u8] wr fun e w' => ∃ v K', e = .returned v ∧ D4 w' v K' ∧ (∀ x ∈ K', x < B32) ∧ nv B32 K' = nv B32 K * nv B32 K ∧ Trim K' ∧ wr.grownBy w' none) := by
        refine (productP_any wr u8 u8 K K i1 i1 i2 i2 (by omega) (by omega)).mono ?_
        rintro e w' ⟨v, K', rfl, p1, p2, p3, p4, p5, p6⟩
        exact ⟨v, K', rfl, p1, p2, p3, p5, p6⟩
      have hkI : (k : Int) ≤ 62 := by omega
      obtain ⟨T, hT⟩ : ∃ T, n / 2 ^ k = T := ⟨_, rfl⟩
      have hTn : T ≤ n := by rw [← hT]; exact Nat.div_le_self _ _
      have hTI : (n : Int) / 2 ^ k = (T : Int) := by rw [← hT]; push_cast; rfl
      have hTh : n / 2 ^ (k + 1) = T / 2 := by rw [← hT, Nat.pow_succ, Nat.div_div_eq_div_mul]
      have HI : Hid (nv B32 K = val (bN mag) ^ (T / 2) ∧ w3.grownBy wr none ∧ n / 2 ^ k = T ∧ T ≤ n ∧ k ≤ 62) := ⟨by rw [i3, hTh], i6, hT, hTn, by omega⟩
      have hbT := and_one_i64 T (by omega)
      clear i0 i1 i2 i3 i4 i5 i6 hT hTh hTn
      go_wp2_with fail
      refine HPr.out.mono ?_
      rintro e w5 ⟨v5, K5, rfl, p1, p2, p3, p5, p7⟩
      have h5v : nv B32 K5 = val (bN mag) ^ (T / 2 + T / 2) := by rw [p3, HI.out.1, ← Nat.pow_add]
      have h5l : K5.length ≤ 8192 := trim_length p5 (by rw [h5v]; exact HBD.out _ (by have := HI.out.2.2.2.1; omega))
      have HK5 : Hid (D4 w5 v5 K5 ∧ (∀ x ∈ K5, x < B32) ∧ nv B32 K5 = val (bN mag) ^ (T / 2 + T / 2) ∧ Trim K5 ∧ K5.length ≤ 8192 ∧ w3.grownBy w5 none) := ⟨p1, p2, h5v, p5, h5l, grownBy_trans HI.out.2.1 p7⟩
      clear p1 p2 p3 p5 p7 h5v h5l HPr
      rcases Nat.mod_two_eq_zero_or_one T with hp | hp
      · rw [hp] at hbT
        have HP : Hid (T % 2 = 0) := hp
        clear hp
        go_wp2_with fail
        go_roundg k
        case measure => omega
        case rel =>
          obtain ⟨p1, p2, p3, p4, p5, p6⟩ := HK5.out
          exact ⟨K5, rfl, by have := HI.out.2.2.2.2; omega, p1, p2, by rw [p3, HI.out.2.2.1]; congr 1; have := HP.out; omega, p4, p5, p6⟩
      · rw [hp] at hbT
        have HP : Hid (T % 2 = 1) := hp
        have HPr2 : Hid (Calls Tryz.prog 65 #[v5, .slice (some ⟨B, 0, none⟩) nl nl] w5 fun e w' => ∃ v K', e = .returned v ∧ D4 w' v K' ∧ (∀ x ∈ K', x < B32) ∧ nv B32 K' = val (bN mag) ^ T ∧ Trim K' ∧ w5.grownBy w' none) := by
          obtain ⟨p1, p2, p3, p4, p5, p6⟩ := HK5.out
          have hL := HL.out.2.1.kept p6
          rw [HNL.out] at hL
          refine (productP_any w5 v5 _ K5 L p1 hL p2 HL.out.2.2.2.1 (by omega) (by have := HL.out.2.2.1; omega)).mono ?_
          rintro e w' ⟨v, K', rfl, q1, q2, q3, q4, q5, q6⟩
          refine ⟨v, K', rfl, q1, q2, ?_, q5, q6⟩
          rw [q3, p3, HL.out.2.2.2.2.1, ← Nat.pow_succ]
          congr 1
          omega
        clear hp
        go_wp2_with fail
        refine HPr2.out.mono ?_
        rintro e w6 ⟨v6, K6, rfl, q1, q2, q3, q5, q6⟩
        have h6l : K6.length ≤ 8192 := trim_length q5 (by rw [q3]; exact HBD.out _ HI.out.2.2.2.1)
        have HK6 : Hid (D4 w6 v6 K6 ∧ (∀ x ∈ K6, x < B32) ∧ nv B32 K6 = val (bN mag) ^ T ∧ Trim K6 ∧ K6.length ≤ 8192 ∧ w3.grownBy w6 none) := ⟨q1, q2, q3, q5, h6l, grownBy_trans HK5.out.2.2.2.2.2 q6⟩
        clear q1 q2 q3 q5 q6 h6l HPr2
        go_wp2_with fail
        go_roundg k
        case measure => omega
        case rel =>
          obtain ⟨p1, p2, p3, p4, p5, p6⟩ := HK6.out
          exact ⟨K6, rfl, by have := HI.out.2.2.2.2; omega, p1, p2, by rw [p3, HI.out.2.2.1], p4, p5, p6⟩
set_option maxHeartbeats 3200000 in
set_option maxRecDepth 1000000 in
theorem pow_in2 (neg : Bool) (mag : ByteArray) (h : may neg mag = true) (n c Q : Nat) (hn : n < 9223372036854775808) (hc : bl (val (bN mag)) = c + 1) (hc0 : 0 < c) (hQ : 131071 / c = Q) (hnQ : n ≤ Q) (HBD : Hid (∀ j, j ≤ n → val (bN mag) ^ j < B32 ^ 8192)) (w : World) :
    Calls Tryz.prog 23 #[whole neg mag, .int .i64 (n : Int)] w fun e w' => ZRes (num neg mag ^ n) e ∧ w.grownBy w' none := by
  have hm := may_size h
  have HM : Hid (may neg mag = true ∧ mag.size ≤ 16384) := ⟨h, hm⟩
  have HC : Hid (∀ w, Calls Tryz.prog 27 #[whole neg mag] w fun e w' => e = .returned (.int .i64 0) ∧ w.grownBy w' none) := fun w => by
    have := check_any neg mag (by unfold maxLen; omega) w
    rw [chk_yes h] at this
    refine this.mono ?_
    rintro e w' ⟨rfl, rfl⟩
    exact ⟨rfl, grow1 _ _⟩
  have HBi : Hid (∀ w, Calls Tryz.prog 56 #[whole neg mag] w fun e w' => e = .returned (.int .i64 ((c : Int) + 1)) ∧ w.grownBy w' none) := fun w => by
    have := bits_yes neg mag h w
    rw [hc] at this
    exact this
  have hnI : (n : Int) ≤ 9223372036854775807 := by omega
  have hbm := (bl_max h 131072 rfl).2
  have hcI : (0 : Int) < (c : Int) := by omega
  have hcI2 : (c : Int) ≤ 131072 := by omega
  have hQI : (131071 : Int) / (c : Int) = (Q : Int) := by rw [← hQ]; rfl
  have hnQI : (n : Int) ≤ (Q : Int) := by omega
  clear h hm hn hbm hc hc0 hQ hnQ
  go_enter Tryz.func23, Tryz.ntmps23
  go_wp2_with fail
  refine (HC.out _).mono ?_
  rintro e w1 ⟨rfl, g1⟩
  have HG1 : Hid (((w.alloc (wObj neg mag)).alloc (wObj false eS)).grownBy w1 none) := g1
  clear g1
  obtain ⟨hA, _⟩ := blksP HG1.out
  have a0 := hA.c0
  have a1 := hA.c1
  go_wp2_with fail
  refine (HBi.out _).mono ?_
  rintro e w2 ⟨rfl, g2⟩
  have HG2 : Hid (((w.alloc (wObj neg mag)).alloc (wObj false eS)).grownBy w2 none) := grownBy_trans HG1.out g2
  clear g2 a0 a1 hA HG1
  obtain ⟨hA, _⟩ := blksP HG2.out
  have a0 := hA.c0
  have a1 := hA.c1
  go_wp2_with fail
  refine (digitsOf_any mag HM.out.2 _).mono ?_
  rintro e w3 ⟨B, L, rfl, hB, hL, g3, l3, r3, v3⟩
  have HL : Hid (w2.heap.size ≤ B ∧ D4 w3 (.slice (some ⟨B, 0, none⟩) L.length L.length) L ∧ L.length ≤ 4096 ∧ (∀ x ∈ L, x < B32) ∧ nv B32 L = val (bN mag) ∧ w2.grownBy w3 none) := ⟨hB, hL.d4, by have := HM.out.2; omega, r3, v3, g3⟩
  obtain ⟨nl, hnl⟩ : ∃ nl, L.length = nl := ⟨_, rfl⟩
  have HNL : Hid (L.length = nl) := hnl
  rw [hnl]
  clear hB hL g3 l3 r3 v3 a0 a1 hA hnl
  go_wp2_with fail
  refine (len_any n (by omega) _).mono ?_
  rintro e w4 ⟨rfl, rfl⟩
  have HO : Hid (∃ K, D4 (w3.alloc (.cells #[.int .u32 1] 72)) (.slice (some ⟨w3.heap.size, 0, none⟩) 1 1) K ∧ (∀ x ∈ K, x < B32) ∧ nv B32 K = val (bN mag) ^ (n / 2 ^ bl n) ∧ Trim K ∧ K.length ≤ 8192 ∧ w3.grownBy (w3.alloc (.cells #[.int .u32 1] 72)) none) := by
    have hb1 : BlkL (w3.alloc (.cells #[.int .u32 1] 72)) w3.heap.size 72 enc4 (ints [1]) := heap_alloc_new _ _
    refine ⟨[1], hb1.d4, by intro x hx; simp at hx; subst hx; decide, ?_, .inr (by decide), by simp, grow1 _ _⟩
    rw [Nat.div_eq_of_lt (lt_bl n), Nat.pow_zero]
    simp [nv]
  have hbn : bl n ≤ 63 := bl_le (by omega)
  go_wp2_with fail
  go_loopg [8, 9] (bl n) (fun k s8 s9 wx => ∃ K, s9 = .int .i64 (k : Int) ∧ k ≤ 63 ∧ D4 wx s8 K ∧ (∀ x ∈ K, x < B32) ∧ nv B32 K = val (bN mag) ^ (n / 2 ^ k) ∧ Trim K ∧ K.length ≤ 8192 ∧ w3.grownBy wx none)
  case atStart =>
    obtain ⟨K, o1, o2, o3, o4, o5, o6⟩ := HO.out
    exact ⟨K, rfl, hbn, o1, o2, o3, o4, o5, o6⟩
  case round =>
    obtain ⟨K, rfl, i0, i1, i2, i3, i4, i5, i6⟩ := hrel
    clear HO hbn
    cases gk with
    | zero =>
      have HMd : Hid (∀ ng : Bool, Calls Tryz.prog 43 #[.bool ng, u8] wr fun e w' => Made ng (nv B32 K) e ∧ wr.grownBy w' none) := fun ng => madeP_any ng wr u8 K i1 i2 (by omega)
      have HE : Hid (nv B32 K = val (bN mag) ^ n ∧ w3.grownBy wr none) := ⟨by rw [i3, Nat.pow_zero, Nat.div_one], i6⟩
      have G3 := grownBy_trans HG2.out (grownBy_trans HL.out.2.2.2.2.2 i6)
      obtain ⟨hA, _⟩ := blksP G3
      have a0 := hA.c0
      have a1 := hA.c1
      clear i0 i1 i2 i3 i4 i5 i6
      cases neg
      · rcases Nat.mod_two_eq_zero_or_one n with hp | hp
        · have hbit : bits .and .i64 (n : Int) 1 = 0 := (and_one_i64 n (by omega)).trans (by rw [hp]; rfl)
          have HZQ : Hid (num false mag ^ n = if false = true then -((val (bN mag) ^ n : Nat) : Int) else ((val (bN mag) ^ n : Nat) : Int)) := (by rw [num_pow, hp]; rfl : num false mag ^ n = if false = true then -((val (bN mag) ^ n : Nat) : Int) else ((val (bN mag) ^ n : Nat) : Int))
          clear hp
          go_wp2_with fail
          refine (HMd.out false).mono ?_
          rintro e w9 ⟨hmd, g9⟩
          rw [HE.out.1] at hmd
          have hz := made_z hmd HZQ.out
          obtain ⟨b9, s9, er, rfl⟩ := hz.ans
          have HZ : Hid (ZRes (num false mag ^ n) (.returned (.tuple #[whole b9 s9, .int .i64 er]))) := hz
          have G9 := grownBy_trans (grownBy_trans HG2.out (grownBy_trans HL.out.2.2.2.2.2 HE.out.2)) g9
          obtain ⟨_, hR⟩ := blksP G9
          have HG9 : Hid (w.grownBy w9 none) := grownBy_trans (grow2 _ _ _) G9
          have c0 := hR.c0
          have c1 := hR.c1
          have c2 := hR.fr 0
          have c3 := hR.fr 1
          clear hmd hz g9 G9
          go_wp2_with fail
          refine bodyPost_ret (res_cell_tmp rfl _ _ (w.heap.size + 1) _ _ _ _ rfl (hR.put _ _)) rfl ?_
          exact ⟨HZ.out, grown_set (grown_set HG9.out (by omega)) (by omega)⟩
        · have hbit : bits .and .i64 (n : Int) 1 = 1 := (and_one_i64 n (by omega)).trans (by rw [hp]; rfl)
          have HZQ : Hid (num false mag ^ n = if false = true then -((val (bN mag) ^ n : Nat) : Int) else ((val (bN mag) ^ n : Nat) : Int)) := (by rw [num_pow, hp]; rfl : num false mag ^ n = if false = true then -((val (bN mag) ^ n : Nat) : Int) else ((val (bN mag) ^ n : Nat) : Int))
          clear hp
          go_wp2_with fail
          refine (HMd.out false).mono ?_
          rintro e w9 ⟨hmd, g9⟩
          rw [HE.out.1] at hmd
          have hz := made_z hmd HZQ.out
          obtain ⟨b9, s9, er, rfl⟩ := hz.ans
          have HZ : Hid (ZRes (num false mag ^ n) (.returned (.tuple #[whole b9 s9, .int .i64 er]))) := hz
          have G9 := grownBy_trans (grownBy_trans HG2.out (grownBy_trans HL.out.2.2.2.2.2 HE.out.2)) g9
          obtain ⟨_, hR⟩ := blksP G9
          have HG9 : Hid (w.grownBy w9 none) := grownBy_trans (grow2 _ _ _) G9
          have c0 := hR.c0
          have c1 := hR.c1
          have c2 := hR.fr 0
          have c3 := hR.fr 1
          clear hmd hz g9 G9
          go_wp2_with fail
          refine bodyPost_ret (res_cell_tmp rfl _ _ (w.heap.size + 1) _ _ _ _ rfl (hR.put _ _)) rfl ?_
          exact ⟨HZ.out, grown_set (grown_set HG9.out (by omega)) (by omega)⟩
      · rcases Nat.mod_two_eq_zero_or_one n with hp | hp
        · have hbit : bits .and .i64 (n : Int) 1 = 0 := (and_one_i64 n (by omega)).trans (by rw [hp]; rfl)
          have HZQ : Hid (num true mag ^ n = if false = true then -((val (bN mag) ^ n : Nat) : Int) else ((val (bN mag) ^ n : Nat) : Int)) := (by rw [num_pow, hp]; rfl : num true mag ^ n = if false = true then -((val (bN mag) ^ n : Nat) : Int) else ((val (bN mag) ^ n : Nat) : Int))
          clear hp
          go_wp2_with fail
          refine (HMd.out false).mono ?_
          rintro e w9 ⟨hmd, g9⟩
          rw [HE.out.1] at hmd
          have hz := made_z hmd HZQ.out
          obtain ⟨b9, s9, er, rfl⟩ := hz.ans
          have HZ : Hid (ZRes (num true mag ^ n) (.returned (.tuple #[whole b9 s9, .int .i64 er]))) := hz
          have G9 := grownBy_trans (grownBy_trans HG2.out (grownBy_trans HL.out.2.2.2.2.2 HE.out.2)) g9
          obtain ⟨_, hR⟩ := blksP G9
          have HG9 : Hid (w.grownBy w9 none) := grownBy_trans (grow2 _ _ _) G9
          have c0 := hR.c0
          have c1 := hR.c1
          have c2 := hR.fr 0
          have c3 := hR.fr 1
          clear hmd hz g9 G9
          go_wp2_with fail
          refine bodyPost_ret (res_cell_tmp rfl _ _ (w.heap.size + 1) _ _ _ _ rfl (hR.put _ _)) rfl ?_
          exact ⟨HZ.out, grown_set (grown_set HG9.out (by omega)) (by omega)⟩
        · have hbit : bits .and .i64 (n : Int) 1 = 1 := (and_one_i64 n (by omega)).trans (by rw [hp]; rfl)
          have HZQ : Hid (num true mag ^ n = if true = true then -((val (bN mag) ^ n : Nat) : Int) else ((val (bN mag) ^ n : Nat) : Int)) := (by rw [num_pow, hp]; rfl : num true mag ^ n = if true = true then -((val (bN mag) ^ n : Nat) : Int) else ((val (bN mag) ^ n : Nat) : Int))
          clear hp
          go_wp2_with fail
          refine (HMd.out true).mono ?_
          rintro e w9 ⟨hmd, g9⟩
          rw [HE.out.1] at hmd
          have hz := made_z hmd HZQ.out
          obtain ⟨b9, s9, er, rfl⟩ := hz.ans
          have HZ : Hid (ZRes (num true mag ^ n) (.returned (.tuple #[whole b9 s9, .int .i64 er]))) := hz
          have G9 := grownBy_trans (grownBy_trans HG2.out (grownBy_trans HL.out.2.2.2.2.2 HE.out.2)) g9
          obtain ⟨_, hR⟩ := blksP G9
          have HG9 : Hid (w.grownBy w9 none) := grownBy_trans (grow2 _ _ _) G9
          have c0 := hR.c0
          have c1 := hR.c1
          have c2 := hR.fr 0
          have c3 := hR.fr 1
          clear hmd hz g9 G9
          go_wp2_with fail
          refine bodyPost_ret (res_cell_tmp rfl _ _ (w.heap.size + 1) _ _ _ _ rfl (hR.put _ _)) rfl ?_
          exact ⟨HZ.out, grown_set (grown_set HG9.out (by omega)) (by omega)⟩
    | succ k =>
      have HPr : Hid (Calls Tryz.prog 65 #[u8, u8] wr fun e w' => ∃ v K', e = .returned v ∧ D4 w' v K' ∧ (∀ x ∈ K', x < B32) ∧ nv B32 K' = nv B32 K * nv B32 K ∧ Trim K' ∧ wr.grownBy w' none) := by
        refine (productP_any wr u8 u8 K K i1 i1 i2 i2 (by omega) (by omega)).mono ?_
        rintro e w' ⟨v, K', rfl, p1, p2, p3, p4, p5, p6⟩
        exact ⟨v, K', rfl, p1, p2, p3, p5, p6⟩
      have hkI : (k : Int) ≤ 62 := by omega
      obtain ⟨T, hT⟩ : ∃ T, n / 2 ^ k = T := ⟨_, rfl⟩
      have hTn : T ≤ n := by rw [← hT]; exact Nat.div_le_self _ _
      have hTI : (n : Int) / 2 ^ k = (T : Int) := by rw [← hT]; push_cast; rfl
      have hTh : n / 2 ^ (k + 1) = T / 2 := by rw [← hT, Nat.pow_succ, Nat.div_div_eq_div_mul]
      have HI : Hid (nv B32 K = val (bN mag) ^ (T / 2) ∧ w3.grownBy wr none ∧ n / 2 ^ k = T ∧ T ≤ n ∧ k ≤ 62) := ⟨by rw [i3, hTh], i6, hT, hTn, by omega⟩
      have hbT := and_one_i64 T (by omega)
      clear i0 i1 i2 i3 i4 i5 i6 hT hTh hTn
      go_wp2_with fail
      refine HPr.out.mono ?_
      rintro e w5 ⟨v5, K5, rfl, p1, p2, p3, p5, p7⟩
      have h5v : nv B32 K5 = val (bN mag) ^ (T / 2 + T / 2) := by rw [p3, HI.out.1, ← Nat.pow_add]
      have h5l : K5.length ≤ 8192 := trim_length p5 (by rw [h5v]; exact HBD.out _ (by have := HI.out.2.2.2.1; omega))
      have HK5 : Hid (D4 w5 v5 K5 ∧ (∀ x ∈ K5, x < B32) ∧ nv B32 K5 = val (bN mag) ^ (T / 2 + T / 2) ∧ Trim K5 ∧ K5.length ≤ 8192 ∧ w3.grownBy w5 none) := ⟨p1, p2, h5v, p5, h5l, grownBy_trans HI.out.2.1 p7⟩
      clear p1 p2 p3 p5 p7 h5v h5l HPr
      rcases Nat.mod_two_eq_zero_or_one T with hp | hp
      · rw [hp] at hbT
        have HP : Hid (T % 2 = 0) := hp
        clear hp
        go_wp2_with fail
        go_roundg k
        case measure => omega
        case rel =>
          obtain ⟨p1, p2, p3, p4, p5, p6⟩ := HK5.out
          exact ⟨K5, rfl, by have := HI.out.2.2.2.2; omega, p1, p2, by rw [p3, HI.out.2.2.1]; congr 1; have := HP.out; omega, p4, p5, p6⟩
      · rw [hp] at hbT
        have HP : Hid (T % 2 = 1) := hp
        have HPr2 : Hid (Calls Tryz.prog 65 #[v5, .slice (some ⟨B, 0, none⟩) nl nl] w5 fun e w' => ∃ v K', e = .returned v ∧ D4 w' v K' ∧ (∀ x ∈ K', x < B32) ∧ nv B32 K' = val (bN mag) ^ T ∧ Trim K' ∧ w5.grownBy w' none) := by
          obtain ⟨p1, p2, p3, p4, p5, p6⟩ := HK5.out
          have hL := HL.out.2.1.kept p6
          rw [HNL.out] at hL
          refine (productP_any w5 v5 _ K5 L p1 hL p2 HL.out.2.2.2.1 (by omega) (by have := HL.out.2.2.1; omega)).mono ?_
          rintro e w' ⟨v, K', rfl, q1, q2, q3, q4, q5, q6⟩
          refine ⟨v, K', rfl, q1, q2, ?_, q5, q6⟩
          rw [q3, p3, HL.out.2.2.2.2.1, ← Nat.pow_succ]
          congr 1
          omega
        clear hp
        go_wp2_with fail
        refine HPr2.out.mono ?_
        rintro e w6 ⟨v6, K6, rfl, q1, q2, q3, q5, q6⟩
        have h6l : K6.length ≤ 8192 := trim_length q5 (by rw [q3]; exact HBD.out _ HI.out.2.2.2.1)
        have HK6 : Hid (D4 w6 v6 K6 ∧ (∀ x ∈ K6, x < B32) ∧ nv B32 K6 = val (bN mag) ^ T ∧ Trim K6 ∧ K6.length ≤ 8192 ∧ w3.grownBy w6 none) := ⟨q1, q2, q3, q5, h6l, grownBy_trans HK5.out.2.2.2.2.2 q6⟩
        clear q1 q2 q3 q5 q6 h6l HPr2
        go_wp2_with fail
        go_roundg k
        case measure => omega
        case rel =>
          obtain ⟨p1, p2, p3, p4, p5, p6⟩ := HK6.out
          exact ⟨K6, rfl, by have := HI.out.2.2.2.2; omega, p1, p2, by rw [p3, HI.out.2.2.1], p4, p5, p6⟩
/-- No power on the way is too long. -/
theorem pow_bound1 {V n : Nat} (h : bl V ≤ 1) : Hid (∀ j, j ≤ n → V ^ j < B32 ^ 8192) := fun j _ => by
  have h1 := lt_bl V
  have h2 : (2 : Nat) ^ bl V ≤ 2 ^ 1 := Nat.pow_le_pow_right (by decide) h
  have h3 : V ^ j ≤ 1 ^ j := Nat.pow_le_pow_left (by omega) j
  rw [Nat.one_pow] at h3
  obtain ⟨E, hE⟩ : ∃ E, E = 8192 := ⟨_, rfl⟩
  rw [← hE]
  have h4 : B32 ^ 1 ≤ B32 ^ E := Nat.pow_le_pow_right (by decide) (by omega)
  have h5 : B32 ^ 1 = 4294967296 := by decide
  omega
theorem pow_bound2 {V n c Q : Nat} (hc : bl V = c + 1) (hc0 : 0 < c) (hQ : 131071 / c = Q) (hnQ : n ≤ Q) : Hid (∀ j, j ≤ n → V ^ j < B32 ^ 8192) := fun j hj => by
  have h1 := lt_bl V
  rw [hc] at h1
  have h2 : V ^ j ≤ (2 ^ (c + 1)) ^ j := Nat.pow_le_pow_left (Nat.le_of_lt h1) j
  rw [← Nat.pow_mul] at h2
  have h3 : c * j ≤ 131071 := by
    have := Nat.mul_le_mul_left c (Nat.le_trans hj hnQ)
    have h4 := Nat.mul_div_le 131071 c
    rw [hQ] at h4
    omega
  have h5 : (c + 1) * j ≤ 2 * (c * j) := by
    rw [← Nat.mul_assoc]
    exact Nat.mul_le_mul_right j (by omega)
  obtain ⟨E, hE⟩ : ∃ E, E = 8192 := ⟨_, rfl⟩
  rw [← hE, show B32 = 2 ^ 32 by decide, ← Nat.pow_mul]
  exact Nat.lt_of_le_of_lt h2 (Nat.pow_lt_pow_right (by decide) (by omega))

/-- The program's Pow of any number that may be, and any n that is not below 0. -/
theorem pow_yes (neg : Bool) (mag : ByteArray) (h : may neg mag = true) (n : Nat) (hn : n < 9223372036854775808) (w : World) :
    Calls Tryz.prog 23 #[whole neg mag, .int .i64 (n : Int)] w fun e w' => ZRes (num neg mag ^ n) e ∧ w.grownBy w' none := by
  rcases Nat.lt_or_ge 1 (bl (val (bN mag))) with hb | hb
  · obtain ⟨c, hc⟩ : ∃ c, bl (val (bN mag)) = c + 1 := ⟨bl (val (bN mag)) - 1, by omega⟩
    have hc0 : 0 < c := by omega
    obtain ⟨Q, hQ⟩ : ∃ Q, 131071 / c = Q := ⟨_, rfl⟩
    rcases Nat.lt_or_ge Q n with hnQ | hnQ
    · refine (pow_great neg mag h n c Q hn hc hc0 hQ hnQ w).mono ?_
      rintro e w' ⟨rfl, hg⟩
      refine ⟨.inr ⟨?_, rfl⟩, hg⟩
      have h1 := bl_iff.1 hc
      have h2 : 131072 ≤ c * n := by
        have h3 : 131071 < c * (Q + 1) := by rw [← hQ]; exact Nat.lt_mul_div_succ 131071 hc0
        have := Nat.mul_le_mul_left c (show Q + 1 ≤ n by omega)
        omega
      have h4 : 2 ^ (c * n) ≤ val (bN mag) ^ n := by
        rw [Nat.pow_mul]
        exact Nat.pow_le_pow_left h1.1 n
      have ha : (num neg mag ^ n).natAbs = val (bN mag) ^ n := by
        rw [num_pow]
        split <;> simp
      rw [ha]
      have h5 := bl_mono h4
      have h6 : bl (2 ^ (c * n)) = c * n + 1 := bl_iff.2 ⟨Nat.le_refl _, Nat.pow_lt_pow_right (by decide) (by omega)⟩
      omega
    · exact pow_in2 neg mag h n c Q hn hc hc0 hQ hnQ (pow_bound2 hc hc0 hQ hnQ) w
  · exact pow_in1 neg mag h n _ hn rfl hb (pow_bound1 hb) w
end Go.Proofs.YtjenbicaepldlaaGreatDoor
