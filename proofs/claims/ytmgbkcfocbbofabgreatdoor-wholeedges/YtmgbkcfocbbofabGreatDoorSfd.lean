/-
  The program's Shift by a number below 0; and Shift of any number by any.
-/
import Derived.Test.YtmgbkcfocbbofabGreatDoorShf
import Derived.Test.YtmgbkcfocbbofabGreatDoorRed
namespace Go.Proofs.YtmgbkcfocbbofabGreatDoor
open Go.RowKit Go.Lib Go.Sort

theorem shiftDown_wds {w0 w1 : World} {va : Value} {m1 : ByteArray} (h1 : Wds w0 w1 va m1) (n : Nat) (hn : n ≤ 131072) :
    Calls Tryz.prog 45 #[va, .int .i64 (n : Int)] w1 fun e w' => ∃ v, e = .returned v ∧ ∃ K, D4 w' v K ∧ (∀ x ∈ K, x < B32) ∧ K.length ≤ 100000 ∧ nv B32 K = val (bN m1) / 2 ^ n ∧ w1.grownBy w' none := by
  obtain ⟨A, dA, rA, lA, vA, gA⟩ := h1
  refine (shiftDown_any w1 va A n dA rA (by omega) (by omega)).mono ?_
  rintro e w' ⟨v, K, rfl, hR, rK, vK, _, lK, gK⟩
  exact ⟨_, rfl, K, hR.d4, rK, by omega, by rw [vK, vA], gK⟩
/-- Digits that a call takes 1 from: new ones. -/
theorem takeOne (m : ByteArray) (hm : m.size ≤ 16384) (h0 : m.size ≠ 0) (hv : 0 < val (bN m)) (w W : World) (b1 : Nat) (h1 : D4 w (.slice (some ⟨b1, 0, none⟩) 1 1) [1]) (hb1 : b1 < w.heap.size) (B : Nat) (L : List Nat) (hB : w.heap.size ≤ B) (hBk : BlkL W B 55 enc4 (ints L)) (hg : w.grownBy W none) (hl : L.length = (m.size + 3) / 4) (hr : ∀ x ∈ L, x < B32) (hL : nv B32 L = val (bN m)) :
    Calls Tryz.prog 46 #[.slice (some ⟨B, 0, none⟩) L.length L.length, .slice (some ⟨b1, 0, none⟩) 1 1] W fun e w' => ∃ v K, e = .returned v ∧ D4 w' v K ∧ (∀ x ∈ K, x < B32) ∧ K.length ≤ 100000 ∧ nv B32 K = val (bN m) - 1 ∧ w.grownBy w' none := by
  refine (takeFrom_row W w.heap.size _ _ L [1] (hBk.row hB (by unfold maxLen; omega)) (h1.kept hg) ?_ hr (by intro x hx; simp at hx; subst hx; decide) (by simp; omega) (by simp [nv]; omega) (by omega)).mono ?_
  · intro b n c e
    cases e
    simp [Value.ownBlock]
    omega
  · rintro e w' ⟨v, K, rfl, dK, rK, _, lK, vK, gK⟩
    exact ⟨v, K, rfl, dK, rK, by omega, by rw [vK, hL]; simp [nv], grownBy_new hg hB gK⟩
/-- Digits that a call adds 1 to. -/
theorem addOne (w W : World) (b1 : Nat) (h1 : D4 w (.slice (some ⟨b1, 0, none⟩) 1 1) [1]) (hb1 : b1 < w.heap.size) (v : Value) (K : List Nat) (hg : w.grownBy W none) (hK : Row W w.heap.size v K) (hr : ∀ x ∈ K, x < B32) (hl : K.length ≤ 100000) :
    Calls Tryz.prog 44 #[v, .slice (some ⟨b1, 0, none⟩) 1 1] W fun e w' => ∃ v K', e = .returned v ∧ D4 w' v K' ∧ (∀ x ∈ K', x < B32) ∧ K'.length ≤ 1000000 ∧ nv B32 K' = nv B32 K + 1 ∧ w.grownBy w' none := by
  refine (addTo_row W w.heap.size v _ K [1] hK (h1.kept hg) ?_ hr (by intro x hx; simp at hx; subst hx; decide) (by omega) (by simp) hg.size).mono ?_
  · intro b n c e
    cases e
    intro e
    have := (hK.lt e.symm).1
    simp at this
    omega
  · rintro e w' ⟨v', K', rfl, hR, rK, vK, _, lK, _, _, gK⟩
    refine ⟨v', K', rfl, hR.d4, rK, by simp at lK; omega, by rw [vK]; simp [nv], grown_row hg hK gK⟩

set_option maxHeartbeats 1600000 in
set_option maxRecDepth 1000000 in
theorem shift_dpos (mag : ByteArray) (h : may false mag = true) (h0 : mag.size ≠ 0) (n : Int) (hn : n < 0) (hn0 : -9223372036854775808 ≤ n) (k : Nat) (hk : -(max n (-131072)) = (k : Int)) (w : World) :
    Calls Tryz.prog 13 #[whole false mag, .int .i64 n] w fun e w' => Made false (val (bN mag) / 2 ^ k) e ∧ w.grownBy w' none := by
  have hm1 := may_size h
  have hm : mag.size ≤ maxLen := by unfold maxLen; omega
  have he := isEmpty_of h0
  have HC : Hid (∀ w, Calls Tryz.prog 7 #[whole false mag] w fun e w' => e = .returned (.int .i64 0) ∧ w' = w.alloc (wObj false mag)) := fun w => by
    have := check_any false mag hm w
    rw [chk_yes h] at this
    exact this
  have HB : Hid (∀ w, Calls Tryz.prog 27 #[whole false mag] w fun e w' => e = .returned (.int .i64 (bl (val (bN mag)))) ∧ w.grownBy w' none) := fun w => bits_yes false mag h w
  have hb9 := (bl_max h _ rfl).2
  generalize bl (val (bN mag)) = b at *
  have hbI : (b : Int) ≤ 131072 := by omega
  have hkN : k ≤ 131072 := by omega
  have hnb : n + b ≤ 131072 := by omega
  clear h hb9
  go_enter Tryz.func13, Tryz.ntmps13
  go_wp2_with fail
  refine (HC.out _).mono ?_
  rintro e w1 ⟨rfl, rfl⟩
  go_wp2_with fail
  go_region_held3 (fun w' => w'.cell? ⟨w.heap.size, 0, none⟩ = some (Value.bool false) ∧ w'.cell? ⟨w.heap.size, 1, none⟩ = some (Value.string mag)) (first | (go_keep; done) | fail) (first | (go_at_call 29; refine (zero_any _).mono ?_; rintro e w' ⟨rfl, rfl⟩) | fail)
  go_wp2_with fail
  refine (HB.out _).mono ?_
  rintro e w2 ⟨rfl, g2⟩
  have HG2 : Hid (((w.alloc (wObj false mag)).alloc (wObj false eS)).grownBy w2 none) := grownBy_trans (pre_grown w _ _ _ _) g2
  have HG3 : Hid (((w.alloc (wObj false mag)).alloc (wObj false eS)).grownBy (w2.alloc (.cells #[.int .u32 1] 55)) none) := grownBy_trans HG2.out (grow1 _ _)
  obtain ⟨ha, _⟩ := blks2 HG3.out
  have ha0 := ha.c0
  have ha1 := ha.c1
  clear g2 HB HC ha
  go_wp2_with fail
  refine (digits_dgs mag hm1 _).mono ?_
  rintro e w4 ⟨vA, rfl, hWA⟩
  have HG4 : Hid (((w.alloc (wObj false mag)).alloc (wObj false eS)).grownBy w4 none) := grownBy_trans HG3.out hWA.grown
  clear ha0 ha1
  go_wp2_with fail
  refine (shiftDown_wds hWA k hkN).mono ?_
  rintro e w5 ⟨vB, rfl, K, dK, rK, lK, vK, gK⟩
  have HG5 : Hid (((w.alloc (wObj false mag)).alloc (wObj false eS)).grownBy w5 none) := grownBy_trans HG4.out gK
  clear gK
  go_wp2_with fail
  refine (madeP_any false _ _ K dK rK (by omega)).mono ?_
  rw [vK]
  rintro e w6 ⟨hMM, hGM⟩
  have GM : ((w.alloc (wObj false mag)).alloc (wObj false eS)).grownBy w6 none := grownBy_trans HG5.out hGM
  obtain ⟨nn, ss, er, rfl⟩ := hMM.ans
  have HZ2 : Hid (Made false (val (bN mag) / 2 ^ k) (.returned (.tuple #[whole nn ss, .int .i64 er]))) := hMM
  obtain ⟨_, hb⟩ := blks2 GM
  have hc0 := hb.c0
  have hc1 := hb.c1
  have hf0 := hb.fr 0
  have hf1 := hb.fr 1
  have HGM : Hid (((w.alloc (wObj false mag)).alloc (wObj false eS)).grownBy w6 none) := GM
  clear GM hGM hMM dK rK hWA
  go_wp2_with fail
  refine bodyPost_ret (res_cell_tmp rfl _ _ (w.heap.size + 1) _ _ _ _ rfl (hb.put _ _)) rfl ?_
  exact ⟨HZ2.out, grown_set (grown_set (grownBy_trans (grow2 _ _ _) HGM.out) (by omega)) (by omega)⟩
theorem one_new (w : World) : D4 (w.alloc (.cells #[.int .u32 1] 55)) (.slice (some ⟨w.heap.size, 0, none⟩) 1 1) [1] := by
  refine .inr ⟨w.heap.size, 0, 1, rfl, Nat.le_refl _, fun j hj => ?_⟩
  obtain rfl : j = 0 := by simpa using hj
  have h := heap_alloc_new w (.cells #[.int .u32 1] 55)
  simp only [World.cell?, Nat.add_zero, h]
  rfl

set_option maxHeartbeats 1600000 in
set_option maxRecDepth 1000000 in
theorem shift_dneg (mag : ByteArray) (h : may true mag = true) (h0 : mag.size ≠ 0) (hv : 0 < val (bN mag)) (n : Int) (hn : n < 0) (hn0 : -9223372036854775808 ≤ n) (k : Nat) (hk : -(max n (-131072)) = (k : Int)) (w : World) :
    Calls Tryz.prog 13 #[whole true mag, .int .i64 n] w fun e w' => Made true ((val (bN mag) - 1) / 2 ^ k + 1) e ∧ w.grownBy w' none := by
  have hm1 := may_size h
  have hm : mag.size ≤ maxLen := by unfold maxLen; omega
  have he := isEmpty_of h0
  have HC : Hid (∀ w, Calls Tryz.prog 7 #[whole true mag] w fun e w' => e = .returned (.int .i64 0) ∧ w' = w.alloc (wObj true mag)) := fun w => by
    have := check_any true mag hm w
    rw [chk_yes h] at this
    exact this
  have HB : Hid (∀ w, Calls Tryz.prog 27 #[whole true mag] w fun e w' => e = .returned (.int .i64 (bl (val (bN mag)))) ∧ w.grownBy w' none) := fun w => bits_yes true mag h w
  have hb9 := (bl_max h _ rfl).2
  generalize bl (val (bN mag)) = b at *
  have hbI : (b : Int) ≤ 131072 := by omega
  have hkN : k ≤ 131072 := by omega
  have hnb : n + b ≤ 131072 := by omega
  clear h hb9
  go_enter Tryz.func13, Tryz.ntmps13
  go_wp2_with fail
  refine (HC.out _).mono ?_
  rintro e w1 ⟨rfl, rfl⟩
  go_wp2_with fail
  go_region_held3 (fun w' => w'.cell? ⟨w.heap.size, 0, none⟩ = some (Value.bool true) ∧ w'.cell? ⟨w.heap.size, 1, none⟩ = some (Value.string mag)) (first | (go_keep; done) | fail) (first | (go_at_call 29; refine (zero_any _).mono ?_; rintro e w' ⟨rfl, rfl⟩) | fail)
  go_wp2_with fail
  refine (HB.out _).mono ?_
  rintro e w2 ⟨rfl, g2⟩
  have HG2 : Hid (((w.alloc (wObj true mag)).alloc (wObj false eS)).grownBy w2 none) := grownBy_trans (pre_grown w _ _ _ _) g2
  have HG3 : Hid (((w.alloc (wObj true mag)).alloc (wObj false eS)).grownBy (w2.alloc (.cells #[.int .u32 1] 55)) none) := grownBy_trans HG2.out (grow1 _ _)
  obtain ⟨ha, _⟩ := blks2 HG3.out
  have ha0 := ha.c0
  have ha1 := ha.c1
  have H1 := one_new w2
  have HD1 : Hid (D4 (w2.alloc (.cells #[.int .u32 1] 55)) (.slice (some ⟨w2.heap.size, 0, none⟩) 1 1) [1]) := H1
  clear g2 HB HC ha H1
  go_wp2_with fail
  refine (digitsOf_any mag hm1 _).mono ?_
  rintro e w4 ⟨B, L, rfl, hB, hBk, g4, hl, hr, hL⟩
  have hs : w2.heap.size < (w2.alloc (.cells #[.int .u32 1] 55)).heap.size := by simp
  have HT : Hid (Calls Tryz.prog 46 #[.slice (some ⟨B, 0, none⟩) L.length L.length, .slice (some ⟨w2.heap.size, 0, none⟩) 1 1] w4 fun e w' => ∃ v K, e = .returned v ∧ D4 w' v K ∧ (∀ x ∈ K, x < B32) ∧ K.length ≤ 100000 ∧ nv B32 K = val (bN mag) - 1 ∧ (w2.alloc (.cells #[.int .u32 1] 55)).grownBy w' none) := takeOne mag hm1 h0 hv _ w4 w2.heap.size HD1.out hs B L hB hBk g4 hl hr hL
  clear ha0 ha1 hB hBk g4 hl hr hL
  go_wp2_with fail
  refine HT.out.mono ?_
  rintro e w5 ⟨v5, K5, rfl, d5, r5, l5, n5, g5⟩
  have HS : Hid (Calls Tryz.prog 45 #[v5, .int .i64 (k : Int)] w5 fun e w' => ∃ v' K, e = .returned v' ∧ Row w' w5.heap.size v' K ∧ (∀ x ∈ K, x < B32) ∧ nv B32 K = nv B32 K5 / 2 ^ k ∧ Trim K ∧ K.length ≤ K5.length ∧ w5.grownBy w' none) := shiftDown_any w5 v5 K5 k d5 r5 (by omega) (by omega)
  have HD5 : Hid (D4 w5 (.slice (some ⟨w2.heap.size, 0, none⟩) 1 1) [1]) := HD1.out.kept g5
  have HG5 : Hid (((w.alloc (wObj true mag)).alloc (wObj false eS)).grownBy w5 none) := grownBy_trans HG3.out g5
  have hs5 : w2.heap.size < w5.heap.size := Nat.lt_of_lt_of_le hs g5.size
  clear HT d5 r5 g5 HD1 HG3 HG2
  go_wp2_with fail
  refine HS.out.mono ?_
  rintro e w6 ⟨v6, K6, rfl, R6, r6, n6, _, l6, g6⟩
  have HA : Hid (Calls Tryz.prog 44 #[v6, .slice (some ⟨w2.heap.size, 0, none⟩) 1 1] w6 fun e w' => ∃ v K', e = .returned v ∧ D4 w' v K' ∧ (∀ x ∈ K', x < B32) ∧ K'.length ≤ 1000000 ∧ nv B32 K' = nv B32 K6 + 1 ∧ w5.grownBy w' none) := addOne w5 w6 w2.heap.size HD5.out hs5 v6 K6 g6 R6 r6 (by omega)
  clear HS R6 r6 g6 HD5 hs hs5
  go_wp2_with fail
  refine HA.out.mono ?_
  rintro e w7 ⟨v7, K7, rfl, d7, r7, l7, n7, g7⟩
  have HG7 : Hid (((w.alloc (wObj true mag)).alloc (wObj false eS)).grownBy w7 none) := grownBy_trans HG5.out g7
  have hM := madeP_any true w7 v7 K7 d7 r7 (by omega)
  rw [n7, n6, n5] at hM
  have HM : Hid (Calls Tryz.prog 42 #[.bool true, v7] w7 fun e w' => Made true ((val (bN mag) - 1) / 2 ^ k + 1) e ∧ w7.grownBy w' none) := hM
  clear hM HA HG5 d7 r7 l7 n7 g7 n6 n5 l5 l6
  go_wp2_with fail
  refine HM.out.mono ?_
  rintro e w8 ⟨hMM, hGM⟩
  have GM : ((w.alloc (wObj true mag)).alloc (wObj false eS)).grownBy w8 none := grownBy_trans HG7.out hGM
  obtain ⟨nn, ss, er, rfl⟩ := hMM.ans
  have HZ2 : Hid (Made true ((val (bN mag) - 1) / 2 ^ k + 1) (.returned (.tuple #[whole nn ss, .int .i64 er]))) := hMM
  obtain ⟨_, hb⟩ := blks2 GM
  have hc0 := hb.c0
  have hc1 := hb.c1
  have hf0 := hb.fr 0
  have hf1 := hb.fr 1
  have HGM : Hid (((w.alloc (wObj true mag)).alloc (wObj false eS)).grownBy w8 none) := GM
  clear GM hGM hMM HM HG7
  go_wp2_with fail
  refine bodyPost_ret (res_cell_tmp rfl _ _ (w.heap.size + 1) _ _ _ _ rfl (hb.put _ _)) rfl ?_
  exact ⟨HZ2.out, grown_set (grown_set (grownBy_trans (grow2 _ _ _) HGM.out) (by omega)) (by omega)⟩

theorem val_pos {neg : Bool} {mag : ByteArray} (h : may neg mag = true) (h0 : mag.size ≠ 0) : 0 < val (bN mag) := by
  have hp : 0 < mag.size := by omega
  have hne : mag[0].toNat ≠ 0 := by
    unfold may at h
    rw [if_neg h0, bN_head mag hp] at h
    simp at h
    exact h.2
  have h1 := bl_val mag hp hne
  obtain ⟨k, hk⟩ := bl_pos (Nat.pos_of_ne_zero hne)
  refine Nat.pos_of_ne_zero fun e => ?_
  rw [e, bl_zero] at h1
  omega
/-- Shift of a number that may be, by any number. -/
theorem shift_yes (neg : Bool) (mag : ByteArray) (h : may neg mag = true) (n : Int) (hn0 : -9223372036854775808 ≤ n) (w : World) :
    Calls Tryz.prog 13 #[whole neg mag, .int .i64 n] w fun e w' => ZRes (shz (num neg mag) n) e ∧ w.grownBy w' none := by
  by_cases h0 : mag.size = 0
  · obtain rfl := empty_of_size h0
    refine (shift_zero neg n w h).mono ?_
    rintro e w' ⟨rfl, hg⟩
    refine ⟨?_, hg⟩
    obtain rfl := may_empty h
    have e0 : num false ByteArray.empty = 0 := rfl
    rw [e0, shz_zero]
    exact .inl ⟨by simp [bl_zero], false, eS, rfl, by decide, by simp [magN_zero]; rfl⟩
  · have hv : 0 < val (bN mag) := val_pos h h0
    rcases Int.lt_or_le 131072 (n + bl (val (bN mag))) with hb | hb
    · refine (shift_big neg mag h h0 n hb w).mono ?_
      rintro e w' ⟨rfl, hg⟩
      refine ⟨.inr ⟨?_, rfl⟩, hg⟩
      have hn : 0 ≤ n := by
        have := (bl_max h _ rfl).2
        omega
      obtain ⟨m, rfl⟩ := Int.eq_ofNat_of_zero_le hn
      rw [shz_up, Int.natAbs_mul, num_abs, ← pow_cast, Int.natAbs_natCast]
      have := bl_up (val (bN mag)) m 0 hv (Nat.pow_pos (by decide))
      rw [Nat.add_zero] at this
      omega
    · rcases Int.lt_or_le n 0 with hn | hn
      · have hm9 := bl_max h 131072 rfl
        obtain ⟨k, hk⟩ : ∃ k : Nat, -(max n (-131072)) = (k : Int) := ⟨(-(max n (-131072))).toNat, by omega⟩
        have hfar : ∀ x : Nat, x ≤ val (bN mag) → x / 2 ^ k = x / 2 ^ (-n).toNat := fun x hx => by
          by_cases hk9 : n < -131072
          · have e1 : k = 131072 := by omega
            rw [e1]
            exact (floor_far x _ _ (Nat.lt_of_le_of_lt hx hm9.1) (by omega)).symm
          · rw [show k = (-n).toNat by omega]
        rw [shz_down _ n _ hn rfl]
        cases neg
        · refine (shift_dpos mag h h0 n hn hn0 k hk w).mono ?_
          rintro e w' ⟨hM, hg⟩
          refine ⟨made_z hM ?_, hg⟩
          rw [num_f, pos_floor, hfar _ (Nat.le_refl _)]
          simp
        · refine (shift_dneg mag h h0 hv n hn hn0 k hk w).mono ?_
          rintro e w' ⟨hM, hg⟩
          refine ⟨made_z hM ?_, hg⟩
          rw [num_t, neg_floor _ _ hv, hfar _ (Nat.sub_le _ _)]
          simp
      · obtain ⟨m, rfl⟩ := Int.eq_ofNat_of_zero_le hn
        refine (shift_up neg mag h h0 m (by omega) w).mono ?_
        rintro e w' ⟨hM, hg⟩
        refine ⟨made_z hM ?_, hg⟩
        rw [shz_up]
        cases neg <;> simp [num_f, num_t, Int.neg_mul]
end Go.Proofs.YtmgbkcfocbbofabGreatDoor
