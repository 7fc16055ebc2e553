/-
  The program's Shift of a number that may be, and of another.
-/
import Derived.Test.YtmgbkcfocbbofabGreatDoorSmm
import Derived.Test.YtmgbkcfocbbofabGreatDoorBunNat
import Derived.Test.YtmgbkcfocbbofabGreatDoorShu
import Derived.Test.YtmgbkcfocbbofabGreatDoorShe
import Derived.Test.YtmgbkcfocbbofabGreatDoorBunOps
namespace Go.Proofs.YtmgbkcfocbbofabGreatDoor
open Go.RowKit Go.Lib Go.Sort

/-- A number times 2 to a power that may be below 0, rounded down. -/
def shz (x n : Int) : Int := if 0 ≤ n then x * 2 ^ n.toNat else x / 2 ^ (-n).toNat
theorem shz_zero (n : Int) : shz 0 n = 0 := by unfold shz; split <;> simp
theorem shz_up (x : Int) (n : Nat) : shz x (n : Int) = x * 2 ^ n := by unfold shz; rw [if_pos (by omega), Int.toNat_natCast]
theorem shz_down (x n : Int) (k : Nat) (hn : n < 0) (hk : k = (-n).toNat) : shz x n = x / 2 ^ k := by unfold shz; rw [if_neg (by omega), hk]
theorem pow_cast (k : Nat) : ((2 ^ k : Nat) : Int) = 2 ^ k := by simp
theorem neg_floor (v k : Nat) (hv : 0 < v) : -(v : Int) / 2 ^ k = -(((v - 1) / 2 ^ k + 1 : Nat) : Int) := by
  rw [← pow_cast]
  have hp : 0 < 2 ^ k := Nat.pow_pos (by decide)
  generalize 2 ^ k = P at *
  have h1 := Nat.div_add_mod (v - 1) P
  have h2 := Nat.mod_lt (v - 1) hp
  generalize (v - 1) / P = q at *
  generalize (v - 1) % P = r at *
  have e : -(v : Int) = (P : Int) * -((q + 1 : Nat) : Int) + ((P - 1 - r : Nat) : Int) := by
    have h3 : ((P * q : Nat) : Int) = (P : Int) * (q : Int) := by simp
    have h4 : (P : Int) * -((q + 1 : Nat) : Int) = -((P : Int) * (q : Int)) - P := by
      rw [Int.mul_neg, Int.natCast_add, Int.mul_add]; simp; omega
    rw [h4, ← h3]
    omega
  rw [e, Int.add_comm, Int.add_mul_ediv_left _ _ (by omega), Int.ediv_eq_zero_of_lt (by omega) (by omega), Int.zero_add]
theorem pos_floor (v k : Nat) : (v : Int) / 2 ^ k = ((v / 2 ^ k : Nat) : Int) := by
  rw [← pow_cast]; exact (Int.natCast_ediv v (2 ^ k)).symm ▸ rfl
/-- Past all bits nothing more is lost. -/
theorem floor_far (v a b : Nat) (ha : v < 2 ^ a) (hab : a ≤ b) : v / 2 ^ b = v / 2 ^ a := by
  rw [Nat.div_eq_of_lt ha, Nat.div_eq_of_lt (Nat.lt_of_lt_of_le ha (Nat.pow_le_pow_right (by decide) hab))]

set_option maxHeartbeats 1600000 in
set_option maxRecDepth 1000000 in
theorem shift_no (neg : Bool) (mag : ByteArray) (hm : mag.size ≤ maxLen) (h : may neg mag = false) (n : Int) (w : World) :
    Calls Tryz.prog 13 #[whole neg mag, .int .i64 n] w fun e w' => e = .returned (.tuple #[whole false eS, .int .i64 2]) ∧ w.grownBy w' none := by
  have HC : Hid (∀ w, Calls Tryz.prog 7 #[whole neg mag] w fun e w' => e = .returned (.int .i64 2) ∧ w' = w.alloc (wObj neg mag)) := fun w => by
    have := check_any neg mag hm w
    rw [chk_no h] at this
    exact this
  clear h
  go_enter Tryz.func13, Tryz.ntmps13
  go_wp2_with fail
  refine (HC.out _).mono ?_
  rintro e w1 ⟨rfl, rfl⟩
  go_wp2_with fail
  refine (zero_any _).mono ?_
  rintro e w1 ⟨rfl, rfl⟩
  go_wp2_with fail
  refine bodyPost_ret (res_cell_tmp rfl _ _ (w.heap.size + 1) _ _ _ _ rfl (old_alloc _ _ (at_alloc2 _ _ _ _))) rfl ?_
  exact ⟨rfl, grow4 _ _ _ _ _⟩
set_option maxHeartbeats 1600000 in
set_option maxRecDepth 1000000 in
theorem shift_zero (neg : Bool) (n : Int) (w : World) (h : may neg eS = true) :
    Calls Tryz.prog 13 #[whole neg eS, .int .i64 n] w fun e w' => e = .returned (.tuple #[whole false eS, .int .i64 0]) ∧ w.grownBy w' none := by
  have hn := may_empty h
  subst hn
  have HC : Hid (∀ w, Calls Tryz.prog 7 #[whole false eS] w fun e w' => e = .returned (.int .i64 0) ∧ w' = w.alloc (wObj false eS)) := fun w => by
    have := check_any false eS (by decide) w
    rw [chk_yes h] at this
    exact this
  clear h
  go_enter Tryz.func13, Tryz.ntmps13
  go_wp2_with fail
  refine (HC.out _).mono ?_
  rintro e w1 ⟨rfl, rfl⟩
  go_wp2_with fail
  go_region_held3 (fun w' => w'.cell? ⟨w.heap.size, 0, none⟩ = some (Value.bool false) ∧ w'.cell? ⟨w.heap.size, 1, none⟩ = some (Value.string eS)) (first | (go_keep; done) | fail) (first | (go_at_call 29; refine (zero_any _).mono ?_; rintro e w' ⟨rfl, rfl⟩) | fail)
  go_wp2_with fail
  refine (zero_any _).mono ?_
  rintro e w1 ⟨rfl, rfl⟩
  go_wp2_with fail
  refine bodyPost_ret (res_cell_tmp rfl _ _ (w.heap.size + 1) _ _ _ _ rfl (old_alloc _ _ (old_alloc _ _ (at_alloc2 _ _ _ _)))) rfl ?_
  exact ⟨rfl, grow_drew (grownBy_trans (grow4 _ _ _ _ _) (grow1 _ _))⟩
/-- What a number that is not 0 brings along. -/
theorem bl_max {neg : Bool} {mag : ByteArray} (h : may neg mag = true) (K : Nat) (hK : K = 8 * 16384) : val (bN mag) < 2 ^ K ∧ bl (val (bN mag)) ≤ K := by
  have hm1 := may_size h
  have := val_lt (bN mag) (bN_rng mag)
  rw [bN_length, show (256 : Nat) = 2 ^ 8 from rfl, ← Nat.pow_mul] at this
  have h2 : val (bN mag) < 2 ^ K := Nat.lt_of_lt_of_le this (Nat.pow_le_pow_right (by decide) (by omega))
  exact ⟨h2, bl_le h2⟩
/-- The two blocks that a call of one number lays: its argument, its result. -/
theorem blks2 {n1 : Bool} {m1 : ByteArray} {w w1 : World} (g : ((w.alloc (wObj n1 m1)).alloc (wObj false eS)).grownBy w1 none) :
    WBlk w1 w.heap.size (.bool n1) (.string m1) ∧ WBlk w1 (w.heap.size + 1) (.bool false) (.string eS) :=
  ⟨WBlk.kept (at_alloc1 _ _ _) g (by simp), WBlk.kept (heap_alloc2_new _ _ _) g (by simp)⟩
theorem keep1 (w : World) (n1 : Bool) (m1 : ByteArray) : ∀ w', (w.alloc (wObj n1 m1)).grownBy w' none → w'.cell? ⟨w.heap.size, 0, none⟩ = some (Value.bool n1) ∧ w'.cell? ⟨w.heap.size, 1, none⟩ = some (Value.string m1) :=
  fun w' hg => ⟨grownBy_cell hg (WBlk.c0 (b := .string m1) (heap_alloc_new _ _)) (by simp), grownBy_cell hg (WBlk.c1 (a := .bool n1) (heap_alloc_new _ _)) (by simp)⟩
theorem Made.ans {neg : Bool} {n : Nat} {e : Ending} (h : Made neg n e) : ∃ n s er, e = .returned (.tuple #[whole n s, .int .i64 er]) := by
  rcases h with ⟨_, s, rfl, _⟩ | ⟨_, rfl⟩ <;> exact ⟨_, _, _, rfl⟩
theorem shiftUp_wds {w0 w1 : World} {va : Value} {m1 : ByteArray} (h1 : Wds w0 w1 va m1) (n : Nat) (hn : n ≤ 131072) :
    Calls Tryz.prog 43 #[va, .int .i64 (n : Int)] w1 fun e w' => ∃ v, e = .returned v ∧ ∃ K, D4 w' v K ∧ (∀ x ∈ K, x < B32) ∧ K.length ≤ 100000 ∧ nv B32 K = val (bN m1) * 2 ^ n ∧ w1.grownBy w' none := by
  obtain ⟨A, dA, rA, lA, vA, gA⟩ := h1
  refine (shiftUp_any w1 va A n dA rA (by omega) (by omega)).mono ?_
  rintro e w' ⟨B, K, rfl, _, hb, lK, rK, vK, gK⟩
  exact ⟨_, rfl, K, hb.d4, rK, by omega, by rw [vK, vA], gK⟩
theorem pre_grown (w : World) (a b c d : Obj) : ((w.alloc a).alloc b).grownBy ((((w.alloc a).alloc b).alloc c).alloc d).drew none := grow_drew (grow2 _ _ _)

set_option maxHeartbeats 1600000 in
set_option maxRecDepth 1000000 in
theorem shift_big (neg : Bool) (mag : ByteArray) (h : may neg mag = true) (h0 : mag.size ≠ 0) (n : Int) (hn : 131072 < n + bl (val (bN mag))) (w : World) :
    Calls Tryz.prog 13 #[whole neg mag, .int .i64 n] w fun e w' => e = .returned (.tuple #[whole false eS, .int .i64 4]) ∧ w.grownBy w' none := by
  have hm1 := may_size h
  have hm : mag.size ≤ maxLen := by unfold maxLen; omega
  have he := isEmpty_of h0
  have HC : Hid (∀ w, Calls Tryz.prog 7 #[whole neg mag] w fun e w' => e = .returned (.int .i64 0) ∧ w' = w.alloc (wObj neg mag)) := fun w => by
    have := check_any neg mag hm w
    rw [chk_yes h] at this
    exact this
  have HB : Hid (∀ w, Calls Tryz.prog 27 #[whole neg mag] w fun e w' => e = .returned (.int .i64 (bl (val (bN mag)))) ∧ w.grownBy w' none) := fun w => bits_yes neg mag h w
  have hb9 := (bl_max h _ rfl).2
  generalize bl (val (bN mag)) = b at *
  have hbI : (b : Int) ≤ 131072 := by omega
  clear h hb9
  go_enter Tryz.func13, Tryz.ntmps13
  go_wp2_with fail
  refine (HC.out _).mono ?_
  rintro e w1 ⟨rfl, rfl⟩
  go_wp2_with fail
  go_region_held3 (fun w' => w'.cell? ⟨w.heap.size, 0, none⟩ = some (Value.bool neg) ∧ w'.cell? ⟨w.heap.size, 1, none⟩ = some (Value.string mag)) (first | (go_keep; done) | fail) (first | (go_at_call 29; refine (zero_any _).mono ?_; rintro e w' ⟨rfl, rfl⟩) | fail)
  go_wp2_with fail
  refine (HB.out _).mono ?_
  rintro e w2 ⟨rfl, g2⟩
  have HG2 : Hid (((w.alloc (wObj neg mag)).alloc (wObj false eS)).grownBy w2 none) := grownBy_trans (pre_grown w _ _ _ _) g2
  clear g2 HB HC
  go_wp2_with fail
  refine (zero_any _).mono ?_
  rintro e w3 ⟨rfl, rfl⟩
  have HG3 : Hid (((w.alloc (wObj neg mag)).alloc (wObj false eS)).grownBy (w2.alloc (wObj false eS)) none) := grownBy_trans HG2.out (grow1 _ _)
  obtain ⟨_, hb⟩ := blks2 HG3.out
  have hc0 := hb.c0
  have hc1 := hb.c1
  have hf0 := hb.fr 0
  have hf1 := hb.fr 1
  go_wp2_with fail
  refine bodyPost_ret (res_cell_tmp rfl _ _ (w.heap.size + 1) _ _ _ _ rfl (hb.put _ _)) rfl ?_
  exact ⟨rfl, grown_set (grown_set (grownBy_trans (grow2 _ _ _) HG3.out) (by omega)) (by omega)⟩

set_option maxHeartbeats 1600000 in
set_option maxRecDepth 1000000 in
theorem shift_up (neg : Bool) (mag : ByteArray) (h : may neg mag = true) (h0 : mag.size ≠ 0) (n : Nat) (hn : n + bl (val (bN mag)) ≤ 131072) (w : World) :
    Calls Tryz.prog 13 #[whole neg mag, .int .i64 (n : Int)] w fun e w' => Made neg (val (bN mag) * 2 ^ n) e ∧ w.grownBy w' none := by
  have hm1 := may_size h
  have hm : mag.size ≤ maxLen := by unfold maxLen; omega
  have he := isEmpty_of h0
  have HC : Hid (∀ w, Calls Tryz.prog 7 #[whole neg mag] w fun e w' => e = .returned (.int .i64 0) ∧ w' = w.alloc (wObj neg mag)) := fun w => by
    have := check_any neg mag hm w
    rw [chk_yes h] at this
    exact this
  have HB : Hid (∀ w, Calls Tryz.prog 27 #[whole neg mag] w fun e w' => e = .returned (.int .i64 (bl (val (bN mag)))) ∧ w.grownBy w' none) := fun w => bits_yes neg mag h w
  generalize hbb : bl (val (bN mag)) = b at *
  have hnb : (n : Int) + b ≤ 131072 := by omega
  have hnN : n ≤ 131072 := by omega
  clear h
  go_enter Tryz.func13, Tryz.ntmps13
  go_wp2_with fail
  refine (HC.out _).mono ?_
  rintro e w1 ⟨rfl, rfl⟩
  go_wp2_with fail
  go_region_held3 (fun w' => w'.cell? ⟨w.heap.size, 0, none⟩ = some (Value.bool neg) ∧ w'.cell? ⟨w.heap.size, 1, none⟩ = some (Value.string mag)) (first | (go_keep; done) | fail) (first | (go_at_call 29; refine (zero_any _).mono ?_; rintro e w' ⟨rfl, rfl⟩) | fail)
  go_wp2_with fail
  refine (HB.out _).mono ?_
  rintro e w2 ⟨rfl, g2⟩
  have HG2 : Hid (((w.alloc (wObj neg mag)).alloc (wObj false eS)).grownBy w2 none) := grownBy_trans (pre_grown w _ _ _ _) g2
  obtain ⟨ha, _⟩ := blks2 HG2.out
  have ha0 := ha.c0
  have ha1 := ha.c1
  clear g2 HB HC ha
  go_wp2_with fail
  have HKK : Hid (∀ w', (w.alloc (wObj neg mag)).grownBy w' none → w'.cell? ⟨w.heap.size, 0, none⟩ = some (Value.bool neg) ∧ w'.cell? ⟨w.heap.size, 1, none⟩ = some (Value.string mag)) := keep1 w neg mag
  go_region_held3 (fun w' => w'.cell? ⟨w.heap.size, 0, none⟩ = some (Value.bool neg) ∧ w'.cell? ⟨w.heap.size, 1, none⟩ = some (Value.string mag))
    (first | (go_keep; done) | exact HKK.out _ (grownBy_trans (grow1 _ _) (by assumption)) | exact HKK.out _ (grown_set (grown_set (grownBy_trans (grow1 _ _) GM) (by simp)) (by simp)) | exact HKK.out _ (grow_drew (grownBy_trans (grow1 _ _) HG2.out)) | fail)
    (first
      | (go_at_call 30; refine (digits_dgs _ hm1 _).mono ?_; rintro e wA ⟨vA, rfl, hWA⟩; have GA : ((w.alloc (wObj neg mag)).alloc (wObj false eS)).grownBy wA none := (by have hgA := hWA.grown; first | exact grownBy_trans (by assumption) hgA | exact grownBy_trans HG2.out hgA | exact grownBy_trans HG2.out (grownBy_undrew hgA) | fail))
      | (go_at_call 43; refine (shiftUp_wds hWA n hnN).mono ?_; rintro e wP ⟨vP, rfl, K, hDK, hRK, hLK, hVK, hGK⟩; have GP : ((w.alloc (wObj neg mag)).alloc (wObj false eS)).grownBy wP none := grownBy_trans (by assumption) hGK)
      | (go_at_call 42; refine (madeP_any neg _ _ K hDK hRK (by omega)).mono ?_; rw [hVK]; rintro e wM ⟨hMM, hGM⟩; have GM : ((w.alloc (wObj neg mag)).alloc (wObj false eS)).grownBy wM none := grownBy_trans GP hGM; obtain ⟨nn, ss, er, rfl⟩ := hMM.ans; have HZ2 : Hid (Made neg (val (bN mag) * 2 ^ n) (.returned (.tuple #[whole nn ss, .int .i64 er]))) := hMM; obtain ⟨_, hb⟩ := blks2 GM; have hc0 := hb.c0; have hc1 := hb.c1; have hf0 := hb.fr 0; have hf1 := hb.fr 1)
      | fail)
  go_wp2_with fail
  refine bodyPost_ret (res_cell_tmp rfl _ _ (w.heap.size + 1) _ _ _ _ rfl (hb.put _ _)) rfl ?_
  exact ⟨HZ2.out, grown_set (grown_set (grownBy_trans (grow2 _ _ _) GM) (by omega)) (by omega)⟩
end Go.Proofs.YtmgbkcfocbbofabGreatDoor
