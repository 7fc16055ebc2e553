/-
  The program's shiftUp.
-/
import Derived.Test.YtmgbkcfocbbofabGreatDoorPrd
import Derived.Test.YtmgbkcfocbbofabGreatDoorBunMor
namespace Go.Proofs.YtmgbkcfocbbofabGreatDoor
open Go.RowKit Go.Lib Go.Sort

theorem up_pow (n i : Nat) : B32 ^ (n / 32 + i) * 2 ^ (n % 32) = B32 ^ i * 2 ^ n := by
  have e : B32 = 2 ^ 32 := by decide
  rw [e, ← Nat.pow_mul, ← Nat.pow_mul, ← Nat.pow_add, ← Nat.pow_add]
  congr 1
  omega
theorem up_step {M : List Nat} {sh c x S T n i : Nat} (hs : sh = n / 32 + i) (hk : sh < M.length) (hz : M[sh]?.getD 0 = 0) (hv : nv B32 M + c * B32 ^ sh = S * 2 ^ n) (hT : T = c + x * 2 ^ (n % 32)) :
    nv B32 (M.set sh (T % 4294967296)) + T / 4294967296 * B32 ^ (sh + 1) = (S + x * B32 ^ i) * 2 ^ n := by
  have h := nv_set B32 M sh (T % 4294967296) hk
  rw [hz, Nat.zero_mul, Nat.add_zero] at h
  have e1 : T % 4294967296 * B32 ^ sh + T / 4294967296 * B32 ^ (sh + 1) = T * B32 ^ sh := by
    rw [Nat.pow_succ, Nat.mul_comm (B32 ^ sh) B32, ← Nat.mul_assoc, ← Nat.add_mul]
    congr 1
    simp only [B32]
    omega
  have e2 : T * B32 ^ sh = c * B32 ^ sh + x * (B32 ^ i * 2 ^ n) := by
    rw [hT, Nat.add_mul, Nat.mul_assoc, Nat.mul_comm (2 ^ (n % 32)), hs, up_pow]
  rw [Nat.add_mul, Nat.mul_assoc, h, Nat.add_assoc, e1, e2, ← Nat.add_assoc, hv]

set_option maxHeartbeats 6400000 in
set_option maxRecDepth 1000000 in
theorem shiftUp_any (w : World) (va : Value) (A : List Nat) (n : Nat) (hA : D4 w va A) (ra : ∀ x ∈ A, x < B32) (la : A.length ≤ 1000000) (hn : n ≤ 10000000) :
    Calls Tryz.prog 43 #[va, .int .i64 (n : Int)] w fun e w' => ∃ B K, e = .returned (.slice (some ⟨B, 0, none⟩) K.length K.length) ∧ w.heap.size ≤ B ∧ BlkL w' B 55 enc4 (ints K) ∧ K.length = n / 32 + A.length + 1 ∧ (∀ x ∈ K, x < B32) ∧ nv B32 K = nv B32 A * 2 ^ n ∧ w.grownBy w' none := by
  obtain ⟨aa, ca, rfl⟩ := hA.slice
  have HA : Hid (D4 w (.slice aa A.length ca) A) := hA
  have HRa : Hid (∀ x ∈ A, x < B32) := ra
  obtain ⟨p, hp⟩ : ∃ p, A.length = p := ⟨_, rfl⟩
  have HP : Unit → A.length = p := fun _ => hp
  have hp9 : (p : Int) ≤ 1000000 := by omega
  obtain ⟨q, hq⟩ : ∃ q, n / 32 = q := ⟨_, rfl⟩
  obtain ⟨b, hb⟩ : ∃ b, n % 32 = b := ⟨_, rfl⟩
  have hqI : (n : Int) / 32 = (q : Int) := by omega
  have hbI : (n : Int) % 32 = (b : Int) := by omega
  have hqI9 : (q : Int) ≤ 10000000 := by omega
  have hbI9 : (b : Int) ≤ 31 := by omega
  have hnI : (n : Int) ≤ 10000000 := by omega
  have HQ : Unit → n / 32 = q ∧ n % 32 = b := fun _ => ⟨hq, hb⟩
  have hmk := make4 w (q + p + 1) (by omega)
  rw [show ((q + p + 1 : Nat) : Int) = (q : Int) + p + 1 by omega] at hmk
  rw [hp] at HA ⊢
  rw [hq]
  clear hA ra hp la hn hq hb
  go_enter Tryz.func43, Tryz.ntmps43
  go_wp2_with fail
  clear hmk
  go_loopw [8, 23] (fun s t wr => ∃ (c i : Nat) (M : List Nat), s = .int .u64 c ∧ t = .int .i64 i ∧ c < 2 ^ b ∧ i ≤ p ∧ M.length = q + p + 1 ∧ (∀ x ∈ M, x < B32) ∧ nv B32 M + c * B32 ^ (q + i) = nv B32 (A.take i) * 2 ^ n ∧ (∀ j, q + i ≤ j → M[j]?.getD 0 = 0) ∧
    BlkL wr w.heap.size 55 enc4 (ints M) ∧ w.grownBy wr none) (fun _ t _ => p - (RowKit.intOf t).toNat)
  case atStart =>
    refine ⟨0, 0, List.replicate (q + p + 1) 0, rfl, rfl, Nat.pow_pos (by decide), by omega, by simp, fun x hx => by rw [List.eq_of_mem_replicate hx]; decide, by rw [nv_replicate]; simp [nv], fun j _ => ?_, heap_alloc_new _ _, grow1 _ _⟩
    rw [List.getElem?_replicate]
    split <;> rfl
  case round =>
    obtain ⟨c, i, M, rfl, rfl, hc, hi, hM, hr, hv, hz, hBk, hg⟩ := hrel
    have HR : Hid (∀ x ∈ M, x < B32) := hr
    have HV : Hid (nv B32 M + c * B32 ^ (q + i) = nv B32 (A.take i) * 2 ^ n) := hv
    have HZ : Hid (∀ j, q + i ≤ j → M[j]?.getD 0 = 0) := hz
    have HBk : Hid (BlkL wr w.heap.size 55 enc4 (ints M)) := hBk
    have HG : Hid (w.grownBy wr none) := hg
    have hb31 : b ≤ 31 := by omega
    have hpb : 2 ^ b ≤ 2 ^ 31 := Nat.pow_le_pow_right (by decide) hb31
    have e31 : 2 ^ 31 = 2147483648 := by decide
    have hcI : (c : Int) ≤ 2147483647 := by omega
    by_cases hi1 : i < p
    · rcases HA.out with ⟨_, hnil⟩ | ⟨Ba, oa, ca', hve, hpc, hcA⟩
      · exfalso
        have := HP ()
        rw [hnil] at this
        simp at this
        omega
      · obtain ⟨haa, hpp, hcc⟩ := Value.slice.inj hve
        rw [HP ()] at hpc
        clear hpp hve
        subst haa
        subst hcc
        have hx := grownBy_cell hg (hcA i (by rw [HP ()]; omega)) (by simp)
        have rx : A[i]?.getD 0 < 4294967296 := d4_rng HRa.out i
        have SA : Hid (nv B32 (A.take (i + 1)) = nv B32 (A.take i) + A[i]?.getD 0 * B32 ^ i) := nv_take_succ B32 A i
        have hzc := hBk.cell (q + i) (by rw [ints_length]; omega)
        have hzf := hBk.frozen (q + i)
        clear hcA hr hv hz hBk hg
        generalize A[i]?.getD 0 = x at *
        have hxI : (x : Int) ≤ 4294967295 := by omega
        obtain ⟨Y, hY⟩ : ∃ Y, x * 2 ^ b = Y := ⟨_, rfl⟩
        have hYb : Y ≤ 4294967295 * 2 ^ b := by rw [← hY]; exact Nat.mul_le_mul_right _ (by omega)
        have hYI : (x : Int) * 2 ^ b = (Y : Int) := by rw [← hY]; simp
        have hYn : Y ≤ 9223372034707292160 := by
          have : 4294967295 * 2 ^ b ≤ 4294967295 * 2147483648 := Nat.mul_le_mul_left _ (by omega)
          omega
        have hor : bits .or .u64 (c : Int) (Y : Int) = (c : Int) + Y :=
          bits_join_low .u64 64 (by decide) wraps_u64 b (c : Int) (Y : Int) (by omega) (by exact_mod_cast hc) (by omega) (by omega) (by rw [← hYI, Int.mul_emod_left]) (by omega)
        have hT : Unit → c + Y = c + x * 2 ^ (n % 32) := fun _ => by rw [(HQ ()).2, hY]
        have hc2 : Unit → (c + Y) / 4294967296 < 2 ^ b := fun _ => by
          rw [Nat.div_lt_iff_lt_mul (by decide)]
          omega
        have hik : ((q + i : Nat) : Int) < (q : Int) + p + 1 := by omega
        have hwk : IntKind.i64.wrap ((q : Int) + (i : Int)) = ((q + i : Nat) : Int) := by rw [IntKind.wrap_i64]; omega
        clear hY hYb hpb e31 hc
        go_wp2_with fail
        go_roundw
        case rel =>
          have hr1 : (c + Y) % 4294967296 < B32 := Nat.mod_lt _ (by decide)
          refine ⟨(c + Y) / 4294967296, i + 1, M.set (q + i) ((c + Y) % 4294967296), num_eq (by omega), rfl, hc2 (), by omega, by simp [hM], set_rng HR.out hr1, ?_, fun j hj => ?_, ?_, grown_set HG.out (Nat.le_refl _)⟩
          · rw [SA.out, ← Nat.add_assoc]
            exact up_step (by rw [(HQ ()).1]) (by omega) (HZ.out _ (Nat.le_refl _)) HV.out (hT ())
          · rw [List.getElem?_set_ne (by omega)]
            exact HZ.out j (by omega)
          · have e := HBk.out.set (q + i) (((c + Y) % 4294967296 : Nat) : Int)
            rw [ints_set] at e
            rw [show ((c : Int) + Y) % 4294967296 = (((c + Y) % 4294967296 : Nat) : Int) by omega]
            exact e
        case measure => simp [RowKit.intOf]; omega
    · obtain rfl : i = p := by omega
      have hzc := hBk.cell (q + i) (by rw [ints_length]; omega)
      have hzf := hBk.frozen (q + i)
      have hz0 : M[q + i]?.getD 0 = 0 := HZ.out _ (Nat.le_refl _)
      have hwk : IntKind.i64.wrap ((q : Int) + (i : Int)) = ((q + i : Nat) : Int) := by rw [IntKind.wrap_i64]; omega
      have hik : ((q + i : Nat) : Int) < (q : Int) + i + 1 := by omega
      have hcw : IntKind.u32.wrap (c : Int) = (c : Int) := by rw [IntKind.wrap_u32]; omega
      clear hr hv hz hBk hg hpb e31 hc
      go_wp2_with fail
      go_ret
      have hset := nv_set B32 M (q + i) c (by omega)
      rw [hz0, Nat.zero_mul, Nat.add_zero] at hset
      have hvv := HV.out
      rw [nv_take_all B32 A i (by rw [HP ()]; exact Nat.le_refl _)] at hvv
      have hlen : (M.set (q + i) c).length = q + i + 1 := by simp [hM]
      refine ⟨w.heap.size, M.set (q + i) c, by rw [hlen]; rfl, Nat.le_refl _, ?_, hlen, set_rng HR.out (by simp only [B32]; omega), by rw [hset]; exact hvv, grown_set HG.out (Nat.le_refl _)⟩
      have e := HBk.out.set (q + i) (c : Int)
      rw [ints_set] at e
      exact e
end Go.Proofs.YtmgbkcfocbbofabGreatDoor
