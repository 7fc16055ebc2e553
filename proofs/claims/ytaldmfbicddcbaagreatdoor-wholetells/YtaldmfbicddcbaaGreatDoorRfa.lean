/-
  The document's at, bits, Small, Bits, Bit.
-/
import Derived.Test.YtaldmfbicddcbaaGreatDoorWds
namespace Go.Proofs.YtaldmfbicddcbaaGreatDoor
open Go.RowKit Go.Lib Go.Sort

theorem d4_rng {L : List Nat} (hr : ∀ x ∈ L, x < B32) (i : Nat) : L[i]?.getD 0 < B32 := by
  cases h : L[i]? with
  | none => simp
  | some y => exact hr y (List.mem_of_getElem? h)

set_option maxHeartbeats 1600000 in
set_option maxRecDepth 1000000 in
theorem at_any (w : World) (v : Value) (L : List Nat) (h : D4 w v L) (hr : ∀ x ∈ L, x < B32) (hl : L.length ≤ 1000000000) (i : Nat) (_hi : i ≤ 9223372036854775807) :
    Calls Tryz.prog 63 #[v, .int .i64 i] w fun e w' => e = .returned (.int .u64 ((L[i]?.getD 0 : Nat) : Int)) ∧ w' = w := by
  have hlt := d4_rng hr i
  by_cases hi1 : i < L.length
  · rcases h with ⟨_, rfl⟩ | ⟨B, off, c, rfl, hc, h⟩
    · simp at hi1
    · have hx := h i hi1
      generalize L[i]?.getD 0 = x at *
      have hx32 : (x : Int) ≤ 4294967295 := by have : x < 4294967296 := hlt; omega
      clear hlt hr h
      go_enter Tryz.func63, Tryz.ntmps63
      go_wp2
      go_ret
      exact ⟨rfl, rfl⟩
  · have hz : L[i]?.getD 0 = 0 := by rw [List.getElem?_eq_none (by omega)]; rfl
    rw [hz]
    obtain ⟨ao, c, rfl⟩ : ∃ ao c, v = .slice ao L.length c := by
      rcases h with ⟨rfl, rfl⟩ | ⟨B, off, c, rfl, _⟩
      · exact ⟨_, _, rfl⟩
      · exact ⟨_, _, rfl⟩
    clear h hlt hz hr
    go_enter Tryz.func63, Tryz.ntmps63
    go_wp2
    go_ret
    exact ⟨rfl, rfl⟩

theorem bl_half {x : Nat} (h : 0 < x) : bl x = bl (x / 2) + 1 := by
  by_cases h1 : x = 1
  · subst h1; decide
  · have := bl_up (x / 2) 1 (x % 2) (by omega) (by omega)
    rw [show x / 2 * 2 ^ 1 + x % 2 = x by omega] at this
    omega
theorem nv_top (B : Nat) (L : List Nat) (k : Nat) (h : L.length = k + 1) : nv B L = nv B (L.take k) + B ^ k * (L[k]?.getD 0) := by
  have e : L = L.take k ++ [L[k]?.getD 0] := by
    have h1 : L[k]? = some (L[k]'(by omega)) := List.getElem?_eq_getElem (by omega)
    have h2 : L.take (k + 1) = L := List.take_of_length_le (by omega)
    refine h2.symm.trans ?_
    rw [take_succ_at h1, h1]
    rfl
  conv => lhs; rw [e]
  rw [nv_append, List.length_take, Nat.min_eq_left (by omega)]
  simp [nv]
theorem bl_zero : bl 0 = 0 := rfl

set_option maxHeartbeats 1600000 in
set_option maxRecDepth 1000000 in
theorem rbits_any (w : World) (v : Value) (L : List Nat) (h : D4 w v L) (hr : ∀ x ∈ L, x < B32) (hl : L.length ≤ 1000000000) :
    Calls Tryz.prog 64 #[v] w fun e w' => e = .returned (.int .i64 ((32 * (L.length - 1) + bl (L[L.length - 1]?.getD 0) : Nat) : Int)) ∧ w' = w := by
  by_cases h0 : L.length = 0
  · obtain rfl : L = [] := by simpa using h0
    obtain ⟨ao, c, rfl⟩ : ∃ ao c, v = .slice ao 0 c := by
      rcases h with ⟨rfl, _⟩ | ⟨B, off, c, rfl, _⟩
      · exact ⟨_, _, rfl⟩
      · exact ⟨_, _, rfl⟩
    clear h
    go_enter Tryz.func64, Tryz.ntmps64
    go_wp2
    go_ret
    exact ⟨rfl, rfl⟩
  · rcases h with ⟨_, rfl⟩ | ⟨B, off, c, rfl, hc, h⟩
    · simp at h0
    · have hx := h (L.length - 1) (by omega)
      have hlt := d4_rng hr (L.length - 1)
      clear h hr
      generalize L[L.length - 1]?.getD 0 = x at *
      generalize L.length = n at *
      have hx32 : (x : Int) ≤ 4294967295 := by have : x < 4294967296 := hlt; omega
      have hb32 : bl x ≤ 1000 := by
        rcases Nat.eq_zero_or_pos x with rfl | hp
        · simp [bl_zero]
        · obtain ⟨k, hk⟩ := bl_pos hp
          have h1 := (bl_iff.1 hk).1
          have : k < 32 := by
            rcases Nat.lt_or_ge k 32 with h | h
            · exact h
            · have h2 : 2 ^ 32 ≤ 2 ^ k := Nat.pow_le_pow_right (by decide) h
              have h3 : x < 2 ^ 32 := hlt
              omega
          omega
      have hT0 : 32 * (n - 1) + bl x ≤ 40000000000 := by omega
      obtain ⟨T, hT⟩ : ∃ T, 32 * (n - 1) + bl x = T := ⟨_, rfl⟩
      rw [hT] at hT0 ⊢
      have HT : Unit → 32 * (n - 1) + bl x = T := fun _ => hT
      have HT0 : Hid (T ≤ 40000000000) := hT0
      have HX32 : Hid ((x : Int) ≤ 4294967295) := (by omega : (x : Int) ≤ 4294967295)
      clear hlt hb32 hx32 hT hT0
      obtain ⟨q, rfl⟩ : ∃ q, n = q + 1 := ⟨n - 1, by omega⟩
      rw [Nat.add_sub_cancel] at hx
      have hlI : (q : Int) ≤ 1000000000 := by omega
      clear hl h0
      go_enter Tryz.func64, Tryz.ntmps64
      go_wp2
      go_loopw [3, 4] (fun s t wr => ∃ (k y : Nat), s = .int .i64 k ∧ t = .int .u32 y ∧ (y : Int) ≤ 4294967295 ∧ k + bl y = T ∧ wr = w) (fun _ t _ => (RowKit.intOf t).toNat)
      case atStart => exact ⟨32 * q, x, num_eq (by omega), rfl, HX32.out, HT (), rfl⟩
      case round =>
        obtain ⟨k, y, rfl, rfl, hy, he, rfl⟩ := hrel
        have HE : Hid (k + bl y = T) := he
        have hk : k ≤ 40000000000 := by have := HT0.out; omega
        clear he
        by_cases hp : 0 < y
        · go_wp2
          go_roundw
          case rel => exact ⟨k + 1, y / 2, rfl, num_eq (by omega), by omega, by have := HE.out; rw [bl_half hp] at this; omega, trivial⟩
          case measure => simp [RowKit.intOf]; omega
        · obtain rfl : y = 0 := by omega
          have he := HE.out
          rw [bl_zero] at he
          obtain rfl : k = T := by omega
          clear he HE
          go_wp2
          go_ret
          exact ⟨rfl, rfl⟩

theorem may_head {neg : Bool} {mag : ByteArray} (h : may neg mag = true) (hp : 0 < mag.size) : mag[0].toNat ≠ 0 := by
  unfold may at h
  rw [if_neg (by omega), bN_head mag hp] at h
  simp at h
  exact h.2
theorem val_head (mag : ByteArray) (hp : 0 < mag.size) (h0 : mag[0].toNat ≠ 0) : 256 ^ (mag.size - 1) ≤ val (bN mag) := by
  have h1 := bl_val mag hp h0
  obtain ⟨k, hk⟩ := bl_pos (show 0 < mag[0].toNat by omega)
  rw [hk] at h1
  have h2 := (bl_iff.1 (show bl (val (bN mag)) = (8 * (mag.size - 1) + k) + 1 by omega)).1
  rw [show (256 : Nat) = 2 ^ 8 from rfl, ← Nat.pow_mul]
  exact Nat.le_trans (Nat.pow_le_pow_right (by decide) (by omega)) h2
/-- The bits of a number by its digits. -/
theorem bl_words {L : List Nat} {mag : ByteArray} (hp : 0 < mag.size) (h0 : mag[0].toNat ≠ 0) (hl : L.length = (mag.size + 3) / 4) (hr : ∀ x ∈ L, x < B32) (hv : nv B32 L = val (bN mag)) :
    32 * (L.length - 1) + bl (L[L.length - 1]?.getD 0) = bl (val (bN mag)) := by
  obtain ⟨k, hk⟩ : ∃ k, L.length = k + 1 := ⟨L.length - 1, by omega⟩
  have h1 := nv_top B32 L k hk
  have h2 := nv_lt B32 (L.take k) (fun x hx => hr x (List.mem_of_mem_take hx))
  rw [List.length_take, Nat.min_eq_left (by omega)] at h2
  have h3 := val_head mag hp h0
  rw [hk, Nat.add_sub_cancel]
  rw [← hv] at h3 ⊢
  rw [h1] at h3 ⊢
  generalize nv B32 (L.take k) = N at *
  rw [show B32 = 2 ^ 32 from rfl, ← Nat.pow_mul] at h2 h3 ⊢
  rw [show (256 : Nat) = 2 ^ 8 from rfl, ← Nat.pow_mul] at h3
  have h4 : 2 ^ (32 * k) ≤ 2 ^ (8 * (mag.size - 1)) := Nat.pow_le_pow_right (by decide) (by omega)
  generalize L[k]?.getD 0 = t at *
  have h5 : 0 < t := by
    rcases Nat.eq_zero_or_pos t with rfl | h
    · simp at h3; omega
    · exact h
  rw [Nat.add_comm N, Nat.mul_comm (2 ^ (32 * k)), bl_up t (32 * k) _ h5 h2]

set_option maxHeartbeats 1600000 in
set_option maxRecDepth 1000000 in
theorem rBits_any (neg : Bool) (mag : ByteArray) (h : may neg mag = true) (w : World) :
    Calls Tryz.prog 26 #[whole neg mag] w fun e w' => e = .returned (.int .i64 (bl (val (bN mag)))) ∧ w.grownBy w' none := by
  have hm := may_size h
  go_enter Tryz.func26, Tryz.ntmps26
  go_wp2_with fail
  refine (words_any mag hm _).mono ?_
  rintro e w1 ⟨B, L, rfl, hB, hb, hg, hl, hr, hv⟩
  have he : 32 * (L.length - 1) + bl (L[L.length - 1]?.getD 0) = bl (val (bN mag)) := by
    by_cases h0 : mag.size = 0
    · have : L = [] := by apply List.eq_nil_of_length_eq_zero; omega
      subst this
      rw [← hv]; rfl
    · exact bl_words (by omega) (may_head h (by omega)) hl hr hv
  have hbt := rbits_any w1 _ L hb.d4 hr (by omega)
  rw [he] at hbt
  have HBT : Hid (Calls Tryz.prog 64 #[.slice (some ⟨B, 0, none⟩) L.length L.length] w1 fun e w' => e = .returned (.int .i64 (bl (val (bN mag)))) ∧ w' = w1) := hbt
  have HG : Hid ((w.alloc (wObj neg mag)).grownBy w1 none) := hg
  clear hg he hv hr hl hb hB hbt
  go_wp2_with (go_at_call 64; refine HBT.out.mono ?_; rintro e w2 ⟨rfl, rfl⟩)
  go_ret
  exact ⟨rfl, grownBy_trans (grow1 _ _) HG.out⟩

set_option maxHeartbeats 1600000 in
set_option maxRecDepth 1000000 in
theorem rBit_any (neg : Bool) (mag : ByteArray) (h : may neg mag = true) (i : Nat) (hi : i ≤ 9223372036854775807) (w : World) :
    Calls Tryz.prog 27 #[whole neg mag, .int .i64 i] w fun e w' => e = .returned (.int .i64 (bitOf (val (bN mag)) i)) ∧ w.grownBy w' none := by
  have hm := may_size h
  go_enter Tryz.func27, Tryz.ntmps27
  go_wp2_with fail
  refine (words_any mag hm _).mono ?_
  rintro e w1 ⟨B, L, rfl, hB, hb, hg, hl, hr, hv⟩
  have hat := at_any w1 _ L hb.d4 hr (by omega) (i / 32) (by omega)
  rw [show ((i / 32 : Nat) : Int) = (i : Int) / 32 by omega] at hat
  have hd := nv_digit B32 L (i / 32) hr
  have hbd := bit_digit (val (bN mag)) 32 (i / 32) (i % 32) (by omega)
  rw [show 32 * (i / 32) + i % 32 = i by omega, show (2 : Nat) ^ 32 = B32 from rfl, ← hv, hd, hv] at hbd
  have hlt := d4_rng hr (i / 32)
  have HG : Hid ((w.alloc (wObj neg mag)).grownBy w1 none) := hg
  have HBD : Hid (bitOf (val (bN mag)) i = L[i / 32]?.getD 0 / 2 ^ (i % 32) % 2) := hbd
  have HAT : Hid (Calls Tryz.prog 63 #[.slice (some ⟨B, 0, none⟩) L.length L.length, .int .i64 ((i : Int) / 32)] w1 fun e w' => e = .returned (.int .u64 ((L[i / 32]?.getD 0 : Nat) : Int)) ∧ w' = w1) := hat
  clear hg hbd hat hd hv hr hl hb hB
  generalize L[i / 32]?.getD 0 = x at *
  have hx : (x : Int) ≤ 4294967295 := by have : x < 4294967296 := hlt; omega
  clear hlt
  go_wp2_with (go_at_call 63; refine HAT.out.mono ?_; rintro e w2 ⟨rfl, rfl⟩)
  go_ret
  refine ⟨ret_num ?_, grownBy_trans (grow1 _ _) HG.out⟩
  rw [HBD.out]
  have e : ((x : Int) / 2 ^ (i % 32)) = ((x / 2 ^ (i % 32) : Nat) : Int) := by simp
  rw [e]
  have h1 : x / 2 ^ (i % 32) ≤ x := Nat.div_le_self _ _
  generalize x / 2 ^ (i % 32) = q at *
  unfold wrap64
  rw [Int.tmod_eq_emod_of_nonneg (by omega)]
  omega
end Go.Proofs.YtaldmfbicddcbaaGreatDoor
