/-
  What the program's Bits and Bit answer.
-/
import Derived.Test.YtaldmfbicddcbaaGreatDoorTel
namespace Go.Proofs.YtaldmfbicddcbaaGreatDoor
open Go.RowKit Go.Lib Go.Sort

set_option maxHeartbeats 1600000 in
set_option maxRecDepth 1000000 in
theorem len8_any (x : Nat) (hx : x < 256) (w : World) :
    Calls Tryz.prog 61 #[.int .u8 x] w fun e w' => e = .returned (.int .i64 (bl x)) ∧ w' = w := by
  go_enter Tryz.func61, Tryz.ntmps61
  go_wp2
  go_ret
  refine ⟨ret_num ?_, rfl⟩
  revert x
  decide +kernel

theorem bN_bits (mag : ByteArray) (i : Nat) (h : i / 8 < mag.size) : bitOf (val (bN mag)) i = (mag[mag.size - 1 - i / 8]'(by omega)).toNat / 2 ^ (i % 8) % 2 := by
  have e : i = 8 * (i / 8) + i % 8 := by omega
  have h1 := bit_digit (val (bN mag)) 8 (i / 8) (i % 8) (by omega)
  rw [← e] at h1
  rw [h1, val_nv]
  have h2 := nv_digit 256 (bN mag).reverse (i / 8) (fun x hx => bN_rng mag x (by simpa using hx))
  rw [List.getElem?_reverse (by rw [bN_length]; exact h), bN_length, bN_at mag _ (by omega)] at h2
  simp only [Option.getD_some] at h2
  rw [show (2 : Nat) ^ 8 = 256 from rfl, h2]
theorem bN_bits_no (mag : ByteArray) (i : Nat) (h : ¬ i / 8 < mag.size) : bitOf (val (bN mag)) i = 0 := by
  have h1 := val_lt (bN mag) (bN_rng mag)
  rw [bN_length, show (256 : Nat) = 2 ^ 8 from rfl, ← Nat.pow_mul] at h1
  have h2 : 2 ^ (8 * mag.size) ≤ 2 ^ i := Nat.pow_le_pow_right (by decide) (by omega)
  unfold bitOf
  rw [Nat.div_eq_of_lt (by omega)]
theorem and1 (x : Int) (h₀ : 0 ≤ x) (h₁ : x < 256) : bits .and .u8 x 1 = x % 2 :=
  bits_mask .u8 8 (by decide) wraps_u8 1 (by decide) x h₀ (by simpa using h₁)
theorem bit_ret (b r : Nat) (hb : b < 256) : wrap64 (bits .and .u8 ((b : Int) / 2 ^ r) 1) = ((b / 2 ^ r % 2 : Nat) : Int) := by
  have e : ((b : Int) / 2 ^ r) = ((b / 2 ^ r : Nat) : Int) := by simp
  have h1 : b / 2 ^ r ≤ b := Nat.div_le_self _ _
  rw [e]
  generalize b / 2 ^ r = q at *
  rw [and1 _ (by omega) (by omega)]
  unfold wrap64
  omega

theorem ret2_num {k l : IntKind} {a b c d : Int} (h : a = b) (h' : c = d) : Ending.returned (.tuple #[.int k a, .int l c]) = .returned (.tuple #[.int k b, .int l d]) := by rw [h, h']

set_option maxHeartbeats 1600000 in
set_option maxRecDepth 1000000 in
theorem bit_yes (neg : Bool) (mag : ByteArray) (h : may neg mag = true) (i : Nat) (hi : i ≤ 9223372036854775807) (w : World) :
    Calls Tryz.prog 12 #[whole neg mag, .int .i64 i] w fun e w' => e = .returned (.tuple #[.int .i64 (bitOf (val (bN mag)) i), .int .i64 0]) ∧ w.grownBy w' none := by
  have hm1 := may_size h
  have hm : mag.size ≤ maxLen := by unfold maxLen; omega
  by_cases hp : i / 8 < mag.size
  · have HB := bN_bits mag i hp
    have HBH : Hid (bitOf (val (bN mag)) i = (mag[mag.size - 1 - i / 8]'(by omega)).toNat / 2 ^ (i % 8) % 2) := HB
    clear HB
    go_enter Tryz.func12, Tryz.ntmps12
    go_wp2_with (go_at_call 17; refine (check_any neg mag hm _).mono ?_; rw [chk_yes h]; rintro e w' ⟨rfl, rfl⟩)
    go_ret2
    refine ⟨ret2_num ?_ rfl, grow2 _ _ _⟩
    rw [HBH.out]
    exact bit_ret _ _ (UInt8.toNat_lt _)
  · have HBH : Hid (bitOf (val (bN mag)) i = 0) := bN_bits_no mag i hp
    go_enter Tryz.func12, Tryz.ntmps12
    go_wp2_with (go_at_call 17; refine (check_any neg mag hm _).mono ?_; rw [chk_yes h]; rintro e w' ⟨rfl, rfl⟩)
    go_ret2
    refine ⟨ret2_num ?_ rfl, grow2 _ _ _⟩
    rw [HBH.out]
    rfl

set_option maxHeartbeats 1600000 in
set_option maxRecDepth 1000000 in
theorem bit_neg (neg : Bool) (mag : ByteArray) (h : may neg mag = true) (i : Int) (hi : i < 0) (w : World) :
    Calls Tryz.prog 12 #[whole neg mag, .int .i64 i] w fun e w' => e = .returned (.tuple #[.int .i64 0, .int .i64 2]) ∧ w.grownBy w' none := by
  have hm1 := may_size h
  have hm : mag.size ≤ maxLen := by unfold maxLen; omega
  go_enter Tryz.func12, Tryz.ntmps12
  go_wp2_with (go_at_call 17; refine (check_any neg mag hm _).mono ?_; rw [chk_yes h]; rintro e w' ⟨rfl, rfl⟩)
  go_ret2
  exact ⟨rfl, grow2 _ _ _⟩

set_option maxHeartbeats 1600000 in
set_option maxRecDepth 1000000 in
theorem bit_no (neg : Bool) (mag : ByteArray) (hm : mag.size ≤ maxLen) (h : may neg mag = false) (i : Int) (w : World) :
    Calls Tryz.prog 12 #[whole neg mag, .int .i64 i] w fun e w' => e = .returned (.tuple #[.int .i64 0, .int .i64 2]) ∧ w.grownBy w' none := by
  go_enter Tryz.func12, Tryz.ntmps12
  go_wp2_with (go_at_call 17; refine (check_any neg mag hm _).mono ?_; rw [chk_no h]; rintro e w' ⟨rfl, rfl⟩)
  go_ret2
  exact ⟨rfl, grow2 _ _ _⟩

theorem bl8 : ∀ x : Nat, x < 256 → bl x ≤ 8 := by decide +kernel
theorem bl_val (mag : ByteArray) (hp : 0 < mag.size) (h0 : mag[0].toNat ≠ 0) : bl (val (bN mag)) = 8 * (mag.size - 1) + bl mag[0].toNat := by
  have e : bN mag = mag[0].toNat :: (bN mag).tail := by
    have h1 := bN_head mag hp
    cases hb : bN mag with
    | nil => have := bN_length mag; rw [hb] at this; simp at this; omega
    | cons a t => rw [hb] at h1; simp at h1; rw [h1]; rfl
  have hl : (bN mag).tail.length = mag.size - 1 := by rw [List.length_tail, bN_length]
  have hr := val_lt (bN mag).tail (fun x hx => bN_rng mag x (List.mem_of_mem_tail hx))
  rw [hl, show (256 : Nat) = 2 ^ 8 from rfl, ← Nat.pow_mul] at hr
  have hv : val (bN mag) = mag[0].toNat * 2 ^ (8 * (mag.size - 1)) + val (bN mag).tail := by
    conv => lhs; rw [e]
    rw [val_nv, val_nv, List.reverse_cons, nv_append, List.length_reverse, hl, Nat.pow_mul]
    simp [nv]
    rw [Nat.add_comm, Nat.mul_comm]
  rw [hv, bl_up _ _ _ (by omega) hr]

set_option maxHeartbeats 1600000 in
set_option maxRecDepth 1000000 in
theorem bits_no (neg : Bool) (mag : ByteArray) (hm : mag.size ≤ maxLen) (h : may neg mag = false) (w : World) :
    Calls Tryz.prog 20 #[whole neg mag] w fun e w' => e = .returned (.int .i64 0) ∧ w.grownBy w' none := by
  go_enter Tryz.func20, Tryz.ntmps20
  go_wp2
  go_region_with (go_at_call 17; refine (check_any neg mag hm _).mono ?_; rw [chk_no h]; rintro e w' ⟨rfl, rfl⟩)
  all_goals go_wp2
  all_goals go_ret
  all_goals exact ⟨rfl, grow_drew (grow2 _ _ _)⟩

set_option maxHeartbeats 1600000 in
set_option maxRecDepth 1000000 in
theorem bits_yes (neg : Bool) (mag : ByteArray) (h : may neg mag = true) (w : World) :
    Calls Tryz.prog 20 #[whole neg mag] w fun e w' => e = .returned (.int .i64 (bl (val (bN mag)))) ∧ w.grownBy w' none := by
  have hm1 := may_size h
  have hm : mag.size ≤ maxLen := by unfold maxLen; omega
  by_cases h0 : mag.size = 0
  · obtain rfl := empty_of_size h0
    obtain rfl := may_empty h
    go_enter Tryz.func20, Tryz.ntmps20
    go_wp2
    go_region_held3 (fun w' => w'.cell? ⟨w.heap.size, 0, none⟩ = some (Value.bool false) ∧ w'.cell? ⟨w.heap.size, 1, none⟩ = some (Value.string ByteArray.empty)) (first | (go_keep; done) | fail) (first | (go_at_call 17; refine (check_any false ByteArray.empty hm _).mono ?_; rw [chk_yes h]; rintro e w' ⟨rfl, rfl⟩) | (go_at_call 55; refine (zero_any _).mono ?_; rintro e w' ⟨rfl, rfl⟩) | fail)
    go_wp2
    go_ret
    exact ⟨rfl, grow_drew (grow3 _ _ _ _)⟩
  · have he := isEmpty_of h0
    have hp : 0 < mag.size := by omega
    have hne : mag[0].toNat ≠ 0 := by
      unfold may at h
      rw [if_neg h0, bN_head mag hp] at h
      simp at h
      exact h.2
    have HB : Hid (bl (val (bN mag)) = 8 * (mag.size - 1) + bl mag[0].toNat) := bl_val mag hp hne
    go_enter Tryz.func20, Tryz.ntmps20
    go_wp2
    go_region_held3 (fun w' => w'.cell? ⟨w.heap.size, 0, none⟩ = some (Value.bool neg) ∧ w'.cell? ⟨w.heap.size, 1, none⟩ = some (Value.string mag)) (first | (go_keep; done) | fail) (first | (go_at_call 17; refine (check_any neg mag hm _).mono ?_; rw [chk_yes h]; rintro e w' ⟨rfl, rfl⟩) | (go_at_call 55; refine (zero_any _).mono ?_; rintro e w' ⟨rfl, rfl⟩) | fail)
    go_wp2
    have hlt := UInt8.toNat_lt mag[0]
    go_region_held3 (fun w' => w'.cell? ⟨w.heap.size, 1, none⟩ = some (Value.string mag)) (first | (go_keep; done) | fail) (first | (go_at_call 61; refine (len8_any _ hlt _).mono ?_; rintro e w' ⟨rfl, rfl⟩) | fail)
    go_wp2
    go_ret
    refine ⟨ret_num ?_, grow_drew (grow_drew (grow3 _ _ _ _))⟩
    have h8 := bl8 _ hlt
    rw [HB.out, IntKind.wrap_i64, IntKind.wrap_i64, IntKind.wrap_i64]
    omega
end Go.Proofs.YtaldmfbicddcbaaGreatDoor
