/-
  The program's bitsOf, magOf and made: digits to a magnitude.
-/
import Derived.Lib.BitFns
import Derived.Test.YtmgbkcfocbbofabGreatDoorBunMgm
import Derived.Test.YtmgbkcfocbbofabGreatDoorBwd
import Derived.Test.YtmgbkcfocbbofabGreatDoorBunMor
namespace Go.Proofs.YtmgbkcfocbbofabGreatDoor
open Go.RowKit Go.Lib Go.Sort

theorem tab8_fin : ∀ z : Fin 256, (Lib.len8tab[z.1]'(by rw [Lib.len8tab_size]; exact z.2)).toNat = bl z.1 := by decide +kernel
theorem tab8_at (z : Nat) (h : z < Lib.len8tab.size) : (Lib.len8tab[z]).toNat = bl z := tab8_fin ⟨z, by rw [Lib.len8tab_size] at h; exact h⟩
theorem bl_le {x k : Nat} (h : x < 2 ^ k) : bl x ≤ k := by
  rcases Nat.eq_zero_or_pos x with rfl | hp
  · simp [bl]
  · obtain ⟨j, hj⟩ := bl_pos hp
    have := bl_iff.1 hj
    rw [hj]
    by_cases hjk : j < k
    · omega
    · have : 2 ^ k ≤ 2 ^ j := Nat.pow_le_pow_right (by decide) (by omega)
      omega
theorem w64_small {n : Int} (h0 : 0 ≤ n) (h1 : n ≤ 1000) : wrap64 n = n := by
  unfold RowKit.wrap64
  omega
set_option maxHeartbeats 4000000 in
set_option maxRecDepth 100000 in
theorem len32_int (x : Int) (h0 : 0 ≤ x) (h1 : x ≤ 4294967295) (w : World) :
    Calls Tryz.prog 84 #[.int .u32 x] w fun e w' => e = .returned (.int .i64 (bl x.toNat)) ∧ w' = w := by
  have fin : ∀ (s z r : Nat) (hz : z < Lib.len8tab.size), x.toNat = z * 2 ^ s + r → r < 2 ^ s → (s = 0 ∨ 0 < z) → wrap64 ((s : Int) + wrap64 (((Lib.len8tab[z]'hz).toNat : Nat) : Int)) = (bl x.toNat : Int) := by
    intro s z r hz hx hr h0
    rw [tab8_at z hz]
    rw [Lib.len8tab_size] at hz
    have h8 := bl_le (k := 8) hz
    have e : bl x.toNat = s + bl z := by
      rcases h0 with rfl | h0
      · have : r = 0 := by simpa using hr
        subst this; rw [hx]; simp
      · rw [hx]; exact bl_up z s r h0 hr
    have h32 := bl_le (k := 32) (show x.toNat < 2 ^ 32 by omega)
    rw [w64_small (n := (bl z : Int)) (by omega) (by omega), w64_small (by omega) (by omega), e]
    omega
  have FIN : Hid (∀ (s z r : Nat) (hz : z < Lib.len8tab.size), x.toNat = z * 2 ^ s + r → r < 2 ^ s → (s = 0 ∨ 0 < z) → wrap64 ((s : Int) + wrap64 (((Lib.len8tab[z]'hz).toNat : Nat) : Int)) = (bl x.toNat : Int)) := fin
  clear fin
  go_enter Tryz.func84, Tryz.ntmps84
  go_wp2
  all_goals have hsz := Lib.len8tab_size
  all_goals first
    | (exfalso; omega)
    | (go_ret
       exact ⟨ret_num (FIN.out 24 (x / 65536 / 256).toNat (x.toNat % 16777216) (by omega) (by omega) (by omega) (.inr (by omega))), rfl⟩)
    | (go_ret
       exact ⟨ret_num (FIN.out 16 (x / 65536).toNat (x.toNat % 65536) (by omega) (by omega) (by omega) (.inr (by omega))), rfl⟩)
    | (go_ret
       exact ⟨ret_num (FIN.out 8 (x / 256).toNat (x.toNat % 256) (by omega) (by omega) (by omega) (.inr (by omega))), rfl⟩)
    | (go_ret
       refine ⟨ret_num ?_, rfl⟩
       have := FIN.out 0 x.toNat 0 (by omega) (by omega) (by omega) (.inl rfl)
       simpa using this)
theorem len32_any (x : Nat) (hx : x < 4294967296) (w : World) :
    Calls Tryz.prog 84 #[.int .u32 x] w fun e w' => e = .returned (.int .i64 (bl x)) ∧ w' = w :=
  len32_int (x : Int) (by omega) (by omega) w

/-- How many bits digits have, without noughts at the end. -/
theorem bl_digits {L : List Nat} (hr : ∀ x ∈ L, x < B32) (hT : Trim L) (h0 : L.length ≠ 0) : bl (nv B32 L) = 32 * (L.length - 1) + bl (L[L.length - 1]?.getD 0) := by
  obtain ⟨k, hk⟩ : ∃ k, L.length = k + 1 := ⟨L.length - 1, by omega⟩
  have ht := hT.resolve_left h0
  rw [hk, Nat.add_sub_cancel] at ht ⊢
  rw [nv_top B32 L k hk]
  have hlt := nv_lt B32 (L.take k) (fun x hx => hr x (List.mem_of_mem_take hx))
  rw [List.length_take, hk, Nat.min_eq_left (by omega)] at hlt
  have e : B32 ^ k = 2 ^ (32 * k) := by rw [Nat.pow_mul]
  rw [e] at hlt ⊢
  rw [Nat.add_comm, Nat.mul_comm]
  exact bl_up _ _ _ (by omega) hlt

set_option maxHeartbeats 1600000 in
set_option maxRecDepth 1000000 in
theorem bitsOf_any (w : World) (v : Value) (L : List Nat) (h : D4 w v L) (hr : ∀ x ∈ L, x < B32) (hT : Trim L) (hl : L.length ≤ 100000000) :
    Calls Tryz.prog 69 #[v] w fun e w' => e = .returned (.int .i64 (bl (nv B32 L))) ∧ w' = w := by
  by_cases h0 : L.length = 0
  · have hb : bl (nv B32 L) = 0 := by rw [List.length_eq_zero_iff.1 h0]; rfl
    rw [hb]
    obtain ⟨ab, cb, rfl⟩ := h.slice
    rw [h0]
    clear h hr hT hl
    go_enter Tryz.func69, Tryz.ntmps69
    go_wp2_with fail
    go_ret
    exact ⟨rfl, rfl⟩
  · obtain ⟨n, hn⟩ : ∃ n, L.length = n + 1 := ⟨L.length - 1, by omega⟩
    have hb := bl_digits hr hT h0
    rw [hn, Nat.add_sub_cancel] at hb
    rcases h with ⟨_, e⟩ | ⟨B, off, c, rfl, hc, hd⟩
    · rw [e] at hn; simp at hn
    · have hx := hd n (by omega)
      rw [hn] at hc hl ⊢
      have rX := d4_rng hr n
      clear hd hr hT h0 hn
      generalize L[n]?.getD 0 = x at *
      have h32 := bl_le (k := 32) (x := x) rX
      have hL := len32_any x rX w
      have HB : Hid (bl (nv B32 L) = 32 * n + bl x) := hb
      clear hb
      generalize bl (nv B32 L) = b at *
      have hnI : (n : Int) ≤ 100000000 := by omega
      go_enter Tryz.func69, Tryz.ntmps69
      go_wp2_with fail
      refine hL.mono ?_
      rintro e w' ⟨rfl, rfl⟩
      obtain ⟨m, hm⟩ : ∃ m, bl x = m := ⟨_, rfl⟩
      have HB2 : Unit → b = 32 * n + m := fun _ => by rw [← hm]; exact HB.out
      rw [hm] at h32 ⊢
      have hmI : (m : Int) ≤ 32 := by omega
      go_wp2_with fail
      go_ret
      exact ⟨ret_num (by rw [HB2 ()]; omega), rfl⟩
end Go.Proofs.YtmgbkcfocbbofabGreatDoor
