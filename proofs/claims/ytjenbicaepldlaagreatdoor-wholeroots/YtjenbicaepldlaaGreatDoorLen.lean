/-
  How many bits a word has: math/bits' Len.
-/
import Derived.Test.YtjenbicaepldlaaGreatDoorBunPrd
namespace Go.Proofs.YtjenbicaepldlaaGreatDoor
open Go.RowKit Go.Lib Go.Sort

set_option maxHeartbeats 4000000 in
set_option maxRecDepth 100000 in
theorem len64_int (x : Int) (h0 : 0 ≤ x) (h1 : x ≤ 18446744073709551615) (w : World) :
    Calls Tryz.prog 104 #[.int .u64 x] w fun e w' => e = .returned (.int .i64 (bl x.toNat)) ∧ w' = w := by
  have fin : ∀ (s z r : Nat) (hz : z < Lib.len8tab.size), x.toNat = z * 2 ^ s + r → r < 2 ^ s → (s = 0 ∨ 0 < z) → wrap64 ((s : Int) + wrap64 (((Lib.len8tab[z]'hz).toNat : Nat) : Int)) = (bl x.toNat : Int) := by
    intro s z r hz hx hr h0
    rw [tab8_at z hz]
    rw [Lib.len8tab_size] at hz
    have h8 := bl_le (k := 8) hz
    have e : bl x.toNat = s + bl z := by
      rcases h0 with rfl | h0
      · have : r = 0 := by simpa using hr
        subst this; rw [hx]; simp
      · rw [hx]; exact bl_up z s r h0 hr
    have h64 := bl_le (k := 64) (show x.toNat < 2 ^ 64 by omega)
    rw [w64_small (n := (bl z : Int)) (by omega) (by omega), w64_small (by omega) (by omega), e]
    omega
  have FIN : Hid (∀ (s z r : Nat) (hz : z < Lib.len8tab.size), x.toNat = z * 2 ^ s + r → r < 2 ^ s → (s = 0 ∨ 0 < z) → wrap64 ((s : Int) + wrap64 (((Lib.len8tab[z]'hz).toNat : Nat) : Int)) = (bl x.toNat : Int)) := fin
  clear fin
  go_enter Tryz.func104, Tryz.ntmps104
  go_wp2
  all_goals have hsz := Lib.len8tab_size
  all_goals first
    | (exfalso; omega)
    | (go_ret
       exact ⟨ret_num (FIN.out 56 (x / 4294967296 / 65536 / 256).toNat (x.toNat % 72057594037927936) (by omega) (by omega) (by omega) (.inr (by omega))), rfl⟩)
    | (go_ret
       exact ⟨ret_num (FIN.out 48 (x / 4294967296 / 65536).toNat (x.toNat % 281474976710656) (by omega) (by omega) (by omega) (.inr (by omega))), rfl⟩)
    | (go_ret
       exact ⟨ret_num (FIN.out 40 (x / 4294967296 / 256).toNat (x.toNat % 1099511627776) (by omega) (by omega) (by omega) (.inr (by omega))), rfl⟩)
    | (go_ret
       exact ⟨ret_num (FIN.out 32 (x / 4294967296).toNat (x.toNat % 4294967296) (by omega) (by omega) (by omega) (.inr (by omega))), rfl⟩)
    | (go_ret
       exact ⟨ret_num (FIN.out 24 (x / 65536 / 256).toNat (x.toNat % 16777216) (by omega) (by omega) (by omega) (.inr (by omega))), rfl⟩)
    | (go_ret
       exact ⟨ret_num (FIN.out 16 (x / 65536).toNat (x.toNat % 65536) (by omega) (by omega) (by omega) (.inr (by omega))), rfl⟩)
    | (go_ret
       exact ⟨ret_num (FIN.out 8 (x / 256).toNat (x.toNat % 256) (by omega) (by omega) (by omega) (.inr (by omega))), rfl⟩)
    | (go_ret
       refine ⟨ret_num ?_, rfl⟩
       have := FIN.out 0 x.toNat 0 (by omega) (by omega) (by omega) (.inl rfl)
       simpa using this)
set_option maxHeartbeats 1600000 in
set_option maxRecDepth 100000 in
theorem len_any (x : Nat) (hx : x < 18446744073709551616) (w : World) :
    Calls Tryz.prog 66 #[.int .u64 (x : Int)] w fun e w' => e = .returned (.int .i64 (bl x)) ∧ w' = w := by
  have hxI : (x : Int) ≤ 18446744073709551615 := by omega
  go_enter Tryz.func66, Tryz.ntmps66
  go_wp2_with (go_at_call 104; refine (len64_int (x : Int) (by omega) (by omega) _).mono ?_; rintro e w' ⟨rfl, rfl⟩)
  go_ret
  exact ⟨rfl, rfl⟩
end Go.Proofs.YtjenbicaepldlaaGreatDoor
