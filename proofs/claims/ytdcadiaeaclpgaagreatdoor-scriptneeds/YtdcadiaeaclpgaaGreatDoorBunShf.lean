/-
  The program's Shift of a number that may be, and of another.
  The program's Shift by a number below 0; and Shift of any number by any.
-/
import Derived.Test.YtdcadiaeaclpgaaGreatDoorBunAll
import Derived.Test.YtdcadiaeaclpgaaGreatDoorBunChk
import Derived.Test.YtdcadiaeaclpgaaGreatDoorBunTtm
import Derived.Test.YtdcadiaeaclpgaaGreatDoorBunShd
import Derived.Test.YtdcadiaeaclpgaaGreatDoorBunOps
import Derived.Test.YtdcadiaeaclpgaaGreatDoorBunRed
namespace Go.Proofs.YtdcadiaeaclpgaaGreatDoor
open Go.RowKit Go.Lib Go.Sort
theorem bl_max {neg : Bool} {mag : ByteArray} (h : may neg mag = true) (K : Nat) (hK : K = 8 * 16384) : val (bN mag) < 2 ^ K ∧ bl (val (bN mag)) ≤ K := by
  have hm1 := may_size h
  have := val_lt (bN mag) (bN_rng mag)
  rw [bN_length, show (256 : Nat) = 2 ^ 8 from rfl, ← Nat.pow_mul] at this
  have h2 : val (bN mag) < 2 ^ K := Nat.lt_of_lt_of_le this (Nat.pow_le_pow_right (by decide) (by omega))
  exact ⟨h2, bl_le h2⟩
theorem val_pos {neg : Bool} {mag : ByteArray} (h : may neg mag = true) (h0 : mag.size ≠ 0) : 0 < val (bN mag) := by
  have hp : 0 < mag.size := by omega
  have hne : mag[0].toNat ≠ 0 := by
    unfold may at h
    rw [if_neg h0, bN_head mag hp] at h
    simp at h
    exact h.2
  have h1 := bl_val mag hp hne
  obtain ⟨k, hk⟩ := bl_pos (Nat.pos_of_ne_zero hne)
  refine Nat.pos_of_ne_zero fun e => ?_
  rw [e, bl_zero] at h1
  omega
end Go.Proofs.YtdcadiaeaclpgaaGreatDoor
