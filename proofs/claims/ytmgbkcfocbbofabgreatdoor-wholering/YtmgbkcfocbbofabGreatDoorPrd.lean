/-
  The document's product of magnitudes.
-/
import Derived.Test.YtmgbkcfocbbofabGreatDoorBunMor
namespace Go.Proofs.YtmgbkcfocbbofabGreatDoor
open Go.RowKit Go.Lib Go.Sort

theorem mul_lt32 {x y : Nat} (hx : x < 4294967296) (hy : y < 4294967296) : x * y ≤ 18446744065119617025 := by
  have h1 : x * y ≤ 4294967295 * 4294967295 := Nat.mul_le_mul (by omega) (by omega)
  omega
/-- One digit's step of a row. -/
theorem row_step {L : List Nat} {i k c x y : Nat} {S T : Nat} (hk : i + k < L.length) (hv : nv B32 L + c * B32 ^ (i + k) = S + x * T * B32 ^ i) :
    nv B32 (L.set (i + k) ((c + x * y + L[i + k]?.getD 0) % 4294967296)) + (c + x * y + L[i + k]?.getD 0) / 4294967296 * B32 ^ (i + k + 1) = S + x * (T + y * B32 ^ k) * B32 ^ i := by
  have h := nv_set B32 L (i + k) ((c + x * y + L[i + k]?.getD 0) % 4294967296) hk
  have e1 : (c + x * y + L[i + k]?.getD 0) % 4294967296 * B32 ^ (i + k) + (c + x * y + L[i + k]?.getD 0) / 4294967296 * B32 ^ (i + k + 1) = (c + x * y + L[i + k]?.getD 0) * B32 ^ (i + k) := by
    rw [Nat.pow_succ, Nat.mul_comm (B32 ^ (i + k)) B32, ← Nat.mul_assoc, ← Nat.add_mul]
    congr 1
    simp only [B32]
    omega
  have e2 : (c + x * y + L[i + k]?.getD 0) * B32 ^ (i + k) = c * B32 ^ (i + k) + x * y * B32 ^ (i + k) + L[i + k]?.getD 0 * B32 ^ (i + k) := by rw [Nat.add_mul, Nat.add_mul]
  have e3 : x * (T + y * B32 ^ k) * B32 ^ i = x * T * B32 ^ i + x * y * B32 ^ (i + k) := by
    rw [Nat.mul_add, Nat.add_mul, Nat.pow_add]
    congr 1
    rw [Nat.mul_assoc, Nat.mul_assoc, Nat.mul_assoc, Nat.mul_comm (B32 ^ i)]
  omega

end Go.Proofs.YtmgbkcfocbbofabGreatDoor
