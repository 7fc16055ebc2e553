/-
  The program's Gcd of two numbers; the law's ok of some.
-/
import Derived.Test.YtjngcpbdilhkbaaGreatDoorGll
import Derived.Test.YtjngcpbdilhkbaaGreatDoorGar
import Derived.Test.YtjngcpbdilhkbaaGreatDoorSzl
import Derived.Test.YtjngcpbdilhkbaaGreatDoorOkl
namespace Go.Proofs.YtjngcpbdilhkbaaGreatDoor
open Go.RowKit Go.Lib Go.Sort
set_option linter.unusedVariables false

theorem gcd_two {k : Nat} {x y : Int} {n1 n2 : Bool} {s1 s2 : ByteArray} (hk : k ≤ 16384) (h1 : Sz k x n1 s1) (h2 : Sz k y n2 s2) (W : World) (B : Nat) (hB : W.heap[B]? = some (.cells #[.bool n1, .string s1, .bool n2, .string s2] 26 (0, 0))) :
    Calls Tryz.prog 8 #[.slice (some ⟨B, 0, none⟩) 2 2] W fun e w' => ∃ s, e = .returned (.tuple #[whole false s, .int .i64 0]) ∧ Sz k ((Int.gcd x y : Nat) : Int) false s ∧ W.grownBy w' none := by
  have m1 := h1.may hk
  have m2 := h2.may hk
  have hD : DW W (.slice (some ⟨B, 0, none⟩) 2 2) [(n1, s1), (n2, s2)] := by
    refine ⟨B, 0, 2, rfl, by simp, fun j p hp => ?_⟩
    simp only [World.cell?, hB]
    match j, hp with
    | 0, hp => cases hp; exact ⟨rfl, rfl⟩
    | 1, hp => cases hp; exact ⟨rfl, rfl⟩
  refine (gcdL_any W _ _ hD (by simp) (by simp [mayAll, m1, m2])).mono ?_
  rintro e w' ⟨s, rfl, hs, hg⟩
  refine ⟨s, rfl, Sz.nat ?_ (gcd_lt h1.2 h2.2), hg⟩
  rw [hs]
  unfold gcdL Int.gcd
  rw [← h1.num, ← h2.num, num_abs, num_abs]
  simp
theorem ok_blk {n : Nat} (hn : n ≤ 1000) (W : World) (B : Nat) (hB : W.heap[B]? = some (.cells (Array.replicate n (.int .i64 0)) 27 (0, 0))) :
    Calls Tryz.prog 21 #[.slice (some ⟨B, 0, none⟩) n n] W fun e w' => e = .returned (.bool true) ∧ w' = W := by
  refine ok_all _ _ n n (Nat.le_refl _) hn fun j hj => ?_
  simp only [World.cell?, hB]
  simp [hj]
theorem ok_5 (W : World) (B : Nat) (hB : W.heap[B]? = some (.cells #[.int .i64 0, .int .i64 0, .int .i64 0, .int .i64 0, .int .i64 0] 27 (0, 0))) :
    Calls Tryz.prog 21 #[.slice (some ⟨B, 0, none⟩) 5 5] W fun e w' => e = .returned (.bool true) ∧ w' = W := ok_blk (by decide) W B hB
theorem ok_4 (W : World) (B : Nat) (hB : W.heap[B]? = some (.cells #[.int .i64 0, .int .i64 0, .int .i64 0, .int .i64 0] 27 (0, 0))) :
    Calls Tryz.prog 21 #[.slice (some ⟨B, 0, none⟩) 4 4] W fun e w' => e = .returned (.bool true) ∧ w' = W := ok_blk (by decide) W B hB
theorem ok_3 (W : World) (B : Nat) (hB : W.heap[B]? = some (.cells #[.int .i64 0, .int .i64 0, .int .i64 0] 27 (0, 0))) :
    Calls Tryz.prog 21 #[.slice (some ⟨B, 0, none⟩) 3 3] W fun e w' => e = .returned (.bool true) ∧ w' = W := ok_blk (by decide) W B hB
end Go.Proofs.YtjngcpbdilhkbaaGreatDoor
