/-
  FcircThree, whatever the six numbers.
-/
import Derived.Test.YtlpdmbidjjaeoabFcw
namespace Go.Proofs.Ytlpdmbidjjaeoab
open Go.RowKit Go.Lib Go.Sort Ieee

theorem small_e (a : Int) : E 0 (floatOfInt .f64 (Int.tmod a 1025)) (Int.tmod a 1025) 1024 := by
  have h : (Int.tmod a 1025).natAbs ≤ 1024 := by
    rw [Int.natAbs_tmod]
    have := Nat.mod_lt a.natAbs (show (1025 : Int).natAbs > 0 by decide)
    omega
  exact (int_e _ (by omega)).wide h
theorem ne_of_eq {x : Nat} {n : Int} (h : (double.order x 0 == some .eq) = decide (n = 0)) (hn : n = 0) : (FloatKind.f64.format.order x 0 != some .eq) = false := by
  have e : (FloatKind.f64.format.order x 0 == some .eq) = true := h.trans (decide_eq_true hn)
  rw [bne, e]; rfl
theorem law_any (a b c d e f : Int) (w : World) : Calls Try.prog 3 #[six a b c d e f] w (Yes w) := by
  have z1 := small_e a
  have z2 := small_e b
  have z3 := small_e c
  have z4 := small_e d
  have z5 := small_e e
  have z6 := small_e f
  rcases through_e ⟨z1, z2⟩ ⟨z3, z4⟩ ⟨z5, z6⟩ with ht | ⟨A, B1, B2, C, ht, hC⟩
  · exact law_zero (small_any a) (small_any b) (small_any c) (small_any d) (small_any e) (small_any f) rfl rfl rfl rfl rfl rfl ht w
  · obtain ⟨v1, g1, y1⟩ := value_e hC ⟨z1, z2⟩
    obtain ⟨v2, g2, y2⟩ := value_e hC ⟨z3, z4⟩
    obtain ⟨v3, g3, y3⟩ := value_e hC ⟨z5, z6⟩
    obtain ⟨X, i1, i2, Y, gi, w1, w2, w3, w4⟩ := still_e hC
    have n1 := nV_p (Int.tmod a 1025) (Int.tmod b 1025) (Int.tmod c 1025 - Int.tmod a 1025) (Int.tmod d 1025 - Int.tmod b 1025) (Int.tmod e 1025 - Int.tmod a 1025) (Int.tmod f 1025 - Int.tmod b 1025)
    have n2 := nV_q (Int.tmod a 1025) (Int.tmod b 1025) (Int.tmod c 1025 - Int.tmod a 1025) (Int.tmod d 1025 - Int.tmod b 1025) (Int.tmod e 1025 - Int.tmod a 1025) (Int.tmod f 1025 - Int.tmod b 1025)
    have n3 := nV_r (Int.tmod a 1025) (Int.tmod b 1025) (Int.tmod c 1025 - Int.tmod a 1025) (Int.tmod d 1025 - Int.tmod b 1025) (Int.tmod e 1025 - Int.tmod a 1025) (Int.tmod f 1025 - Int.tmod b 1025)
    rw [show Int.tmod a 1025 + (Int.tmod c 1025 - Int.tmod a 1025) = Int.tmod c 1025 by omega, show Int.tmod b 1025 + (Int.tmod d 1025 - Int.tmod b 1025) = Int.tmod d 1025 by omega] at n2
    rw [show Int.tmod a 1025 + (Int.tmod e 1025 - Int.tmod a 1025) = Int.tmod e 1025 by omega, show Int.tmod b 1025 + (Int.tmod f 1025 - Int.tmod b 1025) = Int.tmod f 1025 by omega] at n3
    exact law_ok (small_any a) (small_any b) (small_any c) (small_any d) (small_any e) (small_any f) rfl rfl rfl rfl rfl rfl ht g1 g2 g3 gi (ne_of_eq y1 n1) (ne_of_eq y2 n2) (ne_of_eq y3 n3) w1 w2 w3 w4 w
end Go.Proofs.Ytlpdmbidjjaeoab
