/-
  Euclid's quotients, over Int.
-/
import Derived.Test.YtdfliaogmlpefaaGreatDoorBunGar
namespace Go.Proofs.YtdfliaogmlpefaaGreatDoor
set_option linter.unusedVariables false
def Eu : Int → Int → List Int → Prop
  | _, _, [] => False
  | N, D, [q] => 0 < D ∧ N = q * D
  | N, D, q :: q' :: l => 0 < D ∧ 0 < N - q * D ∧ N - q * D < D ∧ Eu D (N - q * D) (q' :: l)
theorem div_uniq {N D q : Int} (hD : 0 < D) (h0 : 0 ≤ N - q * D) (h1 : N - q * D < D) : N / D = q ∧ N % D = N - q * D := by
  have e : N / D = q := by
    have h := Int.add_mul_ediv_left (N - q * D) q (Int.ne_of_gt hD)
    rw [show N - q * D + D * q = N by rw [Int.mul_comm D q]; omega, Int.ediv_eq_zero_of_lt h0 h1] at h
    omega
  refine ⟨e, ?_⟩
  rw [Int.emod_def, e, Int.mul_comm D q]
theorem Eu.head {N D q : Int} {l : List Int} (h : Eu N D (q :: l)) : 0 < D ∧ N / D = q ∧ ((l = [] ∧ N % D = 0) ∨ (l ≠ [] ∧ 0 < N % D ∧ N % D < D ∧ Eu D (N % D) l)) := by
  cases l with
  | nil =>
    obtain ⟨hD, e⟩ := h
    obtain ⟨e1, e2⟩ := div_uniq hD (by omega : (0 : Int) ≤ N - q * D) (by omega)
    exact ⟨hD, e1, .inl ⟨rfl, by omega⟩⟩
  | cons q' l =>
    obtain ⟨hD, h0, h1, h2⟩ := h
    obtain ⟨e1, e2⟩ := div_uniq hD (by omega) h1
    exact ⟨hD, e1, .inr ⟨by simp, by omega, by omega, by rw [e2]; exact h2⟩⟩
theorem eu_ex : ∀ (m : Nat) (N D : Int), 0 < D → D.toNat ≤ m → ∃ l, Eu N D l
  | 0, N, D, h, hm => by omega
  | m + 1, N, D, h, hm => by
    have e : N - N / D * D = N % D := by rw [Int.emod_def, Int.mul_comm]
    have h0 := Int.emod_nonneg N (Int.ne_of_gt h)
    have h1 := Int.emod_lt_of_pos N h
    by_cases hr : N % D = 0
    · exact ⟨[N / D], h, by omega⟩
    · obtain ⟨l, hl⟩ := eu_ex m D (N % D) (by omega) (by omega)
      cases l with
      | nil => exact absurd hl (by simp [Eu])
      | cons q l => exact ⟨N / D :: q :: l, h, by rw [e]; omega, by rw [e]; omega, by rw [e]; exact hl⟩
def fb2 : Nat → Nat × Nat
  | 0 => (1, 2)
  | k + 1 => ((fb2 k).2, (fb2 k).1 + (fb2 k).2)
theorem fb_mono : ∀ (j k : Nat), (fb2 k).1 ≤ (fb2 (k + j)).1
  | 0, k => Nat.le_refl _
  | j + 1, k => Nat.le_trans (fb_mono j k) (by
    rw [show k + (j + 1) = (k + j) + 1 by omega]
    generalize k + j = m
    have : (fb2 m).1 ≤ (fb2 m).2 := by
      cases m with
      | zero => decide
      | succ m => simp only [fb2]; omega
    simpa [fb2] using this)
theorem Eu.fib : ∀ (l : List Int) (N D : Int), Eu N D l → ((fb2 (l.length - 1)).1 : Int) ≤ D
  | [], N, D, h => absurd h (by simp [Eu])
  | [q], N, D, h => by have := h.1; simp [fb2]; omega
  | [q, q'], N, D, h => by
    obtain ⟨h1, h2, h3, h4⟩ := h
    simp [fb2]; omega
  | q :: q' :: q'' :: l, N, D, h => by
    have hh := h.head
    obtain ⟨hD, _, ⟨e, _⟩ | ⟨_, r0, r1, h2⟩⟩ := hh
    · simp at e
    · have i1 := Eu.fib (q' :: q'' :: l) D (N % D) h2
      obtain ⟨hD2, e2, ⟨e, _⟩ | ⟨_, s0, s1, h3⟩⟩ := h2.head
      · simp at e
      · have i2 := Eu.fib (q'' :: l) (N % D) (D % (N % D)) h3
        have hq : 1 ≤ D / (N % D) := by
          have := Int.ediv_le_ediv hD2 (Int.le_of_lt r1)
          rw [Int.ediv_self (Int.ne_of_gt hD2)] at this
          exact this
        have hm := Int.emod_def D (N % D)
        have hmul : N % D ≤ N % D * (D / (N % D)) := by
          have := Int.mul_le_mul_of_nonneg_left hq (Int.le_of_lt hD2)
          rw [Int.mul_one] at this
          exact this
        simp only [List.length_cons, Nat.add_sub_cancel] at i1 i2 ⊢
        simp only [fb2]
        have i3 : ((fb2 l.length).2 : Int) ≤ N % D := by simpa [fb2] using i1
        have i4 : ((fb2 l.length).1 : Int) ≤ D % (N % D) := i2
        omega
theorem fb_big : 256 ^ 100 ≤ (fb2 1300).1 := by decide +kernel
theorem Eu.short {l : List Int} {N D : Int} (h : Eu N D l) (hD : D.natAbs < 256 ^ 100) : l.length ≤ 1300 := by
  refine Classical.byContradiction fun hl => ?_
  have h1 := Eu.fib l N D h
  have h2 := fb_mono (l.length - 1 - 1300) 1300
  rw [show 1300 + (l.length - 1 - 1300) = l.length - 1 by omega] at h2
  have h3 := fb_big
  generalize (fb2 (l.length - 1)).1 = A at *
  generalize (fb2 1300).1 = B at *
  generalize 256 ^ 100 = C at *
  omega
end Go.Proofs.YtdfliaogmlpefaaGreatDoor
