/-
  Words that stand for whole numbers over a power of two, with a bound: sums, differences, products are exact.
-/
import Derived.Test.YtlpdmbidjjaeoabCpb
namespace Go.Proofs.Ytlpdmbidjjaeoab
open Ieee

/-- The word x stands for n over 2 to the power s; n is at most k. -/
def E (s : Nat) (x : Nat) (n : Int) (k : Nat) : Prop := VV x ((n : Rat) * p2 (-(s : Int))) ∧ n.natAbs ≤ k

theorem rn_exact {v : Rat} {n : Int} {s : Nat} (h : Rn v ((n : Rat) * p2 (-(s : Int)))) (hn : n.natAbs < 2 ^ 53) (hs : s ≤ 1000) : v = (n : Rat) * p2 (-(s : Int)) := by
  refine h.2.2 n.natAbs (-(s : Int)) hn (by omega) ?_
  rw [← Rat.intCast_natCast]
  rcases Int.lt_or_le n 0 with k | k
  · right; rw [show ((n.natAbs : Nat) : Int) = -n by omega, Rat.intCast_neg]; grind
  · left; rw [show ((n.natAbs : Nat) : Int) = n by omega]
theorem ex_le {n : Int} {s : Nat} (hn : n.natAbs < 2 ^ 53) : (n : Rat) * p2 (-(s : Int)) ≤ p2 53 ∧ -((n : Rat) * p2 (-(s : Int))) ≤ p2 53 := by
  have e : p2 53 = (((2 ^ 53 : Nat) : Int) : Rat) := (p2_nat 53).trans (Rat.intCast_natCast _).symm
  have h0 := Rat.le_of_lt (p2_pos (-(s : Int)))
  have h1 : p2 (-(s : Int)) ≤ 1 := by rw [← p2_zero]; exact p2_le (by omega)
  have h53 := Rat.le_of_lt (p2_pos 53)
  have a1 : (n : Rat) ≤ p2 53 := by rw [e]; exact Rat.intCast_le_intCast.2 (by omega)
  have a2 : -(n : Rat) ≤ p2 53 := by rw [e, ← Rat.intCast_neg]; exact Rat.intCast_le_intCast.2 (by omega)
  have b1 := Rat.mul_le_mul_of_nonneg_right a1 h0
  have b2 := Rat.mul_le_mul_of_nonneg_right a2 h0
  have b3 := Rat.mul_le_mul_of_nonneg_left h1 h53
  constructor <;> grind

theorem E.mul {s t x y k l : Nat} {n m : Int} (hx : E s x n k) (hy : E t y m l) (h : k * l < 2 ^ 53) (hs : s + t ≤ 1000) : ∃ r, double.mul x y = some r ∧ E (s + t) r (n * m) (k * l) := by
  have hb : (n * m).natAbs ≤ k * l := by rw [Int.natAbs_mul]; exact Nat.mul_le_mul hx.2 hy.2
  have e : (n : Rat) * p2 (-(s : Int)) * ((m : Rat) * p2 (-(t : Int))) = ((n * m : Int) : Rat) * p2 (-((s + t : Nat) : Int)) := by
    rw [Rat.intCast_mul, show (-((s + t : Nat) : Int)) = -(s : Int) + -(t : Int) by omega, p2_add]; grind
  obtain ⟨l1, l2⟩ := ex_le (s := s + t) (show (n * m).natAbs < 2 ^ 53 by omega)
  obtain ⟨r, v, er, hv, hn⟩ := vv_mul hx.1 hy.1 (T := 53) (by omega) (by rw [e]; exact l1) (by rw [e]; exact l2)
  rw [e] at hn
  rw [rn_exact hn (by omega) hs] at hv
  exact ⟨r, er, hv, hb⟩
theorem E.add {s x y k l : Nat} {n m : Int} (hx : E s x n k) (hy : E s y m l) (h : k + l < 2 ^ 53) (hs : s ≤ 1000) : ∃ r, double.add x y = some r ∧ E s r (n + m) (k + l) := by
  have hb : (n + m).natAbs ≤ k + l := by have := hx.2; have := hy.2; omega
  have e : (n : Rat) * p2 (-(s : Int)) + (m : Rat) * p2 (-(s : Int)) = ((n + m : Int) : Rat) * p2 (-(s : Int)) := by rw [Rat.intCast_add]; grind
  obtain ⟨l1, l2⟩ := ex_le (s := s) (show (n + m).natAbs < 2 ^ 53 by omega)
  obtain ⟨r, v, er, hv, hn⟩ := vv_add hx.1 hy.1 (T := 53) (by omega) (by rw [e]; exact l1) (by rw [e]; exact l2)
  rw [e] at hn
  rw [rn_exact hn (by omega) hs] at hv
  exact ⟨r, er, hv, hb⟩
theorem E.sub {s x y k l : Nat} {n m : Int} (hx : E s x n k) (hy : E s y m l) (h : k + l < 2 ^ 53) (hs : s ≤ 1000) : ∃ r, double.sub x y = some r ∧ E s r (n - m) (k + l) := by
  have hb : (n - m).natAbs ≤ k + l := by have := hx.2; have := hy.2; omega
  have e : (n : Rat) * p2 (-(s : Int)) - (m : Rat) * p2 (-(s : Int)) = ((n - m : Int) : Rat) * p2 (-(s : Int)) := by rw [Rat.intCast_sub]; grind
  obtain ⟨l1, l2⟩ := ex_le (s := s) (show (n - m).natAbs < 2 ^ 53 by omega)
  obtain ⟨r, v, er, hv, hn⟩ := vv_sub hx.1 hy.1 (T := 53) (by omega) (by rw [e]; exact l1) (by rw [e]; exact l2)
  rw [e] at hn
  rw [rn_exact hn (by omega) hs] at hv
  exact ⟨r, er, hv, hb⟩
theorem E.up {s x k : Nat} {n : Int} (h : E s x n k) : E (s + 1) x (2 * n) (2 * k) := by
  obtain ⟨h1, h2⟩ := h
  refine ⟨?_, by omega⟩
  have e : ((2 * n : Int) : Rat) * p2 (-((s + 1 : Nat) : Int)) = (n : Rat) * p2 (-(s : Int)) := by
    rw [Rat.intCast_mul, show (-(s : Int)) = -((s + 1 : Nat) : Int) + 1 by omega, p2_succ, show ((2 : Int) : Rat) = 2 by rfl]; grind
  rw [e]; exact h1
theorem E.wide {s x k l : Nat} {n : Int} (h : E s x n k) (hl : k ≤ l) : E s x n l := ⟨h.1, Nat.le_trans h.2 hl⟩
theorem E.same {s x k : Nat} {n m : Int} (h : E s x n k) (e : n = m) : E s x m k := by rw [← e]; exact h
theorem E.lt {s x k : Nat} {n : Int} (h : E s x n k) : x < 2 ^ 64 := h.1.2

/-- How two stand. -/
theorem E.eq {s x y k l : Nat} {n m : Int} (hx : E s x n k) (hy : E s y m l) : (double.order x y == some .eq) = decide (n = m) := by
  obtain ⟨o, ho, _, h1, _⟩ := order_v hx.1.1 hy.1.1
  have hp := p2_pos (-(s : Int))
  have key : n = m ↔ (n : Rat) * p2 (-(s : Int)) = (m : Rat) * p2 (-(s : Int)) := by
    constructor
    · intro h; rw [h]
    · intro h
      have d : ((n - m : Int) : Rat) * p2 (-(s : Int)) = 0 := by rw [Rat.intCast_sub]; grind
      rcases Rat.mul_eq_zero.1 d with k | k
      · have : n - m = 0 := Rat.intCast_eq_zero_iff.1 k
        omega
      · grind
  rw [ho]
  by_cases k : n = m
  · rw [decide_eq_true k, h1.2 (key.1 k)]; rfl
  · rw [decide_eq_false k]
    have : o ≠ .eq := fun e => k (key.2 (h1.1 e))
    cases o <;> first | rfl | exact absurd rfl this

/-- The word with its sign turned. -/
def flip (x : Nat) : Nat := x ^^^ 2 ^ 63
theorem flip_div (x : Nat) (h : x < 2 ^ 64) : flip x / 2 ^ 63 = 1 - x / 2 ^ 63 := by
  rw [flip, Nat.xor_div_two_pow, show 2 ^ 63 / 2 ^ 63 = 1 by decide]
  have : x / 2 ^ 63 = 0 ∨ x / 2 ^ 63 = 1 := by omega
  rcases this with k | k <;> rw [k] <;> rfl
theorem flip_mod (x : Nat) : flip x % 2 ^ 63 = x % 2 ^ 63 := by
  rw [flip, Nat.xor_mod_two_pow, Nat.mod_self, Nat.xor_zero]
theorem flip_lt (x : Nat) (h : x < 2 ^ 64) : flip x < 2 ^ 64 := Nat.xor_lt_two_pow h (by decide)
theorem vv_flip {x : Nat} {v : Rat} (h : VV x v) : VV (flip x) (-v) := by
  obtain ⟨⟨s, m, e, hr, hv⟩, hx⟩ := h
  refine ⟨⟨!s, m, e, ?_, ?_⟩, flip_lt x hx⟩
  · have e1 : double.signWeight = 2 ^ 63 := by decide
    simp only [Format.read, e1] at hr ⊢
    rw [flip_div x hx, flip_mod]
    have hs : (x / 2 ^ 63 % 2 == 1) = s := by
      split at hr
      · injection hr
      · split at hr
        · injection hr
        · split at hr <;> cases hr
    have hs2 : ((1 - x / 2 ^ 63) % 2 == 1) = !s := by
      rw [← hs]
      have : x / 2 ^ 63 = 0 ∨ x / 2 ^ 63 = 1 := by omega
      rcases this with k | k <;> rw [k] <;> rfl
    rw [hs2]
    split at hr
    · rename_i k; rw [if_pos k]; injection hr with _ h2 h3; rw [h2, h3]
    · rename_i k
      rw [if_neg k]
      split at hr
      · rename_i k2; rw [if_pos k2]; injection hr with _ h2 h3; rw [h2, h3]
      · split at hr <;> cases hr
  · rw [hv, sg_not]; grind
theorem E.neg {s x k : Nat} {n : Int} (h : E s x n k) : E s (flip x) (-n) k := by
  refine ⟨?_, by have := h.2; omega⟩
  have := vv_flip h.1
  rw [Rat.intCast_neg, show -(n : Rat) * p2 (-(s : Int)) = -((n : Rat) * p2 (-(s : Int))) by grind]
  exact this

theorem int_e (n : Int) (h : n.natAbs < 2 ^ 53) : E 0 (FloatKind.f64.nearest n) n n.natAbs := by
  refine ⟨?_, Nat.le_refl _⟩
  have e0 : (n : Rat) * p2 (-((0 : Nat) : Int)) = (n : Rat) := by rw [show (-((0 : Nat) : Int)) = 0 by rfl, p2_zero, Rat.mul_one]
  obtain ⟨l1, l2⟩ := ex_le (s := 0) h
  have e : sg (decide (n < 0)) * ((n.natAbs : Rat) * p2 0) = (n : Rat) * p2 (-((0 : Nat) : Int)) := by
    have := int_val n (decide (n < 0))
    rw [e0, p2_zero, Rat.mul_one]
    by_cases k : n = 0
    · rw [if_pos k] at this; exact this
    · rw [if_neg k] at this; exact this
  obtain ⟨v, hv, hn⟩ := write_v (decide (n < 0)) n.natAbs 0 _ e (T := 53) (by omega) l1 l2
  rw [rn_exact hn h (by omega)] at hv
  have hl : double.write (.number (decide (n < 0)) n.natAbs 0) < 2 ^ 64 := double.write_lt _
  exact ⟨hv, hl⟩
theorem lit_e {x : Nat} {s : Nat} {n : Int} (h : V x ((n : Rat) * p2 (-(s : Int)))) (hx : x < 2 ^ 64) : E s x n n.natAbs := ⟨⟨h, hx⟩, Nat.le_refl _⟩
theorem e_one : E 0 4607182418800017408 1 1 := ⟨by have := vv_one; rwa [show ((1 : Int) : Rat) * p2 (-((0 : Nat) : Int)) = 1 by rw [show (-((0 : Nat) : Int)) = 0 by rfl, p2_zero, Rat.mul_one]; rfl], by decide⟩
theorem e_zero : E 0 0 0 0 := ⟨by
  rw [show ((0 : Int) : Rat) * p2 (-((0 : Nat) : Int)) = 0 by rw [show ((0 : Int) : Rat) = 0 by rfl, Rat.zero_mul]]
  exact vv_lit _ false 0 (-1074) 0 (by rfl) (by rw [show ((0 : Nat) : Rat) = 0 by rfl, Rat.zero_mul, Rat.mul_zero]) (by decide), by decide⟩
theorem e_zero1 : E 1 0 0 0 := e_zero.up
theorem e_mhalf : E 1 13826050856027422720 (-1) 1 := ⟨by
  have h := vv_flip vv_half
  rw [show flip 4602678819172646912 = 13826050856027422720 by decide] at h
  rw [show ((-1 : Int) : Rat) * p2 (-((1 : Nat) : Int)) = -(1 / 2) by
    have h1 : p2 (-1 + 1) = 2 * p2 (-1) := p2_succ (-1)
    rw [show ((-1 : Int) + 1) = 0 by rfl, p2_zero] at h1
    rw [show (-((1 : Nat) : Int)) = -1 by rfl, show ((-1 : Int) : Rat) = -1 by rfl]
    grind]
  exact h, by decide⟩
end Go.Proofs.Ytlpdmbidjjaeoab
