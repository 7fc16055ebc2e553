/-
  Values of the floats that the program meets, and the longer side's formula.
-/
import Derived.Test.YtlpdmbidjjaeoabCpa
namespace Go.Proofs.Ytlpdmbidjjaeoab
open Go.RowKit Go.Lib Ieee

/-- The word x stands for the number v, and is a word. -/
def VV (x : Nat) (v : Rat) : Prop := V x v ∧ x < 2 ^ 64

theorem p2_lit (n : Nat) (k : Nat) (h : 2 ^ n = k) : p2 (n : Int) = (k : Rat) := by rw [p2_nat, h]
theorem p2_inv (n : Nat) : p2 (-(n : Int)) * ((2 ^ n : Nat) : Rat) = 1 := by rw [← p2_nat, ← p2_add, Int.add_left_neg, p2_zero]

theorem vv_lit (x : Nat) (s : Bool) (m : Nat) (e : Int) (v : Rat) (hr : double.read x = .number s m e) (hv : v = sg s * ((m : Rat) * p2 e)) (hx : x < 2 ^ 64) : VV x v := ⟨⟨s, m, e, hr, hv⟩, hx⟩
theorem vv_one : VV 4607182418800017408 1 := vv_lit _ false (2 ^ 52) (-52) 1 (by rfl) (by rw [sg_f, Rat.one_mul, Rat.mul_comm]; exact (p2_inv 52).symm) (by decide)
theorem vv_two : VV 4611686018427387904 2 := vv_lit _ false (2 ^ 52) (-51) 2 (by rfl) (by
  rw [sg_f, Rat.one_mul, Rat.mul_comm, show (-51 : Int) = -52 + 1 by omega, p2_succ]
  have := p2_inv 52
  grind) (by decide)
theorem vv_half : VV 4602678819172646912 (1 / 2) := vv_lit _ false (2 ^ 52) (-53) (1 / 2) (by rfl) (by
  have h1 : p2 (-52) = 2 * p2 (-53) := by rw [← p2_succ]; rfl
  have := p2_inv 52
  rw [sg_f, Rat.one_mul]
  grind) (by decide)

theorem vv_add {x y : Nat} {a b : Rat} (hx : VV x a) (hy : VV y b) {T : Int} (hT : T ≤ 1000) (h1 : a + b ≤ p2 T) (h2 : -(a + b) ≤ p2 T) : ∃ r v, double.add x y = some r ∧ VV r v ∧ Rn v (a + b) := by
  obtain ⟨r, v, e, hv, hn⟩ := add_v hx.1 hy.1 hT h1 h2
  exact ⟨r, v, e, ⟨hv, double.add_lt e⟩, hn⟩
theorem vv_sub {x y : Nat} {a b : Rat} (hx : VV x a) (hy : VV y b) {T : Int} (hT : T ≤ 1000) (h1 : a - b ≤ p2 T) (h2 : -(a - b) ≤ p2 T) : ∃ r v, double.sub x y = some r ∧ VV r v ∧ Rn v (a - b) := by
  obtain ⟨r, v, e, hv, hn⟩ := sub_v hx.1 hy.1 hT h1 h2
  exact ⟨r, v, e, ⟨hv, double.sub_lt e⟩, hn⟩
theorem vv_mul {x y : Nat} {a b : Rat} (hx : VV x a) (hy : VV y b) {T : Int} (hT : T ≤ 1000) (h1 : a * b ≤ p2 T) (h2 : -(a * b) ≤ p2 T) : ∃ r v, double.mul x y = some r ∧ VV r v ∧ Rn v (a * b) := by
  obtain ⟨r, v, e, hv, hn⟩ := mul_v hx.1 hy.1 hT h1 h2
  exact ⟨r, v, e, ⟨hv, double.mul_lt e⟩, hn⟩

/-- A quotient's bounds, over a divisor above 0. -/
def Qo (Q a b : Rat) : Prop := (0 ≤ a → 0 ≤ Q ∧ Q * b ≤ a + p2 (-54) * a ∧ a ≤ Q * b + p2 (-54) * a) ∧ (a ≤ 0 → Q ≤ 0 ∧ -(Q * b) ≤ -a + p2 (-54) * -a ∧ -a ≤ -(Q * b) + p2 (-54) * -a)
theorem vv_div {x y : Nat} {a b : Rat} (hx : VV x a) (hy : VV y b) (hb : 0 < b) {T : Int} (hT : T ≤ 1000) (h1 : 2 * a ≤ p2 T * b) (h2 : -(2 * a) ≤ p2 T * b) : ∃ r v Q, double.div x y = some r ∧ VV r v ∧ Rn v Q ∧ Qo Q a b := by
  obtain ⟨r, v, Q, e, hv, hn, k1, k2⟩ := div_v hx.1 hy.1 hb hT h1 h2
  exact ⟨r, v, Q, e, ⟨hv, double.div_lt e⟩, hn, k1, k2⟩
/-- A root's bounds. -/
def Ro (W a : Rat) : Prop := 0 < W ∧ W * W ≤ a + p2 (-52) * a ∧ a ≤ W * W + p2 (-52) * a
theorem vv_sqrt {x : Nat} {a : Rat} (hx : VV x a) (ha : 0 < a) {T : Int} (hT : T ≤ 900) (hT0 : 0 ≤ T) (h1 : a ≤ p2 T) : ∃ r v W, double.sqrt x = some r ∧ VV r v ∧ Rn v W ∧ Ro W a := by
  obtain ⟨r, v, W, e, hv, hn, k1, k2, k3⟩ := sqrt_v hx.1 ha hT hT0 h1
  exact ⟨r, v, W, e, ⟨hv, double.sqrt_lt e⟩, hn, k1, k2, k3⟩

/-- A number without its sign. -/
def ab (v : Rat) : Rat := if v < 0 then -v else v
theorem ab_nonneg (v : Rat) : 0 ≤ ab v := by unfold ab; grind
theorem vv_abs {x : Nat} {v : Rat} (h : VV x v) : VV (x % 2 ^ 63) (ab v) := by
  obtain ⟨⟨s, m, e, hr, hv⟩, hx⟩ := h
  have h0 := mag_nonneg m e
  refine ⟨⟨false, m, e, ?_, ?_⟩, by omega⟩
  · have e1 : double.signWeight = 2 ^ 63 := by decide
    have a1 : x % 2 ^ 63 / 2 ^ 63 % 2 = 0 := by omega
    have a2 : x % 2 ^ 63 % 2 ^ 63 = x % 2 ^ 63 := Nat.mod_mod _ _
    simp only [Format.read, e1] at hr ⊢
    rw [a1, a2]
    split at hr
    · rename_i k; rw [if_pos k]; injection hr with _ h2 h3; rw [h2, h3]; rfl
    · rename_i k
      rw [if_neg k]
      split at hr
      · rename_i k2; rw [if_pos k2]; injection hr with _ h2 h3; rw [h2, h3]; rfl
      · split at hr <;> cases hr
  · rw [sg_f, Rat.one_mul, ab, hv]
    cases s
    · rw [sg_f, Rat.one_mul, if_neg (Rat.not_lt.2 h0)]
    · rw [sg_t]
      rcases Rat.le_iff_lt_or_eq.1 h0 with k | k
      · rw [if_pos (by grind)]; grind
      · rw [← k]; grind

theorem rn_up {v X : Rat} (h : Rn v X) (h0 : 0 ≤ X) : 0 ≤ v ∧ v ≤ X + p2 (-53) * X + p2 (-1075) ∧ X ≤ v + p2 (-53) * X + p2 (-1075) := h.1 h0

theorem eps53 : p2 (-53) = 1 / 9007199254740992 := by have := p2_inv 53; rw [show ((2 ^ 53 : Nat) : Rat) = 9007199254740992 by rfl] at this; change p2 (-53) * 9007199254740992 = 1 at this; grind
theorem eps54 : p2 (-54) = 1 / 18014398509481984 := by have := p2_inv 54; rw [show ((2 ^ 54 : Nat) : Rat) = 18014398509481984 by rfl] at this; change p2 (-54) * 18014398509481984 = 1 at this; grind
theorem eps52 : p2 (-52) = 1 / 4503599627370496 := by have := p2_inv 52; rw [show ((2 ^ 52 : Nat) : Rat) = 4503599627370496 by rfl] at this; change p2 (-52) * 4503599627370496 = 1 at this; grind
theorem eps75 : p2 (-1075) ≤ 1 / 1208925819614629174706176 := by
  have := p2_inv 80; rw [show ((2 ^ 80 : Nat) : Rat) = 1208925819614629174706176 by rfl] at this; change p2 (-80) * 1208925819614629174706176 = 1 at this
  have h := p2_le (show (-1075 : Int) ≤ -80 by omega)
  grind
/-- Small numbers of the formulas. -/
theorem eps : p2 (-53) = 1 / 9007199254740992 ∧ p2 (-54) = 1 / 18014398509481984 ∧ p2 (-52) = 1 / 4503599627370496 ∧ p2 (-1075) ≤ 1 / 1208925819614629174706176 ∧ 0 < p2 (-1075) := ⟨eps53, eps54, eps52, eps75, p2_pos _⟩

/-- What the longer side's formula answers, of M, the greater side, and N. -/
def LgS (M N v : Rat) : Prop := ∃ k Q s1 s2 W s3, Rn k Q ∧ Qo Q N M ∧ Rn s1 (k * k) ∧ Rn s2 (1 + s1) ∧ Ro W s2 ∧ Rn s3 W ∧ Rn v (M * s3)

end Go.Proofs.Ytlpdmbidjjaeoab
