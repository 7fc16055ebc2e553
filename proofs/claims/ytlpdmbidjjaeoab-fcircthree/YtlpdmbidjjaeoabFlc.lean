/-
  Floats as fractions: order; what quotients and roots are rounded from.
-/
import Derived.Test.YtlpdmbidjjaeoabFlb
namespace Go.Proofs.Ytlpdmbidjjaeoab
open Ieee

/-- How two numbers stand. -/
theorem order_v {x y : Nat} {a b : Rat} (hx : V x a) (hy : V y b) : ∃ o, double.order x y = some o ∧ (o = .lt ↔ a < b) ∧ (o = .eq ↔ a = b) ∧ (o = .gt ↔ b < a) := by
  obtain ⟨s, m, i, rx, rfl⟩ := hx
  obtain ⟨t, n, j, ry, rfl⟩ := hy
  refine ⟨_, by rw [Format.order, rx, ry]; rfl, ?_⟩
  have hb : 0 < p2 (min i j) := p2_pos _
  rw [← base_val s m i (min i j) (by omega), ← base_val t n j (min i j) (by omega)]
  generalize signed s m (i - min i j).toNat = z
  generalize signed t n (j - min i j).toNat = z'
  have k1 : ∀ p q : Int, p < q ↔ (p : Rat) * p2 (min i j) < (q : Rat) * p2 (min i j) := fun p q => by
    constructor
    · intro h; exact Rat.mul_lt_mul_of_pos_right (Rat.intCast_lt_intCast.2 h) hb
    · intro h; exact Rat.intCast_lt_intCast.1 (Rat.lt_of_mul_lt_mul_right h (Rat.le_of_lt hb))
  have k2 : z = z' ↔ (z : Rat) * p2 (min i j) = (z' : Rat) * p2 (min i j) := by
    constructor
    · intro h; rw [h]
    · intro h
      have a1 := (not_congr (k1 z z')).2 (by rw [h]; exact Rat.lt_irrefl)
      have a2 := (not_congr (k1 z' z)).2 (by rw [h]; exact Rat.lt_irrefl)
      omega
  rw [← k1, ← k1, ← k2]
  simp only [compare, compareOfLessAndEq]
  rcases Int.lt_trichotomy z z' with k | k | k
  · rw [if_pos k]
    exact ⟨⟨fun _ => k, fun _ => rfl⟩, ⟨fun h => Ordering.noConfusion h, fun h => by omega⟩, ⟨fun h => Ordering.noConfusion h, fun h => by omega⟩⟩
  · rw [if_neg (by omega), if_pos k]
    exact ⟨⟨fun h => Ordering.noConfusion h, fun h => by omega⟩, ⟨fun _ => k, fun _ => rfl⟩, ⟨fun h => Ordering.noConfusion h, fun h => by omega⟩⟩
  · rw [if_neg (by omega), if_neg (by omega)]
    exact ⟨⟨fun h => Ordering.noConfusion h, fun h => by omega⟩, ⟨fun h => Ordering.noConfusion h, fun h => by omega⟩, ⟨fun _ => k, fun _ => rfl⟩⟩

/-- The root, digit by digit. -/
theorem rootFrom_spec (n : Nat) : ∀ (todo root : Nat), root * root ≤ n → n < (root + 2 ^ todo) * (root + 2 ^ todo) → Datum.rootFrom n todo root * Datum.rootFrom n todo root ≤ n ∧ n < (Datum.rootFrom n todo root + 1) * (Datum.rootFrom n todo root + 1)
  | 0, root, h1, h2 => ⟨h1, h2⟩
  | todo + 1, root, h1, h2 => by
    unfold Datum.rootFrom
    simp only [Nat.one_shiftLeft]
    split
    · rename_i h
      refine rootFrom_spec n todo _ h ?_
      have : root + 2 ^ todo + 2 ^ todo = root + 2 ^ (todo + 1) := by rw [Nat.pow_succ]; omega
      rw [this]; exact h2
    · rename_i h
      exact rootFrom_spec n todo _ h1 (by omega)

theorem root_spec (n : Nat) : Datum.rootFrom n (n.log2 / 2 + 1) 0 * Datum.rootFrom n (n.log2 / 2 + 1) 0 ≤ n ∧ n < (Datum.rootFrom n (n.log2 / 2 + 1) 0 + 1) * (Datum.rootFrom n (n.log2 / 2 + 1) 0 + 1) := by
  refine rootFrom_spec n _ 0 (by omega) ?_
  rw [Nat.zero_add, ← Nat.pow_add]
  exact Nat.lt_of_lt_of_le Nat.lt_log2_self (Nat.pow_le_pow_right (by decide) (by omega))

theorem dv1 {Q D N P E S : Rat} (c1 : Q ≤ 2 * D + N) (c2 : 2 * D ≤ Q + N) (c3 : S * N ≤ D) (e : E * S * 2 = 1) (hE : 0 ≤ E) (hP : 0 ≤ P) : Q * P ≤ 2 * D * P + E * (2 * D * P) ∧ 2 * D * P ≤ Q * P + E * (2 * D * P) := by
  have n1 := Rat.mul_le_mul_of_nonneg_left c3 hE
  have n2 : N = 2 * (E * (S * N)) := by
    have : N = E * S * 2 * N := by rw [e, Rat.one_mul]
    grind
  have h1 := Rat.mul_le_mul_of_nonneg_right (show Q ≤ 2 * D + 2 * (E * D) by grind) hP
  have h2 := Rat.mul_le_mul_of_nonneg_right (show 2 * D ≤ Q + 2 * (E * D) by grind) hP
  constructor <;> grind

/-- The quotient's datum is near the quotient. -/
theorem div_datum {d d' : Datum} {s t : Bool} {m n : Nat} {i j : Int} (h : d = .number s m i) (h' : d' = .number t n j) (hn : n ≠ 0) :
    ∃ mag place, d.quotient 54 d' = some (.number (s ^^ t) mag place) ∧
      ((mag : Rat) * p2 place) * ((n : Rat) * p2 j) ≤ (m : Rat) * p2 i + p2 (-54) * ((m : Rat) * p2 i) ∧ (m : Rat) * p2 i ≤ ((mag : Rat) * p2 place) * ((n : Rat) * p2 j) + p2 (-54) * ((m : Rat) * p2 i) := by
  subst h h'
  obtain ⟨more, hmore⟩ : ∃ more, 54 + n.log2 - m.log2 = more := ⟨_, rfl⟩
  refine ⟨2 * (m <<< more / n) + (m <<< more % n != 0).toNat, i - j - more - 1, ?_, ?_⟩
  · simp only [Datum.quotient, hn, if_false, hmore]
  · rw [Nat.shiftLeft_eq]
    by_cases hm : m = 0
    · subst hm
      rw [Nat.zero_mul, Nat.zero_div, Nat.zero_mod]
      have e0 : ((0 : Nat) : Rat) = 0 := rfl
      rw [show 2 * 0 + ((0 : Nat) != 0).toNat = 0 by rfl, e0]
      grind
    · have hdm := Nat.div_add_mod (m * 2 ^ more) n
      have hml := Nat.mod_lt (m * 2 ^ more) (Nat.pos_of_ne_zero hn)
      obtain ⟨q, hq⟩ : ∃ q, 2 * (m * 2 ^ more / n) + (m * 2 ^ more % n != 0).toNat = q := ⟨_, rfl⟩
      have hst : ((m * 2 ^ more % n != 0).toNat = 0 ∧ m * 2 ^ more % n = 0) ∨ ((m * 2 ^ more % n != 0).toNat = 1 ∧ m * 2 ^ more % n ≠ 0) := by
        by_cases k : m * 2 ^ more % n = 0
        · left; rw [k]; exact ⟨rfl, rfl⟩
        · right; exact ⟨by rw [bne_iff_ne.2 k]; rfl, k⟩
      -- q n is within n of twice the dividend
      have b1 : q * n ≤ 2 * (m * 2 ^ more) + n ∧ 2 * (m * 2 ^ more) ≤ q * n + n := by
        rw [← hq]
        generalize m * 2 ^ more / n = d at *
        generalize m * 2 ^ more % n = r at *
        generalize m * 2 ^ more = D at *
        have e1 : (2 * d + (r != 0).toNat) * n = 2 * (n * d) + (r != 0).toNat * n := by rw [Nat.add_mul, Nat.mul_assoc, Nat.mul_comm d n]
        rcases hst with ⟨k1, k2⟩ | ⟨k1, k2⟩ <;> rw [e1, k1] <;> omega
      -- the dividend is great against n
      have b2 : 2 ^ 53 * n ≤ m * 2 ^ more := by
        have l1 := Nat.log2_self_le hm
        have l2 : n < 2 ^ (n.log2 + 1) := Nat.lt_log2_self
        refine Nat.le_trans (Nat.mul_le_mul_left _ (Nat.le_of_lt l2)) ?_
        refine Nat.le_trans ?_ (Nat.mul_le_mul_right _ l1)
        rw [← Nat.pow_add, ← Nat.pow_add]
        exact Nat.pow_le_pow_right (by decide) (by omega)
      rw [hq]
      -- over the rationals
      have c1 := Rat.natCast_le_natCast.2 b1.1
      have c2 := Rat.natCast_le_natCast.2 b1.2
      have c3 := Rat.natCast_le_natCast.2 b2
      simp only [Rat.natCast_add, Rat.natCast_mul, Rat.natCast_ofNat] at c1 c2 c3
      have e53 : p2 (-54) * ((2 ^ 53 : Nat) : Rat) * 2 = 1 := by
        rw [← p2_nat, ← p2_add, Rat.mul_comm, ← p2_succ]; exact p2_zero
      obtain ⟨P, hP⟩ : ∃ P, p2 (i - more - 1) = P := ⟨_, rfl⟩
      have hPp : 0 ≤ P := by rw [← hP]; exact Rat.le_of_lt (p2_pos _)
      have f1 : ((q : Rat) * p2 (i - j - more - 1)) * ((n : Rat) * p2 j) = (q : Rat) * n * P := by
        rw [← hP, show i - (more : Int) - 1 = (i - j - more - 1) + j by omega, p2_add]; grind
      have f2 : (m : Rat) * p2 i = 2 * ((m : Rat) * ((2 ^ more : Nat) : Rat)) * P := by
        rw [← hP, show i = 1 + ((more : Int) + (i - more - 1)) by omega, p2_add, p2_add, p2_nat, p2_one]
        simp only [show 1 + ((more : Int) + (i - more - 1)) - more - 1 = i - more - 1 by omega]
        grind
      rw [f1, f2]
      exact dv1 c1 c2 c3 e53 (Rat.le_of_lt (p2_pos _)) hPp

end Go.Proofs.Ytlpdmbidjjaeoab
