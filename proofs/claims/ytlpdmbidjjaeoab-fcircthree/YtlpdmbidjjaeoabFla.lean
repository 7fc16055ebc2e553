/-
  Floats as fractions: rounding to the nearest word.
-/
import Derived.Laws.FloatArith
namespace Go.Proofs.Ytlpdmbidjjaeoab
open Ieee

/-- Two to a whole power. -/
def p2 (e : Int) : Rat := (2 : Rat) ^ e
theorem p2_pos (e : Int) : 0 < p2 e := Rat.zpow_pos (by decide)
theorem p2_add (a b : Int) : p2 (a + b) = p2 a * p2 b := Rat.zpow_add (by decide) _ _
theorem p2_zero : p2 0 = 1 := Rat.zpow_zero _
theorem p2_one : p2 1 = 2 := Rat.zpow_one _
theorem p2_succ (a : Int) : p2 (a + 1) = 2 * p2 a := by rw [p2_add, p2_one, Rat.mul_comm]
theorem p2_nat (n : Nat) : p2 (n : Int) = ((2 ^ n : Nat) : Rat) := by
  rw [p2, Rat.zpow_natCast, Rat.natCast_pow]; rfl
theorem p2_le {a b : Int} (h : a ≤ b) : p2 a ≤ p2 b := by
  obtain ⟨n, rfl⟩ : ∃ n : Nat, b = a + n := ⟨(b - a).toNat, by omega⟩
  rw [p2_add, p2_nat]
  have h1 : (1 : Rat) ≤ ((2 ^ n : Nat) : Rat) := by
    have : ((1 : Nat) : Rat) ≤ ((2 ^ n : Nat) : Rat) := Rat.natCast_le_natCast.2 Nat.one_le_two_pow
    simpa using this
  have := Rat.mul_le_mul_of_nonneg_left h1 (Rat.le_of_lt (p2_pos a))
  simpa using this
theorem p2_lt_inv {a b : Int} (h : p2 a < p2 b) : a < b := by
  rcases Int.lt_or_le a b with k | k
  · exact k
  · exact absurd (p2_le k) (Rat.not_le.2 h)
theorem p2_cancel (e : Int) : p2 e * p2 (-e) = 1 := by rw [← p2_add, Int.add_right_neg, p2_zero]

/-- The nearest whole number, by halves. -/
theorem cut_near (neg : Bool) (n drop : Nat) : 2 * n ≤ 2 * Toward.even.cut neg n drop * 2 ^ drop + 2 ^ drop ∧ 2 * Toward.even.cut neg n drop * 2 ^ drop ≤ 2 * n + 2 ^ drop := by
  obtain ⟨g, hg⟩ : ∃ g, 1 <<< min drop (n.log2 + 2) = g := ⟨_, rfl⟩
  have hgp : g = 2 ^ min drop (n.log2 + 2) := by rw [← hg, Nat.one_shiftLeft]
  have h0 : 0 < g := by rw [hgp]; exact Nat.two_pow_pos _
  have hd := Nat.div_add_mod n g
  have hm := Nat.mod_lt n h0
  obtain ⟨c, hc⟩ : ∃ c, Toward.even.cut neg n drop = c := ⟨_, rfl⟩
  have hcut : c = n / g + (if g < 2 * (n % g) ∨ g = 2 * (n % g) ∧ n / g % 2 = 1 then 1 else 0) := by
    rw [← hc]
    simp only [Toward.cut, hg]
    congr 1
    obtain ⟨r, hr⟩ : ∃ r, n % g = r := ⟨_, rfl⟩
    obtain ⟨d, hdd⟩ : ∃ d, n / g = d := ⟨_, rfl⟩
    rw [hr, hdd]
    by_cases k : g < 2 * r ∨ g = 2 * r ∧ d % 2 = 1
    · rw [if_pos k, show (decide (g < 2 * r) || (g == 2 * r && d % 2 == 1)) = true by rw [Bool.or_eq_true, Bool.and_eq_true, decide_eq_true_eq, beq_iff_eq, beq_iff_eq]; exact k]; rfl
    · rw [if_neg k, show (decide (g < 2 * r) || (g == 2 * r && d % 2 == 1)) = false by rw [← Bool.not_eq_true, Bool.or_eq_true, Bool.and_eq_true, decide_eq_true_eq, beq_iff_eq, beq_iff_eq]; exact k]; rfl
  rw [hc]
  have near : 2 * n ≤ 2 * c * g + g ∧ 2 * c * g ≤ 2 * n + g := by
    generalize n / g = d at *
    generalize n % g = r at *
    subst hcut
    have e1 : g * d = d * g := Nat.mul_comm _ _
    split
    · have e2 : 2 * (d + 1) * g = 2 * (d * g) + 2 * g := by rw [Nat.mul_assoc, Nat.add_mul]; omega
      omega
    · have e2 : 2 * (d + 0) * g = 2 * (d * g) := by rw [Nat.mul_assoc, Nat.add_zero]
      omega
  by_cases hdr : drop ≤ n.log2 + 2
  · rw [Nat.min_eq_left hdr] at hgp
    rw [← hgp]; exact near
  · rw [Nat.min_eq_right (by omega)] at hgp
    have hn : n < 2 ^ (n.log2 + 1) := Nat.lt_log2_self
    have hq : g = 2 * 2 ^ (n.log2 + 1) := by rw [hgp, Nat.pow_succ]; omega
    have hlow : n / g = 0 := Nat.div_eq_of_lt (by omega)
    have hrest : n % g = n := Nat.mod_eq_of_lt (by omega)
    have hc0 : c = 0 := by rw [hcut, hlow, hrest]; simp; omega
    have : g ≤ 2 ^ drop := by rw [hgp]; exact Nat.pow_le_pow_right (by decide) (by omega)
    rw [hc0]
    omega

/-- What a rung stands for. -/
def rungMag (r : Nat) : Nat := if r < 2 ^ 52 then r else 2 ^ 52 + r % 2 ^ 52
def rungPlace (r : Nat) : Int := if r < 2 ^ 52 then -1074 else -1074 + ((r / 2 ^ 52 - 1 : Nat) : Int)
theorem read_word (neg : Bool) (r : Nat) (h : r < 2047 * 2 ^ 52) : double.read (double.word neg r) = .number neg (rungMag r) (rungPlace r) := by
  have e1 : double.signWeight = 2 ^ 63 := by decide
  have e2 : double.binade = 2 ^ 52 := by decide
  have e3 : double.infRung = 2047 * 2 ^ 52 := by decide
  have e4 : double.leastPlace = -1074 := by decide
  have hq : double.word neg r / 2 ^ 63 % 2 = neg.toNat := by
    cases neg <;> simp only [Format.word, e1, Bool.false_eq_true, if_false, if_true, Bool.toNat_false, Bool.toNat_true] <;> omega
  have hr : double.word neg r % 2 ^ 63 = r := by
    cases neg <;> simp only [Format.word, e1, Bool.false_eq_true, if_false, if_true] <;> omega
  simp only [Format.read, e1, e2, e3, e4, hq, hr, rungMag, rungPlace]
  have hb : (neg.toNat == 1) = neg := by cases neg <;> rfl
  rw [hb]
  split
  · rfl
  · rfl

theorem rung_val (k c : Nat) (h : k = 0 ∨ 2 ^ 52 ≤ c) (hc : c ≤ 2 ^ 53) : (rungMag (k * 2 ^ 52 + c) : Rat) * p2 (rungPlace (k * 2 ^ 52 + c)) = (c : Rat) * p2 (-1074 + k) := by
  unfold rungMag rungPlace
  split
  · have hk : k = 0 := by omega
    subst hk
    simp
  · rename_i hl
    rcases Nat.lt_or_ge c (2 ^ 53) with h1 | h1
    · by_cases h2 : 2 ^ 52 ≤ c
      · have a1 : (k * 2 ^ 52 + c) % 2 ^ 52 = c - 2 ^ 52 := by omega
        have a2 : (k * 2 ^ 52 + c) / 2 ^ 52 - 1 = k := by omega
        rw [a1, a2, show 2 ^ 52 + (c - 2 ^ 52) = c by omega]
      · omega
    · obtain rfl : c = 2 ^ 53 := by omega
      have a1 : (k * 2 ^ 52 + 2 ^ 53) % 2 ^ 52 = 0 := by omega
      have a2 : (k * 2 ^ 52 + 2 ^ 53) / 2 ^ 52 - 1 = k + 1 := by omega
      rw [a1, a2, Nat.add_zero, show (-1074 + ((k + 1 : Nat) : Int)) = (-1074 + (k : Int)) + 1 by omega, p2_succ, show (2 : Nat) ^ 53 = 2 ^ 52 * 2 by decide, Rat.natCast_mul]
      grind

theorem p2_lt {a b : Int} (h : a < b) : p2 a < p2 b := by
  have h1 := p2_le (show a + 1 ≤ b by omega)
  have h2 := p2_pos a
  rw [p2_succ] at h1
  grind
theorem p2_le_inv {a b : Int} (h : p2 a ≤ p2 b) : a ≤ b := by
  rcases Int.lt_or_le b a with k | k
  · exact absurd h (Rat.not_le.2 (p2_lt k))
  · exact k
theorem p2_natmul {n : Nat} {e : Int} : ((2 ^ n : Nat) : Rat) * p2 e = p2 (n + e) := by rw [p2_add, p2_nat]

theorem sc1 {n c d q l : Rat} (h : 2 * n ≤ 2 * c * d + d) (hq : 0 ≤ q) (hl : d * q = l) : 2 * (n * q) ≤ 2 * (c * l) + l := by
  subst hl
  have := Rat.mul_le_mul_of_nonneg_right h hq
  grind
theorem sc2 {n c d q l : Rat} (h : 2 * c * d ≤ 2 * n + d) (hq : 0 ≤ q) (hl : d * q = l) : 2 * (c * l) ≤ 2 * (n * q) + l := by
  subst hl
  have := Rat.mul_le_mul_of_nonneg_right h hq
  grind

theorem nearest_spec (neg : Bool) (mag : Nat) (place : Int) (h0 : mag ≠ 0) {T : Int} (hT : T ≤ 1000) (hX : (mag : Rat) * p2 place ≤ p2 T) :
    ∃ m e c last, double.read (double.nearest neg mag place) = .number neg m e ∧ (m : Rat) * p2 e = ((c : Nat) : Rat) * p2 last ∧ -1074 ≤ last ∧
      2 * ((mag : Rat) * p2 place) ≤ 2 * ((c : Rat) * p2 last) + p2 last ∧ 2 * ((c : Rat) * p2 last) ≤ 2 * ((mag : Rat) * p2 place) + p2 last ∧
      (last = -1074 ∨ p2 (last + 52) ≤ (mag : Rat) * p2 place) := by
  have e2 : double.binade = 2 ^ 52 := by decide
  have e3 : double.infRung = 2047 * 2 ^ 52 := by decide
  have e4 : double.leastPlace = -1074 := by decide
  have e5 : double.fractionBits = 52 := by decide
  obtain ⟨L, hL⟩ : ∃ L, mag.log2 = L := ⟨_, rfl⟩
  have hL1 : 2 ^ L ≤ mag := by rw [← hL]; exact Nat.log2_self_le h0
  have hL2 : mag < 2 ^ (L + 1) := by rw [← hL]; exact Nat.lt_log2_self
  have hlo : p2 (place + L) ≤ (mag : Rat) * p2 place := by
    have := Rat.mul_le_mul_of_nonneg_right (Rat.natCast_le_natCast.2 hL1) (Rat.le_of_lt (p2_pos place))
    rw [p2_natmul, Int.add_comm] at this
    exact this
  have hpl : place + L ≤ 1000 := Int.le_trans (p2_le_inv (Rat.le_trans hlo hX)) hT
  obtain ⟨last, hlast⟩ : ∃ last, max (place + (L : Int) - 52) (-1074) = last := ⟨_, rfl⟩
  have hl1 : place + L - 52 ≤ last := by omega
  have hl2 : -1074 ≤ last := by omega
  have hl3 : last = -1074 ∨ last = place + L - 52 := by omega
  obtain ⟨n, hn⟩ : ∃ n, mag <<< (place - last).toNat = n := ⟨_, rfl⟩
  obtain ⟨drop, hdrop⟩ : ∃ drop, (last - place).toNat = drop := ⟨_, rfl⟩
  obtain ⟨c, hc⟩ : ∃ c, Toward.even.cut neg n drop = c := ⟨_, rfl⟩
  obtain ⟨k, hk⟩ : ∃ k, (last - (-1074)).toNat = k := ⟨_, rfl⟩
  have hnear := cut_near neg n drop
  rw [hc] at hnear
  rw [Nat.shiftLeft_eq] at hn
  have hXn : (mag : Rat) * p2 place = (n : Rat) * p2 (last - drop) := by
    rw [← hn, Rat.natCast_mul, Rat.mul_assoc, p2_natmul]
    congr 2
    omega
  have hnu : n < 2 ^ 53 * 2 ^ drop := by
    rw [← hn, ← Nat.pow_add]
    refine Nat.lt_of_lt_of_le (Nat.mul_lt_mul_of_pos_right hL2 (Nat.two_pow_pos _)) ?_
    rw [← Nat.pow_add]
    exact Nat.pow_le_pow_right (by decide) (by omega)
  have hcu : c ≤ 2 ^ 53 := by
    have hd := Nat.two_pow_pos drop
    refine Nat.le_of_lt_succ (Nat.lt_of_mul_lt_mul_right (a := 2 * 2 ^ drop) ?_)
    have e1 : c * (2 * 2 ^ drop) = 2 * c * 2 ^ drop := by rw [← Nat.mul_assoc, Nat.mul_comm c 2]
    have e6 : (2 ^ 53).succ * (2 * 2 ^ drop) = 2 * (2 ^ 53 * 2 ^ drop) + 2 * 2 ^ drop := by rw [Nat.succ_mul]; omega
    omega
  have hcl : k = 0 ∨ 2 ^ 52 ≤ c := by
    rcases hl3 with h | h
    · left; omega
    · right
      have hnl : 2 ^ 52 * 2 ^ drop ≤ n := by
        rw [← hn, ← Nat.pow_add]
        refine Nat.le_trans ?_ (Nat.mul_le_mul_right _ hL1)
        rw [← Nat.pow_add]
        exact Nat.pow_le_pow_right (by decide) (by omega)
      have hd := Nat.two_pow_pos drop
      refine Nat.le_of_lt_succ (Nat.lt_of_mul_lt_mul_right (a := 2 * 2 ^ drop) ?_)
      have e1 : c.succ * (2 * 2 ^ drop) = 2 * c * 2 ^ drop + 2 * 2 ^ drop := by rw [Nat.succ_mul, ← Nat.mul_assoc, Nat.mul_comm c 2]
      omega
  have hlk : last = -1074 + (k : Int) := by omega
  have hr : k * 2 ^ 52 + c < 2047 * 2 ^ 52 := by
    have : k ≤ 2030 := by omega
    omega
  have h3 : ((2 ^ drop : Nat) : Rat) * p2 (last - drop) = p2 last := by rw [p2_natmul, show (drop : Int) + (last - drop) = last by omega]
  refine ⟨rungMag (k * 2 ^ 52 + c), rungPlace (k * 2 ^ 52 + c), c, last, ?_, ?_, hl2, ?_, ?_, ?_⟩
  · rw [← read_word neg _ hr]
    simp only [Format.nearest, h0, if_false, e2, e3, e4, e5, hL]
    have e7 : max (place + (L : Int) - ((52 : Nat) : Int)) (-1074) = last := hlast
    rw [e7, hdrop, hk, Nat.shiftLeft_eq, hn, hc, Nat.min_eq_left (by omega)]
  · rw [rung_val k c hcl hcu, hlk]
  · have h1 := Rat.natCast_le_natCast.2 hnear.1
    simp only [Rat.natCast_add, Rat.natCast_mul, Rat.natCast_ofNat] at h1
    rw [hXn]
    exact sc1 h1 (Rat.le_of_lt (p2_pos (last - drop))) h3
  · have h1 := Rat.natCast_le_natCast.2 hnear.2
    simp only [Rat.natCast_add, Rat.natCast_mul, Rat.natCast_ofNat] at h1
    rw [hXn]
    exact sc2 h1 (Rat.le_of_lt (p2_pos (last - drop))) h3
  · rcases hl3 with h | h
    · exact .inl h
    · right
      rw [h, show place + (L : Int) - 52 + 52 = place + L by omega]
      exact hlo

end Go.Proofs.Ytlpdmbidjjaeoab
