/-
  Floats as fractions: sums, differences, products.
-/
import Derived.Test.YtlpdmbidjjaeoabFla
namespace Go.Proofs.Ytlpdmbidjjaeoab
open Ieee

def sg (b : Bool) : Rat := if b then -1 else 1
theorem sg_t : sg true = -1 := rfl
theorem sg_f : sg false = 1 := rfl
theorem sg_xor (a b : Bool) : sg (a ^^ b) = sg a * sg b := by cases a <;> cases b <;> simp [sg] <;> grind
theorem sg_not (a : Bool) : sg (!a) = -sg a := by cases a <;> rfl

/-- The word x stands for the number v. -/
def V (x : Nat) (v : Rat) : Prop := ∃ s m e, double.read x = .number s m e ∧ v = sg s * ((m : Rat) * p2 e)

/-- v is X rounded: near it, and X itself where X has few digits. -/
def Rn (v X : Rat) : Prop :=
  (0 ≤ X → 0 ≤ v ∧ v ≤ X + p2 (-53) * X + p2 (-1075) ∧ X ≤ v + p2 (-53) * X + p2 (-1075)) ∧
  (X ≤ 0 → v ≤ 0 ∧ -v ≤ -X + p2 (-53) * -X + p2 (-1075) ∧ -X ≤ -v + p2 (-53) * -X + p2 (-1075)) ∧
  (∀ (N : Nat) (g : Int), N < 2 ^ 53 → -1074 ≤ g → X = (N : Rat) * p2 g ∨ X = -((N : Rat) * p2 g) → v = X)

theorem rn_neg {v X : Rat} (h : Rn v X) : Rn (-v) (-X) := by
  obtain ⟨h1, h2, h3⟩ := h
  refine ⟨fun k => ?_, fun k => ?_, fun N g a b c => ?_⟩
  · have := h2 (by grind); grind
  · have := h1 (by grind); grind
  · rw [h3 N g a b (by grind)]

theorem nearest_pos (neg : Bool) (mag : Nat) (place : Int) {T : Int} (hT : T ≤ 1000) (hX : (mag : Rat) * p2 place ≤ p2 T) :
    ∃ m e, double.read (double.nearest neg mag place) = .number neg m e ∧ Rn ((m : Rat) * p2 e) ((mag : Rat) * p2 place) := by
  by_cases h0 : mag = 0
  · subst h0
    refine ⟨0, -1074, ?_, ?_⟩
    · rw [Format.nearest, if_pos rfl, read_word neg 0 (by decide)]
      rfl
    · have e0 : ((0 : Nat) : Rat) = 0 := rfl
      rw [e0, Rat.zero_mul, Rat.zero_mul]
      have ht := p2_pos (-1075)
      refine ⟨fun _ => ⟨Rat.le_refl, ?_, ?_⟩, fun _ => ⟨Rat.le_refl, ?_, ?_⟩, fun _ _ _ _ _ => rfl⟩ <;> grind
  · obtain ⟨m, e, c, last, hr, hv, hl, n1, n2, hlast⟩ := nearest_spec neg mag place h0 hT hX
    refine ⟨m, e, hr, ?_⟩
    rw [hv]
    obtain ⟨X, hXe⟩ : ∃ X, (mag : Rat) * p2 place = X := ⟨_, rfl⟩
    have hXp : 0 < X := by
      rw [← hXe]
      exact Rat.mul_pos (Rat.natCast_pos.2 (Nat.pos_of_ne_zero h0)) (p2_pos _)
    rw [hXe] at n1 n2 hlast ⊢
    have hP := p2_pos last
    have hc : 0 ≤ (c : Rat) * p2 last := Rat.mul_nonneg Rat.natCast_nonneg (Rat.le_of_lt hP)
    have hulp : p2 last ≤ 2 * (p2 (-53) * X + p2 (-1075)) := by
      have hu := p2_pos (-53)
      have ht := p2_pos (-1075)
      have hux := Rat.mul_pos hu hXp
      rcases hlast with k | k
      · rw [k, show (-1074 : Int) = -1075 + 1 by omega, p2_succ]
        grind
      · have e1 : p2 last = 2 * (p2 (-53) * p2 (last + 52)) := by
          rw [← p2_add, ← p2_succ]
          congr 1
          omega
        have := Rat.mul_le_mul_of_nonneg_left k (Rat.le_of_lt hu)
        grind
    refine ⟨fun _ => ⟨hc, ?_, ?_⟩, fun k => absurd hXp (Rat.not_lt.2 k), fun N g hN hg hXN => ?_⟩
    · grind
    · grind
    · have hXN' : X = (N : Rat) * p2 g := by
        rcases hXN with k | k
        · exact k
        · have : 0 ≤ (N : Rat) * p2 g := Rat.mul_nonneg Rat.natCast_nonneg (Rat.le_of_lt (p2_pos g))
          grind
      have hlg : last ≤ g := by
        rcases Int.lt_or_le g last with k | k
        · rcases hlast with k2 | k2
          · omega
          · have a1 : X < p2 (53 + g) := by
              rw [hXN', p2_add, show (53 : Int) = ((53 : Nat) : Int) by rfl, p2_nat]
              exact Rat.mul_lt_mul_of_pos_right (Rat.natCast_lt_natCast.2 hN) (p2_pos g)
            have a2 := p2_le (show 53 + g ≤ last + 52 by omega)
            grind
        · exact k
      obtain ⟨d, rfl⟩ : ∃ d : Nat, g = d + last := ⟨(g - last).toNat, by omega⟩
      have hXK : X = ((N * 2 ^ d : Nat) : Rat) * p2 last := by rw [hXN', p2_add, p2_nat, Rat.natCast_mul, Rat.mul_assoc]
      rw [hXK] at n1 n2 ⊢
      obtain ⟨K, hK⟩ : ∃ K, N * 2 ^ d = K := ⟨_, rfl⟩
      rw [hK] at n1 n2 ⊢
      have b1 : 2 * K ≤ 2 * c + 1 := by
        refine Rat.natCast_le_natCast.1 (Rat.le_of_mul_le_mul_right (c := p2 last) ?_ hP)
        simp only [Rat.natCast_add, Rat.natCast_mul, Rat.natCast_ofNat]
        grind
      have b2 : 2 * c ≤ 2 * K + 1 := by
        refine Rat.natCast_le_natCast.1 (Rat.le_of_mul_le_mul_right (c := p2 last) ?_ hP)
        simp only [Rat.natCast_add, Rat.natCast_mul, Rat.natCast_ofNat]
        grind
      rw [show c = K by omega]

theorem write_v (neg : Bool) (mag : Nat) (place : Int) (X : Rat) (hX : sg neg * ((mag : Rat) * p2 place) = X) {T : Int} (hT : T ≤ 1000) (h1 : X ≤ p2 T) (h2 : -X ≤ p2 T) :
    ∃ v, V (double.write (.number neg mag place)) v ∧ Rn v X := by
  have h3 : (mag : Rat) * p2 place ≤ p2 T := by
    cases neg
    · rw [sg_f] at hX; grind
    · rw [sg_t] at hX; grind
  obtain ⟨m, e, hr, hn⟩ := nearest_pos neg mag place hT h3
  refine ⟨_, ⟨neg, m, e, hr, rfl⟩, ?_⟩
  cases neg
  · rw [sg_f, Rat.one_mul] at *
    rw [← hX]; exact hn
  · rw [sg_t] at *
    have := rn_neg hn
    rw [← hX]
    rw [show -1 * ((m : Rat) * p2 e) = -((m : Rat) * p2 e) by grind, show -1 * ((mag : Rat) * p2 place) = -((mag : Rat) * p2 place) by grind]
    exact this

theorem signed_val (s : Bool) (m k : Nat) : ((signed s m k : Int) : Rat) = sg s * ((m : Rat) * p2 k) := by
  rw [p2_nat, ← Rat.natCast_mul]
  cases s
  · rw [signed, if_neg (by decide), Nat.shiftLeft_eq, sg_f, Rat.one_mul, Rat.intCast_natCast]
  · rw [signed, if_pos rfl, Nat.shiftLeft_eq, sg_t, Rat.intCast_neg, Rat.intCast_natCast]
    grind

theorem int_val (z : Int) (s : Bool) : sg (if z = 0 then s else decide (z < 0)) * ((z.natAbs : Nat) : Rat) = (z : Rat) := by
  by_cases h : z = 0
  · subst h
    rw [if_pos rfl]
    show _ * (0 : Rat) = 0
    rw [Rat.mul_zero]
  · rw [if_neg h, ← Rat.intCast_natCast]
    rcases Int.lt_or_le z 0 with k | k
    · rw [decide_eq_true k, sg_t, show ((z.natAbs : Nat) : Int) = -z by omega, Rat.intCast_neg]
      grind
    · rw [decide_eq_false (by omega), sg_f, show ((z.natAbs : Nat) : Int) = z by omega, Rat.one_mul]

theorem base_val (s : Bool) (m : Nat) (i b : Int) (h : b ≤ i) : ((signed s m (i - b).toNat : Int) : Rat) * p2 b = sg s * ((m : Rat) * p2 i) := by
  rw [signed_val, show i = ((i - b).toNat : Int) + b by omega, p2_add]
  simp only [Int.add_sub_cancel]
  grind

theorem sum_v {d d' : Datum} {s t : Bool} {m n : Nat} {i j : Int} (h : d = .number s m i) (h' : d' = .number t n j) :
    ∃ neg mag place, d.sum d' = some (.number neg mag place) ∧ sg neg * ((mag : Rat) * p2 place) = sg s * ((m : Rat) * p2 i) + sg t * ((n : Rat) * p2 j) := by
  subst h h'
  refine ⟨_, _, _, rfl, ?_⟩
  rw [← Rat.mul_assoc, int_val, Rat.intCast_add, Rat.add_mul, base_val _ _ _ _ (by omega), base_val _ _ _ _ (by omega)]

theorem add_v {x y : Nat} {a b : Rat} (hx : V x a) (hy : V y b) {T : Int} (hT : T ≤ 1000) (h1 : a + b ≤ p2 T) (h2 : -(a + b) ≤ p2 T) : ∃ r v, double.add x y = some r ∧ V r v ∧ Rn v (a + b) := by
  obtain ⟨s, m, i, rx, rfl⟩ := hx
  obtain ⟨t, n, j, ry, rfl⟩ := hy
  obtain ⟨neg, mag, place, hs, hv⟩ := sum_v rx ry
  obtain ⟨v, hV, hR⟩ := write_v neg mag place _ hv hT h1 h2
  exact ⟨_, v, by rw [Format.add, hs]; rfl, hV, hR⟩

theorem sub_v {x y : Nat} {a b : Rat} (hx : V x a) (hy : V y b) {T : Int} (hT : T ≤ 1000) (h1 : a - b ≤ p2 T) (h2 : -(a - b) ≤ p2 T) : ∃ r v, double.sub x y = some r ∧ V r v ∧ Rn v (a - b) := by
  obtain ⟨s, m, i, rx, rfl⟩ := hx
  obtain ⟨t, n, j, ry, rfl⟩ := hy
  obtain ⟨neg, mag, place, hs, hv⟩ := sum_v rx (d' := (double.read y).opposite) (by rw [ry]; rfl)
  obtain ⟨v, hV, hR⟩ := write_v neg mag place (sg s * (m * p2 i) - sg t * (n * p2 j)) (by rw [hv, sg_not]; grind) hT h1 h2
  exact ⟨_, v, by rw [Format.sub, hs]; rfl, hV, hR⟩

theorem mul_v {x y : Nat} {a b : Rat} (hx : V x a) (hy : V y b) {T : Int} (hT : T ≤ 1000) (h1 : a * b ≤ p2 T) (h2 : -(a * b) ≤ p2 T) : ∃ r v, double.mul x y = some r ∧ V r v ∧ Rn v (a * b) := by
  obtain ⟨s, m, i, rx, rfl⟩ := hx
  obtain ⟨t, n, j, ry, rfl⟩ := hy
  obtain ⟨v, hV, hR⟩ := write_v (s ^^ t) (m * n) (i + j) (sg s * (m * p2 i) * (sg t * (n * p2 j))) (by rw [sg_xor, p2_add, Rat.natCast_mul]; grind) hT h1 h2
  exact ⟨_, v, by rw [Format.mul, rx, ry]; rfl, hV, hR⟩

end Go.Proofs.Ytlpdmbidjjaeoab
