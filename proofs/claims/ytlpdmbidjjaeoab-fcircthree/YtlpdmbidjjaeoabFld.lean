/-
  Floats as fractions: quotients and roots.
-/
import Derived.Test.YtlpdmbidjjaeoabFlc
namespace Go.Proofs.Ytlpdmbidjjaeoab
open Ieee

theorem mag_nonneg (m : Nat) (e : Int) : 0 ≤ (m : Rat) * p2 e := Rat.mul_nonneg Rat.natCast_nonneg (Rat.le_of_lt (p2_pos e))

theorem dv2 {q b m E T : Rat} (h1 : q * b ≤ m + E * m) (hm : 0 ≤ m) (hE : E ≤ 1) (hb : 0 < b) (hmT : 2 * m ≤ T * b) : q ≤ T := by
  have k := Rat.mul_le_mul_of_nonneg_right hE hm
  exact Rat.le_of_mul_le_mul_right (c := b) (by grind) hb

theorem div_v {x y : Nat} {a b : Rat} (hx : V x a) (hy : V y b) (hb : 0 < b) {T : Int} (hT : T ≤ 1000) (h1 : 2 * a ≤ p2 T * b) (h2 : -(2 * a) ≤ p2 T * b) :
    ∃ r v Q, double.div x y = some r ∧ V r v ∧ Rn v Q ∧ (0 ≤ a → 0 ≤ Q ∧ Q * b ≤ a + p2 (-54) * a ∧ a ≤ Q * b + p2 (-54) * a) ∧ (a ≤ 0 → Q ≤ 0 ∧ -(Q * b) ≤ -a + p2 (-54) * -a ∧ -a ≤ -(Q * b) + p2 (-54) * -a) := by
  obtain ⟨s, m, i, rx, hsa⟩ := hx
  obtain ⟨t, n, j, ry, hsb⟩ := hy
  have hn0 := mag_nonneg n j
  have hm0 := mag_nonneg m i
  obtain rfl : t = false := by
    cases t
    · rfl
    · rw [sg_t] at hsb; grind
  rw [sg_f, Rat.one_mul] at hsb
  have hn : n ≠ 0 := by
    rintro rfl
    have e0 : ((0 : Nat) : Rat) = 0 := rfl
    rw [e0, Rat.zero_mul] at hsb
    rw [hsb] at hb
    exact Rat.lt_irrefl hb
  obtain ⟨mag, place, hd, d1, d2⟩ := div_datum rx ry hn
  rw [← hsb] at d1 d2
  have hE1 : p2 (-54) ≤ 1 := by rw [← p2_zero]; exact p2_le (by omega)
  have hq0 := mag_nonneg mag place
  rw [Bool.xor_false] at hd
  obtain ⟨q, hq⟩ : ∃ q, (mag : Rat) * p2 place = q := ⟨_, rfl⟩
  obtain ⟨M, hM⟩ : ∃ M, (m : Rat) * p2 i = M := ⟨_, rfl⟩
  rw [hq] at hq0
  rw [hM] at hm0 hsa
  rw [hq, hM] at d1 d2
  have hqT : q ≤ p2 T := dv2 d1 hm0 hE1 hb (by
    cases s
    · rw [sg_f] at hsa; grind
    · rw [sg_t] at hsa; grind)
  have hTp := p2_pos T
  obtain ⟨v, hV, hR⟩ := write_v s mag place (sg s * q) (by rw [hq]) hT (by
    cases s
    · rw [sg_f]; grind
    · rw [sg_t]; grind) (by
    cases s
    · rw [sg_f]; grind
    · rw [sg_t]; grind)
  refine ⟨_, v, sg s * q, ?_, hV, hR, ?_⟩
  · rw [Format.div, show double.fractionBits + 2 = 54 by rfl, hd]; rfl
  · subst hsa
    have z1 : M = 0 → q = 0 := fun k => by
      subst k
      have k1 : q * b ≤ 0 := by grind
      rcases Rat.le_iff_lt_or_eq.1 hq0 with k2 | k2
      · have := Rat.mul_pos k2 hb
        grind
      · exact k2.symm
    cases s
    · rw [sg_f, Rat.one_mul, Rat.one_mul]
      refine ⟨fun _ => ⟨hq0, d1, d2⟩, fun k => ?_⟩
      have k0 : M = 0 := by grind
      have k1 := z1 k0
      subst k0 k1
      grind
    · rw [sg_t]
      refine ⟨fun k => ?_, fun _ => ⟨by grind, by grind, by grind⟩⟩
      have k0 : M = 0 := by grind
      have k1 := z1 k0
      subst k0 k1
      grind

theorem sq1 {w st n : Nat} (h1 : w * w ≤ n) (h2 : n < (w + 1) * (w + 1)) (hst : (st = 0 ∧ w * w = n) ∨ (st = 1 ∧ w * w ≠ n)) (hw : 2 ^ 53 ≤ w) :
    2 ^ 52 * ((2 * w + st) * (2 * w + st)) ≤ 2 ^ 52 * (4 * n) + 4 * n ∧ 2 ^ 52 * (4 * n) ≤ 2 ^ 52 * ((2 * w + st) * (2 * w + st)) + 4 * n := by
  have hw2 : 2 ^ 53 * w ≤ w * w := Nat.mul_le_mul_right _ hw
  have e2 : (w + 1) * (w + 1) = w * w + 2 * w + 1 := by grind
  rcases hst with ⟨rfl, k⟩ | ⟨rfl, k⟩
  · have e1 : (2 * w + 0) * (2 * w + 0) = 4 * (w * w) := by grind
    rw [e1]; omega
  · have e1 : (2 * w + 1) * (2 * w + 1) = 4 * (w * w) + 4 * w + 1 := by grind
    rw [e1]; omega

theorem sq2 {A N P E S : Rat} (h1 : S * A ≤ S * N + N) (h2 : S * N ≤ S * A + N) (hE : E * S = 1) (hE0 : 0 ≤ E) (hP : 0 ≤ P) : A * P ≤ N * P + E * (N * P) ∧ N * P ≤ A * P + E * (N * P) := by
  have k1 := Rat.mul_le_mul_of_nonneg_left h1 hE0
  have k2 := Rat.mul_le_mul_of_nonneg_left h2 hE0
  have a1 : E * (S * A) = A := by rw [← Rat.mul_assoc, hE, Rat.one_mul]
  have a2 : E * (S * N) = N := by rw [← Rat.mul_assoc, hE, Rat.one_mul]
  have j1 := Rat.mul_le_mul_of_nonneg_right (show A ≤ N + E * N by grind) hP
  have j2 := Rat.mul_le_mul_of_nonneg_right (show N ≤ A + E * N by grind) hP
  constructor <;> grind

theorem sqrt_v {x : Nat} {a : Rat} (hx : V x a) (ha : 0 < a) {T : Int} (hT : T ≤ 900) (hT0 : 0 ≤ T) (h1 : a ≤ p2 T) :
    ∃ r v W, double.sqrt x = some r ∧ V r v ∧ Rn v W ∧ 0 < W ∧ W * W ≤ a + p2 (-52) * a ∧ a ≤ W * W + p2 (-52) * a := by
  obtain ⟨s, m, i, rx, hsa⟩ := hx
  have hm0 := mag_nonneg m i
  obtain rfl : s = false := by
    cases s
    · rfl
    · rw [sg_t] at hsa; grind
  rw [sg_f, Rat.one_mul] at hsa
  have hm : m ≠ 0 := by
    rintro rfl
    have e0 : ((0 : Nat) : Rat) = 0 := rfl
    rw [e0, Rat.zero_mul] at hsa
    rw [hsa] at ha
    exact Rat.lt_irrefl ha
  obtain ⟨m0, hm0e⟩ : ∃ m0, 2 * 54 - m.log2 = m0 := ⟨_, rfl⟩
  obtain ⟨more, hmore⟩ : ∃ more, m0 + ((i - (m0 : Int)) % 2).toNat = more := ⟨_, rfl⟩
  obtain ⟨n, hn⟩ : ∃ n, m <<< more = n := ⟨_, rfl⟩
  obtain ⟨w, hw⟩ : ∃ w, Datum.rootFrom n (n.log2 / 2 + 1) 0 = w := ⟨_, rfl⟩
  have hroot := root_spec n
  rw [hw] at hroot
  obtain ⟨st, hst⟩ : ∃ st, (w * w != n).toNat = st := ⟨_, rfl⟩
  have hst2 : (st = 0 ∧ w * w = n) ∨ (st = 1 ∧ w * w ≠ n) := by
    rw [← hst]
    by_cases k : w * w = n
    · left; rw [bne_eq_false_iff_eq.2 k]; exact ⟨rfl, k⟩
    · right; rw [bne_iff_ne.2 k]; exact ⟨rfl, k⟩
  have hnb : 2 ^ 108 ≤ n := by
    rw [← hn, Nat.shiftLeft_eq]
    refine Nat.le_trans ?_ (Nat.mul_le_mul_right _ (Nat.log2_self_le hm))
    rw [← Nat.pow_add]
    exact Nat.pow_le_pow_right (by decide) (by omega)
  have hwb : 2 ^ 53 ≤ w := by
    rcases Nat.lt_or_ge w (2 ^ 53) with k | k
    · have := Nat.mul_le_mul (show w + 1 ≤ 2 ^ 53 by omega) (show w + 1 ≤ 2 ^ 53 by omega)
      have e : (2 : Nat) ^ 53 * 2 ^ 53 = 2 ^ 106 := by decide
      have e' : (2 : Nat) ^ 106 ≤ 2 ^ 108 := by decide
      omega
    · exact k
  have hdat : (double.read x).root (double.fractionBits + 2) = some (.number false (2 * w + st) ((i - more) / 2 - 1)) := by
    rw [rx, show double.fractionBits + 2 = 54 by rfl]
    simp only [Datum.root, hm, if_false, Bool.false_eq_true]
    rw [hm0e, hmore, hn, hw, hst]
  obtain ⟨P, hP⟩ : ∃ P, p2 (i - more - 2) = P := ⟨_, rfl⟩
  have hPp : 0 ≤ P := by rw [← hP]; exact Rat.le_of_lt (p2_pos _)
  have ev : (i - more) / 2 - 1 + ((i - more) / 2 - 1) = i - more - 2 := by omega
  have f1 : ((2 * w + st : Nat) : Rat) * p2 ((i - more) / 2 - 1) * (((2 * w + st : Nat) : Rat) * p2 ((i - more) / 2 - 1)) = (((2 * w + st) * (2 * w + st) : Nat) : Rat) * P := by
    rw [← hP, ← ev, p2_add, Rat.natCast_mul]; grind
  have f2 : a = ((4 * n : Nat) : Rat) * P := by
    rw [hsa, ← hP, ← hn, Nat.shiftLeft_eq, show i = 2 + ((more : Int) + (i - more - 2)) by omega, p2_add, p2_add, p2_nat, Rat.natCast_mul, Rat.natCast_mul]
    simp only [show 2 + ((more : Int) + (i - more - 2)) - more - 2 = i - more - 2 by omega]
    rw [show p2 2 = ((4 : Nat) : Rat) by exact p2_nat 2]
    grind
  obtain ⟨q1, q2⟩ := sq1 hroot.1 hroot.2 hst2 hwb
  have c1 := Rat.natCast_le_natCast.2 q1
  have c2 := Rat.natCast_le_natCast.2 q2
  rw [Rat.natCast_add, Rat.natCast_mul, Rat.natCast_mul (2 ^ 52)] at c1 c2
  have hES : p2 (-52) * ((2 ^ 52 : Nat) : Rat) = 1 := by rw [← p2_nat, ← p2_add]; exact p2_zero
  obtain ⟨g1, g2⟩ := sq2 c1 c2 hES (Rat.le_of_lt (p2_pos _)) hPp
  rw [← f1, ← f2] at g1 g2
  obtain ⟨W, hW⟩ : ∃ W, ((2 * w + st : Nat) : Rat) * p2 ((i - more) / 2 - 1) = W := ⟨_, rfl⟩
  rw [hW] at g1 g2
  have hWp : 0 < W := by
    rw [← hW]
    exact Rat.mul_pos (Rat.natCast_pos.2 (by omega)) (p2_pos _)
  have hE1 : p2 (-52) ≤ 1 := by rw [← p2_zero]; exact p2_le (by omega)
  have hE2 := Rat.mul_le_mul_of_nonneg_right hE1 (Rat.le_of_lt ha)
  have hT1 : 1 ≤ p2 T := by rw [← p2_zero]; exact p2_le hT0
  have hWT : W ≤ p2 (T + 1) := by
    rw [p2_succ]
    by_cases k : W ≤ 1
    · grind
    · have := Rat.mul_le_mul_of_nonneg_left (show 1 ≤ W by grind) (Rat.le_of_lt hWp)
      grind
  obtain ⟨v, hV, hR⟩ := write_v false (2 * w + st) ((i - more) / 2 - 1) W (by rw [hW, sg_f, Rat.one_mul]) (T := T + 1) (by omega) hWT (by have := p2_pos (T + 1); grind)
  exact ⟨_, v, W, by rw [Format.sqrt, hdat]; rfl, hV, hR, hWp, g1, g2⟩

end Go.Proofs.Ytlpdmbidjjaeoab
