/-
  What the law WholeEdges asks of numbers at the bound and one past it: the numbers.
-/
import Derived.Test.YtmgbkcfocbbofabGreatDoorMny
namespace Go.Proofs.YtmgbkcfocbbofabGreatDoor
open Go.RowKit Go.Lib Go.Sort

theorem val_rep (n : Nat) : val (List.replicate n 255) + 1 = 256 ^ n := by
  induction n with
  | zero => rfl
  | succ n ih => rw [List.replicate_succ', val_snoc, Nat.pow_succ]; omega
theorem bl_pow2 (k : Nat) : bl (2 ^ k) = k + 1 := bl_iff.2 ⟨Nat.le_refl _, by rw [Nat.pow_succ]; have := Nat.pow_pos (n := k) (show 0 < 2 by decide); omega⟩
theorem bl_pow2_sub {k : Nat} {x : Nat} (h : x + 1 = 2 ^ (k + 1)) : bl x = k + 1 := by
  refine bl_iff.2 ⟨?_, by omega⟩
  rw [Nat.pow_succ] at h
  have := Nat.pow_pos (n := k) (show 0 < 2 by decide)
  omega
theorem rep_size {m : ByteArray} {n c : Nat} (h : bN m = List.replicate n c) : m.size = n := by rw [← bN_length, h, List.length_replicate]
theorem rep_may {m : ByteArray} {n c : Nat} (h : bN m = List.replicate n c) (h0 : 0 < n) (h9 : n ≤ 16384) (hc : c ≠ 0) : may false m = true := by
  have hs := rep_size h
  unfold may
  rw [if_neg (by omega), h]
  obtain ⟨k, rfl⟩ : ∃ k, n = k + 1 := ⟨n - 1, by omega⟩
  simp [List.replicate_succ, hc, hs, h9]
theorem rep_num {m : ByteArray} {n : Nat} (h : bN m = List.replicate n 255) : num false m + 1 = ((2 ^ (8 * n) : Nat) : Int) := by
  rw [num_f, h, ← pow256, ← val_rep]
  simp
/-- What is refused for its length. -/
theorem ZRes.big {z : Int} {e : Ending} (h : ZRes z e) (hb : 131072 < bl z.natAbs) : e = .returned (.tuple #[whole false eS, .int .i64 4]) := by
  rcases h with ⟨h9, _⟩ | ⟨_, rfl⟩
  · omega
  · rfl
theorem ZRes.fits {z : Int} {e : Ending} (h : ZRes z e) (hb : bl z.natAbs ≤ 131072) : ∃ n s, e = .returned (.tuple #[whole n s, .int .i64 0]) ∧ IsZ z n s := by
  rcases h with ⟨_, n, s, rfl, hs⟩ | ⟨h9, _⟩
  · exact ⟨n, s, rfl, hs⟩
  · omega
theorem top_lt {z : Int} (K : Nat) (hK : K = 131072) (h : z + 1 = ((2 ^ K : Nat) : Int)) : 0 ≤ z ∧ bl z.natAbs = 131072 ∧ bl (z + 1).natAbs = 131073 ∧ bl (-z - 1).natAbs = 131073 := by
  have hp : 0 < 2 ^ K := Nat.pow_pos (by decide)
  have h1 : z.natAbs + 1 = 2 ^ K := by omega
  obtain ⟨k, rfl⟩ : ∃ k, K = k + 1 := ⟨K - 1, by omega⟩
  have h2 := bl_pow2_sub h1
  have h3 := bl_pow2 (k + 1)
  refine ⟨by omega, by omega, ?_, ?_⟩
  · rw [show (z + 1).natAbs = 2 ^ (k + 1) by omega, h3]; omega
  · rw [show (-z - 1).natAbs = 2 ^ (k + 1) by omega, h3]; omega
theorem dec_nines (n : Nat) : dec (List.replicate n 57) + 1 = 10 ^ n := by
  induction n with
  | zero => rfl
  | succ n ih => rw [List.replicate_succ', dec_snoc, Nat.pow_succ]; omega
theorem dec_one (n : Nat) : dec (49 :: List.replicate n 48) = 10 ^ n := by
  induction n with
  | zero => rfl
  | succ n ih => rw [List.replicate_succ', ← List.cons_append, dec_snoc, ih, Nat.pow_succ, Nat.sub_self, Nat.add_zero]
theorem not_sign {m : ByteArray} {c : Nat} {l : List Nat} (h : bN m = c :: l) (hc : c ≠ 45) : bare m = m ∧ (bN m).head? ≠ some 45 := by
  have hh : (bN m).head? ≠ some 45 := by rw [h]; simpa using hc
  exact ⟨by unfold bare; rw [if_neg hh], hh⟩
theorem nine_text {m : ByteArray} {n : Nat} (h : bN m = List.replicate n 57) (h0 : 0 < n) : isText m ∧ textZ m + 1 = ((10 ^ n : Nat) : Int) := by
  obtain ⟨k, rfl⟩ : ∃ k, n = k + 1 := ⟨n - 1, by omega⟩
  have hc : bN m = 57 :: List.replicate k 57 := by rw [h, List.replicate_succ]
  obtain ⟨hb, hs⟩ := not_sign hc (by decide)
  refine ⟨⟨⟨?_, ?_, ?_⟩, ?_⟩, ?_⟩
  · rw [hb, h]
    intro b hb
    rw [List.eq_of_mem_replicate hb]
    exact ⟨by decide, by decide⟩
  · rw [hb, rep_size h]; omega
  · right; rw [hb, hc]; simp
  · rw [hc]; simp
  · unfold textZ
    rw [if_neg hs, hb, h, ← dec_nines]
    simp
theorem one_text {m : ByteArray} {n : Nat} (h : bN m = 49 :: List.replicate n 48) : isText m ∧ textZ m = ((10 ^ n : Nat) : Int) := by
  obtain ⟨hb, hs⟩ := not_sign h (by decide)
  refine ⟨⟨⟨?_, ?_, ?_⟩, ?_⟩, ?_⟩
  · rw [hb, h]
    intro b hb
    rcases List.mem_cons.1 hb with rfl | hb
    · exact ⟨by decide, by decide⟩
    · rw [List.eq_of_mem_replicate hb]
      exact ⟨by decide, by decide⟩
  · rw [hb, ← bN_length, h]; simp
  · right; rw [hb, h]; simp
  · rw [h]; simp
  · unfold textZ
    rw [if_neg hs, hb, h, dec_one]
theorem pow_ten (q : Nat) : 2 ^ (33 * q) ≤ 10 ^ (10 * q) := by
  rw [Nat.pow_mul, Nat.pow_mul]
  exact Nat.pow_le_pow_left (by decide) q
theorem nine_bl {n : Nat} {x : Nat} (hn : 40000 ≤ n) (hx : x + 1 = 10 ^ n) : 131072 < bl x := by
  have h1 := pow_ten (n / 10)
  have h2 : 10 ^ (10 * (n / 10)) ≤ 10 ^ n := Nat.pow_le_pow_right (by decide) (by omega)
  obtain ⟨k, hk⟩ : ∃ k, 33 * (n / 10) = k + 1 := ⟨33 * (n / 10) - 1, by omega⟩
  rw [hk, Nat.pow_succ] at h1
  have hp := Nat.pow_pos (n := k) (show 0 < 2 by decide)
  have h3 : 2 ^ k ≤ x := by omega
  have h4 := bl_mono h3
  rw [bl_pow2] at h4
  omega
theorem big_up : ∀ a b c d e f g h : Nat, a = 2136 → b = 775 → c = 485 → d = 119 → e = 643 → f = 233 → g = 146 → h = 36 → 10 ^ e ≤ 2 ^ a ∧ 10 ^ f < 2 ^ b ∧ 2 ^ c ≤ 10 ^ g ∧ 2 ^ d ≤ 10 ^ h := by
  intro a b c d e f g h ha hb hc hd he hf hg hh
  have k1 : Nat.ble (10 ^ e) (2 ^ a) = true := by rw [ha, he]; decide +kernel
  have k2 : Nat.blt (10 ^ f) (2 ^ b) = true := by rw [hb, hf]; decide +kernel
  have k3 : Nat.ble (2 ^ c) (10 ^ g) = true := by rw [hc, hg]; decide +kernel
  have k4 : Nat.ble (2 ^ d) (10 ^ h) = true := by rw [hd, hh]; decide +kernel
  exact ⟨Nat.le_of_ble_eq_true k1, Nat.le_of_ble_eq_true k2, Nat.le_of_ble_eq_true k3, Nat.le_of_ble_eq_true k4⟩
theorem one_bl {n : Nat} (hn : n = 39456) : bl (10 ^ n) ≤ 131072 ∧ 131064 < bl (10 ^ n) := by
  obtain ⟨a, ha⟩ : ∃ a, a = 2136 := ⟨_, rfl⟩
  obtain ⟨b, hb⟩ : ∃ b, b = 775 := ⟨_, rfl⟩
  obtain ⟨c, hc⟩ : ∃ c, c = 485 := ⟨_, rfl⟩
  obtain ⟨d, hd⟩ : ∃ d, d = 119 := ⟨_, rfl⟩
  obtain ⟨e, he⟩ : ∃ e, e = 643 := ⟨_, rfl⟩
  obtain ⟨f, hf⟩ : ∃ f, f = 233 := ⟨_, rfl⟩
  obtain ⟨g, hg⟩ : ∃ g, g = 146 := ⟨_, rfl⟩
  obtain ⟨h, hh⟩ : ∃ h, h = 36 := ⟨_, rfl⟩
  obtain ⟨K, hK⟩ : ∃ K, K = 131072 := ⟨_, rfl⟩
  obtain ⟨u1, u2, d1, d2⟩ := big_up a b c d e f g h ha hb hc hd he hf hg hh
  constructor
  · rw [← hK]
    refine bl_le ?_
    rw [show n = e * 61 + f by omega, Nat.pow_add, Nat.pow_mul]
    refine Nat.lt_of_lt_of_le (Nat.mul_lt_mul_of_le_of_lt (Nat.pow_le_pow_left u1 61) u2 (Nat.pow_pos (Nat.pow_pos (by decide)))) ?_
    rw [← Nat.pow_mul, ← Nat.pow_add]
    exact Nat.pow_le_pow_right (by decide) (by omega)
  · obtain ⟨q, hq⟩ : ∃ q, q = 270 := ⟨_, rfl⟩
    have hle : 2 ^ (c * q + d) ≤ 10 ^ n := by
      rw [show n = g * q + h by rw [hg, hq, hh, hn], Nat.pow_add, Nat.pow_add, Nat.pow_mul, Nat.pow_mul]
      exact Nat.mul_le_mul (Nat.pow_le_pow_left d1 q) d2
    have h4 := bl_mono hle
    rw [bl_pow2, hc, hq, hd] at h4
    omega
end Go.Proofs.YtmgbkcfocbbofabGreatDoor
