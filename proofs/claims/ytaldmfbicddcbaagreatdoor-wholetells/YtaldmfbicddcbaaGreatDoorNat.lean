/-
  Numbers by their digits to any base, bits of numbers. No program in it.
-/
import Derived.Test.YtaldmfbicddcbaaGreatDoorSgn
namespace Go.Proofs.YtaldmfbicddcbaaGreatDoor

/-- The number of digits to the base B, the lowest first. -/
def nv (B : Nat) : List Nat → Nat
  | [] => 0
  | d :: t => d + B * nv B t
theorem nv_append (B : Nat) : ∀ (a b : List Nat), nv B (a ++ b) = nv B a + B ^ a.length * nv B b
  | [], b => by simp [nv]
  | d :: t, b => by
    simp only [List.cons_append, nv, nv_append B t b, List.length_cons, Nat.pow_succ, Nat.mul_add]
    rw [Nat.add_assoc, ← Nat.mul_assoc, Nat.mul_comm (B ^ t.length) B]
theorem nv_lt (B : Nat) : ∀ (l : List Nat), (∀ x ∈ l, x < B) → nv B l < B ^ l.length
  | [], _ => by simp [nv]
  | d :: t, h => by
    have h1 := nv_lt B t (fun x hx => h x (by simp [hx]))
    have h2 := h d (by simp)
    have h3 : B * (nv B t + 1) ≤ B * B ^ t.length := Nat.mul_le_mul_left _ h1
    simp only [nv, List.length_cons, Nat.pow_succ, Nat.mul_comm _ B]
    rw [Nat.mul_add] at h3
    omega
theorem nv_digit (B : Nat) : ∀ (l : List Nat) (k : Nat), (∀ x ∈ l, x < B) → nv B l / B ^ k % B = l[k]?.getD 0
  | [], k, _ => by simp [nv]
  | d :: t, 0, h => by
    have h2 := h d (by simp)
    simp [nv, Nat.mod_eq_of_lt h2]
  | d :: t, k + 1, h => by
    have h2 := h d (by simp)
    have h1 := nv_digit B t k (fun x hx => h x (by simp [hx]))
    rw [Nat.pow_succ, Nat.mul_comm, ← Nat.div_div_eq_div_mul]
    have e : nv B (d :: t) / B = nv B t := by
      simp only [nv]
      rw [Nat.add_mul_div_left _ _ (by omega), Nat.div_eq_of_lt h2, Nat.zero_add]
    rw [e, h1]; simp
theorem nv_inj (B : Nat) : ∀ (a b : List Nat), (∀ x ∈ a, x < B) → (∀ x ∈ b, x < B) → a.length = b.length → nv B a = nv B b → a = b
  | [], [], _, _, _, _ => rfl
  | [], _ :: _, _, _, h, _ => by simp at h
  | _ :: _, [], _, _, h, _ => by simp at h
  | d :: t, e :: u, ha, hb, hl, he => by
    have h1 := ha d (by simp)
    have h2 := hb e (by simp)
    simp only [nv] at he
    have h3 : d = e := by
      have := congrArg (· % B) he
      simpa [Nat.add_mul_mod_self_left, Nat.mod_eq_of_lt h1, Nat.mod_eq_of_lt h2] using this
    subst h3
    have h4 : B * nv B t = B * nv B u := by omega
    have h5 := Nat.eq_of_mul_eq_mul_left (by omega) h4
    rw [nv_inj B t u (fun x hx => ha x (by simp [hx])) (fun x hx => hb x (by simp [hx])) (by simpa using hl) h5]
theorem val_nv (l : List Nat) : val l = nv 256 l.reverse := by
  have h : ∀ (r : List Nat), val r.reverse = nv 256 r := by
    intro r
    induction r with
    | nil => rfl
    | cons b t ih => rw [List.reverse_cons, val_snoc, ih, nv]; omega
  have := h l.reverse
  rwa [List.reverse_reverse] at this

/-- The bit i. -/
def bitOf (n i : Nat) : Nat := n / 2 ^ i % 2
theorem bit_digit (n s q r : Nat) (hr : r < s) : bitOf n (s * q + r) = (n / (2 ^ s) ^ q % 2 ^ s) / 2 ^ r % 2 := by
  unfold bitOf
  have e : n / 2 ^ (s * q + r) = n / (2 ^ s) ^ q / 2 ^ r := by rw [Nat.pow_add, Nat.pow_mul, Nat.div_div_eq_div_mul]
  rw [e]
  generalize n / (2 ^ s) ^ q = x
  have h1 := Nat.testBit_mod_two_pow x s r
  rw [Nat.testBit_eq_decide_div_mod_eq, Nat.testBit_eq_decide_div_mod_eq] at h1
  simp only [hr, decide_true, Bool.true_and] at h1
  have h2 : x / 2 ^ r % 2 = 0 ∨ x / 2 ^ r % 2 = 1 := by omega
  have h3 : x % 2 ^ s / 2 ^ r % 2 = 0 ∨ x % 2 ^ s / 2 ^ r % 2 = 1 := by omega
  rw [decide_eq_decide] at h1
  omega
/-- How many bits. -/
def bl (n : Nat) : Nat := if n = 0 then 0 else n.log2 + 1
theorem bl_iff {n k : Nat} : bl n = k + 1 ↔ 2 ^ k ≤ n ∧ n < 2 ^ (k + 1) := by
  unfold bl
  by_cases h : n = 0
  · subst h
    have : 0 < 2 ^ k := Nat.two_pow_pos k
    simp
  · rw [if_neg h, ← Nat.log2_eq_iff h]; omega
theorem bl_pos {n : Nat} (h : 0 < n) : ∃ k, bl n = k + 1 := ⟨n.log2, by unfold bl; rw [if_neg (by omega)]⟩
theorem bl_up (b s r : Nat) (hb : 0 < b) (hr : r < 2 ^ s) : bl (b * 2 ^ s + r) = s + bl b := by
  obtain ⟨k, hk⟩ := bl_pos hb
  have h := bl_iff.1 hk
  rw [hk, ← Nat.add_assoc, bl_iff]
  constructor
  · have := Nat.mul_le_mul_right (2 ^ s) h.1
    rw [← Nat.pow_add, Nat.add_comm k s] at this
    omega
  · have h2 := Nat.mul_le_mul_right (2 ^ s) (show b + 1 ≤ 2 ^ (k + 1) from h.2)
    rw [← Nat.pow_add, Nat.add_mul] at h2
    rw [show s + k + 1 = k + 1 + s by omega]
    omega
end Go.Proofs.YtaldmfbicddcbaaGreatDoor
