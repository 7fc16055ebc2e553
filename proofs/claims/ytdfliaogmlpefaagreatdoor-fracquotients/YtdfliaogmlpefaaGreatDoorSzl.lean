/-
  Quotients, opposites, magnitudes, roots: of numbers with a bound on their length.
-/
import Derived.Test.YtdfliaogmlpefaaGreatDoorRga
import Derived.Test.YtdfliaogmlpefaaGreatDoorBunDva
import Derived.Test.YtdfliaogmlpefaaGreatDoorBunWor
import Derived.Test.YtdfliaogmlpefaaGreatDoorBunTtm
import Derived.Test.YtdfliaogmlpefaaGreatDoorBunRdn
import Derived.Test.YtdfliaogmlpefaaGreatDoorBunPrg
import Derived.Test.YtdfliaogmlpefaaGreatDoorBunRed
namespace Go.Proofs.YtdfliaogmlpefaaGreatDoor
open Go.RowKit Go.Lib Go.Sort
set_option linter.unusedVariables false
theorem ediv_abs_le (x y : Int) : (x / y).natAbs ≤ x.natAbs := by
  rcases Int.lt_trichotomy y 0 with h | h | h
  · have h1 := Int.emod_add_mul_ediv x y
    have h2 := Int.emod_nonneg x (show y ≠ 0 by omega)
    have h3 := Int.emod_lt x (show y ≠ 0 by omega)
    have e : y.natAbs = (-y).toNat := by omega
    generalize hq : x / y = q at *
    generalize hr : x % y = r at *
    obtain ⟨d, rfl⟩ : ∃ d : Nat, y = -(d : Int) := ⟨y.natAbs, by omega⟩
    have hd : 1 ≤ d := by omega
    rcases Int.lt_trichotomy q 0 with hq0 | hq0 | hq0
    · obtain ⟨p, rfl⟩ : ∃ p : Nat, q = -(p : Int) := ⟨q.natAbs, by omega⟩
      have : (p : Int) ≤ (d : Int) * p := by have := Nat.le_mul_of_pos_left p hd; exact_mod_cast this
      have e2 : (-(d : Int)) * (-(p : Int)) = (d : Int) * p := by rw [Int.neg_mul_neg]
      omega
    · omega
    · obtain ⟨p, rfl⟩ : ∃ p : Nat, q = (p : Int) := ⟨q.natAbs, by omega⟩
      obtain ⟨p', rfl⟩ : ∃ p', p = p' + 1 := ⟨p - 1, by omega⟩
      have h5 : (p' : Int) ≤ (d : Int) * p' := by have := Nat.le_mul_of_pos_left p' hd; exact_mod_cast this
      have e2 : (-(d : Int)) * ((p' + 1 : Nat) : Int) = -((d : Int) * p') - d := by
        push_cast
        rw [Int.neg_mul, Int.mul_add]; omega
      omega
  · subst h; simp
  · have h1 := Int.emod_add_mul_ediv x y
    have h2 := Int.emod_nonneg x (show y ≠ 0 by omega)
    have h3 := Int.emod_lt_of_pos x h
    generalize hq : x / y = q at *
    generalize hr : x % y = r at *
    obtain ⟨d, rfl⟩ : ∃ d : Nat, y = (d : Int) := ⟨y.natAbs, by omega⟩
    have hd : 1 ≤ d := by omega
    rcases Int.lt_trichotomy q 0 with hq0 | hq0 | hq0
    · obtain ⟨p, rfl⟩ : ∃ p : Nat, q = -(p : Int) := ⟨q.natAbs, by omega⟩
      obtain ⟨p', rfl⟩ : ∃ p', p = p' + 1 := ⟨p - 1, by omega⟩
      have h5 : (p' : Int) ≤ (d : Int) * p' := by have := Nat.le_mul_of_pos_left p' hd; exact_mod_cast this
      have e2 : ((d : Int)) * (-((p' + 1 : Nat) : Int)) = -((d : Int) * p') - d := by
        push_cast
        rw [Int.mul_neg, Int.mul_add]; omega
      omega
    · omega
    · obtain ⟨p, rfl⟩ : ∃ p : Nat, q = (p : Int) := ⟨q.natAbs, by omega⟩
      have : (p : Int) ≤ (d : Int) * p := by have := Nat.le_mul_of_pos_left p hd; exact_mod_cast this
      omega
theorem emod_abs_lt (x y : Int) (h : y ≠ 0) : (x % y).natAbs < y.natAbs := by
  have h2 := Int.emod_nonneg x h
  have h3 := Int.emod_lt x h
  omega
theorem Sz.size0 {k : Nat} {x : Int} {n : Bool} {s : ByteArray} (h : Sz k x n s) (hk : k ≤ 16384) (hx : x ≠ 0) : s.size ≠ 0 := by
  intro e
  have hn := h.num
  rw [empty_of_size e] at hn
  apply hx
  rw [← hn]
  cases n <;> rfl
theorem div_sz {k l : Nat} {x y : Int} {n1 n2 : Bool} {s1 s2 : ByteArray} (hk : k ≤ 16384) (hl : l ≤ 16384) (hy : y ≠ 0) (h1 : Sz k x n1 s1) (h2 : Sz l y n2 s2) (w : World) :
    Calls Tryz.prog 55 #[whole n1 s1, whole n2 s2] w fun e w' => ∃ n s n' s', e = .returned (.tuple #[whole n s, whole n' s', .int .i64 0]) ∧ Sz k (x / y) n s ∧ Sz l (x % y) n' s' ∧ w.grownBy w' none := by
  refine (div_yes n1 n2 s1 s2 (h1.may hk) (h2.may hl) (h2.size0 hl hy) w).mono ?_
  rw [h1.num, h2.num]
  rintro e w' ⟨⟨n, s, n', s', rfl, a, b⟩, hg⟩
  exact ⟨n, s, n', s', rfl, ⟨a, Nat.lt_of_le_of_lt (ediv_abs_le x y) h1.2⟩, ⟨b, Nat.lt_trans (emod_abs_lt x y hy) h2.2⟩, hg⟩
theorem ngs_z {z : Int} {n : Bool} {s : ByteArray} (h : IsZ z n s) (hm : may n s = true) : IsZ (-z) (ngs n s) s := by
  have hn := h.num
  refine ⟨?_, by rw [Int.natAbs_neg]; exact h.2⟩
  have hv : (s.size = 0) ↔ val (bN s) = 0 := by
    constructor
    · intro e; rw [empty_of_size e]; rfl
    · intro e
      refine Nat.eq_zero_of_not_pos fun hp => ?_
      have := val_pos hm (by omega)
      omega
  unfold ngs
  rcases sgn_cases hm with ⟨a, b, c, d⟩ | ⟨a, b, c, d⟩ | ⟨a, b, c, d⟩
  · subst b
    have : s.size = 0 := hv.2 d
    rw [this]
    symm
    exact decide_eq_false (by omega)
  · subst b
    have : s.size ≠ 0 := fun e => by have := hv.1 e; omega
    simp only [Bool.not_false, Bool.true_and]
    exact decide_eq_decide.2 (by omega)
  · subst b
    symm
    exact decide_eq_false (by omega)
theorem neg_sz {k : Nat} {x : Int} {n : Bool} {s : ByteArray} (hk : k ≤ 16384) (h : Sz k x n s) (w : World) :
    Calls Tryz.prog 98 #[whole n s] w fun e w' => ∃ n', e = .returned (.tuple #[whole n' s, .int .i64 0]) ∧ Sz k (-x) n' s ∧ w.grownBy w' none := by
  have hm := h.may hk
  refine (neg_yes n s (by have := may_size hm; unfold maxLen; omega) hm w).mono ?_
  rintro e w' ⟨rfl, hg⟩
  exact ⟨_, rfl, ⟨ngs_z h.1 hm, by rw [Int.natAbs_neg]; exact h.2⟩, hg⟩
theorem Sz.nat {k : Nat} {r : Nat} {s : ByteArray} (hs : bN s = magN r) (hr : r < 256 ^ k) : Sz k (r : Int) false s :=
  ⟨⟨by symm; exact decide_eq_false (by omega), by rw [Int.natAbs_natCast]; exact hs⟩, by rw [Int.natAbs_natCast]; exact hr⟩
end Go.Proofs.YtdfliaogmlpefaaGreatDoor
