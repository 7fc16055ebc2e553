/-
  The document's product of numbers.
  The document's sum of numbers.
  The document's sum of numbers of unlike signs.
  The document's sum of numbers of unlike signs: the walks.
  The document's sums, differences and products as whole numbers of Lean.
  The document's difference of numbers.
  The document's order of numbers.
-/
import Derived.Test.YtmgbkcfocbbofabGreatDoorPrd
import Derived.Test.YtmgbkcfocbbofabGreatDoorSht
namespace Go.Proofs.YtmgbkcfocbbofabGreatDoor
open Go.RowKit Go.Lib Go.Sort

/-- What the document's words makes, in a world of its own. -/
def Wds (w w' : World) (v : Value) (m : ByteArray) : Prop :=
  ∃ L, D4 w' v L ∧ (∀ x ∈ L, x < B32) ∧ L.length ≤ 4096 ∧ nv B32 L = val (bN m) ∧ w.grownBy w' none
theorem Wds.grown {w w' : World} {v : Value} {m : ByteArray} (h : Wds w w' v m) : w.grownBy w' none := by
  obtain ⟨_, _, _, _, _, hg⟩ := h
  exact hg
end Go.Proofs.YtmgbkcfocbbofabGreatDoor

namespace Go.Proofs.YtmgbkcfocbbofabGreatDoor
open Go.RowKit Go.Lib Go.Sort

end Go.Proofs.YtmgbkcfocbbofabGreatDoor

namespace Go.Proofs.YtmgbkcfocbbofabGreatDoor
open Go.RowKit Go.Lib Go.Sort

theorem words_trim {L : List Nat} {neg : Bool} {mag : ByteArray} (h : may neg mag = true) (hl : L.length = (mag.size + 3) / 4) (hr : ∀ x ∈ L, x < B32) (hv : nv B32 L = val (bN mag)) : Trim L := by
  by_cases hp : mag.size = 0
  · left; omega
  · right
    have h0 := may_head h (by omega)
    have h3 := val_head mag (by omega) h0
    obtain ⟨k, hk⟩ : ∃ k, L.length = k + 1 := ⟨L.length - 1, by omega⟩
    have h1 := nv_top B32 L k hk
    have h2 := nv_lt B32 (L.take k) (fun x hx => hr x (List.mem_of_mem_take hx))
    rw [List.length_take, Nat.min_eq_left (by omega)] at h2
    rw [hk, Nat.add_sub_cancel]
    intro hz
    rw [hz, Nat.mul_zero, Nat.add_zero] at h1
    rw [← hv, h1] at h3
    rw [show (256 : Nat) = 2 ^ 8 from rfl, ← Nat.pow_mul] at h3
    have h4 : B32 ^ k ≤ 2 ^ (8 * (mag.size - 1)) := by
      rw [show B32 = 2 ^ 32 from rfl, ← Nat.pow_mul]
      exact Nat.pow_le_pow_right (by decide) (by omega)
    omega

/-- What the document's words makes of a number that may be. -/
def WdT (w w' : World) (v : Value) (m : ByteArray) : Prop :=
  ∃ L, D4 w' v L ∧ (∀ x ∈ L, x < B32) ∧ L.length ≤ 4096 ∧ Trim L ∧ nv B32 L = val (bN m) ∧ w.grownBy w' none
theorem WdT.grown {w w' : World} {v : Value} {m : ByteArray} (h : WdT w w' v m) : w.grownBy w' none := by
  obtain ⟨_, _, _, _, _, _, hg⟩ := h
  exact hg
end Go.Proofs.YtmgbkcfocbbofabGreatDoor

namespace Go.Proofs.YtmgbkcfocbbofabGreatDoor
open Go.RowKit Go.Lib Go.Sort

end Go.Proofs.YtmgbkcfocbbofabGreatDoor

namespace Go.Proofs.YtmgbkcfocbbofabGreatDoor
open Go.RowKit Go.Lib Go.Sort

/-- A sign and a magnitude that are the number z, in its one form. -/
def IsZ (z : Int) (n : Bool) (s : ByteArray) : Prop := n = decide (z < 0) ∧ bN s = magN z.natAbs
theorem num_f (m : ByteArray) : num false m = (val (bN m) : Int) := rfl
theorem num_t (m : ByteArray) : num true m = -(val (bN m) : Int) := rfl
/-- One form: the number tells the sign and the magnitude. -/
theorem IsZ.one {z : Int} {n n' : Bool} {s s' : ByteArray} (h : IsZ z n s) (h' : IsZ z n' s') : whole n s = whole n' s' := by
  have e : s = s' := bN_inj (h.2.trans h'.2.symm)
  rw [h.1, h'.1, e]

end Go.Proofs.YtmgbkcfocbbofabGreatDoor

namespace Go.Proofs.YtmgbkcfocbbofabGreatDoor
open Go.RowKit Go.Lib Go.Sort

theorem num_ngs (n : Bool) (m : ByteArray) : num (ngs n m) m = -num n m := by
  by_cases h0 : m.size = 0
  · obtain rfl := empty_of_size h0
    cases n <;> rfl
  · cases n
    · have : ngs false m = true := by simp [ngs, h0]
      rw [this, num_t, num_f]
    · have : ngs true m = false := by simp [ngs]
      rw [this, num_t, num_f]; omega
theorem may_ngs {n : Bool} {m : ByteArray} (h : may n m = true) : may (ngs n m) m = true := by
  by_cases h0 : m.size = 0
  · obtain rfl := empty_of_size h0
    cases n <;> rfl
  · cases n <;> simp_all [may]

end Go.Proofs.YtmgbkcfocbbofabGreatDoor

namespace Go.Proofs.YtmgbkcfocbbofabGreatDoor
open Go.RowKit Go.Lib Go.Sort

/-- The order of two whole numbers of Lean, as -1, 0, 1. -/
def cmpZ (a b : Int) : Int := if a < b then -1 else if a = b then 0 else 1
theorem val_zero {n : Bool} {m : ByteArray} (h : may n m = true) (h0 : m.size ≠ 0) : val (bN m) ≠ 0 := by
  have h3 := val_head m (by omega) (may_head h (by omega))
  have := Nat.pow_pos (n := m.size - 1) (show 0 < 256 by decide)
  omega
theorem sgn_cases {n : Bool} {m : ByteArray} (h : may n m = true) : (sgn n m = 0 ∧ n = false ∧ num n m = 0 ∧ val (bN m) = 0) ∨ (sgn n m = 1 ∧ n = false ∧ num n m = (val (bN m) : Int) ∧ 0 < val (bN m)) ∨ (sgn n m = -1 ∧ n = true ∧ num n m = -(val (bN m) : Int) ∧ 0 < val (bN m)) := by
  by_cases h0 : m.size = 0
  · obtain rfl := empty_of_size h0
    have := may_empty h
    subst this
    exact .inl ⟨rfl, rfl, rfl, rfl⟩
  · have hv := val_zero h h0
    cases n
    · exact .inr (.inl ⟨by simp [sgn, h0], rfl, num_f m, by omega⟩)
    · exact .inr (.inr ⟨by simp [sgn, h0], rfl, num_t m, by omega⟩)

theorem wrap_sgn (s c : Int) (h1 : -1 ≤ s) (h2 : s ≤ 1) (h3 : c = -1 ∨ c = 0 ∨ c = 1) : IntKind.i64.wrap (s * c) = s * c := by
  have h : s = -1 ∨ s = 0 ∨ s = 1 := by omega
  rcases h with rfl | rfl | rfl <;> rcases h3 with rfl | rfl | rfl <;> rfl
theorem cmpN_three (a b : Nat) : cmpN a b = -1 ∨ cmpN a b = 0 ∨ cmpN a b = 1 := by
  unfold cmpN
  (repeat' split) <;> simp
theorem cmpZ_sgn {n1 n2 : Bool} {m1 m2 : ByteArray} (h1 : may n1 m1 = true) (h2 : may n2 m2 = true) : (sgn n1 m1 ≠ sgn n2 m2 → cmpZ (num n1 m1) (num n2 m2) = if sgn n1 m1 < sgn n2 m2 then -1 else 1) ∧ (sgn n1 m1 = sgn n2 m2 → cmpZ (num n1 m1) (num n2 m2) = sgn n1 m1 * cmpN (val (bN m1)) (val (bN m2))) := by
  have S1 := sgn_cases h1
  have S2 := sgn_cases h2
  unfold cmpZ cmpN
  constructor
  · intro hne
    rcases S1 with ⟨a, _, b, c⟩ | ⟨a, _, b, c⟩ | ⟨a, _, b, c⟩ <;> rcases S2 with ⟨a', _, b', c'⟩ | ⟨a', _, b', c'⟩ | ⟨a', _, b', c'⟩ <;> rw [a, a'] at hne <;> (try exact absurd rfl hne) <;> rw [a, a', b, b'] <;> (repeat' split) <;> omega
  · intro he
    rcases S1 with ⟨a, _, b, c⟩ | ⟨a, _, b, c⟩ | ⟨a, _, b, c⟩ <;> rcases S2 with ⟨a', _, b', c'⟩ | ⟨a', _, b', c'⟩ | ⟨a', _, b', c'⟩ <;> rw [a, a'] at he <;> (try exact absurd he (by decide)) <;> rw [a, b, b'] <;> (repeat' split) <;> omega

end Go.Proofs.YtmgbkcfocbbofabGreatDoor
