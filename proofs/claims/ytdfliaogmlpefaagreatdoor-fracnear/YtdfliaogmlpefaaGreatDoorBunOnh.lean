/-
  The nearest whole number: frac's and the document's are one.
  The document's nearest whole number.
-/
import Derived.Deep.CutRange
import Derived.Test.YtdfliaogmlpefaaGreatDoorBunFrj
import Derived.Test.YtdfliaogmlpefaaGreatDoorBunFrq
import Derived.Test.YtdfliaogmlpefaaGreatDoorOna
import Derived.Test.YtdfliaogmlpefaaGreatDoorBunFrz
import Derived.Test.YtdfliaogmlpefaaGreatDoorRue
import Derived.Test.YtdfliaogmlpefaaGreatDoorBunRgc
import Derived.Test.YtdfliaogmlpefaaGreatDoorRga
import Derived.Deep.RegionWith
namespace Go.Proofs.YtdfliaogmlpefaaGreatDoor
open Go.RowKit Go.Lib Go.Sort
set_option linter.unusedVariables false
theorem divr_is {k l : Nat} {x y : Int} {n1 n2 b b' : Bool} {m1 m2 s s' : ByteArray} (hk : k ≤ 16384) (hl : l ≤ 16384) (hy : y ≠ 0) (h1 : Sz k x n1 m1) (h2 : Sz l y n2 m2) (hq : IsZ (x / y) b s) (hr : IsZ (x % y) b' s') (w : World) :
    Calls Tryz.prog 55 #[whole n1 m1, whole n2 m2] w fun e w' => e = .returned (.tuple #[whole b s, whole b' s', .int .i64 0]) ∧ w.grownBy w' none := by
  refine (div_sz hk hl hy h1 h2 w).mono ?_
  rintro e w' ⟨c, t, c', t', rfl, k1, k2, hg⟩
  obtain ⟨rfl, rfl⟩ := whole_inj (k1.1.one hq)
  obtain ⟨rfl, rfl⟩ := whole_inj (k2.1.one hr)
  exact ⟨rfl, hg⟩
def nearZ (x y : Int) : Int := if 2 * (x % y) < y then x / y else if y < 2 * (x % y) then x / y + 1 else if x / y % 2 = 0 then x / y else x / y + 1
theorem div_of {a b q r : Int} (hb : 0 < b) (h : a = q * b + r) (h0 : 0 ≤ r) (h1 : r < b) : a / b = q ∧ a % b = r := by
  have e1 : (q * b + r) / b = q := by rw [Int.add_comm, Int.add_mul_ediv_right _ _ (by omega), Int.ediv_eq_zero_of_lt h0 h1, Int.zero_add]
  have e2 : (q * b + r) % b = r := by rw [Int.add_comm, Int.add_mul_emod_self_right, Int.emod_eq_of_lt h0 h1]
  rw [h]
  exact ⟨e1, e2⟩
theorem near_parts {x y : Int} (hy : 0 < y) :
    (2 * (x % y) < y ∧ (x * 2 + y) / (y * 2) = x / y ∧ (x * 2 + y) % (y * 2) ≠ 0 ∧ nearZ x y = x / y) ∨
    (y < 2 * (x % y) ∧ (x * 2 + y) / (y * 2) = x / y + 1 ∧ (x * 2 + y) % (y * 2) ≠ 0 ∧ nearZ x y = x / y + 1) ∨
    (2 * (x % y) = y ∧ (x * 2 + y) / (y * 2) = x / y + 1 ∧ (x * 2 + y) % (y * 2) = 0 ∧ nearZ x y = if x / y % 2 = 0 then x / y else x / y + 1) := by
  have e := Int.mul_ediv_add_emod x y
  have h0 := Int.emod_nonneg x (show y ≠ 0 by omega)
  have h1 := Int.emod_lt_of_pos x hy
  generalize hq : x / y = q at *
  generalize hr : x % y = r at *
  unfold nearZ
  rw [hq, hr]
  rcases Int.lt_trichotomy (2 * r) y with h | h | h
  · obtain ⟨a, b⟩ := div_of (a := x * 2 + y) (b := y * 2) (q := q) (r := 2 * r + y) (by omega) (by grind) (by omega) (by omega)
    exact .inl ⟨h, a, by omega, if_pos h⟩
  · obtain ⟨a, b⟩ := div_of (a := x * 2 + y) (b := y * 2) (q := q + 1) (r := 0) (by omega) (by grind) (by omega) (by omega)
    exact .inr (.inr ⟨h, a, b, by rw [if_neg (by omega), if_neg (by omega)]⟩)
  · obtain ⟨a, b⟩ := div_of (a := x * 2 + y) (b := y * 2) (q := q + 1) (r := 2 * r - y) (by omega) (by grind) (by omega) (by omega)
    exact .inr (.inl ⟨h, a, by omega, by rw [if_neg (by omega), if_pos h]⟩)
theorem two_sz : Sz 1 2 false ⟨#[2]⟩ := byte_z 2 (by decide)
theorem one_sz : Sz 1 1 false oneS := byte_z 1 (by decide)
theorem parity (N : Int) : ((N.natAbs % 2 : Nat) : Int) = N % 2 := by omega
theorem bit_of {k : Nat} {N : Int} {n : Bool} {s : ByteArray} (hk : k ≤ 16384) (h : Sz k N n s) (w : World) :
    Calls Tryz.prog 56 #[whole n s, .int .i64 0] w fun e w' => e = .returned (.tuple #[.int .i64 (N % 2), .int .i64 0]) ∧ w.grownBy w' none := by
  have hb := bit_yes n s (h.may hk) 0 (by decide) w
  have a : (num n s).natAbs = val (bN s) := num_abs n s
  rw [h.num] at a
  have e : ((bitOf (val (bN s)) 0 : Nat) : Int) = N % 2 := by
    rw [← a, ← parity]
    unfold bitOf
    rw [Nat.pow_zero, Nat.div_one]
  rw [e] at hb
  exact hb
theorem near_any {x y : Int} {n d an : Bool} {s t az : ByteArray} (h : IsQ x y n s d t) (hA : IsZ (nearZ x y) an az) (w : World) :
    Calls Tryz.prog 15 #[frac n s d t] w fun e w' => e = .returned (.tuple #[whole an az, .int .i64 0]) ∧ w.grownBy w' none := by
  obtain ⟨p1, q1, z1⟩ := isz_ex (x * 2)
  obtain ⟨pn, ps, zs⟩ := isz_ex (x * 2 + y)
  obtain ⟨p3, q3, z3⟩ := isz_ex (y * 2)
  obtain ⟨qn, qs, zq⟩ := isz_ex ((x * 2 + y) / (y * 2))
  obtain ⟨rn0, rs0, zr⟩ := isz_ex ((x * 2 + y) % (y * 2))
  have hy := h.pos
  have k1 := z1.sz (mul_lt256 h.zn.2 two_sz.2)
  have k3 := z3.sz (mul_lt256 h.zd.2 two_sz.2)
  have kd : Sz (1024 + 1) y d t := h.zd.up (by decide)
  have ks := zs.sz (sum_lt k1.2 kd.2).1
  have kq := zq.sz (Nat.lt_of_le_of_lt (ediv_abs_le _ _) ks.2)
  have hne : y * 2 ≠ 0 := by omega
  refine near_by n d false p1 pn p3 qn an rn0 s t ⟨#[2]⟩ q1 ps q3 qs az rs0 (((x * 2 + y) / (y * 2)) % 2) (fun w => h.call w) (fun w => of_known 2 2 false rfl (by decide) (by decide) w)
    (fun w => times_is (by decide) h.zn two_sz z1 w) (fun w => add_is (by decide) k1 kd zs w) (fun w => times_is (by decide) h.zd two_sz z3 w) (fun w => divr_is (by decide) (by decide) hne ks k3 zq zr w) (fun w => bit_of (by decide) kq w) ?_ w
  rcases near_parts (x := x) hy with ⟨_, e1, e2, e3⟩ | ⟨_, e1, e2, e3⟩ | ⟨_, e1, e2, e3⟩
  · have hz : (rs0.toList == []) = false := nonempty_q ((zr.sz (Nat.lt_trans (emod_abs_lt _ _ hne) k3.2)).size0 (by decide) e2)
    have hA' : IsZ ((x * 2 + y) / (y * 2)) an az := by rw [e1, ← e3]; exact hA
    obtain ⟨g1, g2⟩ := whole_inj (hA'.one zq)
    rcases Int.emod_two_eq ((x * 2 + y) / (y * 2)) with hb | hb
    · exact .inr (.inl ⟨hb, g1, g2⟩)
    · exact .inr (.inr ⟨hb, hz, g1, g2⟩)
  · have hz : (rs0.toList == []) = false := nonempty_q ((zr.sz (Nat.lt_trans (emod_abs_lt _ _ hne) k3.2)).size0 (by decide) e2)
    have hA' : IsZ ((x * 2 + y) / (y * 2)) an az := by rw [e1, ← e3]; exact hA
    obtain ⟨g1, g2⟩ := whole_inj (hA'.one zq)
    rcases Int.emod_two_eq ((x * 2 + y) / (y * 2)) with hb | hb
    · exact .inr (.inl ⟨hb, g1, g2⟩)
    · exact .inr (.inr ⟨hb, hz, g1, g2⟩)
  · rcases Int.emod_two_eq ((x * 2 + y) / (y * 2)) with hb | hb
    · have hA' : IsZ ((x * 2 + y) / (y * 2)) an az := by
        rw [e1] at hb ⊢
        rw [e3, if_neg (by omega)] at hA
        exact hA
      obtain ⟨g1, g2⟩ := whole_inj (hA'.one zq)
      exact .inr (.inl ⟨hb, g1, g2⟩)
    · have hA' : IsZ ((x * 2 + y) / (y * 2) - 1) an az := by
        rw [e1] at hb ⊢
        rw [e3, if_pos (by omega)] at hA
        rw [show x / y + 1 - 1 = x / y by omega]
        exact hA
      rw [e2] at zr
      obtain ⟨g1, g2⟩ := whole_inj (zr.one zero_z)
      exact .inl ⟨hb, g1, g2, fun w => sub_is (k := 1024 + 1 + 1) (by decide) kq (one_sz.up (by decide)) hA' w⟩
theorem sgn_of {k : Nat} {z : Int} {n : Bool} {s : ByteArray} (hk : k ≤ 16384) (h : Sz k z n s) : sgn n s = cmpZ z 0 := by
  rw [sgn_cmp (h.may hk), h.num]
end Go.Proofs.YtdfliaogmlpefaaGreatDoor
