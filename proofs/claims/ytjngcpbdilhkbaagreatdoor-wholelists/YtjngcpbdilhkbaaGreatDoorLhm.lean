/-
  Proved: the arithmetic of Lehmer's steps: what a round of the loop keeps, and what it gives at its end.
-/
import Derived.Test.YtjngcpbdilhkbaaGreatDoorBunChk
namespace Go.Proofs.YtjngcpbdilhkbaaGreatDoor
set_option linter.unusedVariables false

/-- What holds at the head of the loop: x, y are the words, A, B the numbers, X, Y their heads; e is 1 or -1. -/
structure Lhm (A B X Y : Nat) (s x y a1 a2 a3 b1 b2 b3 : Int) : Prop where
  sg : s = 1 ∨ s = -1
  hx : x = s * (b2 * Y - a2 * X)
  hy : y = s * (a3 * X - b3 * Y)
  gc : Int.gcd (s * (b2 * B - a2 * A)) (s * (a3 * A - b3 * B)) = Nat.gcd A B
  y0 : 0 ≤ y
  xy : y ≤ x
  a10 : 0 ≤ a1
  a20 : 0 ≤ a2
  a30 : 0 ≤ a3
  b10 : 0 ≤ b1
  b20 : 0 ≤ b2
  b31 : 1 ≤ b3
  b23 : b2 ≤ b3
  ab3 : a3 ≤ b3
  ab2 : s = 1 → a2 ≤ b2
  a21 : a2 ≤ b2 + 1
  ab : a2 ≤ b2 ∨ a3 < b3
  a23 : a2 ≤ b3
  fa : a3 * x + a2 * y = Y
  fb : b3 * x + b2 * y = X
  z : b2 = 0 → s * (b2 * B - a2 * A) = A ∧ s * (a3 * A - b3 * B) = B ∧ b1 = 0 ∧ a1 = 0
  p : 1 ≤ b2 → s * (b2 * B - a2 * A) ≤ B ∧ s * (a1 * A - b1 * B) ≤ A ∧ 0 ≤ s * (b2 * B - a2 * A) ∧ s * (b2 * B - a2 * A) < s * (a1 * A - b1 * B) ∧
    Int.gcd (s * (a1 * A - b1 * B)) (s * (b2 * B - a2 * A)) = Nat.gcd A B ∧ a1 < 2147483648 ∧ a2 < 2147483648 ∧ b1 < 2147483648 ∧ b2 < 2147483648
  q : 1 ≤ b1 → s * (b2 * B - a2 * A) < B ∧ 1 ≤ b2

theorem lhm_init (A B X Y : Nat) (h : Y ≤ X) : Lhm A B X Y (-1) X Y 0 1 0 0 0 1 where
  sg := Or.inr rfl
  hx := by omega
  hy := by omega
  gc := by
    have e1 : (-1 : Int) * (0 * (B : Int) - 1 * A) = A := by omega
    have e2 : (-1 : Int) * (0 * (A : Int) - 1 * B) = B := by omega
    rw [e1, e2]; exact Int.gcd_natCast_natCast A B
  y0 := by omega
  xy := by omega
  a10 := by decide
  a20 := by decide
  a30 := by decide
  b10 := by decide
  b20 := by decide
  b31 := by decide
  b23 := by decide
  ab3 := by decide
  ab2 := by intro h; exact absurd h (by decide)
  a21 := by decide
  ab := Or.inr (by decide)
  a23 := by decide
  fa := by omega
  fb := by omega
  z := fun _ => ⟨by omega, by omega, rfl, rfl⟩
  p := fun h => absurd h (by decide)
  q := fun h => absurd h (by decide)

/-- What is cut off below the heads changes nothing. -/
theorem lhm_true {A B X Y F : Nat} {s x y a1 a2 a3 b1 b2 b3 : Int} (hF : 0 < F) (hA0 : X * F ≤ A) (hA1 : A < (X + 1) * F) (hB0 : Y * F ≤ B) (hB1 : B < (Y + 1) * F)
    (H : Lhm A B X Y s x y a1 a2 a3 b1 b2 b3) (c1 : b3 ≤ y) (c2 : b2 + b3 ≤ x - y) :
    0 ≤ s * (a3 * A - b3 * B) ∧ s * (a3 * A - b3 * B) < s * (b2 * B - a2 * A) := by
  obtain ⟨al, hal⟩ : ∃ al : Int, (A : Int) = X * F + al := ⟨A - X * F, by omega⟩
  obtain ⟨be, hbe⟩ : ∃ be : Int, (B : Int) = Y * F + be := ⟨B - Y * F, by omega⟩
  have hal0 : 0 ≤ al := by have : ((X * F : Nat) : Int) ≤ A := by exact_mod_cast hA0
                           rw [Int.natCast_mul] at this; omega
  have hbe0 : 0 ≤ be := by have : ((Y * F : Nat) : Int) ≤ B := by exact_mod_cast hB0
                           rw [Int.natCast_mul] at this; omega
  have hal1 : al < F := by have : (A : Int) < (((X + 1) * F : Nat) : Int) := by exact_mod_cast hA1
                           rw [Int.natCast_mul, Int.natCast_add, Int.add_mul] at this; omega
  have hbe1 : be < F := by have : (B : Int) < (((Y + 1) * F : Nat) : Int) := by exact_mod_cast hB1
                           rw [Int.natCast_mul, Int.natCast_add, Int.add_mul] at this; omega
  have hF' : (0 : Int) < F := by exact_mod_cast hF
  have eQ : s * (a3 * A - b3 * B) = y * F + s * (a3 * al - b3 * be) := by rw [hal, hbe, H.hy]; grind
  have eP : s * (b2 * B - a2 * A) = x * F + s * (b2 * be - a2 * al) := by rw [hal, hbe, H.hx]; grind
  rw [eQ, eP]
  have k1 : b3 * F ≤ y * F := Int.mul_le_mul_of_nonneg_right c1 (Int.le_of_lt hF')
  have k2 : (b2 + b3) * F ≤ (x - y) * F := Int.mul_le_mul_of_nonneg_right c2 (Int.le_of_lt hF')
  have hb30 : 0 ≤ b3 := by have := H.b31; omega
  have hb23 : 0 ≤ b2 + b3 := by have := H.b20; omega
  have m1 : a3 * al ≤ b3 * al := Int.mul_le_mul_of_nonneg_right H.ab3 hal0
  have m2 : b3 * al ≤ b3 * F := Int.mul_le_mul_of_nonneg_left (Int.le_of_lt hal1) hb30
  have m3 : b3 * be ≤ b3 * F := Int.mul_le_mul_of_nonneg_left (Int.le_of_lt hbe1) hb30
  have m4 : 0 ≤ a3 * al := Int.mul_nonneg H.a30 hal0
  have m5 : 0 ≤ b3 * be := Int.mul_nonneg hb30 hbe0
  have m6 : 0 ≤ a2 * al := Int.mul_nonneg H.a20 hal0
  have m7 : 0 ≤ b2 * be := Int.mul_nonneg H.b20 hbe0
  have m8 : (b2 + b3) * be < (b2 + b3) * F := Int.mul_lt_mul_of_pos_left hbe1 (by have := H.b31; have := H.b20; omega)
  have m9 : (b2 + b3) * al < (b2 + b3) * F := Int.mul_lt_mul_of_pos_left hal1 (by have := H.b31; have := H.b20; omega)
  have d1 : (x - y) * F = x * F - y * F := Int.sub_mul _ _ _
  have d2 : (b2 + b3) * be = b2 * be + b3 * be := Int.add_mul _ _ _
  have d3 : (b2 + b3) * al = b2 * al + b3 * al := Int.add_mul _ _ _
  rcases H.sg with hs | hs
  · have m10 : a2 * al ≤ b2 * al := Int.mul_le_mul_of_nonneg_right (H.ab2 hs) hal0
    rw [hs]
    constructor <;> omega
  · rw [hs]
    constructor <;> omega

/-- A round keeps it. -/
theorem lhm_step {A B X Y F : Nat} {s x y a1 a2 a3 b1 b2 b3 : Int} (hF : 0 < F) (hX : X < 4611686018427387904) (hBA : B ≤ A)
    (hA0 : X * F ≤ A) (hA1 : A < (X + 1) * F) (hB0 : Y * F ≤ B) (hB1 : B < (Y + 1) * F)
    (H : Lhm A B X Y s x y a1 a2 a3 b1 b2 b3) (c1 : b3 ≤ y) (c2 : b2 + b3 ≤ x - y) :
    Lhm A B X Y (-s) y (x % y) a2 a3 (a2 + x / y * a3) b2 b3 (b2 + x / y * b3) ∧ b3 < 2147483648 := by
  obtain ⟨t1, t2⟩ := lhm_true hF hA0 hA1 hB0 hB1 H c1 c2
  have yp : 0 < y := by have := H.b31; omega
  have hq1 : 1 ≤ x / y := by
    have := Int.ediv_le_ediv yp H.xy
    rwa [Int.ediv_self (by omega)] at this
  have hem : x % y = x - x / y * y := by have := Int.emod_add_mul_ediv x y; rw [Int.mul_comm] at this; omega
  have hm0 := Int.emod_nonneg x (show y ≠ 0 by omega)
  have hm1 := Int.emod_lt_of_pos x yp
  have hb30 : 0 ≤ b3 := by have := H.b31; omega
  have hx2 : 2 * b3 ≤ x := by have := H.b20; omega
  have hbb : b3 < 2147483648 := by
    rcases Int.lt_or_le b3 2147483648 with h | h
    · exact h
    · exfalso
      have g1 : b3 * (2 * b3) ≤ b3 * x := Int.mul_le_mul_of_nonneg_left hx2 hb30
      have g2 : 2147483648 * (2 * 2147483648) ≤ b3 * (2 * b3) := Int.mul_le_mul h (by omega) (by omega) hb30
      have g3 := H.fb
      have g4 : 0 ≤ b2 * y := Int.mul_nonneg H.b20 H.y0
      have g5 : (X : Int) < 4611686018427387904 := by omega
      omega
  have qa : a3 ≤ x / y * a3 := by
    have := Int.mul_le_mul_of_nonneg_right hq1 H.a30; omega
  have qb : b3 ≤ x / y * b3 := by
    have := Int.mul_le_mul_of_nonneg_right hq1 hb30; omega
  have qab : x / y * a3 ≤ x / y * b3 := Int.mul_le_mul_of_nonneg_left H.ab3 (by omega)
  generalize x / y = k at *
  have hQ : -s * (b3 * B - a3 * A) = s * (a3 * A - b3 * B) := by grind
  have hR : -s * (a2 * A - b2 * B) = s * (b2 * B - a2 * A) := by grind
  have hg : -s * ((a2 + k * a3) * A - (b2 + k * b3) * B) = s * (b2 * B - a2 * A) - k * (s * (a3 * A - b3 * B)) := by grind
  have i1 := H.b20; have i2 := H.a20; have i3 := H.a30; have i4 := H.b23; have i5 := H.ab3; have i6 := H.a23; have i7 := H.b31
  refine ⟨⟨?_, ?_, ?_, ?_, hm0, Int.le_of_lt hm1, H.a20, H.a30, by omega, H.b20, hb30, by omega, by omega, ?_, ?_, by omega, Or.inl H.ab3, by omega, ?_, ?_, ?_, ?_, ?_⟩, hbb⟩
  · rcases H.sg with h | h <;> rw [h] <;> decide
  · rw [H.hy]; grind
  · rw [hem, H.hx, H.hy]; grind
  · rw [hQ, hg, ← H.gc]
    rw [Int.gcd_comm (s * (b2 * B - a2 * A))]
    exact Int.gcd_sub_mul_right_right ..
  · rcases H.ab with h | h
    · omega
    · have g : k * a3 + k ≤ k * b3 := by
        have := Int.mul_le_mul_of_nonneg_left (show a3 + 1 ≤ b3 by omega) (show 0 ≤ k by omega)
        rwa [Int.mul_add, Int.mul_one] at this
      have := H.a21
      omega
  · exact fun _ => H.ab3
  · rw [hem]; have := H.fa; grind
  · rw [hem]; have := H.fb; grind
  · intro h; omega
  · intro _
    rw [hQ, hR]
    refine ⟨?_, ?_, t1, t2, ?_, ?_, ?_, ?_, hbb⟩
    · rcases Int.lt_or_le b2 1 with h | h
      · have := H.z (by omega); omega
      · have := H.p h; omega
    · rcases Int.lt_or_le b2 1 with h | h
      · have := H.z (by omega); omega
      · have := H.p h; omega
    · exact H.gc
    · omega
    · omega
    · omega
  · intro h
    rw [hQ]
    have := H.p h
    exact ⟨by omega, by omega⟩

/-- How great all is. -/
theorem Lhm.bd {A B X Y : Nat} {s x y a1 a2 a3 b1 b2 b3 : Int} (H : Lhm A B X Y s x y a1 a2 a3 b1 b2 b3) (h0 : 0 < X) : 1 ≤ x ∧ x ≤ X ∧ b3 ≤ X ∧ a1 < 2147483648 ∧ a2 < 2147483648 ∧ b1 < 2147483648 ∧ b2 < 2147483648 := by
  have i1 := H.b20; have i2 := H.a20; have i7 := H.b31; have i8 := H.y0; have i9 := H.xy; have i10 := H.fb; have i11 := H.a21
  have hx1 : 1 ≤ x := by
    rcases Int.lt_or_le x 1 with h | h
    · exfalso
      have hx : x = 0 := by omega
      have hy : y = 0 := by omega
      rw [hx, hy, Int.mul_zero, Int.mul_zero] at i10
      omega
    · exact h
  have m1 : 1 * x ≤ b3 * x := Int.mul_le_mul_of_nonneg_right i7 (by omega)
  have m2 : b3 * 1 ≤ b3 * x := Int.mul_le_mul_of_nonneg_left hx1 (by omega)
  have m3 : 0 ≤ b2 * y := Int.mul_nonneg i1 i8
  refine ⟨hx1, by omega, by omega, ?_⟩
  rcases Int.lt_or_le b2 1 with h | h
  · have := H.z (by omega); omega
  · have := H.p h; omega
/-- A round's new factors. -/
theorem Lhm.nw {A B X Y : Nat} {s x y a1 a2 a3 b1 b2 b3 : Int} (H : Lhm A B X Y s x y a1 a2 a3 b1 b2 b3) (c1 : b3 ≤ y) : 0 ≤ x / y * a3 ∧ x / y * a3 ≤ x / y * b3 ∧ b2 + x / y * b3 ≤ X := by
  have i1 := H.b20; have i2 := H.a20; have i7 := H.b31; have i9 := H.xy; have i10 := H.fb
  have yp : 0 < y := by omega
  have hq : 0 ≤ x / y := Int.ediv_nonneg (by omega) (by omega)
  have hm : x / y * y ≤ x := Int.ediv_mul_le x (by omega)
  refine ⟨Int.mul_nonneg hq H.a30, Int.mul_le_mul_of_nonneg_left H.ab3 hq, ?_⟩
  have m0 : 0 ≤ b2 + x / y * b3 := by have := Int.mul_nonneg hq (show 0 ≤ b3 by omega); omega
  have m1 : (b2 + x / y * b3) * 1 ≤ (b2 + x / y * b3) * y := Int.mul_le_mul_of_nonneg_left (by omega) m0
  have m2 : b3 * (x / y * y) ≤ b3 * x := Int.mul_le_mul_of_nonneg_left hm (by omega)
  have m3 : (b2 + x / y * b3) * y = b2 * y + b3 * (x / y * y) := by grind
  omega
/-- What the factors are worth at the end. -/
structure Fac (A B : Nat) (m1 m2 m3 m4 : Int) : Prop where
  l1 : -2147483648 < m1 ∧ m1 < 2147483648
  l2 : -2147483648 < m2 ∧ m2 < 2147483648
  l3 : -2147483648 < m3 ∧ m3 < 2147483648
  l4 : -2147483648 < m4 ∧ m4 < 2147483648
  u1 : 0 ≤ m1 ∧ m2 ≤ 0 ∨ m1 ≤ 0 ∧ 0 ≤ m2
  u2 : 0 ≤ m3 ∧ m4 ≤ 0 ∨ m3 ≤ 0 ∧ 0 ≤ m4
  p0 : 0 ≤ m3 * A + m4 * B
  pr : m3 * A + m4 * B < m1 * A + m2 * B
  ra : m1 * A + m2 * B ≤ A
  pb : m3 * A + m4 * B < B
  gc : Int.gcd (m1 * A + m2 * B) (m3 * A + m4 * B) = Nat.gcd A B
theorem Lhm.fac {A B X Y : Nat} {s x y a1 a2 a3 b1 b2 b3 : Int} (H : Lhm A B X Y s x y a1 a2 a3 b1 b2 b3) (h : 1 ≤ b1) : Fac A B (s * a1) (-s * b1) (-s * a2) (s * b2) := by
  obtain ⟨q1, q2⟩ := H.q h
  obtain ⟨p1, p2, p3, p4, p5, p6, p7, p8, p9⟩ := H.p q2
  have i1 := H.b20; have i2 := H.a20; have i3 := H.a10; have i4 := H.b10
  have eR : s * a1 * A + -s * b1 * B = s * (a1 * A - b1 * B) := by grind
  have eP : -s * a2 * A + s * b2 * B = s * (b2 * B - a2 * A) := by grind
  refine ⟨?_, ?_, ?_, ?_, ?_, ?_, by rw [eP]; exact p3, by rw [eP, eR]; exact p4, by rw [eR]; exact p2, by rw [eP]; exact q1, by rw [eP, eR]; exact p5⟩ <;>
  · rcases H.sg with e | e <;> rw [e] <;> omega
end Go.Proofs.YtjngcpbdilhkbaaGreatDoor
