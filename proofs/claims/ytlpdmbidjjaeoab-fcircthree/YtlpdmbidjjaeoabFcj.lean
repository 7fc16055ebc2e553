/-
  Image by what moves nothing.
-/
import Derived.Test.YtlpdmbidjjaeoabFch
namespace Go.Proofs.Ytlpdmbidjjaeoab
open Go.RowKit Go.Lib Go.Sort Ieee
set_option linter.unusedVariables false

theorem outer_e {A b1 b2 C x1 x2 y1 y2 ka kb kc kx ky : Nat} {a b d c m n u v : Int} (hA : E 1 A a ka) (hB : Z 1 b1 b2 b d kb) (hC : E 1 C c kc) (hx : Z 0 x1 x2 m n kx) (hy : Z 0 y1 y2 u v ky)
    (hxk : kx ≤ 1) (hyk : ky ≤ 1) (hka : ka ≤ 2 ^ 48) (hkb : kb ≤ 2 ^ 48) (hkc : kc ≤ 2 ^ 48) :
    ∃ r k, (∀ (w : World) (Bf Bb : Nat), w.cell? ⟨Bf, 0, none⟩ = some (.float .f64 A) → w.cell? ⟨Bf, 2, none⟩ = some (.float .f64 C) → w.cell? ⟨Bb, 0, none⟩ = some (.complex .f64 b1 b2) → Calls Try.prog 20 #[.complex .f64 x1 x2, .complex .f64 y1 y2, .pointer (some ⟨Bf, 0, none⟩), .pointer (some ⟨Bb, 0, none⟩)] w fun e w' => e = .returned (.float .f64 r) ∧ w.grownBy w' none) ∧
      E 1 r (a * (m * m + n * n) + c * (u * u + v * v) + (((b * m - d * n) * u - (b * n + d * m) * -v) + ((b * m - d * n) * u - (b * n + d * m) * -v))) k := by
  have hx := hx.wide hxk
  have hy := hy.wide hyk
  have hA := hA.wide hka
  have hB := hB.wide hkb
  have hC := hC.wide hkc
  obtain ⟨p, g1, z1⟩ := abs2_e hx (by decide) (by decide)
  obtain ⟨q, g2, z2⟩ := times_e hA z1 (by decide) (by decide)
  obtain ⟨p', g3, z3⟩ := abs2_e hy (by decide) (by decide)
  obtain ⟨q', g4, z4⟩ := times_e hC z3 (by decide) (by decide)
  obtain ⟨s, g5, z5⟩ := z2.add z4 (by decide) (by decide)
  obtain ⟨v1, v2, g6, z6⟩ := ofThree_e hB hx hy (by decide) (by decide) (by decide)
  obtain ⟨t, g7, z7⟩ := twice_e v2 z6.1 (by decide) (by decide)
  obtain ⟨r, g8, z8⟩ := E.add z5 z7 (by decide) (by decide)
  exact ⟨r, _, fun w Bf Bb c0 c2 cb => outer_op g1 g2 g3 g4 g5 g6 g7 g8 w c0 c2 cb, z8⟩

theorem still_e {p q a b c d : Int} {A B1 B2 C : Nat} (h : Circ p q a b c d A B1 B2 C) :
    ∃ X i1 i2 Y, (∀ w, Calls Try.prog 8 #[fmap 4607182418800017408 0 0 0 0 0 4607182418800017408 0, fcirc A B1 B2 C] w fun e w' => e = .returned (fcirc X i1 i2 Y) ∧ w.grownBy w' none) ∧
      (double.order X A == some .eq) = true ∧ (double.order i1 B1 == some .eq) = true ∧ (double.order i2 B2 == some .eq) = true ∧ (double.order Y C == some .eq) = true := by
  obtain ⟨hA, hB, hC⟩ := h
  have hone : Z 0 4607182418800017408 0 1 0 1 := ⟨e_one, e_zero.wide (by decide)⟩
  have hnil : Z 0 0 0 0 0 0 := ⟨e_zero, e_zero⟩
  have hn := neg_e hnil
  have hq : Z 0 (flip 0) (flip 0) 0 0 0 := hnil.neg
  obtain ⟨m1, m2, g3, z3⟩ := mul_e hone hq.conj (by decide) (by decide)
  obtain ⟨c1, c2, g4, z4⟩ := scale_e z3 hA.up (by decide) (by decide)
  obtain ⟨o1, o2, g5, z5⟩ := ofThree_e hB hone hone (by decide) (by decide) (by decide)
  obtain ⟨a1, a2, g6, z6⟩ := add_e z4 z5 (by decide) (by decide)
  obtain ⟨t1, t2, g7, z7⟩ := ofThree_e hB.conj hq hq (by decide) (by decide) (by decide)
  obtain ⟨n1, n2, g8, z8⟩ := mul_e hq hone.conj (by decide) (by decide)
  obtain ⟨d1, d2, g9, z9⟩ := scale_e z8 hC (by decide) (by decide)
  obtain ⟨e1, e2, g10, z10⟩ := add_e z7 z9 (by decide) (by decide)
  obtain ⟨i1, i2, g11, z11⟩ := add_e z6 z10 (by decide) (by decide)
  obtain ⟨X, kX, gX, zX⟩ := outer_e hA.up hB hC hone hq (by decide) (by decide) (by decide) (by decide) (by decide)
  obtain ⟨Y, kY, gY, zY⟩ := outer_e hA.up hB hC hq hone (by decide) (by decide) (by decide) (by decide) (by decide)
  refine ⟨X, i1, i2, Y, image_op hq.2.lt hB.2.lt hone.2.lt hn hn g3 g4 g5 g6 g7 g8 g9 g10 g11 gX gY, ?_, ?_, ?_, ?_⟩
  · exact (zX.eq hA.up).trans (decide_eq_true (by grind))
  · exact (E.eq z11.1 hB.1).trans (decide_eq_true (by grind))
  · exact (E.eq z11.2 hB.2).trans (decide_eq_true (by grind))
  · exact (zY.eq hC).trans (decide_eq_true (by grind))
end Go.Proofs.Ytlpdmbidjjaeoab
