/-
  What the program's small functions answer, over whole numbers over a power of two.
-/
import Derived.Test.YtlpdmbidjjaeoabFcl
namespace Go.Proofs.Ytlpdmbidjjaeoab
open Go.RowKit Go.Lib Ieee

theorem times_e {s t x y k l : Nat} {n m : Int} (hx : E s x n k) (hy : E t y m l) (h : k * l < 2 ^ 53) (hs : s + t ≤ 1000) : ∃ r, Gives 14 #[.float .f64 x, .float .f64 y] (.float .f64 r) ∧ E (s + t) r (n * m) (k * l) := by
  obtain ⟨r, e, hr⟩ := hx.mul hy h hs
  exact ⟨r, times_op e, hr⟩
theorem twice_e {s x k : Nat} (y : Nat) {n : Int} (hx : E s x n k) (h : k + k < 2 ^ 53) (hs : s ≤ 1000) : ∃ r, Gives 16 #[.complex .f64 x y] (.float .f64 r) ∧ E s r (n + n) (k + k) := by
  obtain ⟨r, e, hr⟩ := hx.add hx h hs
  exact ⟨r, twice_op e, hr⟩
theorem abs2_e {s x y k : Nat} {a b : Int} (h : Z s x y a b k) (hk : k * k + k * k < 2 ^ 53) (hs : s + s ≤ 1000) : ∃ r, Gives 15 #[.complex .f64 x y] (.float .f64 r) ∧ E (s + s) r (a * a + b * b) (k * k + k * k) := by
  obtain ⟨p, e1, h1⟩ := h.1.mul h.1 (by omega) hs
  obtain ⟨q, e2, h2⟩ := h.2.mul h.2 (by omega) hs
  obtain ⟨r, e3, h3⟩ := h1.add h2 hk hs
  exact ⟨r, abs2_op (dot_op e1 e2 e3), h3⟩
theorem cross_e {s t x y u v k l : Nat} {a b c d : Int} (h : Z s x y a b k) (g : Z t u v c d l) (hk : k * l + k * l < 2 ^ 53) (hs : s + t ≤ 1000) : ∃ r, Gives 35 #[.complex .f64 x y, .complex .f64 u v] (.float .f64 r) ∧ E (s + t) r (a * d - b * c) (k * l + k * l) := by
  obtain ⟨p, e1, h1⟩ := h.1.mul g.2 (by omega) hs
  obtain ⟨q, e2, h2⟩ := h.2.mul g.1 (by omega) hs
  obtain ⟨r, e3, h3⟩ := h1.sub h2 hk hs
  exact ⟨r, cross_op e1 e2 e3, h3⟩
theorem mul_e {s t x y u v k l : Nat} {a b c d : Int} (h : Z s x y a b k) (g : Z t u v c d l) (hk : k * l + k * l < 2 ^ 53) (hs : s + t ≤ 1000) : ∃ r1 r2, Gives 17 #[.complex .f64 x y, .complex .f64 u v] (.complex .f64 r1 r2) ∧ Z (s + t) r1 r2 (a * c - b * d) (a * d + b * c) (k * l + k * l) := by
  obtain ⟨p1, e1, h1⟩ := h.1.mul g.1 (by omega) hs
  obtain ⟨p2, e2, h2⟩ := h.2.mul g.2 (by omega) hs
  obtain ⟨r1, e3, h3⟩ := h1.sub h2 hk hs
  obtain ⟨p3, e4, h4⟩ := h.1.mul g.2 (by omega) hs
  obtain ⟨p4, e5, h5⟩ := h.2.mul g.1 (by omega) hs
  obtain ⟨r2, e6, h6⟩ := h4.add h5 hk hs
  exact ⟨r1, r2, mulZ_op e1 e2 e3 e4 e5 e6, h3, h6⟩
theorem add_e {s x y u v k l : Nat} {a b c d : Int} (h : Z s x y a b k) (g : Z s u v c d l) (hk : k + l < 2 ^ 53) (hs : s ≤ 1000) : ∃ r1 r2, Gives 22 #[.complex .f64 x y, .complex .f64 u v] (.complex .f64 r1 r2) ∧ Z s r1 r2 (a + c) (b + d) (k + l) := by
  obtain ⟨r1, e1, h1⟩ := h.1.add g.1 hk hs
  obtain ⟨r2, e2, h2⟩ := h.2.add g.2 hk hs
  exact ⟨r1, r2, add_op e1 e2, h1, h2⟩
theorem sub_e {s x y u v k l : Nat} {a b c d : Int} (h : Z s x y a b k) (g : Z s u v c d l) (hk : k + l < 2 ^ 53) (hs : s ≤ 1000) : ∃ r1 r2, Gives 26 #[.complex .f64 x y, .complex .f64 u v] (.complex .f64 r1 r2) ∧ Z s r1 r2 (a - c) (b - d) (k + l) := by
  obtain ⟨r1, e1, h1⟩ := h.1.sub g.1 hk hs
  obtain ⟨r2, e2, h2⟩ := h.2.sub g.2 hk hs
  exact ⟨r1, r2, sub_op e1 e2, h1, h2⟩
theorem scale_e {s t x y u k l : Nat} {a b c : Int} (h : Z s x y a b k) (g : E t u c l) (hk : k * l < 2 ^ 53) (hs : s + t ≤ 1000) : ∃ r1 r2, Gives 23 #[.complex .f64 x y, .float .f64 u] (.complex .f64 r1 r2) ∧ Z (s + t) r1 r2 (a * c) (b * c) (k * l) := by
  obtain ⟨r1, e1, h1⟩ := h.1.mul g hk hs
  obtain ⟨r2, e2, h2⟩ := h.2.mul g hk hs
  exact ⟨r1, r2, scale_op e1 e2, h1, h2⟩
theorem Z.conj {s x y k : Nat} {a b : Int} (h : Z s x y a b k) : Z s x (flip y) a (-b) k := ⟨h.1, h.2.neg⟩
theorem Z.neg {s x y k : Nat} {a b : Int} (h : Z s x y a b k) : Z s (flip x) (flip y) (-a) (-b) k := ⟨h.1.neg, h.2.neg⟩
theorem Z.up {s x y k : Nat} {a b : Int} (h : Z s x y a b k) : Z (s + 1) x y (2 * a) (2 * b) (2 * k) := ⟨h.1.up, h.2.up⟩
theorem Z.swap {s x y k : Nat} {a b : Int} (h : Z s x y a b k) : Z s y x b a k := ⟨h.2, h.1⟩
theorem Z.same {s x y k : Nat} {a b c d : Int} (h : Z s x y a b k) (e : a = c) (f : b = d) : Z s x y c d k := ⟨h.1.same e, h.2.same f⟩
theorem Z.wide {s x y k l : Nat} {a b : Int} (h : Z s x y a b k) (hl : k ≤ l) : Z s x y a b l := ⟨h.1.wide hl, h.2.wide hl⟩
theorem conj_e {s x y k : Nat} {a b : Int} (h : Z s x y a b k) : Gives 18 #[.complex .f64 x y] (.complex .f64 x (flip y)) := conj_any x y h.2.lt
theorem neg_e {s x y k : Nat} {a b : Int} (h : Z s x y a b k) : Gives 19 #[.complex .f64 x y] (.complex .f64 (flip x) (flip y)) := neg_any x y h.1.lt h.2.lt
theorem ofThree_e {s t u b1 b2 x1 x2 y1 y2 k l m : Nat} {a b c d e f : Int} (h : Z s b1 b2 a b k) (g : Z t x1 x2 c d l) (i : Z u y1 y2 e f m) (hk : k * l + k * l < 2 ^ 53) (hm : (k * l + k * l) * m + (k * l + k * l) * m < 2 ^ 53) (hs : s + t + u ≤ 1000) :
    ∃ r1 r2, Gives 21 #[.complex .f64 b1 b2, .complex .f64 x1 x2, .complex .f64 y1 y2] (.complex .f64 r1 r2) ∧ Z (s + t + u) r1 r2 ((a * c - b * d) * e - (a * d + b * c) * -f) ((a * c - b * d) * -f + (a * d + b * c) * e) ((k * l + k * l) * m + (k * l + k * l) * m) := by
  obtain ⟨p1, p2, g1, z1⟩ := mul_e h g hk (by omega)
  obtain ⟨r1, r2, g2, z2⟩ := mul_e z1 i.conj hm hs
  exact ⟨r1, r2, ofThree_op i.2.lt g1 g2, z2⟩

set_option maxHeartbeats 1600000 in
set_option maxRecDepth 1000000 in
theorem throughNought_op {a1 a2 b1 b2 na nb s1 s2 t1 t2 g1 g2 A e1 e2 : Nat} (h1 : Gives 15 #[.complex .f64 a1 a2] (.float .f64 na)) (h2 : Gives 23 #[.complex .f64 b1 b2, .float .f64 na] (.complex .f64 s1 s2))
    (h3 : Gives 15 #[.complex .f64 b1 b2] (.float .f64 nb)) (h4 : Gives 23 #[.complex .f64 a1 a2, .float .f64 nb] (.complex .f64 t1 t2)) (h5 : Gives 26 #[.complex .f64 s1 s2, .complex .f64 t1 t2] (.complex .f64 g1 g2))
    (h6 : Gives 35 #[.complex .f64 a1 a2, .complex .f64 b1 b2] (.float .f64 A)) (h7 : Gives 23 #[.complex .f64 g2 g1, .float .f64 13826050856027422720] (.complex .f64 e1 e2)) :
    Gives 25 #[.complex .f64 a1 a2, .complex .f64 b1 b2] (.tuple #[.float .f64 A, .complex .f64 e1 e2]) := by
  intro w
  go_enter Try.func25, Try.ntmps25
  go_wp2_with fail
  refine (h1 _).mono ?_
  rintro e w' ⟨rfl, rfl⟩
  go_wp2_with fail
  refine (h2 _).mono ?_
  rintro e w' ⟨rfl, rfl⟩
  go_wp2_with fail
  refine (h3 _).mono ?_
  rintro e w' ⟨rfl, rfl⟩
  go_wp2_with fail
  refine (h4 _).mono ?_
  rintro e w' ⟨rfl, rfl⟩
  go_wp2_with fail
  refine (h5 _).mono ?_
  rintro e w' ⟨rfl, rfl⟩
  go_wp2_with fail
  refine (h6 _).mono ?_
  rintro e w' ⟨rfl, rfl⟩
  go_wp2_with fail
  refine (of_any g2 g1 _).mono ?_
  rintro e w' ⟨rfl, rfl⟩
  go_wp2_with fail
  refine (h7 _).mono ?_
  rintro e w' ⟨rfl, rfl⟩
  go_wp2_with fail
  go_ret2
  exact ⟨rfl, rfl⟩
theorem throughNought_e {a1 a2 b1 b2 : Nat} {a b c d : Int} (h : Z 0 a1 a2 a b 2048) (g : Z 0 b1 b2 c d 2048) :
    ∃ A e1 e2, Gives 25 #[.complex .f64 a1 a2, .complex .f64 b1 b2] (.tuple #[.float .f64 A, .complex .f64 e1 e2]) ∧ E 0 A (a * d - b * c) 8388608 ∧
      Z 1 e1 e2 (-(d * (a * a + b * b) - b * (c * c + d * d))) (-(c * (a * a + b * b) - a * (c * c + d * d))) 34359738368 := by
  obtain ⟨na, g1, z1⟩ := abs2_e h (by decide) (by decide)
  obtain ⟨s1, s2, g2, z2⟩ := scale_e g z1 (by decide) (by decide)
  obtain ⟨nb, g3, z3⟩ := abs2_e g (by decide) (by decide)
  obtain ⟨t1, t2, g4, z4⟩ := scale_e h z3 (by decide) (by decide)
  obtain ⟨q1, q2, g5, z5⟩ := sub_e z2 z4 (by decide) (by decide)
  obtain ⟨A, g6, z6⟩ := cross_e h g (by decide) (by decide)
  obtain ⟨e1, e2, g7, z7⟩ := scale_e z5.swap e_mhalf (by decide) (by decide)
  exact ⟨A, e1, e2, throughNought_op g1 g2 g3 g4 g5 g6 g7, z6.wide (by decide), (z7.same (by grind) (by grind)).wide (by decide)⟩
end Go.Proofs.Ytlpdmbidjjaeoab
