/-
  The circle's numbers; its value at a point.
-/
import Derived.Test.YtlpdmbidjjaeoabFcf
namespace Go.Proofs.Ytlpdmbidjjaeoab
open Go.RowKit Go.Lib Go.Sort Ieee
attribute [local go_sem] run_store_float run_store_complex
set_option linter.unusedVariables false

/-- The numbers of the circle through 0, (a, b) and (c, d); the last two by halves. -/
def nA (a b c d : Int) : Int := a * d - b * c
def nE (a b c d : Int) : Int := -(d * (a * a + b * b) - b * (c * c + d * d))
def nF (a b c d : Int) : Int := -(c * (a * a + b * b) - a * (c * c + d * d))
/-- Moved back by (p, q), by halves. -/
def nB (p q a b c d : Int) : Int := nE a b c d - 2 * (p * nA a b c d)
def nD (p q a b c d : Int) : Int := nF a b c d - 2 * (-q * nA a b c d)
def nC (p q a b c d : Int) : Int := 2 * (nA a b c d * (p * p + q * q)) - ((nE a b c d * p - nF a b c d * q) + (nE a b c d * p - nF a b c d * q))
/-- The circle of such numbers. -/
def Circ (p q a b c d : Int) (A B1 B2 C : Nat) : Prop := E 0 A (nA a b c d) 8388608 ∧ Z 1 B1 B2 (nB p q a b c d) (nD p q a b c d) 51539607552 ∧ E 1 C (nC p q a b c d) 175921860444160

theorem circle_e {p1 p2 q1 q2 r1 r2 : Nat} {p q s t u v : Int} (hp : Z 0 p1 p2 p q 1024) (hq : Z 0 q1 q2 s t 1024) (hr : Z 0 r1 r2 u v 1024) :
    ∃ A B1 B2 C, (∀ w, Calls Try.prog 10 #[three p1 p2 q1 q2 r1 r2] w fun e w' => e = .returned (fcirc A B1 B2 C) ∧ w.grownBy w' none) ∧ Circ p q (s - p) (t - q) (u - p) (v - q) A B1 B2 C := by
  obtain ⟨a1, a2, g1, z1⟩ := sub_e hq hp (by decide) (by decide)
  obtain ⟨b1, b2, g2, z2⟩ := sub_e hr hp (by decide) (by decide)
  obtain ⟨A, e1, e2, g3, z3, z4⟩ := throughNought_e (z1.wide (by decide)) (z2.wide (by decide))
  obtain ⟨s1, s2, g4, z5⟩ := scale_e hp.conj z3 (by decide) (by decide)
  obtain ⟨B1, B2, g5, z6⟩ := sub_e z4 z5.up (by decide) (by decide)
  obtain ⟨np, g6, z7⟩ := abs2_e hp (by decide) (by decide)
  obtain ⟨m, g7, z8⟩ := times_e z3 z7 (by decide) (by decide)
  obtain ⟨v1, v2, g8, z9⟩ := mul_e z4 hp (by decide) (by decide)
  obtain ⟨vv, g9, z10⟩ := twice_e v2 z9.1 (by decide) (by decide)
  obtain ⟨C, g10, z11⟩ := z8.up.sub z10 (by decide) (by decide)
  exact ⟨A, B1, B2, C, circle_op hp.2.lt g1 g2 g3 g4 g5 g6 g7 g8 g9 g10, z3, z6.wide (by decide), z11.wide (by decide)⟩

set_option maxHeartbeats 1600000 in
set_option maxRecDepth 1000000 in
theorem value_op {A b1 b2 C x y u m v1 v2 v s r : Nat} (h1 : Gives 15 #[.complex .f64 x y] (.float .f64 u)) (h2 : Gives 14 #[.float .f64 A, .float .f64 u] (.float .f64 m))
    (h3 : Gives 17 #[.complex .f64 b1 b2, .complex .f64 x y] (.complex .f64 v1 v2)) (h4 : Gives 16 #[.complex .f64 v1 v2] (.float .f64 v)) (h5 : double.add m v = some s) (h6 : double.add s C = some r) (w : World) :
    Calls Try.prog 7 #[fcirc A b1 b2 C, .complex .f64 x y] w fun e w' => e = .returned (.float .f64 r) ∧ w.grownBy w' none := by
  have o1 := add_run h5
  have o2 := add_run h6
  clear h5 h6
  go_enter Try.func7, Try.ntmps7
  go_wp2_with fail
  go_region_held3 (fun w' => w'.cell? ⟨w.heap.size, 0, none⟩ = some (Value.float .f64 A) ∧ w'.cell? ⟨w.heap.size, 1, none⟩ = some (Value.complex .f64 b1 b2) ∧ w'.cell? ⟨w.heap.size, 2, none⟩ = some (Value.float .f64 C))
    (first | (go_keep; done) | fail)
    (first
      | (go_at_call 15; refine (h1 _).mono ?_; rintro e w' ⟨rfl, rfl⟩)
      | (go_at_call 14; refine (h2 _).mono ?_; rintro e w' ⟨rfl, rfl⟩)
      | (go_at_call 17; refine (h3 _).mono ?_; rintro e w' ⟨rfl, rfl⟩)
      | (go_at_call 16; refine (h4 _).mono ?_; rintro e w' ⟨rfl, rfl⟩)
      | fail)
  go_wp2_with fail
  go_ret
  exact ⟨rfl, grow_drew (grow1 _ _)⟩

/-- The value at a point, by halves. -/
def nV (p q a b c d x y : Int) : Int := 2 * (nA a b c d * (x * x + y * y)) + ((nB p q a b c d * x - nD p q a b c d * y) + (nB p q a b c d * x - nD p q a b c d * y)) + nC p q a b c d
theorem value_e {p q a b c d m n : Int} {A B1 B2 C x y : Nat} (h : Circ p q a b c d A B1 B2 C) (hz : Z 0 x y m n 1024) :
    ∃ r, (∀ w, Calls Try.prog 7 #[fcirc A B1 B2 C, .complex .f64 x y] w fun e w' => e = .returned (.float .f64 r) ∧ w.grownBy w' none) ∧ (double.order r 0 == some .eq) = decide (nV p q a b c d m n = 0) := by
  obtain ⟨hA, hB, hC⟩ := h
  obtain ⟨u, g1, z1⟩ := abs2_e hz (by decide) (by decide)
  obtain ⟨t, g2, z2⟩ := times_e hA z1 (by decide) (by decide)
  obtain ⟨v1, v2, g3, z3⟩ := mul_e hB hz (by decide) (by decide)
  obtain ⟨v, g4, z4⟩ := twice_e v2 z3.1 (by decide) (by decide)
  obtain ⟨s, g5, z5⟩ := z2.up.add z4 (by decide) (by decide)
  obtain ⟨r, g6, z6⟩ := z5.add hC (by decide) (by decide)
  exact ⟨r, value_op g1 g2 g3 g4 g5 g6, z6.eq e_zero1⟩
theorem nV_p (p q a b c d : Int) : nV p q a b c d p q = 0 := by unfold nV nB nD nC; grind
theorem nV_q (p q a b c d : Int) : nV p q a b c d (p + a) (q + b) = 0 := by unfold nV nB nD nC nE nF nA; grind
theorem nV_r (p q a b c d : Int) : nV p q a b c d (p + c) (q + d) = 0 := by unfold nV nB nD nC nE nF nA; grind
end Go.Proofs.Ytlpdmbidjjaeoab
