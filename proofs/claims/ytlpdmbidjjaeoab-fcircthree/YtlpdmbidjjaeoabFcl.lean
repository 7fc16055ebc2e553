/-
  The program's small functions over words that stand for whole numbers over a power of two.
-/
import Derived.Test.YtlpdmbidjjaeoabHfa
namespace Go.Proofs.Ytlpdmbidjjaeoab
open Go.RowKit Go.Lib Ieee
attribute [local go_sem] extBits extFrom

/-- A call that answers one value and leaves the world as it is. -/
abbrev Gives (f : Nat) (args : Array Value) (v : Value) : Prop := ∀ w, Calls Try.prog f args w fun e w' => e = .returned v ∧ w' = w
/-- A complex number of two such words. -/
def Z (s : Nat) (x y : Nat) (a b : Int) (k : Nat) : Prop := E s x a k ∧ E s y b k

theorem mul_run {x y r : Nat} (h : double.mul x y = some r) : ∀ t w, (binOp .mul t (.float .f64 x) (.float .f64 y)).run Try.prog w = .ok (.float .f64 r) w := fun t w => run_float_arith w .mul t .f64 _ _ _ h
theorem add_run {x y r : Nat} (h : double.add x y = some r) : ∀ t w, (binOp .add t (.float .f64 x) (.float .f64 y)).run Try.prog w = .ok (.float .f64 r) w := fun t w => run_float_arith w .add t .f64 _ _ _ h
theorem sub_run {x y r : Nat} (h : double.sub x y = some r) : ∀ t w, (binOp .sub t (.float .f64 x) (.float .f64 y)).run Try.prog w = .ok (.float .f64 r) w := fun t w => run_float_arith w .sub t .f64 _ _ _ h

theorem turned_any (x : Nat) (h : x < 2 ^ 64) : Gives 33 #[.float .f64 x] (.float .f64 (flip x)) := by
  intro w
  go_enter Try.func33, Try.ntmps33
  go_wp2
  go_ret
  refine ⟨?_, rfl⟩
  show Ending.returned (.float .f64 (bits .xor .u64 (x : Int) 9223372036854775808).toNat) = _
  rw [show (9223372036854775808 : Int) = ((2 ^ 63 : Nat) : Int) by rfl, u64_xor_nat x _ h (by decide), Int.toNat_natCast]
  rfl
theorem times_op {x y r : Nat} (h : double.mul x y = some r) : Gives 14 #[.float .f64 x, .float .f64 y] (.float .f64 r) := by
  intro w
  have o1 := mul_run h
  clear h
  go_enter Try.func14, Try.ntmps14
  go_wp2_with fail
  go_ret
  exact ⟨rfl, rfl⟩
theorem twice_op {x y r : Nat} (h : double.add x x = some r) : Gives 16 #[.complex .f64 x y] (.float .f64 r) := by
  intro w
  have o1 := add_run h
  clear h
  go_enter Try.func16, Try.ntmps16
  go_wp2_with fail
  go_ret
  exact ⟨rfl, rfl⟩
theorem of_any (x y : Nat) : Gives 28 #[.float .f64 x, .float .f64 y] (.complex .f64 x y) := by
  intro w
  go_enter Try.func28, Try.ntmps28
  go_wp2_with fail
  go_ret
  exact ⟨rfl, rfl⟩
theorem neg_any (x y : Nat) (hx : x < 2 ^ 64) (hy : y < 2 ^ 64) : Gives 19 #[.complex .f64 x y] (.complex .f64 (flip x) (flip y)) := by
  intro w
  go_enter Try.func19, Try.ntmps19
  go_wp2_with fail
  refine (turned_any x hx _).mono ?_
  rintro e w' ⟨rfl, rfl⟩
  go_wp2_with fail
  refine (turned_any y hy _).mono ?_
  rintro e w' ⟨rfl, rfl⟩
  go_wp2_with fail
  go_ret
  exact ⟨rfl, rfl⟩
theorem conj_any (x y : Nat) (hy : y < 2 ^ 64) : Gives 18 #[.complex .f64 x y] (.complex .f64 x (flip y)) := by
  intro w
  go_enter Try.func18, Try.ntmps18
  go_wp2_with fail
  refine (turned_any y hy _).mono ?_
  rintro e w' ⟨rfl, rfl⟩
  go_wp2_with fail
  go_ret
  exact ⟨rfl, rfl⟩
set_option maxHeartbeats 1600000 in
theorem add_op {x y c d r1 r2 : Nat} (h1 : double.add x c = some r1) (h2 : double.add y d = some r2) : Gives 22 #[.complex .f64 x y, .complex .f64 c d] (.complex .f64 r1 r2) := by
  intro w
  have o1 := add_run h1
  have o2 := add_run h2
  clear h1 h2
  go_enter Try.func22, Try.ntmps22
  go_wp2_with fail
  go_ret
  exact ⟨rfl, rfl⟩
set_option maxHeartbeats 1600000 in
theorem sub_op {x y c d r1 r2 : Nat} (h1 : double.sub x c = some r1) (h2 : double.sub y d = some r2) : Gives 26 #[.complex .f64 x y, .complex .f64 c d] (.complex .f64 r1 r2) := by
  intro w
  have o1 := sub_run h1
  have o2 := sub_run h2
  clear h1 h2
  go_enter Try.func26, Try.ntmps26
  go_wp2_with fail
  go_ret
  exact ⟨rfl, rfl⟩
set_option maxHeartbeats 1600000 in
theorem scale_op {x y c r1 r2 : Nat} (h1 : double.mul x c = some r1) (h2 : double.mul y c = some r2) : Gives 23 #[.complex .f64 x y, .float .f64 c] (.complex .f64 r1 r2) := by
  intro w
  have o1 := mul_run h1
  have o2 := mul_run h2
  clear h1 h2
  go_enter Try.func23, Try.ntmps23
  go_wp2_with fail
  go_ret
  exact ⟨rfl, rfl⟩
set_option maxHeartbeats 1600000 in
theorem dot_op {x y c d p q r : Nat} (h1 : double.mul x c = some p) (h2 : double.mul y d = some q) (h3 : double.add p q = some r) : Gives 32 #[.complex .f64 x y, .complex .f64 c d] (.float .f64 r) := by
  intro w
  have o1 := mul_run h1
  have o2 := mul_run h2
  have o3 := add_run h3
  clear h1 h2 h3
  go_enter Try.func32, Try.ntmps32
  go_wp2_with fail
  go_ret
  exact ⟨rfl, rfl⟩
set_option maxHeartbeats 1600000 in
theorem cross_op {x y c d p q r : Nat} (h1 : double.mul x d = some p) (h2 : double.mul y c = some q) (h3 : double.sub p q = some r) : Gives 35 #[.complex .f64 x y, .complex .f64 c d] (.float .f64 r) := by
  intro w
  have o1 := mul_run h1
  have o2 := mul_run h2
  have o3 := sub_run h3
  clear h1 h2 h3
  go_enter Try.func35, Try.ntmps35
  go_wp2_with fail
  go_ret
  exact ⟨rfl, rfl⟩
theorem abs2_op {x y r : Nat} (h : Gives 32 #[.complex .f64 x y, .complex .f64 x y] (.float .f64 r)) : Gives 15 #[.complex .f64 x y] (.float .f64 r) := by
  intro w
  go_enter Try.func15, Try.ntmps15
  go_wp2_with fail
  refine (h _).mono ?_
  rintro e w' ⟨rfl, rfl⟩
  go_wp2_with fail
  go_ret
  exact ⟨rfl, rfl⟩
set_option maxHeartbeats 1600000 in
set_option maxRecDepth 1000000 in
theorem mulZ_op {x y c d p1 p2 p3 p4 r1 r2 : Nat} (h1 : double.mul x c = some p1) (h2 : double.mul y d = some p2) (h3 : double.sub p1 p2 = some r1) (h4 : double.mul x d = some p3) (h5 : double.mul y c = some p4) (h6 : double.add p3 p4 = some r2) :
    Gives 17 #[.complex .f64 x y, .complex .f64 c d] (.complex .f64 r1 r2) := by
  intro w
  have o1 := mul_run h1
  have o2 := mul_run h2
  have o3 := sub_run h3
  have o4 := mul_run h4
  have o5 := mul_run h5
  have o6 := add_run h6
  clear h1 h2 h3 h4 h5 h6
  go_enter Try.func17, Try.ntmps17
  go_wp2_with fail
  go_ret
  exact ⟨rfl, rfl⟩
theorem ofThree_op {b1 b2 x1 x2 y1 y2 p1 p2 r1 r2 : Nat} (hy : y2 < 2 ^ 64) (h1 : Gives 17 #[.complex .f64 b1 b2, .complex .f64 x1 x2] (.complex .f64 p1 p2)) (h2 : Gives 17 #[.complex .f64 p1 p2, .complex .f64 y1 (flip y2)] (.complex .f64 r1 r2)) :
    Gives 21 #[.complex .f64 b1 b2, .complex .f64 x1 x2, .complex .f64 y1 y2] (.complex .f64 r1 r2) := by
  intro w
  go_enter Try.func21, Try.ntmps21
  go_wp2_with fail
  refine (h1 _).mono ?_
  rintro e w' ⟨rfl, rfl⟩
  go_wp2_with fail
  refine (conj_any y1 y2 hy _).mono ?_
  rintro e w' ⟨rfl, rfl⟩
  go_wp2_with fail
  refine (h2 _).mono ?_
  rintro e w' ⟨rfl, rfl⟩
  go_wp2_with fail
  go_ret
  exact ⟨rfl, rfl⟩
end Go.Proofs.Ytlpdmbidjjaeoab
