/-
  Read and Text over a text's parts.
-/
import Derived.Test.YtfnminljpifloabCpy
import Derived.Laws.Concat
namespace Go.Proofs.Ytfnminljpifloab
open Go.RowKit Go.Lib Go.Sort Ieee

set_option maxHeartbeats 1600000 in
set_option maxRecDepth 1000000 in
theorem readZ_gen {sZ a b : ByteArray} {x y : Nat} (hc : ∀ w, Calls Try.prog 22 #[.string sZ, .string ⟨#[44]⟩] w fun e w' => e = .returned (.tuple #[.string a, .string b, .bool true]) ∧ w.grownBy w' none)
    (ha : Gives 23 #[.string a] (.tuple #[.float .f64 x, .bool true])) (hb : Gives 23 #[.string b] (.tuple #[.float .f64 y, .bool true])) (w : World) :
    Calls Try.prog 10 #[.string sZ] w fun e w' => e = .returned (.tuple #[.complex .f64 x y, .int .i64 0]) ∧ w.grownBy w' none := by
  go_enter Try.func10, Try.ntmps10
  go_wp2_with fail
  refine (hc _).mono ?_
  rintro e w1 ⟨rfl, hg⟩
  have HG : Hid (w.grownBy w1 none) := hg
  clear hg
  go_wp2_with fail
  refine (ha _).mono ?_
  rintro e w2 ⟨rfl, rfl⟩
  go_wp2_with fail
  refine (hb _).mono ?_
  rintro e w2 ⟨rfl, rfl⟩
  go_wp2_with fail
  go_ret2
  exact ⟨rfl, HG.out⟩
set_option maxHeartbeats 1600000 in
set_option maxRecDepth 1000000 in
theorem textZ_gen {x y : Nat} {sA sB : ByteArray} (h1 : sA.size ≤ 100) (h2 : sB.size ≤ 100) (hA : ∀ w, Calls Try.prog 26 #[.float .f64 x] w fun e w' => e = .returned (.string sA) ∧ w.grownBy w' none) (hB : ∀ w, Calls Try.prog 26 #[.float .f64 y] w fun e w' => e = .returned (.string sB) ∧ w.grownBy w' none) (w : World) :
    Calls Try.prog 12 #[.complex .f64 x y] w fun e w' => e = .returned (.string (sA ++ ⟨#[44]⟩ ++ sB)) ∧ w.grownBy w' none := by
  have i1 : (sA.size : Int) ≤ 8388608 := by omega
  have i2 : (sB.size : Int) ≤ 8388608 := by omega
  have i3 : ((sA ++ ⟨#[44]⟩ : ByteArray).size : Int) ≤ 8388608 := by
    have e : (sA ++ ⟨#[44]⟩ : ByteArray).size = sA.size + 1 := ByteArray.size_append
    omega
  go_enter Try.func12, Try.ntmps12
  go_wp2_with fail
  refine (hA _).mono ?_
  rintro e w1 ⟨rfl, hg⟩
  have HG : Hid (w.grownBy w1 none) := hg
  clear hg
  go_wp2_with fail
  refine (hB _).mono ?_
  rintro e w2 ⟨rfl, hg⟩
  have HG2 : Hid (w.grownBy w2 none) := grownBy_trans HG.out hg
  clear hg
  go_wp2_with fail
  go_ret
  exact ⟨rfl, HG2.out⟩
end Go.Proofs.Ytfnminljpifloab
