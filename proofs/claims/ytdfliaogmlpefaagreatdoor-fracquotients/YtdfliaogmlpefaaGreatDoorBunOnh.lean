/-
  The nearest whole number: frac's and the document's are one.
  The document's nearest whole number.
-/
import Derived.Deep.CutRange
import Derived.Test.YtdfliaogmlpefaaGreatDoorFrj
import Derived.Test.YtdfliaogmlpefaaGreatDoorBunOna
import Derived.Test.YtdfliaogmlpefaaGreatDoorBunFrz
import Derived.Test.YtdfliaogmlpefaaGreatDoorRue
import Derived.Test.YtdfliaogmlpefaaGreatDoorRdo
import Derived.Test.YtdfliaogmlpefaaGreatDoorRdq
namespace Go.Proofs.YtdfliaogmlpefaaGreatDoor
open Go.RowKit Go.Lib Go.Sort
set_option linter.unusedVariables false
theorem rdm_is {k l : Nat} {x y : Int} {n1 n2 b b' : Bool} {m1 m2 s s' : ByteArray} (hk : k ≤ 16384) (hl : l ≤ 16384) (hy : y ≠ 0) (h1 : Sz k x n1 m1) (h2 : Sz l y n2 m2) (hq : IsZ (x / y) b s) (hr : IsZ (x % y) b' s') (w : World) :
    Calls Tryz.prog 69 #[whole n1 m1, whole n2 m2] w fun e w' => e = .returned (.tuple #[whole b s, whole b' s']) ∧ w.grownBy w' none := by
  have m1' := h1.may hk
  have m2' := h2.may hl
  have h0 := h2.size0 hl hy
  have key : Calls Tryz.prog 69 #[whole n1 m1, whole n2 m2] w (DmR (num n1 m1) (num n2 m2) w) := by
    cases n1
    · exact rDivMod_pos n2 m1 m2 m1' m2' h0 w
    · by_cases hfl : val (bN m1) % val (bN m2) = 0
      · exact rDivMod_flat n2 m1 m2 m1' m2' h0 hfl w
      · cases n2
        · exact rDivMod_negpos m1 m2 m1' m2' h0 hfl w
        · exact rDivMod_negneg m1 m2 m1' m2' h0 hfl w
  refine key.mono ?_
  rw [h1.num, h2.num]
  rintro e w' ⟨c, t, c', t', rfl, k1, k2, hg⟩
  obtain ⟨rfl, rfl⟩ := whole_inj (k1.one hq)
  obtain ⟨rfl, rfl⟩ := whole_inj (k2.one hr)
  exact ⟨rfl, hg⟩
theorem divr_is {k l : Nat} {x y : Int} {n1 n2 b b' : Bool} {m1 m2 s s' : ByteArray} (hk : k ≤ 16384) (hl : l ≤ 16384) (hy : y ≠ 0) (h1 : Sz k x n1 m1) (h2 : Sz l y n2 m2) (hq : IsZ (x / y) b s) (hr : IsZ (x % y) b' s') (w : World) :
    Calls Tryz.prog 55 #[whole n1 m1, whole n2 m2] w fun e w' => e = .returned (.tuple #[whole b s, whole b' s', .int .i64 0]) ∧ w.grownBy w' none := by
  refine (div_sz hk hl hy h1 h2 w).mono ?_
  rintro e w' ⟨c, t, c', t', rfl, k1, k2, hg⟩
  obtain ⟨rfl, rfl⟩ := whole_inj (k1.1.one hq)
  obtain ⟨rfl, rfl⟩ := whole_inj (k2.1.one hr)
  exact ⟨rfl, hg⟩
theorem one_sz : Sz 1 1 false oneS := byte_z 1 (by decide)
theorem rfloor_any {x y : Int} {n d fn : Bool} {s t fs : ByteArray} (h : IsQ x y n s d t) (hF : IsZ (x / y) fn fs) (w : World) :
    Calls Tryz.prog 26 #[frac n s d t] w fun e w' => e = .returned (whole fn fs) ∧ w.grownBy w' none := by
  obtain ⟨rn0, rs0, zr⟩ := isz_ex (x % y)
  exact rfloor_by n d fn rn0 s t fs rs0 (fun w => rdm_is (by decide) (by decide) (Int.ne_of_gt h.pos) h.zn h.zd hF zr w) w
theorem sgn_of {k : Nat} {z : Int} {n : Bool} {s : ByteArray} (hk : k ≤ 16384) (h : Sz k z n s) : sgn n s = cmpZ z 0 := by
  rw [sgn_cmp (h.may hk), h.num]
end Go.Proofs.YtdfliaogmlpefaaGreatDoor
