/-
  The nearest whole number: frac's and the document's are one.
-/
import Derived.Deep.CutRange
import Derived.Test.YtdfliaogmlpefaaGreatDoorFrj
import Derived.Test.YtdfliaogmlpefaaGreatDoorBunFre
import Derived.Test.YtdfliaogmlpefaaGreatDoorFrk
import Derived.Laws.CopyOwn
import Derived.Test.YtdfliaogmlpefaaGreatDoorBunRed
import Derived.Test.YtdfliaogmlpefaaGreatDoorBunPrd
import Derived.Test.YtdfliaogmlpefaaGreatDoorBunShd
import Derived.Test.YtdfliaogmlpefaaGreatDoorBunTtm
import Derived.Test.YtdfliaogmlpefaaGreatDoorBunShf
import Derived.Test.YtdfliaogmlpefaaGreatDoorBunAll
import Derived.Test.YtdfliaogmlpefaaGreatDoorBunDva
import Derived.Test.YtdfliaogmlpefaaGreatDoorBunPrg
import Derived.Test.YtdfliaogmlpefaaGreatDoorFru
import Derived.Test.YtdfliaogmlpefaaGreatDoorBunFrz
import Derived.Test.YtdfliaogmlpefaaGreatDoorBunGar
import Derived.Test.YtdfliaogmlpefaaGreatDoorRga
import Derived.Deep.RegionWith
namespace Go.Proofs.YtdfliaogmlpefaaGreatDoor
open Go.RowKit Go.Lib Go.Sort
set_option linter.unusedVariables false
theorem divr_is {k l : Nat} {x y : Int} {n1 n2 b b' : Bool} {m1 m2 s s' : ByteArray} (hk : k ≤ 16384) (hl : l ≤ 16384) (hy : y ≠ 0) (h1 : Sz k x n1 m1) (h2 : Sz l y n2 m2) (hq : IsZ (x / y) b s) (hr : IsZ (x % y) b' s') (w : World) :
    Calls Tryz.prog 55 #[whole n1 m1, whole n2 m2] w fun e w' => e = .returned (.tuple #[whole b s, whole b' s', .int .i64 0]) ∧ w.grownBy w' none := by
  refine (div_sz hk hl hy h1 h2 w).mono ?_
  rintro e w' ⟨c, t, c', t', rfl, k1, k2, hg⟩
  obtain ⟨rfl, rfl⟩ := whole_inj (k1.1.one hq)
  obtain ⟨rfl, rfl⟩ := whole_inj (k2.1.one hr)
  exact ⟨rfl, hg⟩
end Go.Proofs.YtdfliaogmlpefaaGreatDoor
