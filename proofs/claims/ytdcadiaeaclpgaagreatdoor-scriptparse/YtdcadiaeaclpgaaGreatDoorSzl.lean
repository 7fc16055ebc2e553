/- Quotients, opposites, magnitudes, roots: of numbers with a bound on their length. -/
import Derived.Test.YtdcadiaeaclpgaaGreatDoorRga
import Derived.Test.YtdcadiaeaclpgaaGreatDoorBunOps
import Derived.Test.YtdcadiaeaclpgaaGreatDoorBunRdn
import Derived.Test.YtdcadiaeaclpgaaGreatDoorBunTtm
import Derived.Test.YtdcadiaeaclpgaaGreatDoorBunWor
import Derived.Test.YtdcadiaeaclpgaaGreatDoorBunPrd
import Derived.Test.YtdcadiaeaclpgaaGreatDoorBunMor
import Derived.Test.YtdcadiaeaclpgaaGreatDoorBunRed
namespace Go.Proofs.YtdcadiaeaclpgaaGreatDoor
open Go.RowKit Go.Lib Go.Sort
set_option linter.unusedVariables false
theorem Sz.nat {k:Nat} {r:Nat} {s:ByteArray} (hs:bN s=magN r) (hr:r<256 ^ k):Sz k (r:Int) false s :=
 ⟨⟨by symm;exact decide_eq_false (by omega),by rw [Int.natAbs_natCast];exact hs⟩,by rw [Int.natAbs_natCast];exact hr⟩
end Go.Proofs.YtdcadiaeaclpgaaGreatDoor
