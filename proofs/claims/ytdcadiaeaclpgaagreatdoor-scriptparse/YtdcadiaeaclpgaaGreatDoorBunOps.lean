/- The program's Add, Sub, Mul of numbers that may be, and of others. -/
import Derived.Test.YtdcadiaeaclpgaaGreatDoorBunAll
import Derived.Test.YtdcadiaeaclpgaaGreatDoorBunPrd
import Derived.Test.YtdcadiaeaclpgaaGreatDoorBunMor
import Derived.Test.YtdcadiaeaclpgaaGreatDoorBunWka
namespace Go.Proofs.YtdcadiaeaclpgaaGreatDoor
open Go.RowKit Go.Lib Go.Sort
theorem XL (n:Bool) (m:ByteArray):(num n m).natAbs=val (bN m):=by cases n<;>simp [num_f,num_t]
theorem num_lt (n:Bool) (m:ByteArray):(num n m).natAbs<256 ^ m.size:=by
 rw [XL]
 have:=Xx (bN m) (Xg m)
 rwa [Ze]at this
theorem may_hd {n:Bool} {m:ByteArray} (h:may n m=true):m.size=0∨(bN m).head?.getD 0≠0:=by
 by_cases h0:m.size=0
 ·exact .inl h0
 ·right
  rw [Yl m (by omega)]
  exact Vk h (by omega)
theorem Zbd {z:Int} {n:Bool} {s:ByteArray} (h:IsZ z n s):s.size=(bl z.natAbs+7) / 8:=by
 rw [←Ze,h.2,Zbp]
end Go.Proofs.YtdcadiaeaclpgaaGreatDoor
