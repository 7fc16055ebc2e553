/-
  The program's Add, Sub, Mul of numbers that may be, and of others.
  The program's Cmp.
  What the law WholeSums asks beside the numbers: are they long; is an answer the document's.
-/
import Derived.Test.YtdcadiaeaclpgaaGreatDoorBunAll
import Derived.Test.YtdcadiaeaclpgaaGreatDoorBunPrd
import Derived.Test.YtdcadiaeaclpgaaGreatDoorBunMor
import Derived.Test.YtdcadiaeaclpgaaGreatDoorBunWka
namespace Go.Proofs.YtdcadiaeaclpgaaGreatDoor
open Go.RowKit Go.Lib Go.Sort
theorem num_abs (n:Bool) (m:ByteArray):(num n m).natAbs=val (bN m):=by cases n <;> simp [num_f,num_t]
theorem num_lt (n:Bool) (m:ByteArray):(num n m).natAbs < 256 ^ m.size:=by
 rw [num_abs]
 have:=val_lt (bN m) (bN_rng m)
 rwa [bN_length] at this
theorem may_hd {n:Bool} {m:ByteArray} (h:may n m=true):m.size=0∨(bN m).head?.getD 0≠0:=by
 by_cases h0:m.size=0
 ·exact .inl h0
 ·right
  rw [bN_head m (by omega)]
  exact may_head h (by omega)
theorem isZ_size {z:Int} {n:Bool} {s:ByteArray} (h:IsZ z n s):s.size=(bl z.natAbs+7) / 8:=by
 rw [← bN_length,h.2,magN_len]
end Go.Proofs.YtdcadiaeaclpgaaGreatDoor
