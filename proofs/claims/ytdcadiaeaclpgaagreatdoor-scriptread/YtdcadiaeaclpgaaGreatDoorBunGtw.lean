/-
  The program's Gcd of two numbers; the law's ok of some.
  The walk over the law's three: sums and products of three numbers.
-/
import Derived.Test.YtdcadiaeaclpgaaGreatDoorBunGar
import Derived.Test.YtdcadiaeaclpgaaGreatDoorBunOps
import Derived.Test.YtdcadiaeaclpgaaGreatDoorBunRdn
import Derived.Test.YtdcadiaeaclpgaaGreatDoorBunTtm
import Derived.Test.YtdcadiaeaclpgaaGreatDoorBunWor
import Derived.Test.YtdcadiaeaclpgaaGreatDoorBunPrd
import Derived.Test.YtdcadiaeaclpgaaGreatDoorBunMor
import Derived.Test.YtdcadiaeaclpgaaGreatDoorBunRed
import Derived.Test.YtdcadiaeaclpgaaGreatDoorBunGcl
namespace Go.Proofs.YtdcadiaeaclpgaaGreatDoor
open Go.RowKit Go.Lib Go.Sort
set_option linter.unusedVariables false
theorem Sz.nat {k:Nat} {r:Nat} {s:ByteArray} (hs:bN s=magN r) (hr:r < 256 ^ k):Sz k (r:Int) false s :=
 ⟨⟨by symm; exact decide_eq_false (by omega),by rw [Int.natAbs_natCast]; exact hs⟩,by rw [Int.natAbs_natCast]; exact hr⟩
end Go.Proofs.YtdcadiaeaclpgaaGreatDoor
namespace Go.Proofs.YtdcadiaeaclpgaaGreatDoor
open Go.RowKit Go.Lib Go.Sort
set_option linter.unusedVariables false
theorem gcd_two {k:Nat} {x y:Int} {n1 n2:Bool} {s1 s2:ByteArray} (hk:k≤16384) (h1:Sz k x n1 s1) (h2:Sz k y n2 s2) (W:World) (B:Nat) (hB:W.heap[B]?=some (.cells #[.bool n1,.string s1,.bool n2,.string s2] 38 (0,0))) :
    Calls Tryz.prog 141 #[.slice (some ⟨B,0,none⟩) 2 2] W fun e w'=>∃ s,e=.returned (.tuple #[whole false s,.int .i64 0])∧Sz k ((Int.gcd x y:Nat):Int) false s∧W.grownBy w' none:=by
 have m1:=h1.may hk
 have m2:=h2.may hk
 have hD:DW W (.slice (some ⟨B,0,none⟩) 2 2) [(n1,s1),(n2,s2)]:=by
  refine ⟨B,0,2,rfl,by simp,fun j p hp=>?_⟩
  simp only [World.cell?,hB]
  match j,hp with
  |0,hp=>cases hp; exact ⟨rfl,rfl⟩
  |1,hp=>cases hp; exact ⟨rfl,rfl⟩
 refine (gcdL_any W _ _ hD (by simp) (by simp [mayAll,m1,m2])).mono ?_
 rintro e w' ⟨s,rfl,hs,hg⟩
 refine ⟨s,rfl,Sz.nat ?_ (gcd_lt h1.2 h2.2),hg⟩
 rw [hs]
 unfold gcdL Int.gcd
 rw [← h1.num,← h2.num,num_abs,num_abs]
 simp
theorem whole_inj {n n':Bool} {s s':ByteArray} (h:whole n s=whole n' s'):n=n'∧s=s':=by
 cases h; exact ⟨rfl,rfl⟩
end Go.Proofs.YtdcadiaeaclpgaaGreatDoor
