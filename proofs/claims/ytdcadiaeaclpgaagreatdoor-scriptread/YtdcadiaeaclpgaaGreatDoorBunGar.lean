/-
  What WholeDivides wants of numbers: greatest divisors, and their quotients.
  Fractions in lowest terms, over Int.
-/
import Derived.Test.YtdcadiaeaclpgaaGreatDoorBunRdn
import Derived.Test.YtdcadiaeaclpgaaGreatDoorBunOps
import Derived.Test.YtdcadiaeaclpgaaGreatDoorBunWka
namespace Go.Proofs.YtdcadiaeaclpgaaGreatDoor
open Go.RowKit Go.Lib Go.Sort
theorem val_magN (n:Nat):val (magN n)=n:=by
 induction n using Nat.strongRecOn with
 |ind n ih =>
  rcases Nat.eq_zero_or_pos n with rfl | hp
  ·rw [magN_zero]; rfl
  ·rw [magN_pos hp,val_snoc,ih (n / 256) (by omega)]
   omega
theorem IsZ.num {z:Int} {n:Bool} {s:ByteArray} (h:IsZ z n s):num n s=z:=by
 have hv:val (bN s)=z.natAbs:=by rw [h.2,val_magN]
 rw [h.1]
 by_cases hz:z < 0
 ·rw [decide_eq_true hz,num_t,hv]; omega
 ·rw [decide_eq_false hz,num_f,hv]; omega
theorem magN_hd:∀ n:Nat,0 < n→(magN n).head?.getD 0≠0:=by
 intro n
 induction n using Nat.strongRecOn with
 |ind n ih =>
  intro hp
  rw [magN_pos hp]
  rcases Nat.eq_zero_or_pos (n / 256) with h0 | h0
  ·rw [h0,magN_zero]
   simp
   omega
  ·have h1:=ih (n / 256) (by omega) h0
   cases hm:magN (n / 256) with
   |nil=>rw [hm] at h1; simp at h1
   |cons a l=>rw [hm] at h1; simpa using h1
theorem IsZ.may {z:Int} {n:Bool} {s:ByteArray} (h:IsZ z n s) (hb:bl z.natAbs≤131072):may n s=true:=by
 have hs:s.size=(bl z.natAbs+7) / 8:=by rw [← bN_length,h.2,magN_len]
 unfold Go.Proofs.YtdcadiaeaclpgaaGreatDoor.may
 by_cases h0:s.size=0
 ·rw [if_pos h0,h.1]
  have hz:z.natAbs=0:=by
   refine Nat.eq_zero_of_not_pos fun hp=>?_
   obtain ⟨k,hk⟩:=bl_pos hp
   omega
  have:¬ z < 0:=by omega
  simp [this]
 ·rw [if_neg h0]
  have hz:0 < z.natAbs:=by
   refine Nat.pos_of_ne_zero fun e=>?_
   rw [e,bl_zero] at hs
   omega
  have:=magN_hd _ hz
  rw [← h.2] at this
  have h2:s.size≤16384:=by omega
  simp [h2,this]
theorem may_isz {n:Bool} {m:ByteArray} (h:may n m=true):IsZ (num n m) n m:=by
 have hb:bN m=magN (val (bN m)):=by
  refine (magN_of _ (bN_rng m) ?_).symm
  rcases may_hd h with h0 | h0
  ·left; exact List.length_eq_zero_iff.1 (by rw [bN_length]; exact h0)
  ·right; exact h0
 refine ⟨?_,by rw [num_abs]; exact hb⟩
 cases n
 ·rw [num_f]; symm; exact decide_eq_false (by omega)
 ·have h0:m.size≠0:=fun e=>by rw [empty_of_size e] at h; exact absurd (may_empty h) (by decide)
  have:=val_pos h h0
  rw [num_t]; symm; exact decide_eq_true (by omega)
def Sz (k:Nat) (z:Int) (n:Bool) (s:ByteArray):Prop:=IsZ z n s∧z.natAbs < 256 ^ k
theorem pow256 (k:Nat):256 ^ k=2 ^ (8*k):=by rw [show (256:Nat)=2 ^ 8 from rfl,← Nat.pow_mul]
theorem Sz.bl {k:Nat} {z:Int} {n:Bool} {s:ByteArray} (h:Sz k z n s):bl z.natAbs≤8*k:=bl_le (by rw [← pow256]; exact h.2)
theorem Sz.may {k:Nat} {z:Int} {n:Bool} {s:ByteArray} (h:Sz k z n s) (hk:k≤16384):may n s=true:=h.1.may (by have:=h.bl; omega)
theorem Sz.num {k:Nat} {z:Int} {n:Bool} {s:ByteArray} (h:Sz k z n s):num n s=z:=h.1.num
theorem Sz.one {k k':Nat} {z z':Int} {n n':Bool} {s s':ByteArray} (h:Sz k z n s) (h':Sz k' z' n' s') (e:z=z'):whole n s=whole n' s':=by subst e; exact h.1.one h'.1
theorem may_sz {n:Bool} {m:ByteArray} {k:Nat} (h:may n m=true) (hk:m.size≤k):Sz k (Go.Proofs.YtdcadiaeaclpgaaGreatDoor.num n m) n m :=
 ⟨may_isz h,Nat.lt_of_lt_of_le (num_lt n m) (Nat.pow_le_pow_right (by decide) hk)⟩
theorem TextOf.size {z:Int} {s:ByteArray} (h:TextOf z s):s.size≤bl z.natAbs+2:=by
 obtain ⟨⟨⟨hd,h0,hh⟩,_⟩,hz⟩:=h
 have hb:s.size≤(bare s).size+1:=by
  unfold bare
  split <;> simp <;> omega
 have hv:dec (bN (bare s))=z.natAbs:=by
  unfold textZ at hz
  split at hz <;> omega
 rcases hh with h1 | h1
 ·omega
 ·have hne:bN (bare s)≠[]:=fun e=>h0 (by rw [← bN_length,e]; rfl)
  have hl:=dec_low hd hne h1
  rw [hv,bN_length] at hl
  have h2:2 ^ ((bare s).size - 1)≤z.natAbs:=Nat.le_trans (Nat.pow_le_pow_left (by decide) _) hl
  have h3:=Nat.lt_of_le_of_lt h2 (lt_bl z.natAbs)
  have h4:=(Nat.pow_lt_pow_iff_right (by decide:1 < 2)).1 h3
  omega
theorem text_sz {k : Nat} {x : Int} {n : Bool} {m : ByteArray} (hk : k ≤ 400) (h : Sz k x n m) (w : World) (htab : Lib.TabIs Tryz.prog w "internal/strconv.uint64pow10" .u64 Lib.pow10Tab) :
    Calls Tryz.prog 132 #[whole n m] w fun e w'=>∃ s,e=.returned (.tuple #[.string s,.int .i64 0])∧TextOf x s∧s.size≤40000∧w.grownBy w' none:=by
 refine (text_yes n m (h.may (by omega)) w htab).mono ?_
 rw [h.num]
 rintro e w' ⟨s,rfl,ht,hg⟩
 refine ⟨s,rfl,ht,?_,hg⟩
 have h1:=ht.size
 have h2:=h.bl
 omega
end Go.Proofs.YtdcadiaeaclpgaaGreatDoor
namespace Go.Proofs.YtdcadiaeaclpgaaGreatDoor
open Go.RowKit Go.Lib Go.Sort
set_option linter.unusedVariables false
theorem gcd_lt {x y:Int} {k:Nat} (h1:x.natAbs < 256 ^ k) (h2:y.natAbs < 256 ^ k):Int.gcd x y < 256 ^ k:=by
 unfold Int.gcd
 rcases Nat.eq_zero_or_pos y.natAbs with h | h
 ·rw [h,Nat.gcd_zero_right]; exact h1
 ·exact Nat.lt_of_le_of_lt (Nat.le_of_dvd h (Nat.gcd_dvd_right _ _)) h2
def rby (x y:Int):Int:=if y < 0 then -((Int.gcd x y:Nat):Int) else ((Int.gcd x y:Nat):Int)
def rd (x y:Int):Int:=y / rby x y
end Go.Proofs.YtdcadiaeaclpgaaGreatDoor
