/- The program's word, of at most two digits, and digitsOfWord. -/
import Derived.Test.YtdcadiaeaclpgaaGreatDoorBunAll
import Derived.Laws.BitsAllLaws
import Derived.Test.YtdcadiaeaclpgaaGreatDoorBunRed
import Derived.Test.YtdcadiaeaclpgaaGreatDoorBunMor
import Derived.Test.YtdcadiaeaclpgaaGreatDoorBunTtm
import Derived.Test.YtdcadiaeaclpgaaGreatDoorBunChk
import Derived.Test.YtdcadiaeaclpgaaGreatDoorBunPrd
namespace Go.Proofs.YtdcadiaeaclpgaaGreatDoor
open Go.RowKit Go.Lib Go.Sort
set_option maxHeartbeats 1600000
set_option maxRecDepth 1000000
theorem or_high (a b:Nat) (ha:a<4294967296) (hb:b<4294967296):bits .or .u64 (a:Int) ((b:Int)*4294967296)=((a+4294967296*b:Nat):Int):=by
 rw [show(b:Int)*4294967296=((b*4294967296:Nat):Int)by omega,u64_or_nat a _ (by omega) (by omega),Nat.or_comm,Nat.mul_comm b,show(4294967296:Nat)=2 ^ 32 by decide,←Nat.two_pow_add_eq_or_of_lt (i:=32) (by omega),Nat.add_comm]
theorem Zcd (w:World) (v:Value) (a b:Nat) (h:D4 w v [a,b]) (ha:a<4294967296) (hb:b<4294967296) :
    Calls Tryz.prog 214 #[v,.int .i64 0] w fun e w'=>e=.returned (.int .u64 ((a+4294967296*b:Nat):Int))∧w'=w:=by
 rcases h with ⟨rfl,h⟩|⟨B,off,c,rfl,hc,h⟩
 ·cases h
 ·have h0:=h 0 (by simp)
  have h1:=h 1 (by simp)
  have ho:=or_high a b ha hb
  simp at h0 h1 hc
  have haI:(a:Int)≤4294967295:=by omega
  have hbI:(b:Int)≤4294967295:=by omega
  have hcI:(2:Int)≤(c:Int):=by omega
  clear h
  simp only [List.length_cons,List.length_nil]
  go_enter Tryz.func214,Tryz.ntmps214
  go_wp2_with fail
  go_ret
  refine⟨?_,rfl⟩
  show Ending.returned (.int .u64 ((a:Int)+4294967296*(b:Int)))=_
  rw [show(a:Int)+4294967296*(b:Int)=((a+4294967296*b:Nat):Int)by omega]
theorem Zch (w:World) (v:Value) (a:Nat) (h:D4 w v [a]) (ha:a<4294967296) :
    Calls Tryz.prog 214 #[v,.int .i64 0] w fun e w'=>e=.returned (.int .u64 (a:Int))∧w'=w:=by
 rcases h with ⟨rfl,h⟩|⟨B,off,c,rfl,hc,h⟩
 ·cases h
 ·have h0:=h 0 (by simp)
  simp at h0 hc
  have haI:(a:Int)≤4294967295:=by omega
  have hcI:(1:Int)≤(c:Int):=by omega
  clear h
  simp only [List.length_cons,List.length_nil]
  go_enter Tryz.func214,Tryz.ntmps214
  go_wp2_with fail
  go_ret
  exact⟨rfl,rfl⟩
theorem Vn (w:World) (v:Value) (L:List Nat) (h:D4 w v L) (hr:∀x∈L,x<B32) (hl:L.length≤2) :
    Calls Tryz.prog 203 #[v] w fun e w'=>e=.returned (.int .u64 ((nv B32 L:Nat):Int))∧w'=w:=by
 match L,hl with
 |[],_ =>
  obtain⟨aa,ca,rfl⟩:=h.slice
  simp only [List.length_nil]
  clear h
  go_enter Tryz.func203,Tryz.ntmps203
  go_wp2_with fail
  go_ret
  exact⟨rfl,rfl⟩
 |[a],_ =>
  have hc:=Zch w v a h (hr a (by simp))
  obtain⟨aa,ca,rfl⟩:=h.slice
  have HV:Hid (nv B32 [a]=a):=(by simp [nv]:nv B32 [a]=a)
  simp only [List.length_cons,List.length_nil]at hc ⊢
  clear h hr
  go_enter Tryz.func203,Tryz.ntmps203
  go_wp2_with fail
  refine hc.mono ?_
  rintro e w' ⟨rfl,rfl⟩
  go_wp2_with fail
  go_ret
  exact⟨by rw [HV.out];rfl,rfl⟩
 |[a,b],_ =>
  have hc:=Zcd w v a b h (hr a (by simp)) (hr b (by simp))
  obtain⟨aa,ca,rfl⟩:=h.slice
  have HV:Hid (nv B32 [a,b]=a+4294967296*b):=(by simp [nv,B32]:nv B32 [a,b]=a+4294967296*b)
  simp only [List.length_cons,List.length_nil]at hc ⊢
  clear h hr
  go_enter Tryz.func203,Tryz.ntmps203
  go_wp2_with fail
  refine hc.mono ?_
  rintro e w' ⟨rfl,rfl⟩
  go_wp2_with fail
  go_ret
  exact⟨by rw [HV.out];rfl,rfl⟩
theorem YR (n:Nat) (hn:n<18446744073709551616) (w:World) :
    Calls Tryz.prog 202 #[.int .u64 (n:Int)] w fun e w'=>∃v K,e=.returned v∧Row w' w.heap.size v K∧(∀x∈K,x<B32)∧nv B32 K=n∧Trim K∧K.length≤2∧w.grownBy w' none:=by
 have hnI:(n:Int)≤18446744073709551615:=by omega
 obtain⟨a,ha⟩:∃a,n % 4294967296=a:=⟨_,rfl⟩
 obtain⟨b,hb⟩:∃b,n / 4294967296=b:=⟨_,rfl⟩
 have haI:(n:Int) % 4294967296=(a:Int):=by omega
 have hbI:(n:Int) / 4294967296=(b:Int):=by omega
 have HV:Hid (nv B32 [a,b]=n∧a<B32∧b<B32):=by
  refine(⟨?_,?_,?_⟩:nv B32 [a,b]=n∧a<B32∧b<B32)
  ·simp [nv,B32];omega
  ·unfold B32;omega
  ·unfold B32;omega
 have HR:Hid (Calls Tryz.prog 154 #[.slice (some ⟨w.heap.size,0,none⟩) 2 2] (w.alloc (.cells #[.int .u32 (a:Int),.int .u32 (b:Int)] 145)) fun e w'=>∃v' k,e=.returned v'∧k≤2∧Row (w.alloc (.cells #[.int .u32 (a:Int),.int .u32 (b:Int)] 145)) w.heap.size v' ([a,b].take k)∧nv B32 ([a,b].take k)=nv B32 [a,b]∧Trim ([a,b].take k)∧w'=w.alloc (.cells #[.int .u32 (a:Int),.int .u32 (b:Int)] 145)):=by
  have hB:BlkL (w.alloc (.cells #[.int .u32 (a:Int),.int .u32 (b:Int)] 145)) w.heap.size 145 enc4 (ints [a,b]):=heap_alloc_new _ _
  have hrow:=hB.row (Nat.le_refl _) (by unfold maxLen;simp)
  refine(Yj _ _ _ [a,b] hrow (by simp)).mono ?_
  rintro e w' ⟨v',k,rfl,h1,h2,h3,h4,_,rfl⟩
  exact⟨v',k,rfl,by simpa using h1,h2,h3,h4,rfl⟩
 clear ha hb hn
 go_enter Tryz.func202,Tryz.ntmps202
 go_wp2_with fail
 refine HR.out.mono ?_
 rintro e w' ⟨v',k,rfl,h1,h2,h3,h4,rfl⟩
 have HE:Hid (Row (w.alloc (.cells #[.int .u32 (a:Int),.int .u32 (b:Int)] 145)) w.heap.size v' ([a,b].take k)∧nv B32 ([a,b].take k)=nv B32 [a,b]∧Trim ([a,b].take k)):=⟨h2,h3,h4⟩
 clear h1 h2 h3 h4 HR
 go_wp2_with fail
 go_ret
 refine⟨v',_,rfl,HE.out.1,fun x hx=>?_,HE.out.2.1.trans HV.out.1,HE.out.2.2,?_,grow1 _ _⟩
 ·have:=List.mem_of_mem_take hx
  simp at this
  rcases this with rfl|rfl
  ·exact HV.out.2.1
  ·exact HV.out.2.2
 ·rw [List.length_take];simp;omega
end Go.Proofs.YtdcadiaeaclpgaaGreatDoor
namespace Go.Proofs.YtdcadiaeaclpgaaGreatDoor
open Go.RowKit Go.Lib Go.Sort
set_option linter.unusedVariables false
set_option maxHeartbeats 1600000
set_option maxRecDepth 1000000
theorem Ze3 (B:Nat) (L:List Nat) (k:Nat) (hB:0<B) (hr:∀x∈L,x<B) (hk:k≤L.length):nv B L / B ^ k=nv B (L.drop k):=by
 have e:nv B L=nv B (L.take k)+B ^ k*nv B (L.drop k):=by
  conv=>lhs;rw [←List.take_append_drop k L]
  rw [ZE,List.length_take,Nat.min_eq_left hk]
 have h1:nv B (L.take k)<B ^ k:=by
  have:=nv_lt B (L.take k) (fun x hx=>hr x (List.mem_of_mem_take hx))
  rwa [List.length_take,Nat.min_eq_left hk]at this
 rw [e,Nat.add_mul_div_left _ _ (Nat.pow_pos hB),Nat.div_eq_of_lt h1,Nat.zero_add]
theorem Xa (L:List Nat) (k:Nat) (h:k<L.length):L.drop k=L[k]?.getD 0::L.drop (k+1):=by
 rw [List.drop_eq_getElem_cons h]
 simp [h]
theorem Zba (T S c0 c1 c2 z:Nat) (hT:0<T) (hS:T*S=4294967296) (h:(c0+4294967296*(c1+4294967296*(c2+4294967296*z))) / T<18446744073709551616) :
    (c0+4294967296*(c1+4294967296*(c2+4294967296*z))) / T=c0 / T+c1*S+c2*(S*4294967296):=by
 have e:(c0+4294967296*(c1+4294967296*(c2+4294967296*z))) / T=c0 / T+S*(c1+4294967296*(c2+4294967296*z)):=by
  rw [show 4294967296*(c1+4294967296*(c2+4294967296*z))=T*(S*(c1+4294967296*(c2+4294967296*z)))by rw [←Nat.mul_assoc,hS],Nat.add_mul_div_left _ _ hT]
 rw [e]at h ⊢
 have hS0:1≤S:=by
  rcases Nat.eq_zero_or_pos S with h0|h0
  ·rw [h0]at hS;omega
  ·exact h0
 have e2:S*(c1+4294967296*(c2+4294967296*z))=c1*S+c2*(S*4294967296)+18446744073709551616*(S*z):=by grind
 rw [e2]at h ⊢
 generalize c0 / T=u at h ⊢
 generalize S*z=v at h ⊢
 generalize c1*S=v1 at h ⊢
 generalize c2*(S*4294967296)=v2 at h ⊢
 clear e e2
 omega
theorem wj (b x y:Nat) (hx:x<2 ^ b) (hy:2 ^ b∣y) (h:x+y≤18446744073709551615):bits .or .u64 (x:Int) (y:Int)=(x:Int)+(y:Int):=by
 refine bits_join_low .u64 64 (by decide) wraps_u64 b (x:Int) (y:Int) (by omega) (by exact_mod_cast hx) (by omega) (by omega) ?_ (by omega)
 obtain⟨c,rfl⟩:=hy
 rw [Int.natCast_mul,Int.natCast_pow]
 exact Int.mul_emod_right _ _
theorem Zag (w:World) (B off c m k r s s2:Nat) (c0 c1 c2 z0 y1 y2:Nat) (hm:m≤1000000000) (hmc:m≤c) (hk:k+3≤m) (hr:r<32)
    (h0:w.cell? ⟨B,off+k,none⟩=some (.int .u32 (c0:Int))) (h1:w.cell? ⟨B,off+k+1,none⟩=some (.int .u32 (c1:Int))) (h2:w.cell? ⟨B,off+k+2,none⟩=some (.int .u32 (c2:Int)))
    (b0:c0≤4294967295) (b1:c1≤4294967295) (b2:c2≤4294967295) (at':Int) (hq:at'.tdiv 32=(k:Int)) (hq2:at'.tmod 32=(r:Int))
    (hs:(32:Int)-(r:Int)=(s:Int)) (hs2:(64:Int)-(r:Int)=(s2:Int)) (e0:(c0:Int) / 2 ^ r=(z0:Int)) (e1:(c1:Int)*2 ^ s=(y1:Int)) (e2:(c2:Int)*2 ^ s2=(y2:Int))
    (g0:z0≤4294967295) (g1:y1≤18446744073709551615) (g2:y2≤18446744073709551615) (o1:bits .or .u64 (z0:Int) (y1:Int)=(z0:Int)+(y1:Int)) (g3:z0+y1≤18446744073709551615) (o2:bits .or .u64 ((z0:Int)+(y1:Int)) (y2:Int)=(z0:Int)+(y1:Int)+(y2:Int)) :
    Calls Tryz.prog 214 #[.slice (some ⟨B,off,none⟩) m c,.int .i64 at'] w fun e w'=>e=.returned (.int .u64 ((z0+y1+y2:Nat):Int))∧w'=w:=by
 go_enter Tryz.func214,Tryz.ntmps214
 go_wp2_with fail
 go_ret
 exact⟨rfl,rfl⟩
theorem JB (w:World) (B off c m k r s:Nat) (c0 c1 z0 y1:Nat) (hm:m≤1000000000) (hmc:m≤c) (hk:m=k+2) (hr:r<32)
    (h0:w.cell? ⟨B,off+k,none⟩=some (.int .u32 (c0:Int))) (h1:w.cell? ⟨B,off+k+1,none⟩=some (.int .u32 (c1:Int)))
    (b0:c0≤4294967295) (b1:c1≤4294967295) (at':Int) (hq:at'.tdiv 32=(k:Int)) (hq2:at'.tmod 32=(r:Int))
    (hs:(32:Int)-(r:Int)=(s:Int)) (e0:(c0:Int) / 2 ^ r=(z0:Int)) (e1:(c1:Int)*2 ^ s=(y1:Int))
    (g0:z0≤4294967295) (g1:y1≤18446744073709551615) (o1:bits .or .u64 (z0:Int) (y1:Int)=(z0:Int)+(y1:Int)) :
    Calls Tryz.prog 214 #[.slice (some ⟨B,off,none⟩) m c,.int .i64 at'] w fun e w'=>e=.returned (.int .u64 ((z0+y1:Nat):Int))∧w'=w:=by
 go_enter Tryz.func214,Tryz.ntmps214
 go_wp2_with fail
 go_ret
 exact⟨rfl,rfl⟩
theorem JW (w:World) (B off c m k r:Nat) (c0 z0:Nat) (hm:m≤1000000000) (hmc:m≤c) (hk:m=k+1) (hr:r<32)
    (h0:w.cell? ⟨B,off+k,none⟩=some (.int .u32 (c0:Int))) (b0:c0≤4294967295) (at':Int) (hq:at'.tdiv 32=(k:Int)) (hq2:at'.tmod 32=(r:Int))
    (e0:(c0:Int) / 2 ^ r=(z0:Int)) (g0:z0≤4294967295) :
    Calls Tryz.prog 214 #[.slice (some ⟨B,off,none⟩) m c,.int .i64 at'] w fun e w'=>e=.returned (.int .u64 (z0:Int))∧w'=w:=by
 go_enter Tryz.func214,Tryz.ntmps214
 go_wp2_with fail
 go_ret
 exact⟨rfl,rfl⟩
theorem Uh (w:World) (v:Value) (L:List Nat) (at':Nat) (h:D4 w v L) (hr:∀x∈L,x<B32) (hl:L.length≤1000000000) (hat:at' / 32<L.length) (hlt:nv B32 L / 2 ^ at'<18446744073709551616) :
    Calls Tryz.prog 214 #[v,.int .i64 (at':Int)] w fun e w'=>e=.returned (.int .u64 ((nv B32 L / 2 ^ at':Nat):Int))∧w'=w:=by
 rcases h with ⟨rfl,hn⟩|⟨B,off,c,rfl,hc,h⟩
 ·rw [hn]at hat;simp at hat
 obtain⟨k,hk⟩:∃k,at' / 32=k:=⟨_,rfl⟩
 obtain⟨r,hrr⟩:∃r,at' % 32=r:=⟨_,rfl⟩
 rw [hk]at hat
 have hr32:r<32:=by omega
 have hq:(at':Int).tdiv 32=(k:Int):=by rw [Int.tdiv_eq_ediv_of_nonneg (by omega)];omega
 have hq2:(at':Int).tmod 32=(r:Int):=by rw [Int.tmod_eq_emod_of_nonneg (by omega)];omega
 have hN:nv B32 L / 2 ^ at'=nv B32 (L.drop k) / 2 ^ r:=by
  rw [←Ze3 B32 L k (by decide) hr (by omega),Nat.div_div_eq_div_mul]
  congr 1
  rw [show B32=2 ^ 32 by decide,←Nat.pow_mul,←Nat.pow_add]
  congr 1
  omega
 rw [hN]at hlt ⊢
 have hT:0<2 ^ r:=Nat.pow_pos (by decide)
 have hS:2 ^ r*2 ^ (32-r)=4294967296:=by rw [←Nat.pow_add,show r+(32-r)=32 by omega]
 have hS2:2 ^ (64-r)=2 ^ (32-r)*4294967296:=by rw [show 64-r=(32-r)+32 by omega,Nat.pow_add]
 have c0h:=h k hat
 have r0:=Zt hr k
 have g0:L[k]?.getD 0 / 2 ^ r<2 ^ (32-r):=by
  rw [Nat.div_lt_iff_lt_mul hT,Nat.mul_comm,hS]
  exact r0
 have g0':L[k]?.getD 0 / 2 ^ r≤L[k]?.getD 0:=Nat.div_le_self _ _
 have e0:((L[k]?.getD 0:Nat):Int) / 2 ^ r=((L[k]?.getD 0 / 2 ^ r:Nat):Int):=by simp
 simp only [B32]at r0
 rcases Nat.lt_or_ge (k+1) L.length with h1|h1
 ·have c1h:=h (k+1) h1
  have r1:=Zt hr (k+1)
  simp only [B32]at r1
  rcases Nat.lt_or_ge (k+2) L.length with h2|h2
  ·have c2h:=h (k+2) h2
   have r2:=Zt hr (k+2)
   simp only [B32]at r2
   have hD:nv B32 (L.drop k)=L[k]?.getD 0+4294967296*(L[k+1]?.getD 0+4294967296*(L[k+2]?.getD 0+4294967296*nv B32 (L.drop (k+3)))):=by
    rw [Xa L k hat,Xa L (k+1) h1,Xa L (k+2) h2]
    rfl
   rw [hD]at hlt ⊢
   have hw:=Zba (2 ^ r) (2 ^ (32-r)) _ _ _ _ hT hS hlt
   rw [hw]at hlt ⊢
   rw [←hS2]at hlt ⊢
   have hy1:L[k]?.getD 0 / 2 ^ r+L[k+1]?.getD 0*2 ^ (32-r)<2 ^ (64-r):=by
    have m1:(L[k+1]?.getD 0+1)*2 ^ (32-r)≤4294967296*2 ^ (32-r):=Nat.mul_le_mul_right _ (by omega)
    rw [Nat.add_mul]at m1
    rw [hS2]
    generalize L[k]?.getD 0 / 2 ^ r=u at *
    generalize L[k+1]?.getD 0*2 ^ (32-r)=u1 at *
    generalize 2 ^ (32-r)=u2 at *
    omega
   have e1:((L[k+1]?.getD 0:Nat):Int)*2 ^ (32-r)=((L[k+1]?.getD 0*2 ^ (32-r):Nat):Int):=by simp
   have e2:((L[k+2]?.getD 0:Nat):Int)*2 ^ (64-r)=((L[k+2]?.getD 0*2 ^ (64-r):Nat):Int):=by simp
   have d1:2 ^ (32-r)∣L[k+1]?.getD 0*2 ^ (32-r):=Nat.dvd_mul_left _ _
   have d2:2 ^ (64-r)∣L[k+2]?.getD 0*2 ^ (64-r):=Nat.dvd_mul_left _ _
   clear hD hw hN
   generalize L[k]?.getD 0 / 2 ^ r=z0 at *
   generalize L[k+1]?.getD 0*2 ^ (32-r)=y1 at *
   generalize L[k+2]?.getD 0*2 ^ (64-r)=y2 at *
   have o1:=wj (32-r) z0 y1 g0 d1 (by omega)
   have o2:=wj (64-r) (z0+y1) y2 hy1 d2 (by omega)
   rw [Int.natCast_add]at o2
   have:=Zag w B off c L.length k r (32-r) (64-r) _ _ _ z0 y1 y2 hl hc (by omega) hr32 c0h c1h c2h (by omega) (by omega) (by omega) (at':Int) hq hq2 (by omega) (by omega) e0 e1 e2 (by omega) (by omega) (by omega) o1 (by omega) o2
   exact this
  ·have hD:nv B32 (L.drop k)=L[k]?.getD 0+4294967296*(L[k+1]?.getD 0+4294967296*(0+4294967296*0)):=by
     rw [Xa L k hat,Xa L (k+1) h1,List.drop_of_length_le (by omega)]
     rfl
   rw [hD]at hlt ⊢
   have hw:=Zba (2 ^ r) (2 ^ (32-r)) _ _ _ _ hT hS hlt
   rw [hw]at hlt ⊢
   rw [Nat.zero_mul,Nat.add_zero]at hlt ⊢
   have e1:((L[k+1]?.getD 0:Nat):Int)*2 ^ (32-r)=((L[k+1]?.getD 0*2 ^ (32-r):Nat):Int):=by simp
   have d1:2 ^ (32-r)∣L[k+1]?.getD 0*2 ^ (32-r):=Nat.dvd_mul_left _ _
   clear hD hw hN
   generalize L[k]?.getD 0 / 2 ^ r=z0 at *
   generalize L[k+1]?.getD 0*2 ^ (32-r)=y1 at *
   exact JB w B off c L.length k r (32-r) _ _ z0 y1 hl hc (by omega) hr32 c0h c1h (by omega) (by omega) (at':Int) hq hq2 (by omega) e0 e1 (by omega) (by omega) (wj (32-r) z0 y1 g0 d1 (by omega))
 ·have hD:nv B32 (L.drop k)=L[k]?.getD 0:=by
    rw [Xa L k hat,List.drop_of_length_le (by omega)]
    rfl
  rw [hD]
  exact JW w B off c L.length k r _ _ hl hc (by omega) hr32 c0h (by omega) (at':Int) hq hq2 e0 (by omega)
structure Lhm (A B X Y:Nat) (s x y a1 a2 a3 b1 b2 b3:Int):Prop where
 sg:s=1∨s=-1
 hx:x=s*(b2*Y-a2*X)
 hy:y=s*(a3*X-b3*Y)
 gc:Int.gcd (s*(b2*B-a2*A)) (s*(a3*A-b3*B))=Nat.gcd A B
 y0:0≤y
 xy:y≤x
 a10:0≤a1
 a20:0≤a2
 a30:0≤a3
 b10:0≤b1
 b20:0≤b2
 b31:1≤b3
 b23:b2≤b3
 ab3:a3≤b3
 ab2:s=1→a2≤b2
 a21:a2≤b2+1
 ab:a2≤b2∨a3<b3
 a23:a2≤b3
 fa:a3*x+a2*y=Y
 fb:b3*x+b2*y=X
 z:b2=0→s*(b2*B-a2*A)=A∧s*(a3*A-b3*B)=B∧b1=0∧a1=0
 p:1≤b2→s*(b2*B-a2*A)≤B∧s*(a1*A-b1*B)≤A∧0≤s*(b2*B-a2*A)∧s*(b2*B-a2*A)<s*(a1*A-b1*B) ∧
  Int.gcd (s*(a1*A-b1*B)) (s*(b2*B-a2*A))=Nat.gcd A B∧a1<2147483648∧a2<2147483648∧b1<2147483648∧b2<2147483648
 q:1≤b1→s*(b2*B-a2*A)<B∧1≤b2
theorem ZeL (A B X Y:Nat) (h:Y≤X):Lhm A B X Y (-1) X Y 0 1 0 0 0 1 where
 sg:=Or.inr rfl
 hx:=by omega
 hy:=by omega
 gc:=by
  have e1:(-1:Int)*(0*(B:Int)-1*A)=A:=by omega
  have e2:(-1:Int)*(0*(A:Int)-1*B)=B:=by omega
  rw [e1,e2];exact Int.gcd_natCast_natCast A B
 y0:=by omega
 xy:=by omega
 a10:=by decide
 a20:=by decide
 a30:=by decide
 b10:=by decide
 b20:=by decide
 b31:=by decide
 b23:=by decide
 ab3:=by decide
 ab2:=by intro h;exact absurd h (by decide)
 a21:=by decide
 ab:=Or.inr (by decide)
 a23:=by decide
 fa:=by omega
 fb:=by omega
 z:=fun _=>⟨by omega,by omega,rfl,rfl⟩
 p:=fun h=>absurd h (by decide)
 q:=fun h=>absurd h (by decide)
theorem ZfE {A B X Y F:Nat} {s x y a1 a2 a3 b1 b2 b3:Int} (hF:0<F) (hA0:X*F≤A) (hA1:A<(X+1)*F) (hB0:Y*F≤B) (hB1:B<(Y+1)*F)
    (H:Lhm A B X Y s x y a1 a2 a3 b1 b2 b3) (c1:b3≤y) (c2:b2+b3≤x-y) :
    0≤s*(a3*A-b3*B)∧s*(a3*A-b3*B)<s*(b2*B-a2*A):=by
 obtain⟨al,hal⟩:∃al:Int,(A:Int)=X*F+al:=⟨A-X*F,by omega⟩
 obtain⟨be,hbe⟩:∃be:Int,(B:Int)=Y*F+be:=⟨B-Y*F,by omega⟩
 have hal0:0≤al:=by have:((X*F:Nat):Int)≤A:=by exact_mod_cast hA0
                    rw [Int.natCast_mul]at this;omega
 have hbe0:0≤be:=by have:((Y*F:Nat):Int)≤B:=by exact_mod_cast hB0
                    rw [Int.natCast_mul]at this;omega
 have hal1:al<F:=by have:(A:Int)<(((X+1)*F:Nat):Int):=by exact_mod_cast hA1
                    rw [Int.natCast_mul,Int.natCast_add,Int.add_mul]at this;omega
 have hbe1:be<F:=by have:(B:Int)<(((Y+1)*F:Nat):Int):=by exact_mod_cast hB1
                    rw [Int.natCast_mul,Int.natCast_add,Int.add_mul]at this;omega
 have hF':(0:Int)<F:=by exact_mod_cast hF
 have eQ:s*(a3*A-b3*B)=y*F+s*(a3*al-b3*be):=by rw [hal,hbe,H.hy];grind
 have eP:s*(b2*B-a2*A)=x*F+s*(b2*be-a2*al):=by rw [hal,hbe,H.hx];grind
 rw [eQ,eP]
 have k1:b3*F≤y*F:=Int.mul_le_mul_of_nonneg_right c1 (Int.le_of_lt hF')
 have k2:(b2+b3)*F≤(x-y)*F:=Int.mul_le_mul_of_nonneg_right c2 (Int.le_of_lt hF')
 have hb30:0≤b3:=by have:=H.b31;omega
 have hb23:0≤b2+b3:=by have:=H.b20;omega
 have m1:a3*al≤b3*al:=Int.mul_le_mul_of_nonneg_right H.ab3 hal0
 have m2:b3*al≤b3*F:=Int.mul_le_mul_of_nonneg_left (Int.le_of_lt hal1) hb30
 have m3:b3*be≤b3*F:=Int.mul_le_mul_of_nonneg_left (Int.le_of_lt hbe1) hb30
 have m4:0≤a3*al:=Int.mul_nonneg H.a30 hal0
 have m5:0≤b3*be:=Int.mul_nonneg hb30 hbe0
 have m6:0≤a2*al:=Int.mul_nonneg H.a20 hal0
 have m7:0≤b2*be:=Int.mul_nonneg H.b20 hbe0
 have m8:(b2+b3)*be<(b2+b3)*F:=Int.mul_lt_mul_of_pos_left hbe1 (by have:=H.b31;have:=H.b20;omega)
 have m9:(b2+b3)*al<(b2+b3)*F:=Int.mul_lt_mul_of_pos_left hal1 (by have:=H.b31;have:=H.b20;omega)
 have d1:(x-y)*F=x*F-y*F:=Int.sub_mul _ _ _
 have d2:(b2+b3)*be=b2*be+b3*be:=Int.add_mul _ _ _
 have d3:(b2+b3)*al=b2*al+b3*al:=Int.add_mul _ _ _
 rcases H.sg with hs|hs
 ·have m10:a2*al≤b2*al:=Int.mul_le_mul_of_nonneg_right (H.ab2 hs) hal0
  rw [hs]
  constructor<;>omega
 ·rw [hs]
  constructor<;>omega
theorem Zfx {A B X Y F:Nat} {s x y a1 a2 a3 b1 b2 b3:Int} (hF:0<F) (hX:X<4611686018427387904) (hBA:B≤A)
    (hA0:X*F≤A) (hA1:A<(X+1)*F) (hB0:Y*F≤B) (hB1:B<(Y+1)*F)
    (H:Lhm A B X Y s x y a1 a2 a3 b1 b2 b3) (c1:b3≤y) (c2:b2+b3≤x-y) :
    Lhm A B X Y (-s) y (x % y) a2 a3 (a2+x / y*a3) b2 b3 (b2+x / y*b3)∧b3<2147483648:=by
 obtain⟨t1,t2⟩:=ZfE hF hA0 hA1 hB0 hB1 H c1 c2
 have yp:0<y:=by have:=H.b31;omega
 have hq1:1≤x / y:=by
  have:=Int.ediv_le_ediv yp H.xy
  rwa [Int.ediv_self (by omega)]at this
 have hem:x % y=x-x / y*y:=by have:=Int.emod_add_mul_ediv x y;rw [Int.mul_comm]at this;omega
 have hm0:=Int.emod_nonneg x (show y≠0 by omega)
 have hm1:=Int.emod_lt_of_pos x yp
 have hb30:0≤b3:=by have:=H.b31;omega
 have hx2:2*b3≤x:=by have:=H.b20;omega
 have hbb:b3<2147483648:=by
  rcases Int.lt_or_le b3 2147483648 with h|h
  ·exact h
  ·exfalso
   have g1:b3*(2*b3)≤b3*x:=Int.mul_le_mul_of_nonneg_left hx2 hb30
   have g2:2147483648*(2*2147483648)≤b3*(2*b3):=Int.mul_le_mul h (by omega) (by omega) hb30
   have g3:=H.fb
   have g4:0≤b2*y:=Int.mul_nonneg H.b20 H.y0
   have g5:(X:Int)<4611686018427387904:=by omega
   omega
 have qa:a3≤x / y*a3:=by
  have:=Int.mul_le_mul_of_nonneg_right hq1 H.a30;omega
 have qb:b3≤x / y*b3:=by
  have:=Int.mul_le_mul_of_nonneg_right hq1 hb30;omega
 have qab:x / y*a3≤x / y*b3:=Int.mul_le_mul_of_nonneg_left H.ab3 (by omega)
 generalize x / y=k at *
 have hQ:-s*(b3*B-a3*A)=s*(a3*A-b3*B):=by grind
 have hR:-s*(a2*A-b2*B)=s*(b2*B-a2*A):=by grind
 have hg:-s*((a2+k*a3)*A-(b2+k*b3)*B)=s*(b2*B-a2*A)-k*(s*(a3*A-b3*B)):=by grind
 have i1:=H.b20;have i2:=H.a20;have i3:=H.a30;have i4:=H.b23;have i5:=H.ab3;have i6:=H.a23;have i7:=H.b31
 refine⟨⟨?_,?_,?_,?_,hm0,Int.le_of_lt hm1,H.a20,H.a30,by omega,H.b20,hb30,by omega,by omega,?_,?_,by omega,Or.inl H.ab3,by omega,?_,?_,?_,?_,?_⟩,hbb⟩
 ·rcases H.sg with h|h<;>rw [h]<;>decide
 ·rw [H.hy];grind
 ·rw [hem,H.hx,H.hy];grind
 ·rw [hQ,hg,←H.gc]
  rw [Int.gcd_comm (s*(b2*B-a2*A))]
  exact Int.gcd_sub_mul_right_right ..
 ·rcases H.ab with h|h
  ·omega
  ·have g:k*a3+k≤k*b3:=by
     have:=Int.mul_le_mul_of_nonneg_left (show a3+1≤b3 by omega) (show 0≤k by omega)
     rwa [Int.mul_add,Int.mul_one]at this
   have:=H.a21
   omega
 ·exact fun _=>H.ab3
 ·rw [hem];have:=H.fa;grind
 ·rw [hem];have:=H.fb;grind
 ·intro h;omega
 ·intro _
  rw [hQ,hR]
  refine⟨?_,?_,t1,t2,?_,?_,?_,?_,hbb⟩
  ·rcases Int.lt_or_le b2 1 with h|h
   ·have:=H.z (by omega);omega
   ·have:=H.p h;omega
  ·rcases Int.lt_or_le b2 1 with h|h
   ·have:=H.z (by omega);omega
   ·have:=H.p h;omega
  ·exact H.gc
  ·omega
  ·omega
  ·omega
 ·intro h
  rw [hQ]
  have:=H.p h
  exact⟨by omega,by omega⟩
theorem Lhm.bd {A B X Y:Nat} {s x y a1 a2 a3 b1 b2 b3:Int} (H:Lhm A B X Y s x y a1 a2 a3 b1 b2 b3) (h0:0<X):1≤x∧x≤X∧b3≤X∧a1<2147483648∧a2<2147483648∧b1<2147483648∧b2<2147483648:=by
 have i1:=H.b20;have i2:=H.a20;have i7:=H.b31;have i8:=H.y0;have i9:=H.xy;have i10:=H.fb;have i11:=H.a21
 have hx1:1≤x:=by
  rcases Int.lt_or_le x 1 with h|h
  ·exfalso
   have hx:x=0:=by omega
   have hy:y=0:=by omega
   rw [hx,hy,Int.mul_zero,Int.mul_zero]at i10
   omega
  ·exact h
 have m1:1*x≤b3*x:=Int.mul_le_mul_of_nonneg_right i7 (by omega)
 have m2:b3*1≤b3*x:=Int.mul_le_mul_of_nonneg_left hx1 (by omega)
 have m3:0≤b2*y:=Int.mul_nonneg i1 i8
 refine⟨hx1,by omega,by omega,?_⟩
 rcases Int.lt_or_le b2 1 with h|h
 ·have:=H.z (by omega);omega
 ·have:=H.p h;omega
theorem Lhm.nw {A B X Y:Nat} {s x y a1 a2 a3 b1 b2 b3:Int} (H:Lhm A B X Y s x y a1 a2 a3 b1 b2 b3) (c1:b3≤y):0≤x / y*a3∧x / y*a3≤x / y*b3∧b2+x / y*b3≤X:=by
 have i1:=H.b20;have i2:=H.a20;have i7:=H.b31;have i9:=H.xy;have i10:=H.fb
 have yp:0<y:=by omega
 have hq:0≤x / y:=Int.ediv_nonneg (by omega) (by omega)
 have hm:x / y*y≤x:=Int.ediv_mul_le x (by omega)
 refine⟨Int.mul_nonneg hq H.a30,Int.mul_le_mul_of_nonneg_left H.ab3 hq,?_⟩
 have m0:0≤b2+x / y*b3:=by have:=Int.mul_nonneg hq (show 0≤b3 by omega);omega
 have m1:(b2+x / y*b3)*1≤(b2+x / y*b3)*y:=Int.mul_le_mul_of_nonneg_left (by omega) m0
 have m2:b3*(x / y*y)≤b3*x:=Int.mul_le_mul_of_nonneg_left hm (by omega)
 have m3:(b2+x / y*b3)*y=b2*y+b3*(x / y*y):=by grind
 omega
structure Fac (A B:Nat) (m1 m2 m3 m4:Int):Prop where
 l1:-2147483648<m1∧m1<2147483648
 l2:-2147483648<m2∧m2<2147483648
 l3:-2147483648<m3∧m3<2147483648
 l4:-2147483648<m4∧m4<2147483648
 u1:0≤m1∧m2≤0∨m1≤0∧0≤m2
 u2:0≤m3∧m4≤0∨m3≤0∧0≤m4
 p0:0≤m3*A+m4*B
 pr:m3*A+m4*B<m1*A+m2*B
 ra:m1*A+m2*B≤A
 pb:m3*A+m4*B<B
 gc:Int.gcd (m1*A+m2*B) (m3*A+m4*B)=Nat.gcd A B
theorem Lhm.fac {A B X Y:Nat} {s x y a1 a2 a3 b1 b2 b3:Int} (H:Lhm A B X Y s x y a1 a2 a3 b1 b2 b3) (h:1≤b1):Fac A B (s*a1) (-s*b1) (-s*a2) (s*b2):=by
 obtain⟨q1,q2⟩:=H.q h
 obtain⟨p1,p2,p3,p4,p5,p6,p7,p8,p9⟩:=H.p q2
 have i1:=H.b20;have i2:=H.a20;have i3:=H.a10;have i4:=H.b10
 have eR:s*a1*A+-s*b1*B=s*(a1*A-b1*B):=by grind
 have eP:-s*a2*A+s*b2*B=s*(b2*B-a2*A):=by grind
 refine⟨?_,?_,?_,?_,?_,?_,by rw [eP];exact p3,by rw [eP,eR];exact p4,by rw [eR];exact p2,by rw [eP];exact q1,by rw [eP,eR];exact p5⟩ <;>
 ·rcases H.sg with e|e<;>rw [e]<;>omega
theorem Tryz.sizeF:(Tryz.prog.info? 230).map (·.size)=some 4:=by kernel_rfl
abbrev fObj (a b c d:Int):Obj:=.cells #[.int .i64 a,.int .i64 b,.int .i64 c,.int .i64 d] 230
def FBlk (w:World) (B:Nat) (a b c d:Value):Prop:=w.heap[B]?=some (.cells #[a,b,c,d] 230 (0,0))
theorem FBlk.lt {w:World} {B:Nat} {a b c d:Value} (h:FBlk w B a b c d):B<w.heap.size:=(Array.getElem?_eq_some_iff.1 h).1
theorem FBlk.cc {w:World} {B:Nat} {a b c d:Value} (h:FBlk w B a b c d):w.cell? ⟨B,0,none⟩=some a∧w.cell? ⟨B,1,none⟩=some b∧w.cell? ⟨B,2,none⟩=some c∧w.cell? ⟨B,3,none⟩=some d:=by
 unfold FBlk at h;simp [World.cell?,h]
theorem FBlk.fr {w:World} {B:Nat} {a b c d:Value} (h:FBlk w B a b c d) (i:Nat):w.frozen? ⟨B,i,none⟩=false:=by
 unfold FBlk at h;simp [World.frozen?,h]
theorem FBlk.put {w:World} {B:Nat} {a b c d:Value} (h:FBlk w B a b c d) (x y z t:Value):FBlk ((((w.setCell ⟨B,0,none⟩ x).setCell ⟨B,1,none⟩ y).setCell ⟨B,2,none⟩ z).setCell ⟨B,3,none⟩ t) B x y z t:=by
 unfold FBlk at *
 simp [World.setCell,Array.getElem?_modify,h]
theorem FBlk.kept {w w':World} {row:Option Nat} {B:Nat} {a b c d:Value} (h:FBlk w B a b c d) (hg:w.grownBy w' row) (hn:row≠some B):FBlk w' B a b c d :=
 (hg.block B h.lt (fun e=>hn e.symm)).trans h
theorem Zdg (w:World) (g:Nat) (t:TypeId) (a b c d:Value) (fr:Nat × Nat) (hg:w.heap[g]?=some (.cells #[a,b,c,d] t fr)):(loadVar 230 ⟨g,0,none⟩).run Tryz.prog w=.ok (.agg #[a,b,c,d]) w :=
 run_loadVar_row w g t 230 #[a,b,c,d] fr _ hg Tryz.underlying230 rfl Tryz.sizeF
theorem YO {fn:Func} {p u:Tmp} (h:fn.results=#[.cell p 230,.tmp u]) (tmps:Array Value) (w:World) (g:Nat) (t:TypeId) (a b c d:Value) (fr:Nat × Nat)
    (hp:tmps.getD p undef=.pointer (some ⟨g,0,none⟩)) (hg:w.heap[g]?=some (.cells #[a,b,c,d] t fr)):(results fn tmps).run Tryz.prog w=.ok (.tuple #[.agg #[a,b,c,d],tmps.getD u undef]) w:=by
 rw [results_cell_tmp h,hp]
 simp [asAddr,Result.andThen,Zdg w g t a b c d fr hg]
def FseQ (A B:Nat) (w:World) (e:Ending) (w':World):Prop :=
 ∃(m1 m2 m3 m4:Int) (some:Bool),e=.returned (.tuple #[.agg #[.int .i64 m1,.int .i64 m2,.int .i64 m3,.int .i64 m4],.bool some])∧w.grownBy w' none∧(some=true→Fac A B m1 m2 m3 m4)
theorem Jm (w:World) (va vb:Value) (A B X Y F fr na nb:Nat) (hF:0<F) (hX:X<4611686018427387904) (hX0:0<X) (hBA:B≤A) (hYX:Y≤X)
    (hA0:X*F≤A) (hA1:A<(X+1)*F) (hB0:Y*F≤B) (hB1:B<(Y+1)*F)
    (hna:na≤10000000000) (hfr:(na:Int)-62=(fr:Int)) (hnb:fr<nb) (hnb1:nb≤10000000000)
    (HBa:Hid (Calls Tryz.prog 204 #[va] (w.alloc (fObj 0 0 0 0)) fun e w'=>e=.returned (.int .i64 (na:Int))∧w'=w.alloc (fObj 0 0 0 0)))
    (HBb:Hid (Calls Tryz.prog 204 #[vb] (w.alloc (fObj 0 0 0 0)) fun e w'=>e=.returned (.int .i64 (nb:Int))∧w'=w.alloc (fObj 0 0 0 0)))
    (HWa:Hid (Calls Tryz.prog 214 #[va,.int .i64 (fr:Int)] (w.alloc (fObj 0 0 0 0)) fun e w'=>e=.returned (.int .u64 (X:Int))∧w'=w.alloc (fObj 0 0 0 0)))
    (HWb:Hid (Calls Tryz.prog 214 #[vb,.int .i64 (fr:Int)] (w.alloc (fObj 0 0 0 0)) fun e w'=>e=.returned (.int .u64 (Y:Int))∧w'=w.alloc (fObj 0 0 0 0))) :
    Calls Tryz.prog 199 #[va,vb] w (FseQ A B w):=by
 have HI:Hid (Lhm A B X Y (-1) X Y 0 1 0 0 0 1):=ZeL A B X Y hYX
 have HS:Hid (0<F∧X<4611686018427387904∧B≤A∧X*F≤A∧A<(X+1)*F∧Y*F≤B∧B<(Y+1)*F):=⟨hF,hX,hBA,hA0,hA1,hB0,hB1⟩
 clear hF hBA hA0 hA1 hB0 hB1
 go_enter Tryz.func199,Tryz.ntmps199
 go_wp2_with fail
 refine HBa.out.mono ?_
 rintro e w' ⟨rfl,rfl⟩
 go_wp2_with fail
 refine HBb.out.mono ?_
 rintro e w' ⟨rfl,rfl⟩
 go_wp2_with fail
 refine HWa.out.mono ?_
 rintro e w' ⟨rfl,rfl⟩
 go_wp2_with fail
 refine HWb.out.mono ?_
 rintro e w' ⟨rfl,rfl⟩
 go_wp2_with fail
 go_loopw [7,8,9,10,11,12,13,14,15] (fun sx sy s1 s2 s3 t1 t2 t3 sg wr=>∃(s x y a1 a2 a3 b1 b2 b3:Int),sx=.int .u64 x∧sy=.int .u64 y∧s1=.int .u64 a1∧s2=.int .u64 a2∧s3=.int .u64 a3∧t1=.int .u64 b1∧t2=.int .u64 b2∧t3=.int .u64 b3∧sg=.int .i64 s∧Lhm A B X Y s x y a1 a2 a3 b1 b2 b3∧FBlk wr w.heap.size (.int .i64 0) (.int .i64 0) (.int .i64 0) (.int .i64 0)∧w.grownBy wr none) (fun _ sy _ _ _ _ _ _ _ _=>(RowKit.intOf sy).toNat)
 case atStart =>
  refine⟨_,_,_,_,_,_,_,_,_,rfl,rfl,rfl,rfl,rfl,rfl,rfl,rfl,rfl,HI.out,?_,?_⟩
  ·exact heap_alloc_new _ _
  ·exact grow1 _ _
 case round =>
  obtain⟨s,x,y,a1,a2,a3,b1,b2,b3,rfl,rfl,rfl,rfl,rfl,rfl,rfl,rfl,rfl,hL,hbk,hg⟩:=hrel
  have HL:Hid (Lhm A B X Y s x y a1 a2 a3 b1 b2 b3):=hL
  have HB:Hid (FBlk wr w.heap.size (.int .i64 0) (.int .i64 0) (.int .i64 0) (.int .i64 0)):=hbk
  have HG:Hid (w.grownBy wr none):=hg
  obtain⟨x1,xX,bX,la1,la2,lb1,lb2⟩:=hL.bd hX0
  have i1:=hL.b20;have i2:=hL.a20;have i3:=hL.a10;have i4:=hL.b10;have i5:=hL.a30;have i6:=hL.ab3;have i7:=hL.b31;have i8:=hL.y0;have i9:=hL.xy
  have isg:-1≤s∧s≤1:=by rcases hL.sg with e|e<;>rw [e]<;>decide
  have hXI:(X:Int)≤4611686018427387903:=by omega
  by_cases cc:b3≤y∧b2+b3≤x-y
  ·obtain⟨c1,c2⟩:=cc
   have hnw:=hL.nw c1
   have HST:Hid (Lhm A B X Y (-s) y (x % y) a2 a3 (a2+x / y*a3) b2 b3 (b2+x / y*b3)) :=
    (Zfx HS.out.1 HS.out.2.1 HS.out.2.2.1 HS.out.2.2.2.1 HS.out.2.2.2.2.1 HS.out.2.2.2.2.2.1 HS.out.2.2.2.2.2.2 hL c1 c2).1
   have hm0:=Int.emod_nonneg x (show y≠0 by omega)
   have hm1:=Int.emod_lt_of_pos x (show 0<y by omega)
   have hq0:0≤x / y:=Int.ediv_nonneg (by omega) (by omega)
   have hq1:x / y≤x:=Int.ediv_le_self y (by omega)
   have ek:x.tdiv y=x / y:=Int.tdiv_eq_ediv_of_nonneg (by omega)
   have er:x.tmod y=x % y:=Int.tmod_eq_emod_of_nonneg (by omega)
   have hne:(y == 0)=false:=by rw [beq_eq_false_iff_ne];omega
   have hnb:b2+x / y*b3≤4611686018427387903:=by omega
   obtain⟨hn1,hn2,_⟩:=hnw
   obtain⟨k,hk⟩:∃k,x / y=k:=⟨_,rfl⟩
   obtain⟨r,hr⟩:∃r,x % y=r:=⟨_,rfl⟩
   rw [hk]at ek HST hnb hn1 hn2 hq0 hq1
   rw [hr]at er HST hm0 hm1
   obtain⟨p1,hp1⟩:∃p1,k*a3=p1:=⟨_,rfl⟩
   obtain⟨p2,hp2⟩:∃p2,k*b3=p2:=⟨_,rfl⟩
   rw [hp1,hp2]at HST
   rw [hp1]at hn1 hn2
   rw [hp2]at hn2 hnb
   clear hL hbk hg hk hr HI HWa HWb HBa HBb
   go_wp2_with fail
   go_region
   go_wp2_with fail
   go_roundw
   case rel =>
    refine⟨_,_,_,_,_,_,_,_,_,rfl,rfl,rfl,rfl,rfl,rfl,rfl,rfl,rfl,HST.out,?_,?_⟩
    ·first|exact HB.out|exact HB.out.kept (Zf (World.grownBy.refl _ _)) (by simp)|exact HB.out.kept (Zf (Zf (World.grownBy.refl _ _))) (by simp)|exact HB.out.kept (Zf (Zf (Zf (World.grownBy.refl _ _)))) (by simp)
    ·first|exact HG.out|exact Zf HG.out|exact Zf (Zf HG.out)|exact Zf (Zf (Zf HG.out))
   case measure =>
    simp [RowKit.intOf]
    omega
  ·have HF:Hid (1≤b1→Fac A B (s*a1) (-s*b1) (-s*a2) (s*b2)):=fun h=>hL.fac h
   have hsg:=hL.sg
   have hmb:∀a:Int,0≤a→a<2147483648→(-2147483648<s*a∧s*a<2147483648)∧(-2147483648 < -s*a∧-s*a<2147483648):=fun a h0 h1=>by
    rcases hsg with e|e<;>rw [e]<;>omega
   obtain⟨n1,hn1⟩:∃n1,s*a1=n1:=⟨_,rfl⟩
   obtain⟨n2,hn2⟩:∃n2,-s*b1=n2:=⟨_,rfl⟩
   obtain⟨n3,hn3⟩:∃n3,-s*a2=n3:=⟨_,rfl⟩
   obtain⟨n4,hn4⟩:∃n4,s*b2=n4:=⟨_,rfl⟩
   have l1:=(hmb a1 i3 la1).1
   have l2:=(hmb b1 i4 lb1).2
   have l3:=(hmb a2 i2 la2).2
   have l4:=(hmb b2 i1 lb2).1
   rw [hn1,hn2,hn3,hn4]at HF
   rw [hn1]at l1
   rw [hn2]at l2
   rw [hn3]at l3
   rw [hn4]at l4
   have hc:=hbk.cc
   obtain⟨q0,q1,q2,q3⟩:=hc
   have f0:=hbk.fr 0
   have f1:=hbk.fr 1
   have f2:=hbk.fr 2
   have f3:=hbk.fr 3
   have HP:Hid (FBlk ((((wr.setCell ⟨w.heap.size,0,none⟩ (.int .i64 n1)).setCell ⟨w.heap.size,1,none⟩ (.int .i64 n2)).setCell ⟨w.heap.size,2,none⟩ (.int .i64 n3)).setCell ⟨w.heap.size,3,none⟩ (.int .i64 n4)) w.heap.size (.int .i64 n1) (.int .i64 n2) (.int .i64 n3) (.int .i64 n4)):=hbk.put _ _ _ _
   clear hL hbk hg HI HWa HWb HBa HBb hmb hsg
   have cases2:(b3≤y)=False∨(b3≤y)=True∧(b2+b3≤x-y)=False:=by
    rcases Int.lt_or_le y b3 with h|h
    ·exact .inl (by simp;omega)
    ·exact .inr ⟨by simp;omega,by simp;omega⟩
   rcases cases2 with d1|⟨d1,d2⟩
   ·go_wp2_with fail
    refine bodyPost_ret (YO rfl _ _ w.heap.size _ _ _ _ _ _ rfl (HP.out.put _ _ _ _)) rfl ?_
    refine⟨n1,n2,n3,n4,decide (0<b1),rfl,?_,fun h=>HF.out (by have:=of_decide_eq_true h;omega)⟩
    exact Zb (Zb (Zb (Zb (Zb (Zb (Zb (Zb HG.out (Nat.le_refl _)) (Nat.le_refl _)) (Nat.le_refl _)) (Nat.le_refl _)) (Nat.le_refl _)) (Nat.le_refl _)) (Nat.le_refl _)) (Nat.le_refl _)
   ·go_wp2_with fail
    refine bodyPost_ret (YO rfl _ _ w.heap.size _ _ _ _ _ _ rfl (HP.out.put _ _ _ _)) rfl ?_
    refine⟨n1,n2,n3,n4,decide (0<b1),rfl,?_,fun h=>HF.out (by have:=of_decide_eq_true h;omega)⟩
    exact Zb (Zb (Zb (Zb (Zb (Zb (Zb (Zb HG.out (Nat.le_refl _)) (Nat.le_refl _)) (Nat.le_refl _)) (Nat.le_refl _)) (Nat.le_refl _)) (Nat.le_refl _)) (Nat.le_refl _)) (Nat.le_refl _)
theorem Ju (w:World) (va vb:Value) (A B fr na nb:Nat) (hna:na≤10000000000) (hfr:(na:Int)-62=(fr:Int)) (hnb:nb≤fr)
    (HBa:Hid (Calls Tryz.prog 204 #[va] (w.alloc (fObj 0 0 0 0)) fun e w'=>e=.returned (.int .i64 (na:Int))∧w'=w.alloc (fObj 0 0 0 0)))
    (HBb:Hid (Calls Tryz.prog 204 #[vb] (w.alloc (fObj 0 0 0 0)) fun e w'=>e=.returned (.int .i64 (nb:Int))∧w'=w.alloc (fObj 0 0 0 0))) :
    Calls Tryz.prog 199 #[va,vb] w (FseQ A B w):=by
 have HB:Hid (FBlk (w.alloc (fObj 0 0 0 0)) w.heap.size (.int .i64 0) (.int .i64 0) (.int .i64 0) (.int .i64 0)):=heap_alloc_new _ _
 go_enter Tryz.func199,Tryz.ntmps199
 go_wp2_with fail
 refine HBa.out.mono ?_
 rintro e w' ⟨rfl,rfl⟩
 go_wp2_with fail
 refine HBb.out.mono ?_
 rintro e w' ⟨rfl,rfl⟩
 go_wp2_with fail
 refine bodyPost_ret (YO rfl _ _ w.heap.size _ _ _ _ _ _ rfl HB.out) rfl ?_
 refine⟨_,_,_,_,_,rfl,?_,fun h=>by cases h⟩
 exact grow1 _ _
theorem bl_gt {n k:Nat} (h:2 ^ k≤n):k<bl n:=by
 have h0:0<n:=Nat.lt_of_lt_of_le (Nat.pow_pos (by decide)) h
 obtain⟨j,hj⟩:=YS h0
 have h1:=(X5.1 hj).2
 rw [hj]
 rcases Nat.lt_or_ge k (j+1)with h2|h2
 ·exact h2
 ·have:=Nat.pow_le_pow_right (show 0<2 by decide) h2
  omega
theorem Vv (N F:Nat) (hF:0<F):N / F*F≤N∧N<(N / F+1)*F:=by
 refine⟨Nat.div_mul_le_self _ _,?_⟩
 have h1:=Nat.div_add_mod N F
 have h2:=Nat.mod_lt N hF
 rw [Nat.add_mul,Nat.one_mul,Nat.mul_comm (N / F) F]
 omega
theorem nv_bl (L:List Nat) (hr:∀x∈L,x<B32):bl (nv B32 L)≤32*L.length:=by
 apply bl_le
 have:=nv_lt B32 L hr
 rw [show B32=2 ^ 32 by decide,←Nat.pow_mul]at this
 exact this
theorem VZ (w:World) (va vb:Value) (LA LB:List Nat) (ha:∀w',w.grownBy w' none→D4 w' va LA) (hb:∀w',w.grownBy w' none→D4 w' vb LB) (ra:∀x∈LA,x<B32) (rb:∀x∈LB,x<B32)
    (ta:Trim LA) (tb:Trim LB) (la:LA.length≤100000000) (lb:LB.length≤100000000) (hBA:nv B32 LB≤nv B32 LA) (h3:2 ^ 64≤nv B32 LA) :
    Calls Tryz.prog 199 #[va,vb] w (FseQ (nv B32 LA) (nv B32 LB) w):=by
 have hna:=nv_bl LA ra
 have hnb:=nv_bl LB rb
 have h64:=bl_gt h3
 obtain⟨j,hj⟩:=YS (n:=nv B32 LA) (Nat.lt_of_lt_of_le (Nat.pow_pos (by decide)) h3)
 obtain⟨p0,p1⟩:=X5.1 hj
 obtain⟨fr,hfr⟩:∃fr,j+1=fr+62:=⟨j-61,by omega⟩
 have gA:=XM _ va LA (ha _ (grow1 w (fObj 0 0 0 0))) ra ta la
 have gB:=XM _ vb LB (hb _ (grow1 w (fObj 0 0 0 0))) rb tb lb
 rw [hj]at gA hna
 have hX:nv B32 LA / 2 ^ fr<4611686018427387904:=by
  rw [Nat.div_lt_iff_lt_mul (Nat.pow_pos (by decide)),show 4611686018427387904=2 ^ 62 by decide,←Nat.pow_add,Nat.add_comm,←hfr]
  exact p1
 have hX0:0<nv B32 LA / 2 ^ fr:=Nat.div_pos (Nat.le_trans (Nat.pow_le_pow_right (by decide) (by omega)) p0) (Nat.pow_pos (by decide))
 rcases Nat.lt_or_ge fr (bl (nv B32 LB))with hlt|hge
 ·have hYX:nv B32 LB / 2 ^ fr≤nv B32 LA / 2 ^ fr:=Nat.div_le_div_right hBA
  have wA:=Uh _ va LA fr (ha _ (grow1 w (fObj 0 0 0 0))) ra (by omega) (by omega) (by omega)
  have wB:=Uh _ vb LB fr (hb _ (grow1 w (fObj 0 0 0 0))) rb (by omega) (by omega) (by omega)
  exact Jm w va vb _ _ _ _ (2 ^ fr) fr (j+1) _ (Nat.pow_pos (by decide)) hX hX0 hBA hYX (Vv _ _ (Nat.pow_pos (by decide))).1 (Vv _ _ (Nat.pow_pos (by decide))).2 (Vv _ _ (Nat.pow_pos (by decide))).1 (Vv _ _ (Nat.pow_pos (by decide))).2
   (by omega) (by omega) hlt (by omega) gA gB wA wB
 ·exact Ju w va vb _ _ fr (j+1) _ (by omega) (by omega) hge gA gB
theorem Zb9 (T1 T2 P x y c m k X Y:Int) (h:T1+c*P=m*X+k*Y) (hT:T2=T1+(c+m*x+k*y) % 4294967296*P) :
    T2+(c+m*x+k*y) / 4294967296*(P*4294967296)=m*(X+x*P)+k*(Y+y*P):=by
 have e:=Int.emod_add_mul_ediv (c+m*x+k*y) 4294967296
 have e2:(c+m*x+k*y) % 4294967296*P+(c+m*x+k*y) / 4294967296*(P*4294967296)=(c+m*x+k*y)*P:=by
  rw [←e];grind
 rw [hT]
 grind
theorem Up (x y c m k:Int) (hx:0≤x∧x≤4294967295) (hy:0≤y∧y≤4294967295) (hc:-2147483648≤c∧c≤2147483648) (hm:-2147483648<m∧m<2147483648) (hk:-2147483648<k∧k<2147483648) (hu:0≤m∧k≤0∨m≤0∧0≤k) :
    (-9223372036854775808≤m*x∧m*x≤9223372036854775807)∧(-9223372036854775808≤k*y∧k*y≤9223372036854775807)∧(-9223372036854775808≤c+m*x∧c+m*x≤9223372036854775807) ∧
    (-9223372036854775808≤c+m*x+k*y∧c+m*x+k*y≤9223372036854775807)∧-2147483648≤(c+m*x+k*y) / 4294967296∧(c+m*x+k*y) / 4294967296≤2147483648:=by
 have b:∀a t:Int,0≤t∧t≤4294967295→0≤a→a≤2147483647→0≤a*t∧a*t≤9223372030412324865:=fun a t ht h0 h1 =>
  ⟨Int.mul_nonneg h0 ht.1,Int.mul_le_mul h1 ht.2 ht.1 (by decide)⟩
 rcases hu with ⟨h1,h2⟩|⟨h1,h2⟩
 ·have p:=b m x hx h1 (by omega)
  have q:=b (-k) y hy (by omega) (by omega)
  rw [Int.neg_mul]at q
  omega
 ·have p:=b (-m) x hx (by omega) (by omega)
  have q:=b k y hy h2 (by omega)
  rw [Int.neg_mul]at p
  omega
theorem Zbq (K P c R:Int) (hK0:0≤K) (hK1:K<P) (h:K+c*P=R) (h0:0≤R) (h1:R<P):K=R:=by
 have hc:c=0:=by
  rcases Int.lt_or_le c 0 with h2|h2
  ·have:=Int.mul_le_mul_of_nonneg_right (show c≤-1 by omega) (show 0≤P by omega)
   rw [Int.neg_mul,Int.one_mul]at this
   omega
  ·rcases Int.lt_or_le 0 c with h3|h3
   ·have:=Int.mul_le_mul_of_nonneg_right (show 1≤c by omega) (show 0≤P by omega)
    rw [Int.one_mul]at this
    omega
   ·omega
 rw [hc,Int.zero_mul,Int.add_zero]at h
 exact h
structure BI (w0 wr:World) (bf:Nat) (va vb:Value) (MA MB:List Nat) (m1 m2 m3 m4:Int):Prop where
 ra:Row wr w0.heap.size va MA
 rb:Row wr w0.heap.size vb MB
 ap:Apt va vb
 fb:FBlk wr bf (.int .i64 m1) (.int .i64 m2) (.int .i64 m3) (.int .i64 m4)
 na:va.ownBlock≠some bf
 nb:vb.ownBlock≠some bf
 gr:w0.grownBy wr none
 ga:∀x∈MA,x<B32
 gb:∀x∈MB,x<B32
theorem BI.drew {w0 wr:World} {bf:Nat} {va vb:Value} {MA MB:List Nat} {m1 m2 m3 m4:Int} (h:BI w0 wr bf va vb MA MB m1 m2 m3 m4):BI w0 wr.drew bf va vb MA MB m1 m2 m3 m4 :=
 ⟨h.ra.kept (Zf (World.grownBy.refl _ none)) (by cases va.ownBlock<;>simp),h.rb.kept (Zf (World.grownBy.refl _ none)) (by cases vb.ownBlock<;>simp),h.ap,h.fb.kept (Zf (World.grownBy.refl _ none)) (by simp),h.na,h.nb,Zf h.gr,h.ga,h.gb⟩
theorem BI.more {w0 wr w':World} {bf:Nat} {va vb v':Value} {MA MB:List Nat} {m1 m2 m3 m4:Int} {o:Obj} (h:BI w0 wr bf va vb MA MB m1 m2 m3 m4) (hR:Row w' w0.heap.size v' (MB++[0])) (hg:(wr.alloc o).grownBy w' vb.ownBlock)
    (hv:v'.ownBlock=vb.ownBlock∨v'.ownBlock=some (wr.heap.size+1)):BI w0 w' bf va v' MA (MB++[0]) m1 m2 m3 m4:=by
 have ha:Row (wr.alloc o) w0.heap.size va MA:=h.ra.kept (World.grownBy_alloc _ _ none) (by cases va.ownBlock<;>simp)
 have hb:Row (wr.alloc o) w0.heap.size vb MB:=h.rb.kept (World.grownBy_alloc _ _ none) (by cases vb.ownBlock<;>simp)
 have hf:=h.fb.kept (World.grownBy_alloc wr o none) (by simp)
 refine⟨ha.kept hg h.ap,hR,?_,hf.kept hg h.nb,h.na,?_,Ye (Za h.gr (World.grownBy_alloc _ _ none)) hb hg,h.ga,fun x hx=>?_⟩
 ·rcases hv with e|e
  ·unfold Apt;rw [e];exact h.ap
  ·unfold Apt
   cases ho:va.ownBlock with
   |none=>exact .inl rfl
   |some g =>
    have:=(h.ra.lt ho).2
    right;rw [e];intro e2;have:=Option.some.inj e2;omega
 ·rcases hv with e|e
  ·rw [e];exact h.nb
  ·rw [e];intro e2
   have:=Option.some.inj e2
   have:=h.fb.lt
   omega
 ·rcases List.mem_append.1 hx with h1|h1
  ·exact h.gb x h1
  ·simp at h1;subst h1;decide
theorem BI.setA {w0 wr:World} {bf g n c:Nat} {vb:Value} {MA MB:List Nat} {m1 m2 m3 m4:Int} (h:BI w0 wr bf (.slice (some ⟨g,0,none⟩) n c) vb MA MB m1 m2 m3 m4) (i x:Nat) (hx:x<B32) :
    BI w0 (wr.setCell ⟨g,i,none⟩ (.int .u32 (x:Int))) bf (.slice (some ⟨g,0,none⟩) n c) vb (MA.set i x) MB m1 m2 m3 m4:=by
 have k:=Zc wr g i (.int .u32 (x:Int))
 have hgb:=(h.ra.lt (g:=g) rfl).1
 exact⟨h.ra.set i x,h.rb.kept k (by rcases h.ap.swap with e|e;exact .inl e;exact .inr e),h.ap,h.fb.kept k h.na,h.na,h.nb,Zb h.gr hgb,ZM h.ga hx,h.gb⟩
theorem BI.setB {w0 wr:World} {bf g n c:Nat} {va:Value} {MA MB:List Nat} {m1 m2 m3 m4:Int} (h:BI w0 wr bf va (.slice (some ⟨g,0,none⟩) n c) MA MB m1 m2 m3 m4) (i x:Nat) (hx:x<B32) :
    BI w0 (wr.setCell ⟨g,i,none⟩ (.int .u32 (x:Int))) bf va (.slice (some ⟨g,0,none⟩) n c) MA (MB.set i x) m1 m2 m3 m4:=by
 have k:=Zc wr g i (.int .u32 (x:Int))
 have hgb:=(h.rb.lt (g:=g) rfl).1
 exact⟨h.ra.kept k h.ap,h.rb.set i x,h.ap,h.fb.kept k h.nb,h.na,h.nb,Zb h.gr hgb,h.ga,ZM h.gb hx⟩
structure B2 (w0 wr:World) (bf n:Nat) (va vb:Value) (LA LB MA MB:List Nat) (m1 m2 m3 m4 c1 c2:Int) (i:Nat):Prop where
 bi:BI w0 wr bf va vb MA MB m1 m2 m3 m4
 la:MA.length=n
 lb:MB.length=n
 ka:∀j,i≤j→MA[j]?.getD 0=LA[j]?.getD 0
 kb:∀j,i≤j→MB[j]?.getD 0=LB[j]?.getD 0
 h1:-2147483648≤c1∧c1≤2147483648
 h2:-2147483648≤c2∧c2≤2147483648
 e1:(nv B32 (MA.take i):Int)+c1*((B32 ^ i:Nat):Int)=m1*(nv B32 (LA.take i):Nat)+m2*(nv B32 (LB.take i):Nat)
 e2:(nv B32 (MB.take i):Int)+c2*((B32 ^ i:Nat):Int)=m3*(nv B32 (LA.take i):Nat)+m4*(nv B32 (LB.take i):Nat)
theorem B2.drew {w0 wr:World} {bf n:Nat} {va vb:Value} {LA LB MA MB:List Nat} {m1 m2 m3 m4 c1 c2:Int} {i:Nat} (h:B2 w0 wr bf n va vb LA LB MA MB m1 m2 m3 m4 c1 c2 i):B2 w0 wr.drew bf n va vb LA LB MA MB m1 m2 m3 m4 c1 c2 i :=
 ⟨h.bi.drew,h.la,h.lb,h.ka,h.kb,h.h1,h.h2,h.e1,h.e2⟩
theorem B2.step {w0 wr:World} {bf n ga gb ca cb:Nat} {LA LB MA MB:List Nat} {m1 m2 m3 m4 c1 c2:Int} {i:Nat} (h:B2 w0 wr bf n (.slice (some ⟨ga,0,none⟩) n ca) (.slice (some ⟨gb,0,none⟩) n cb) LA LB MA MB m1 m2 m3 m4 c1 c2 i) (hi:i<n)
    (S1 S2:Int) (d1 d2:Nat) (hS1:S1=c1+m1*(LA[i]?.getD 0:Nat)+m2*(LB[i]?.getD 0:Nat)) (hS2:S2=c2+m3*(LA[i]?.getD 0:Nat)+m4*(LB[i]?.getD 0:Nat)) (hd1:S1 % 4294967296=(d1:Int)) (hd2:S2 % 4294967296=(d2:Int))
    (b1:-2147483648≤S1 / 4294967296∧S1 / 4294967296≤2147483648) (b2:-2147483648≤S2 / 4294967296∧S2 / 4294967296≤2147483648) :
    B2 w0 ((wr.setCell ⟨ga,i,none⟩ (.int .u32 (d1:Int))).setCell ⟨gb,i,none⟩ (.int .u32 (d2:Int))) bf n (.slice (some ⟨ga,0,none⟩) n ca) (.slice (some ⟨gb,0,none⟩) n cb) LA LB (MA.set i d1) (MB.set i d2) m1 m2 m3 m4 (S1 / 4294967296) (S2 / 4294967296) (i+1):=by
 have r1:d1<B32:=by unfold B32;omega
 have r2:d2<B32:=by unfold B32;omega
 have gen:∀(M:List Nat) (d:Nat) (m k c S:Int),i<M.length→S=c+m*(LA[i]?.getD 0:Nat)+k*(LB[i]?.getD 0:Nat)→S % 4294967296=(d:Int)→(nv B32 (M.take i):Int)+c*((B32 ^ i:Nat):Int)=m*(nv B32 (LA.take i):Nat)+k*(nv B32 (LB.take i):Nat) →
     (nv B32 ((M.set i d).take (i+1)):Int)+S / 4294967296*((B32 ^ (i+1):Nat):Int)=m*(nv B32 (LA.take (i+1)):Nat)+k*(nv B32 (LB.take (i+1)):Nat):=fun M d m k c S hM hS hd he=>by
  rw [Xn B32 M i d hM,Zp B32 LA i,Zp B32 LB i,Nat.pow_succ]
  simp only [Int.natCast_add,Int.natCast_mul]
  rw [hS,show((B32:Nat):Int)=4294967296 by rfl]
  rw [hS]at hd
  exact Zb9 _ _ _ _ _ _ _ _ _ _ he (by rw [hd])
 exact⟨(h.bi.setA i d1 r1).setB i d2 r2,by simp [h.la],by simp [h.lb],fun j hj=>by rw [List.getElem?_set_ne (by omega)];exact h.ka j (by omega),fun j hj=>by rw [List.getElem?_set_ne (by omega)];exact h.kb j (by omega),b1,b2,
  gen MA d1 m1 m2 c1 S1 (by rw [h.la];exact hi) hS1 hd1 h.e1,gen MB d2 m3 m4 c2 S2 (by rw [h.lb];exact hi) hS2 hd2 h.e2⟩
def BthQ (w0:World) (n:Nat) (R P:Int) (e:Ending) (w':World):Prop :=
 ∃v1 v2 K1 K2,e=.returned (.tuple #[v1,v2])∧Row w' w0.heap.size v1 K1∧Row w' w0.heap.size v2 K2∧Apt v1 v2∧(∀x∈K1,x<B32)∧(∀x∈K2,x<B32)∧Trim K1∧Trim K2∧(nv B32 K1:Int)=R∧(nv B32 K2:Int)=P∧K1.length≤n∧K2.length≤n∧w0.grownBy w' none
theorem B2.fin {w0 wr:World} {bf n:Nat} {va vb v1 v2:Value} {LA LB MA MB:List Nat} {m1 m2 m3 m4 c1 c2:Int} {k1 k2:Nat} (h:B2 w0 wr bf n va vb LA LB MA MB m1 m2 m3 m4 c1 c2 n) (hla:LA.length=n) (hlb:LB.length=n)
    (p0:0≤m3*(nv B32 LA:Nat)+m4*(nv B32 LB:Nat)) (pr:m3*(nv B32 LA:Nat)+m4*(nv B32 LB:Nat)<m1*(nv B32 LA:Nat)+m2*(nv B32 LB:Nat)) (ra:m1*(nv B32 LA:Nat)+m2*(nv B32 LB:Nat)≤(nv B32 LA:Nat)) (hr:∀x∈LA,x<B32)
    (R1:Row wr w0.heap.size v1 (MA.take k1)) (R2:Row wr w0.heap.size v2 (MB.take k2)) (n1:nv B32 (MA.take k1)=nv B32 MA) (n2:nv B32 (MB.take k2)=nv B32 MB) (t1:Trim (MA.take k1)) (t2:Trim (MB.take k2)) (o1:v1.ownBlock=va.ownBlock) (o2:v2.ownBlock=vb.ownBlock) :
    BthQ w0 n (m1*(nv B32 LA:Nat)+m2*(nv B32 LB:Nat)) (m3*(nv B32 LA:Nat)+m4*(nv B32 LB:Nat)) (.returned (.tuple #[v1,v2])) wr:=by
 have hA:=nv_lt B32 LA hr
 have hMA:=nv_lt B32 MA h.bi.ga
 have hMB:=nv_lt B32 MB h.bi.gb
 have e1:=h.e1
 have e2:=h.e2
 rw [Zr B32 MA n (by rw [h.la];exact Nat.le_refl _),Zr B32 LA n (by omega),Zr B32 LB n (by omega)]at e1
 rw [Zr B32 MB n (by rw [h.lb];exact Nat.le_refl _),Zr B32 LA n (by omega),Zr B32 LB n (by omega)]at e2
 rw [hla]at hA
 rw [h.la]at hMA
 rw [h.lb]at hMB
 have q1:=Zbq _ _ _ _ (by omega) (by omega) e1 (by omega) (by omega)
 have q2:=Zbq _ _ _ _ (by omega) (by omega) e2 (by omega) (by omega)
 refine⟨v1,v2,_,_,rfl,R1,R2,?_,fun x hx=>h.bi.ga x (List.mem_of_mem_take hx),fun x hx=>h.bi.gb x (List.mem_of_mem_take hx),t1,t2,by rw [n1];exact q1,by rw [n2];exact q2,?_,?_,h.bi.gr⟩
 ·unfold Apt;rw [o1,o2];exact h.bi.ap
 ·rw [List.length_take,h.la];omega
 ·rw [List.length_take,h.lb];omega
theorem ZbC (w0 w:World) (va vb:Value) (LA LB:List Nat) (m1 m2 m3 m4:Int) (n:Nat) (hn:LA.length=n) (hn0:1≤n) (hn1:n≤100000) (hF:Fac (nv B32 LA) (nv B32 LB) m1 m2 m3 m4) (hlb:LB.length≤n) (HI:Hid (BI w0 (w.alloc (fObj m1 m2 m3 m4)) w.heap.size va vb LA LB m1 m2 m3 m4)) :
    Calls Tryz.prog 200 #[.agg #[.int .i64 m1,.int .i64 m2,.int .i64 m3,.int .i64 m4],va,vb] w (BthQ w0 n (m1*(nv B32 LA:Nat)+m2*(nv B32 LB:Nat)) (m3*(nv B32 LA:Nat)+m4*(nv B32 LB:Nat))):=by
 have HN:Unit→LA.length=n:=fun _=>hn
 obtain⟨ga,ca,rfl,hnc⟩:∃ga ca,va=.slice (some ⟨ga,0,none⟩) n ca∧n≤ca:=by
  rcases HI.out.ra.cases with ⟨e,e'⟩|⟨g,cp,e,_,h⟩
  ·rw [e']at hn;simp at hn;omega
  ·rw [hn]at e h;exact⟨_,_,e,h⟩
 have HF:Hid (Fac (nv B32 LA) (nv B32 LB) m1 m2 m3 m4):=hF
 clear hF
 have hnI:(n:Int)≤100000:=by omega
 have HLB:Unit→LB.length≤n:=fun _=>hlb
 clear hn hlb
 go_enter Tryz.func200,Tryz.ntmps200
 go_wp2_with fail
 go_loopw [2] (fun v wr=>∃L l ab cb,v=.slice ab l cb∧L.length=l∧l≤n∧nv B32 L=nv B32 LB∧BI w0 wr w.heap.size (.slice (some ⟨ga,0,none⟩) n ca) (.slice ab l cb) LA L m1 m2 m3 m4) (fun v _=>match v with|.slice _ l _=>n-l|_=>0)
 case atStart =>
  rcases HI.out.rb.cases with ⟨e,e'⟩|⟨g,cp,e,_,h⟩
  ·subst e
   subst e'
   exact⟨[],0,_,_,rfl,rfl,by omega,rfl,HI.out⟩
  ·subst e
   exact⟨LB,_,_,_,rfl,rfl,HLB (),rfl,HI.out⟩
 case round =>
  obtain⟨L,l,ab,cb,rfl,hl,hln,hv,hI⟩:=hrel
  have HL:Unit→L.length=l:=fun _=>hl
  have HV:Hid (nv B32 L=nv B32 LB):=hv
  have HJ:Hid (BI w0 wr w.heap.size (.slice (some ⟨ga,0,none⟩) n ca) (.slice ab l cb) LA L m1 m2 m3 m4):=hI
  have HR1:Hid (Row (wr.alloc (.cells #[.int .u32 0] 145)) w0.heap.size (.slice ab l cb) L):=hI.rb.kept (World.grownBy_alloc _ _ none) (by cases (Value.slice ab l cb).ownBlock<;>simp)
  have HSz:Hid (w0.heap.size≤(wr.alloc (.cells #[.int .u32 0] 145)).heap.size):=Nat.le_trans hI.gr.size (World.grownBy_alloc wr (.cells #[.int .u32 0] 145) none).size
  have hlI:(l:Int)≤100000:=by omega
  clear hl hv hI
  by_cases hlt:l<n
  ·go_wp2_with (at_builtin;refine ZB rfl _ _ rfl w0.heap.size (.slice ab l cb) L 0 rfl HR1.out (by rw [HL ()];omega) HSz.out ⟨wr.heap.size,0,none⟩ rfl (by simp) ?_)
   intro v' w' hR' hg' ho'
   have HK:Hid (∃ab' cb',v'=.slice ab' (l+1) cb'):=by
    have hlen:(L++[0]).length=l+1:=by rw [List.length_append,HL ()];rfl
    rcases hR'.cases with ⟨_,e⟩|⟨g,cq,e,_,h⟩
    ·simp at e
    ·rw [hlen]at e;exact⟨_,_,e⟩
   obtain⟨ab',cb',rfl⟩:=HK.out
   have HB2:Hid (BI w0 w' w.heap.size (.slice (some ⟨ga,0,none⟩) n ca) (.slice ab' (l+1) cb') LA (L++[0]) m1 m2 m3 m4):=HJ.out.more hR' hg' ho'
   clear hR' hg' ho' HK
   go_wp2_with fail
   go_roundw
   case rel =>
    refine⟨L++[0],l+1,ab',cb',rfl,by rw [List.length_append,HL ()];rfl,by omega,?_,HB2.out⟩
    rw [ZE,HV.out];simp [nv]
   case measure=>simp;omega
  ·obtain rfl:l=n:=by omega
   obtain⟨gb,rfl,hlc⟩:∃gb,ab=some ⟨gb,0,none⟩∧l≤cb:=by
    rcases HJ.out.rb.cases with ⟨e,e'⟩|⟨g,cp,e,_,h⟩
    ·have:=HL ();rw [e']at this;simp at this;omega
    ·obtain⟨x1,x2,x3⟩:=Value.slice.inj e
     rw [HL (),←x3]at h
     exact⟨g,x1,h⟩
   have HB0:Hid (B2 w0 wr w.heap.size l (.slice (some ⟨ga,0,none⟩) l ca) (.slice (some ⟨gb,0,none⟩) l cb) LA L LA L m1 m2 m3 m4 0 0 0):=⟨HJ.out,HN (),HL (),fun _ _=>rfl,fun _ _=>rfl,by omega,by omega,by simp [nv],by simp [nv]⟩
   go_wp2_with fail
   go_loopw [8,9,23] (fun s t r wq=>∃(c1 c2:Int) (i:Nat) (MA MB:List Nat),s=.int .i64 c1∧t=.int .i64 c2∧r=.int .i64 i∧i≤l∧B2 w0 wq w.heap.size l (.slice (some ⟨ga,0,none⟩) l ca) (.slice (some ⟨gb,0,none⟩) l cb) LA L MA MB m1 m2 m3 m4 c1 c2 i) (fun _ _ r _=>l-(RowKit.intOf r).toNat)
   case atStart=>exact⟨0,0,0,LA,L,rfl,rfl,rfl,by omega,HB0.out⟩
   case round =>
    rename World=>wq
    obtain⟨c1,c2,i,MA,MB,rfl,rfl,rfl,hil,hB⟩:=hrel
    have HB:Hid (B2 w0 wq w.heap.size l (.slice (some ⟨ga,0,none⟩) l ca) (.slice (some ⟨gb,0,none⟩) l cb) LA L MA MB m1 m2 m3 m4 c1 c2 i):=hB
    clear HB0
    by_cases hlt2:i<l
    ·have hca:=Row.cell (L:=MA) (c:=ca) (by rw [hB.la];exact hB.bi.ra) i (by rw [hB.la];exact hlt2)
     have hcb:=Row.cell (L:=MB) (c:=cb) (by rw [hB.lb];exact hB.bi.rb) i (by rw [hB.lb];exact hlt2)
     rw [hB.ka i (Nat.le_refl _)]at hca
     rw [hB.kb i (Nat.le_refl _)]at hcb
     have hfa:=hB.bi.ra.frozen i
     have hfb:=hB.bi.rb.frozen i
     have hne:ga≠gb:=by
      rcases hB.bi.ap with e|e
      ·cases e
      ·intro e2;exact e (by rw [e2];rfl)
     have hne':gb≠ga:=fun e=>hne e.symm
     obtain⟨q0,q1,q2,q3⟩:=hB.bi.fb.cc
     obtain⟨x,hx⟩:∃x,LA[i]?.getD 0=x:=⟨_,rfl⟩
     obtain⟨y,hy⟩:∃y,L[i]?.getD 0=y:=⟨_,rfl⟩
     have HX:Unit→LA[i]?.getD 0=x:=fun _=>hx
     have HY:Unit→L[i]?.getD 0=y:=fun _=>hy
     have rx:(x:Int)≤4294967295:=by have:LA[i]?.getD 0<4294967296:=Zt HI.out.ga i;omega
     have ry:(y:Int)≤4294967295:=by have:L[i]?.getD 0<4294967296:=Zt HJ.out.gb i;omega
     rw [hx]at hca
     rw [hy]at hcb
     have k1:=Up x y c1 m1 m2 ⟨by omega,rx⟩ ⟨by omega,ry⟩ hB.h1 HF.out.l1 HF.out.l2 HF.out.u1
     have k2:=Up x y c2 m3 m4 ⟨by omega,rx⟩ ⟨by omega,ry⟩ hB.h2 HF.out.l3 HF.out.l4 HF.out.u2
     have HK:Hid ((-2147483648≤(c1+m1*x+m2*y) / 4294967296∧(c1+m1*x+m2*y) / 4294967296≤2147483648)∧(-2147483648≤(c2+m3*x+m4*y) / 4294967296∧(c2+m3*x+m4*y) / 4294967296≤2147483648)):=⟨k1.2.2.2.2,k2.2.2.2.2⟩
     obtain⟨p1,hp1⟩:∃p1,m1*(x:Int)=p1:=⟨_,rfl⟩
     obtain⟨p2,hp2⟩:∃p2,m2*(y:Int)=p2:=⟨_,rfl⟩
     obtain⟨p3,hp3⟩:∃p3,m3*(x:Int)=p3:=⟨_,rfl⟩
     obtain⟨p4,hp4⟩:∃p4,m4*(y:Int)=p4:=⟨_,rfl⟩
     have HPs:Hid (m1*(x:Int)=p1∧m2*(y:Int)=p2∧m3*(x:Int)=p3∧m4*(y:Int)=p4):=⟨hp1,hp2,hp3,hp4⟩
     rw [hp1,hp2]at k1
     rw [hp3,hp4]at k2
     obtain⟨⟨_,_⟩,⟨_,_⟩,⟨_,_⟩,⟨_,_⟩,_,_⟩:=k1
     obtain⟨⟨_,_⟩,⟨_,_⟩,⟨_,_⟩,⟨_,_⟩,_,_⟩:=k2
     have hcl1:=hB.h1
     have hcl2:=hB.h2
     clear hB hx hy
     go_wp2_with fail
     go_region
     go_wp2_with fail
     go_roundw
     case rel =>
      have hd1:(c1+p1+p2) % 4294967296=(((c1+p1+p2) % 4294967296).toNat:Int):=(Int.toNat_of_nonneg (Int.emod_nonneg _ (by decide))).symm
      have hd2:(c2+p3+p4) % 4294967296=(((c2+p3+p4) % 4294967296).toNat:Int):=(Int.toNat_of_nonneg (Int.emod_nonneg _ (by decide))).symm
      have hS:=B2.step (HB.out) hlt2 (c1+p1+p2) (c2+p3+p4) _ _ (by rw [HX (),HY (),HPs.out.1,HPs.out.2.1]) (by rw [HX (),HY (),HPs.out.2.2.1,HPs.out.2.2.2]) hd1 hd2
       (by have:=HK.out.1;rw [HPs.out.1,HPs.out.2.1]at this;exact this) (by have:=HK.out.2;rw [HPs.out.2.2.1,HPs.out.2.2.2]at this;exact this)
      rw [←hd1,←hd2]at hS
      exact⟨(c1+p1+p2) / 4294967296,(c2+p3+p4) / 4294967296,i+1,_,_,rfl,rfl,rfl,by omega,hS.drew⟩
     case measure=>simp [RowKit.intOf];omega
    ·obtain rfl:i=l:=by omega
     have HTa:Hid (Calls Tryz.prog 154 #[.slice (some ⟨ga,0,none⟩) i ca] wq fun e w'=>∃v' k,e=.returned v'∧Row wq w0.heap.size v' (MA.take k)∧nv B32 (MA.take k)=nv B32 MA∧Trim (MA.take k)∧v'.ownBlock=(Value.slice (some ⟨ga,0,none⟩) i ca).ownBlock∧w'=wq):=by
      refine Calls.mono (Yj _ _ _ MA hB.bi.ra (by rw [hB.la];omega)) ?_
      rintro e w' ⟨v',k,rfl,_,h2,h3,h4,h5,rfl⟩
      exact⟨v',k,rfl,h2,h3,h4,h5,rfl⟩
     have HTb:Hid (Calls Tryz.prog 154 #[.slice (some ⟨gb,0,none⟩) i cb] wq fun e w'=>∃v' k,e=.returned v'∧Row wq w0.heap.size v' (MB.take k)∧nv B32 (MB.take k)=nv B32 MB∧Trim (MB.take k)∧v'.ownBlock=(Value.slice (some ⟨gb,0,none⟩) i cb).ownBlock∧w'=wq):=by
      refine Calls.mono (Yj _ _ _ MB hB.bi.rb (by rw [hB.lb];omega)) ?_
      rintro e w' ⟨v',k,rfl,_,h2,h3,h4,h5,rfl⟩
      exact⟨v',k,rfl,h2,h3,h4,h5,rfl⟩
     clear hB
     go_wp2_with fail
     refine HTa.out.mono ?_
     rintro e w' ⟨v1,k1,rfl,x1,x2,x3,x4,rfl⟩
     have HX1:Hid (Row w' w0.heap.size v1 (MA.take k1)∧nv B32 (MA.take k1)=nv B32 MA∧Trim (MA.take k1)∧v1.ownBlock=(Value.slice (some ⟨ga,0,none⟩) i ca).ownBlock):=⟨x1,x2,x3,x4⟩
     clear x1 x2 x3 x4
     go_wp2_with fail
     refine HTb.out.mono ?_
     rintro e w'' ⟨v2,k2,rfl,x1,x2,x3,x4,rfl⟩
     have HX2:Hid (Row w'' w0.heap.size v2 (MB.take k2)∧nv B32 (MB.take k2)=nv B32 MB∧Trim (MB.take k2)∧v2.ownBlock=(Value.slice (some ⟨gb,0,none⟩) i cb).ownBlock):=⟨x1,x2,x3,x4⟩
     clear x1 x2 x3 x4
     go_wp2_with fail
     go_ret2
     have hvv:=HV.out
     have:=B2.fin HB.out (HN ()) (HL ()) (by rw [hvv];exact HF.out.p0) (by rw [hvv];exact HF.out.pr) (by rw [hvv];exact HF.out.ra) HI.out.ga HX1.out.1 HX2.out.1 HX1.out.2.1 HX2.out.2.1 HX1.out.2.2.1 HX2.out.2.2.1 HX1.out.2.2.2 HX2.out.2.2.2
     rw [hvv]at this
     exact this
structure GI (w0 wr:World) (N g:Nat) (va vb:Value) (MA MB:List Nat):Prop where
 ra:Row wr w0.heap.size va MA
 rb:Row wr w0.heap.size vb MB
 ap:Apt va vb
 ga:∀x∈MA,x<B32
 gb:∀x∈MB,x<B32
 ta:Trim MA
 tb:Trim MB
 la:MA.length≤N
 lb:MB.length≤N
 le:nv B32 MB≤nv B32 MA
 gc:Nat.gcd (nv B32 MA) (nv B32 MB)=g
 gr:w0.grownBy wr none
theorem GI.kept {w0 wr w':World} {N g:Nat} {va vb:Value} {MA MB:List Nat} (h:GI w0 wr N g va vb MA MB) (k:wr.grownBy w' none):GI w0 w' N g va vb MA MB :=
 ⟨h.ra.kept k (by cases va.ownBlock<;>simp),h.rb.kept k (by cases vb.ownBlock<;>simp),h.ap,h.ga,h.gb,h.ta,h.tb,h.la,h.lb,h.le,h.gc,Za h.gr k⟩
theorem GI.bi {w0 wr:World} {N g:Nat} {va vb:Value} {MA MB:List Nat} {m1 m2 m3 m4:Int} (h:GI w0 wr N g va vb MA MB):BI w0 (wr.alloc (fObj m1 m2 m3 m4)) wr.heap.size va vb MA MB m1 m2 m3 m4:=by
 have k:=World.grownBy_alloc wr (fObj m1 m2 m3 m4) none
 refine⟨(h.kept k).ra,(h.kept k).rb,h.ap,heap_alloc_new _ _,fun e=>?_,fun e=>?_,(h.kept k).gr,h.ga,h.gb⟩
 ·have:=(h.ra.lt e).2;omega
 ·have:=(h.rb.lt e).2;omega
theorem GI.both {w0 wr w':World} {N g:Nat} {va vb v1 v2:Value} {MA MB K1 K2:List Nat} {m1 m2 m3 m4:Int} (h:GI w0 wr N g va vb MA MB) (hF:Fac (nv B32 MA) (nv B32 MB) m1 m2 m3 m4)
    (r1:Row w' w0.heap.size v1 K1) (r2:Row w' w0.heap.size v2 K2) (ap:Apt v1 v2) (g1:∀x∈K1,x<B32) (g2:∀x∈K2,x<B32) (t1:Trim K1) (t2:Trim K2) (n1:(nv B32 K1:Int)=m1*(nv B32 MA:Nat)+m2*(nv B32 MB:Nat)) (n2:(nv B32 K2:Int)=m3*(nv B32 MA:Nat)+m4*(nv B32 MB:Nat))
    (l1:K1.length≤MA.length) (l2:K2.length≤MA.length) (gr:w0.grownBy w' none):GI w0 w' N g v1 v2 K1 K2∧nv B32 K2<nv B32 MB:=by
 have hla:=h.la
 have f1:=hF.pr
 have f2:=hF.pb
 have f3:=hF.gc
 rw [←n1,←n2]at f1 f3
 rw [←n2]at f2
 refine⟨⟨r1,r2,ap,g1,g2,t1,t2,by omega,by omega,by omega,?_,gr⟩,by omega⟩
 rw [←h.gc,←f3]
 exact(Int.gcd_natCast_natCast _ _).symm
theorem GI.div {w0 wr w':World} {N g:Nat} {va vb vr:Value} {MA MB Kr:List Nat} (h:GI w0 wr N g va vb MA MB) (h0:0<nv B32 MB) (r2:Row w' wr.heap.size vr Kr) (g2:∀x∈Kr,x<B32) (t2:Trim Kr) (n2:nv B32 Kr=nv B32 MA % nv B32 MB) (l2:Kr.length≤MA.length) (gr:wr.grownBy w' none) :
    GI w0 w' N g vb vr MB Kr∧nv B32 Kr<nv B32 MB:=by
 have hla:=h.la
 have hlt:nv B32 Kr<nv B32 MB:=by rw [n2];exact Nat.mod_lt _ h0
 have hk:=h.kept gr
 have hr2:Row w' w0.heap.size vr Kr:=by
  refine⟨r2.1,?_⟩
  rcases r2.2 with e|⟨g',cap,cur,e1,e2,e3⟩
  ·exact .inl e
  ·exact .inr ⟨g',cap,cur,e1,Nat.le_trans h.gr.size e2,e3⟩
 refine⟨⟨hk.rb,hr2,?_,h.gb,g2,h.tb,t2,h.lb,by omega,by omega,?_,hk.gr⟩,hlt⟩
 ·unfold Apt
  cases ho:vb.ownBlock with
  |none=>exact .inl rfl
  |some b =>
   right
   intro e
   have h1:=(h.rb.lt ho).2
   have h2:=(r2.lt e.symm).1
   omega
 ·rw [n2,←h.gc,Nat.gcd_comm (nv B32 MB),←Nat.gcd_rec,Nat.gcd_comm]
theorem Row.slice {w:World} {base:Nat} {v:Value} {L:List Nat} (h:Row w base v L):∃a c,v=.slice a L.length c:=by
 rcases h.cases with ⟨e,e'⟩|⟨g,c,e,_⟩
 ·rw [e'];exact⟨_,_,e⟩
 ·exact⟨_,_,e⟩
def GcdQ (w0:World) (N g:Nat) (e:Ending) (w':World):Prop :=
 ∃v K,e=.returned v∧D4 w' v K∧(∀x∈K,x<B32)∧nv B32 K=g∧Trim K∧K.length≤N+2∧w0.grownBy w' none
theorem Jw (w0 w:World) (N g:Nat) (va vb:Value) (LA LB:List Nat) (hN:N≤100000) (HI:Hid (GI w0 w N g va vb LA LB)) :
    Calls Tryz.prog 178 #[va,vb] w (GcdQ w0 N g):=by
 have HC:Hid (Calls Tryz.prog 198 #[va,vb] w fun e w'=>e=.returned (.int .i64 (cmpN (nv B32 LA) (nv B32 LB)))∧w.grownBy w' none):=by
  have h:=HI.out
  exact ZZ w va vb LA LB h.ra.d4 h.rb.d4 h.ga h.gb h.ta h.tb (by have:=h.la;omega) (by have:=h.lb;omega)
 have hcm:0≤cmpN (nv B32 LA) (nv B32 LB):=by
  have:=HI.out.le
  unfold cmpN
  rw [if_neg (by omega)]
  split<;>decide
 generalize hcd:cmpN (nv B32 LA) (nv B32 LB)=cm at HC hcm
 clear hcd
 go_enter Tryz.func178,Tryz.ntmps178
 go_wp2_with fail
 refine HC.out.mono ?_
 rintro e w1 ⟨rfl,hg1⟩
 have HI1:Hid (GI w0 w1 N g va vb LA LB):=HI.out.kept hg1
 clear hg1
 go_wp2_with fail
 go_loopg [0,1] (nv B32 LB) (fun q s0 s1 wx=>∃MA MB,GI w0 wx N g s0 s1 MA MB∧nv B32 MB=q)
 case atStart=>exact⟨LA,LB,HI1.out,rfl⟩
 case round =>
  obtain⟨MA,MB,hG,hq⟩:=hrel
  clear HI1 HI HC
  obtain⟨a0,c0,rfl⟩:=hG.ra.slice
  obtain⟨a1,c1,rfl⟩:=hG.rb.slice
  obtain⟨n0,hn0⟩:∃n0,MA.length=n0:=⟨_,rfl⟩
  obtain⟨n1,hn1⟩:∃n1,MB.length=n1:=⟨_,rfl⟩
  rw [hn0,hn1]at hG
  have HG:Hid (GI w0 wr N g (.slice a0 n0 c0) (.slice a1 n1 c1) MA MB):=hG
  have HN0:Unit→MA.length=n0:=fun _=>hn0
  have HN1:Unit→MB.length=n1:=fun _=>hn1
  have HQ:Unit→nv B32 MB=gk:=fun _=>hq
  have b0:n0≤100000:=by have:=hG.la;omega
  have b1:n1≤100000:=by have:=hG.lb;omega
  rw [hn0,hn1]
  by_cases h3:2<n1
  ·have hbig:2 ^ 64≤nv B32 MB:=by
     have:=ZK hG.tb 2 (by omega)
     exact this
   have HFs:Hid (Calls Tryz.prog 199 #[.slice a0 n0 c0,.slice a1 n1 c1] wr (FseQ (nv B32 MA) (nv B32 MB) wr)) :=
    VZ wr _ _ MA MB (fun w' k=>(hG.kept k).ra.d4) (fun w' k=>(hG.kept k).rb.d4) hG.ga hG.gb hG.ta hG.tb (by omega) (by omega) hG.le (Nat.le_trans hbig hG.le)
   have hpos:Unit→0<nv B32 MB:=fun _=>Nat.lt_of_lt_of_le (Nat.pow_pos (by decide)) hbig
   clear hG hn0 hn1 hq hbig
   go_wp2_with fail
   refine HFs.out.mono ?_
   rintro e w2 ⟨m1,m2,m3,m4,some',rfl,hg2,hfac⟩
   have HG2:Hid (GI w0 w2 N g (.slice a0 n0 c0) (.slice a1 n1 c1) MA MB):=HG.out.kept hg2
   cases some'
   ·have HG3:Hid (GI w0 (w2.alloc (fObj m1 m2 m3 m4)) N g (.slice a0 n0 c0) (.slice a1 n1 c1) MA MB):=HG2.out.kept (World.grownBy_alloc _ _ none)
    have HD:Hid (Calls Tryz.prog 201 #[.slice a0 n0 c0,.slice a1 n1 c1] (w2.alloc (fObj m1 m2 m3 m4)) (DivQ (w2.alloc (fObj m1 m2 m3 m4)) (nv B32 MA) (nv B32 MB) MA.length)):=by
     have h:=HG3.out
     exact Xb _ _ _ MA MB h.ra.d4 h.rb.d4 h.ga h.gb h.ta h.tb (by rw [HN0 ()];exact b0) (by rw [HN1 ()];exact b1) (by rw [HN1 ()];omega)
    clear hfac hg2 HFs
    go_wp2_with fail
    refine HD.out.mono ?_
    rintro e w3 ⟨vq,vr,Kq,Kr,rfl,x1,x2,x3,x4,x5,x6,x7,x8,x9,x10,x11,x12⟩
    have HG4:Hid (GI w0 w3 N g (.slice a1 n1 c1) vr MB Kr∧nv B32 Kr<nv B32 MB):=HG3.out.div (hpos ()) x2 x5 x7 x9 x11 x12
    clear x1 x2 x3 x4 x5 x6 x7 x8 x9 x10 x11 x12 HD
    go_wp2_with fail
    go_roundg (nv B32 Kr)
    case measure=>rw [←HQ ()];exact HG4.out.2
    case rel=>exact⟨MB,Kr,HG4.out.1,rfl⟩
   ·have HFc:Hid (Fac (nv B32 MA) (nv B32 MB) m1 m2 m3 m4):=hfac rfl
    have HG3:Hid (GI w0 (w2.alloc (fObj m1 m2 m3 m4)) N g (.slice a0 n0 c0) (.slice a1 n1 c1) MA MB):=HG2.out.kept (World.grownBy_alloc _ _ none)
    have HD:Hid (Calls Tryz.prog 200 #[.agg #[.int .i64 m1,.int .i64 m2,.int .i64 m3,.int .i64 m4],.slice a0 n0 c0,.slice a1 n1 c1] (w2.alloc (fObj m1 m2 m3 m4)) (BthQ w0 n0 (m1*(nv B32 MA:Nat)+m2*(nv B32 MB:Nat)) (m3*(nv B32 MA:Nat)+m4*(nv B32 MB:Nat)))):=by
     have h:=HG3.out
     have hle:MB.length≤n0:=by
      rcases Nat.lt_or_ge n0 MB.length with hlt|hge
      ·exfalso
       have z1:=ZK h.tb n0 hlt
       have z2:=nv_lt B32 MA h.ga
       rw [HN0 ()]at z2
       have z3:=h.le
       omega
      ·exact hge
     exact ZbC w0 _ _ _ MA MB m1 m2 m3 m4 n0 (HN0 ()) (by have:=HN1 ();omega) b0 HFc.out hle h.bi
    clear hfac hg2 HFs
    go_wp2_with fail
    refine HD.out.mono ?_
    rintro e w3 ⟨v1,v2,K1,K2,rfl,x1,x2,x3,x4,x5,x6,x7,x8,x9,x10,x11,x12⟩
    have HG4:Hid (GI w0 w3 N g v1 v2 K1 K2∧nv B32 K2<nv B32 MB):=HG3.out.both HFc.out x1 x2 x3 x4 x5 x6 x7 x8 x9 (by rw [HN0 ()];exact x10) (by rw [HN0 ()];exact x11) x12
    clear x1 x2 x3 x4 x5 x6 x7 x8 x9 x10 x11 x12 HD
    go_wp2_with fail
    go_roundg (nv B32 K2)
    case measure=>rw [←HQ ()];exact HG4.out.2
    case rel=>exact⟨K1,K2,HG4.out.1,rfl⟩
  ·by_cases hz:n1=0
   ·subst hz
    have HF:Hid (GcdQ w0 N g (.returned (.slice a0 n0 c0)) wr):=by
     refine⟨_,MA,rfl,hG.ra.d4,hG.ga,?_,hG.ta,by have:=hG.la;omega,hG.gr⟩
     have:=hG.gc
     rw [List.length_eq_zero_iff.1 hn1]at this
     simpa [nv]using this
    clear hG hn0 hn1 hq
    go_wp2_with fail
    go_ret
    exact HF.out
   ·have hpos:Unit→0<nv B32 MB:=fun _=>by
      have:=ZK hG.tb 0 (by omega)
      rw [Nat.pow_zero]at this
      exact this
    have HD:Hid (Calls Tryz.prog 201 #[.slice a0 n0 c0,.slice a1 n1 c1] wr (DivQ wr (nv B32 MA) (nv B32 MB) MA.length)) :=
     Xb _ _ _ MA MB hG.ra.d4 hG.rb.d4 hG.ga hG.gb hG.ta hG.tb (by omega) (by omega) (by omega)
    clear hG hn0 hn1 hq
    go_wp2_with fail
    refine HD.out.mono ?_
    rintro e w3 ⟨vq,vr,Kq,Kr,rfl,x1,x2,x3,x4,x5,x6,x7,x8,x9,x10,x11,x12⟩
    have HG4:Hid (GI w0 w3 N g (.slice a1 n1 c1) vr MB Kr∧nv B32 Kr<nv B32 MB):=HG.out.div (hpos ()) x2 x5 x7 x9 x11 x12
    have HL2:Hid (Kr.length≤2∧MB.length≤2):=by
     refine⟨?_,by rw [HN1 ()];omega⟩
     rcases Nat.lt_or_ge 2 Kr.length with hlt|hge
     ·exfalso
      have z1:=ZK x7 2 hlt
      have z2:=nv_lt B32 MB HG.out.gb
      have z3:B32 ^ MB.length≤B32 ^ 2:=Nat.pow_le_pow_right (by decide) (by rw [HN1 ()];omega)
      have z4:=HG4.out.2
      omega
     ·exact hge
    have HWb:Hid (Calls Tryz.prog 203 #[.slice a1 n1 c1] w3 fun e w'=>e=.returned (.int .u64 ((nv B32 MB:Nat):Int))∧w'=w3):=Vn w3 _ MB HG4.out.1.ra.d4 HG4.out.1.ga HL2.out.2
    have HWr:Hid (Calls Tryz.prog 203 #[vr] w3 fun e w'=>e=.returned (.int .u64 ((nv B32 Kr:Nat):Int))∧w'=w3):=Vn w3 _ Kr HG4.out.1.rb.d4 HG4.out.1.gb HL2.out.1
    have hb64:∀L:List Nat,(∀x∈L,x<B32)→L.length≤2→nv B32 L≤18446744073709551615:=fun L hr hl=>by
     have z1:=nv_lt B32 L hr
     have z2:B32 ^ L.length≤B32 ^ 2:=Nat.pow_le_pow_right (by decide) hl
     rw [show B32 ^ 2=18446744073709551616 by decide]at z2
     omega
    have HGc:Hid (∀w,Calls Tryz.prog 175 #[.int .u64 ((nv B32 MB:Nat):Int),.int .u64 ((nv B32 Kr:Nat):Int)] w fun e w'=>e=.returned (.int .u64 (g:Int))∧w.grownBy w' none):=fun w=>by
     have:=Y2 (nv B32 MB) (nv B32 Kr) (hb64 _ HG4.out.1.ga HL2.out.2) (hb64 _ HG4.out.1.gb HL2.out.1) w
     rw [HG4.out.1.gc]at this
     exact this
    have hg64:g<18446744073709551616:=by
     have z1:=hb64 _ HG4.out.1.ga HL2.out.2
     have z2:=HG4.out.1.gc
     have z3:=Nat.gcd_le_left (nv B32 Kr) (hpos ())
     omega
    clear x1 x2 x3 x4 x5 x6 x7 x8 x9 x10 x11 x12 HD hb64
    go_wp2_with fail
    refine HWb.out.mono ?_
    rintro e w4 ⟨rfl,rfl⟩
    go_wp2_with fail
    refine HWr.out.mono ?_
    rintro e w5 ⟨rfl,rfl⟩
    go_wp2_with fail
    refine(HGc.out _).mono ?_
    rintro e w6 ⟨rfl,hg6⟩
    have HG6:Hid (w0.grownBy w6 none):=Za HG4.out.1.gr hg6
    clear hg6
    go_wp2_with fail
    refine(YR g hg64 _).mono ?_
    rintro e w7 ⟨v7,K7,rfl,y1,y2,y3,y4,y5,y6⟩
    have HF:Hid (GcdQ w0 N g (.returned v7) w7):=⟨v7,K7,rfl,y1.d4,y2,y3,y4,by omega,Za HG6.out y6⟩
    clear y1 y2 y3 y4 y5 y6
    go_wp2_with fail
    go_ret
    exact HF.out
theorem JC (w0 w:World) (N g:Nat) (va vb:Value) (LA LB:List Nat) (hN:N≤100000) (HI:Hid (GI w0 w N g vb va LB LA)) (hlt:nv B32 LA<nv B32 LB) :
    Calls Tryz.prog 178 #[va,vb] w (GcdQ w0 N g):=by
 have HC:Hid (Calls Tryz.prog 198 #[va,vb] w fun e w'=>e=.returned (.int .i64 (cmpN (nv B32 LA) (nv B32 LB)))∧w.grownBy w' none):=by
  have h:=HI.out
  exact ZZ w va vb LA LB h.rb.d4 h.ra.d4 h.gb h.ga h.tb h.ta (by have:=h.lb;omega) (by have:=h.la;omega)
 have hcm:cmpN (nv B32 LA) (nv B32 LB)<0:=by rw [ZaF hlt];decide
 generalize hcd:cmpN (nv B32 LA) (nv B32 LB)=cm at HC hcm
 clear hcd hlt
 go_enter Tryz.func178,Tryz.ntmps178
 go_wp2_with fail
 refine HC.out.mono ?_
 rintro e w1 ⟨rfl,hg1⟩
 have HI1:Hid (GI w0 w1 N g vb va LB LA):=HI.out.kept hg1
 clear hg1
 go_wp2_with fail
 go_loopg [0,1] (nv B32 LA) (fun q s0 s1 wx=>∃MA MB,GI w0 wx N g s0 s1 MA MB∧nv B32 MB=q)
 case atStart=>exact⟨LB,LA,HI1.out,rfl⟩
 case round =>
  obtain⟨MA,MB,hG,hq⟩:=hrel
  clear HI1 HI HC
  obtain⟨a0,c0,rfl⟩:=hG.ra.slice
  obtain⟨a1,c1,rfl⟩:=hG.rb.slice
  obtain⟨n0,hn0⟩:∃n0,MA.length=n0:=⟨_,rfl⟩
  obtain⟨n1,hn1⟩:∃n1,MB.length=n1:=⟨_,rfl⟩
  rw [hn0,hn1]at hG
  have HG:Hid (GI w0 wr N g (.slice a0 n0 c0) (.slice a1 n1 c1) MA MB):=hG
  have HN0:Unit→MA.length=n0:=fun _=>hn0
  have HN1:Unit→MB.length=n1:=fun _=>hn1
  have HQ:Unit→nv B32 MB=gk:=fun _=>hq
  have b0:n0≤100000:=by have:=hG.la;omega
  have b1:n1≤100000:=by have:=hG.lb;omega
  rw [hn0,hn1]
  by_cases h3:2<n1
  ·have hbig:2 ^ 64≤nv B32 MB:=by
     have:=ZK hG.tb 2 (by omega)
     exact this
   have HFs:Hid (Calls Tryz.prog 199 #[.slice a0 n0 c0,.slice a1 n1 c1] wr (FseQ (nv B32 MA) (nv B32 MB) wr)) :=
    VZ wr _ _ MA MB (fun w' k=>(hG.kept k).ra.d4) (fun w' k=>(hG.kept k).rb.d4) hG.ga hG.gb hG.ta hG.tb (by omega) (by omega) hG.le (Nat.le_trans hbig hG.le)
   have hpos:Unit→0<nv B32 MB:=fun _=>Nat.lt_of_lt_of_le (Nat.pow_pos (by decide)) hbig
   clear hG hn0 hn1 hq hbig
   go_wp2_with fail
   refine HFs.out.mono ?_
   rintro e w2 ⟨m1,m2,m3,m4,some',rfl,hg2,hfac⟩
   have HG2:Hid (GI w0 w2 N g (.slice a0 n0 c0) (.slice a1 n1 c1) MA MB):=HG.out.kept hg2
   cases some'
   ·have HG3:Hid (GI w0 (w2.alloc (fObj m1 m2 m3 m4)) N g (.slice a0 n0 c0) (.slice a1 n1 c1) MA MB):=HG2.out.kept (World.grownBy_alloc _ _ none)
    have HD:Hid (Calls Tryz.prog 201 #[.slice a0 n0 c0,.slice a1 n1 c1] (w2.alloc (fObj m1 m2 m3 m4)) (DivQ (w2.alloc (fObj m1 m2 m3 m4)) (nv B32 MA) (nv B32 MB) MA.length)):=by
     have h:=HG3.out
     exact Xb _ _ _ MA MB h.ra.d4 h.rb.d4 h.ga h.gb h.ta h.tb (by rw [HN0 ()];exact b0) (by rw [HN1 ()];exact b1) (by rw [HN1 ()];omega)
    clear hfac hg2 HFs
    go_wp2_with fail
    refine HD.out.mono ?_
    rintro e w3 ⟨vq,vr,Kq,Kr,rfl,x1,x2,x3,x4,x5,x6,x7,x8,x9,x10,x11,x12⟩
    have HG4:Hid (GI w0 w3 N g (.slice a1 n1 c1) vr MB Kr∧nv B32 Kr<nv B32 MB):=HG3.out.div (hpos ()) x2 x5 x7 x9 x11 x12
    clear x1 x2 x3 x4 x5 x6 x7 x8 x9 x10 x11 x12 HD
    go_wp2_with fail
    go_roundg (nv B32 Kr)
    case measure=>rw [←HQ ()];exact HG4.out.2
    case rel=>exact⟨MB,Kr,HG4.out.1,rfl⟩
   ·have HFc:Hid (Fac (nv B32 MA) (nv B32 MB) m1 m2 m3 m4):=hfac rfl
    have HG3:Hid (GI w0 (w2.alloc (fObj m1 m2 m3 m4)) N g (.slice a0 n0 c0) (.slice a1 n1 c1) MA MB):=HG2.out.kept (World.grownBy_alloc _ _ none)
    have HD:Hid (Calls Tryz.prog 200 #[.agg #[.int .i64 m1,.int .i64 m2,.int .i64 m3,.int .i64 m4],.slice a0 n0 c0,.slice a1 n1 c1] (w2.alloc (fObj m1 m2 m3 m4)) (BthQ w0 n0 (m1*(nv B32 MA:Nat)+m2*(nv B32 MB:Nat)) (m3*(nv B32 MA:Nat)+m4*(nv B32 MB:Nat)))):=by
     have h:=HG3.out
     have hle:MB.length≤n0:=by
      rcases Nat.lt_or_ge n0 MB.length with hlt|hge
      ·exfalso
       have z1:=ZK h.tb n0 hlt
       have z2:=nv_lt B32 MA h.ga
       rw [HN0 ()]at z2
       have z3:=h.le
       omega
      ·exact hge
     exact ZbC w0 _ _ _ MA MB m1 m2 m3 m4 n0 (HN0 ()) (by have:=HN1 ();omega) b0 HFc.out hle h.bi
    clear hfac hg2 HFs
    go_wp2_with fail
    refine HD.out.mono ?_
    rintro e w3 ⟨v1,v2,K1,K2,rfl,x1,x2,x3,x4,x5,x6,x7,x8,x9,x10,x11,x12⟩
    have HG4:Hid (GI w0 w3 N g v1 v2 K1 K2∧nv B32 K2<nv B32 MB):=HG3.out.both HFc.out x1 x2 x3 x4 x5 x6 x7 x8 x9 (by rw [HN0 ()];exact x10) (by rw [HN0 ()];exact x11) x12
    clear x1 x2 x3 x4 x5 x6 x7 x8 x9 x10 x11 x12 HD
    go_wp2_with fail
    go_roundg (nv B32 K2)
    case measure=>rw [←HQ ()];exact HG4.out.2
    case rel=>exact⟨K1,K2,HG4.out.1,rfl⟩
  ·by_cases hz:n1=0
   ·subst hz
    have HF:Hid (GcdQ w0 N g (.returned (.slice a0 n0 c0)) wr):=by
     refine⟨_,MA,rfl,hG.ra.d4,hG.ga,?_,hG.ta,by have:=hG.la;omega,hG.gr⟩
     have:=hG.gc
     rw [List.length_eq_zero_iff.1 hn1]at this
     simpa [nv]using this
    clear hG hn0 hn1 hq
    go_wp2_with fail
    go_ret
    exact HF.out
   ·have hpos:Unit→0<nv B32 MB:=fun _=>by
      have:=ZK hG.tb 0 (by omega)
      rw [Nat.pow_zero]at this
      exact this
    have HD:Hid (Calls Tryz.prog 201 #[.slice a0 n0 c0,.slice a1 n1 c1] wr (DivQ wr (nv B32 MA) (nv B32 MB) MA.length)) :=
     Xb _ _ _ MA MB hG.ra.d4 hG.rb.d4 hG.ga hG.gb hG.ta hG.tb (by omega) (by omega) (by omega)
    clear hG hn0 hn1 hq
    go_wp2_with fail
    refine HD.out.mono ?_
    rintro e w3 ⟨vq,vr,Kq,Kr,rfl,x1,x2,x3,x4,x5,x6,x7,x8,x9,x10,x11,x12⟩
    have HG4:Hid (GI w0 w3 N g (.slice a1 n1 c1) vr MB Kr∧nv B32 Kr<nv B32 MB):=HG.out.div (hpos ()) x2 x5 x7 x9 x11 x12
    have HL2:Hid (Kr.length≤2∧MB.length≤2):=by
     refine⟨?_,by rw [HN1 ()];omega⟩
     rcases Nat.lt_or_ge 2 Kr.length with hlt|hge
     ·exfalso
      have z1:=ZK x7 2 hlt
      have z2:=nv_lt B32 MB HG.out.gb
      have z3:B32 ^ MB.length≤B32 ^ 2:=Nat.pow_le_pow_right (by decide) (by rw [HN1 ()];omega)
      have z4:=HG4.out.2
      omega
     ·exact hge
    have HWb:Hid (Calls Tryz.prog 203 #[.slice a1 n1 c1] w3 fun e w'=>e=.returned (.int .u64 ((nv B32 MB:Nat):Int))∧w'=w3):=Vn w3 _ MB HG4.out.1.ra.d4 HG4.out.1.ga HL2.out.2
    have HWr:Hid (Calls Tryz.prog 203 #[vr] w3 fun e w'=>e=.returned (.int .u64 ((nv B32 Kr:Nat):Int))∧w'=w3):=Vn w3 _ Kr HG4.out.1.rb.d4 HG4.out.1.gb HL2.out.1
    have hb64:∀L:List Nat,(∀x∈L,x<B32)→L.length≤2→nv B32 L≤18446744073709551615:=fun L hr hl=>by
     have z1:=nv_lt B32 L hr
     have z2:B32 ^ L.length≤B32 ^ 2:=Nat.pow_le_pow_right (by decide) hl
     rw [show B32 ^ 2=18446744073709551616 by decide]at z2
     omega
    have HGc:Hid (∀w,Calls Tryz.prog 175 #[.int .u64 ((nv B32 MB:Nat):Int),.int .u64 ((nv B32 Kr:Nat):Int)] w fun e w'=>e=.returned (.int .u64 (g:Int))∧w.grownBy w' none):=fun w=>by
     have:=Y2 (nv B32 MB) (nv B32 Kr) (hb64 _ HG4.out.1.ga HL2.out.2) (hb64 _ HG4.out.1.gb HL2.out.1) w
     rw [HG4.out.1.gc]at this
     exact this
    have hg64:g<18446744073709551616:=by
     have z1:=hb64 _ HG4.out.1.ga HL2.out.2
     have z2:=HG4.out.1.gc
     have z3:=Nat.gcd_le_left (nv B32 Kr) (hpos ())
     omega
    clear x1 x2 x3 x4 x5 x6 x7 x8 x9 x10 x11 x12 HD hb64
    go_wp2_with fail
    refine HWb.out.mono ?_
    rintro e w4 ⟨rfl,rfl⟩
    go_wp2_with fail
    refine HWr.out.mono ?_
    rintro e w5 ⟨rfl,rfl⟩
    go_wp2_with fail
    refine(HGc.out _).mono ?_
    rintro e w6 ⟨rfl,hg6⟩
    have HG6:Hid (w0.grownBy w6 none):=Za HG4.out.1.gr hg6
    clear hg6
    go_wp2_with fail
    refine(YR g hg64 _).mono ?_
    rintro e w7 ⟨v7,K7,rfl,y1,y2,y3,y4,y5,y6⟩
    have HF:Hid (GcdQ w0 N g (.returned v7) w7):=⟨v7,K7,rfl,y1.d4,y2,y3,y4,by omega,Za HG6.out y6⟩
    clear y1 y2 y3 y4 y5 y6
    go_wp2_with fail
    go_ret
    exact HF.out
theorem U6 (w0 w:World) (N:Nat) (va vb:Value) (LA LB:List Nat) (hN:N≤100000) (ra:Row w w0.heap.size va LA) (rb:Row w w0.heap.size vb LB) (ap:Apt va vb) (ga:∀x∈LA,x<B32) (gb:∀x∈LB,x<B32) (ta:Trim LA) (tb:Trim LB) (la:LA.length≤N) (lb:LB.length≤N) (gr:w0.grownBy w none) :
    Calls Tryz.prog 178 #[va,vb] w (GcdQ w0 N (Nat.gcd (nv B32 LA) (nv B32 LB))):=by
 rcases Nat.lt_or_ge (nv B32 LA) (nv B32 LB)with h|h
 ·exact JC w0 w N _ va vb LA LB hN ⟨rb,ra,ap.swap,gb,ga,tb,ta,lb,la,Nat.le_of_lt h,Nat.gcd_comm _ _,gr⟩ h
 ·exact Jw w0 w N _ va vb LA LB hN ⟨ra,rb,ap,ga,gb,ta,tb,la,lb,h,rfl,gr⟩
end Go.Proofs.YtdcadiaeaclpgaaGreatDoor
