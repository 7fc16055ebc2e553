/- The document's down: a magnitude divided by a power of 2. -/
import Derived.Test.YtdcadiaeaclpgaaGreatDoorBunRed
import Derived.Test.YtdcadiaeaclpgaaGreatDoorBunShd
import Derived.Test.YtdcadiaeaclpgaaGreatDoorBunTtm
import Derived.Test.YtdcadiaeaclpgaaGreatDoorBunAll
import Derived.Test.YtdcadiaeaclpgaaGreatDoorBunChk
import Derived.Test.YtdcadiaeaclpgaaGreatDoorBunOps
namespace Go.Proofs.YtdcadiaeaclpgaaGreatDoor
open Go.RowKit Go.Lib Go.Sort
set_option maxHeartbeats 3200000
set_option maxRecDepth 1000000
theorem ZeG (w:World) (va:Value) (A:List Nat) (n:Nat) (hA:D4 w va A) (ra:∀x∈A,x<B32) (la:A.length≤1000000) (hn:n≤10000000) :
    Calls Tryz.prog 183 #[va,.int .i64 (n:Int)] w fun e w'=>∃v K,e=.returned v∧D4 w' v K∧(∀x∈K,x<B32)∧nv B32 K=nv B32 A / 2 ^ n∧K.length≤A.length∧Trim K∧w.grownBy w' none:=by
 obtain⟨q,hq⟩:∃q,n / 32=q:=⟨_,rfl⟩
 obtain⟨b,hb⟩:∃b,n % 32=b:=⟨_,rfl⟩
 have hqI:(n:Int) / 32=(q:Int):=by omega
 have hbI:(n:Int) % 32=(b:Int):=by omega
 have hb9:(b:Int)≤31:=by omega
 have hnI:(n:Int)≤10000000:=by omega
 have hqN:(q:Int)≤1000000:=by omega
 obtain⟨aa,ca,rfl⟩:=hA.slice
 obtain⟨p,hp⟩:∃p,A.length=p:=⟨_,rfl⟩
 have HP:Unit→A.length=p:=fun _=>hp
 have HA:Hid (D4 w (.slice aa p ca) A):=(by rw [←hp];exact hA:D4 w (.slice aa p ca) A)
 have HRa:Hid (∀x∈A,x<B32):=ra
 have HB:Hid (n / 32=q∧n % 32=b):=⟨hq,hb⟩
 have hpI:(p:Int)≤1000000:=by omega
 rw [hp]
 clear hA ra hp hq hb la hn
 go_enter Tryz.func183,Tryz.ntmps183
 go_wp2_with fail
 go_loopw [5,6] (fun s t wr=>∃(k:Nat) (K:List Nat),t=.int .i64 ((q+k:Nat):Int)∧q+k≤max p q∧K.length=k∧(∀x∈K,x<B32)∧(∀j,j<k→K[j]?.getD 0=dn (A.drop q) b j)∧Row wr w.heap.size s K∧w.grownBy wr none) (fun _ t _=>max p q-(RowKit.intOf t).toNat)
 case atStart=>exact⟨0,[],rfl,by omega,rfl,by simp,fun j hj=>absurd hj (Nat.not_lt_zero _),Row.nil _ _,World.grownBy.refl _ _⟩
 case round =>
  obtain⟨k,K,rfl,hkm,hKl,hKr,hKd,hR,hg⟩:=hrel
  have HK:Hid (K.length=k∧(∀x∈K,x<B32)∧(∀j,j<k→K[j]?.getD 0=dn (A.drop q) b j)):=⟨hKl,hKr,hKd⟩
  have HG:Hid (w.grownBy wr none):=hg
  have hkI:((q+k:Nat):Int)≤1000000:=by omega
  obtain⟨ao,cp,hsl⟩:=hR.d4.slice
  rw [hKl]at hsl
  subst hsl
  have HR:Hid (Row wr w.heap.size (.slice ao k cp) K):=hR
  obtain⟨i,hi⟩:∃i,q+k=i:=⟨_,rfl⟩
  rw [hi]at hkm hkI ⊢
  have HI:Hid (q+k=i):=hi
  clear hKl hKr hKd hR hi
  by_cases hip:i<p
  ·have hipI:(i:Int)<p:=by omega
   rcases HA.out with ⟨_,e⟩|⟨Ba,oa,c',hve,hcap,hDc⟩
   ·have:=HP ();rw [e]at this;simp at this;omega
   obtain⟨e1,e2,e3⟩:=Value.slice.inj hve
   subst e1
   subst e3
   have hx:=Zd hg (hDc i (by rw [HP ()];exact hip)) (by simp)
   have hAt:∀W,wr.grownBy W none→Calls Tryz.prog 152 #[.slice (some ⟨Ba,oa,none⟩) p ca,.int .i64 ((i+1:Nat):Int)] W fun e w'=>e=.returned (.int .u64 ((A[i+1]?.getD 0:Nat):Int))∧w'=W:=fun W hW=>ZbM W _ A (HA.out.kept (Za hg hW)) HRa.out (by have:=HP ();omega) (i+1) (by omega)
   have x1:A[i+1]?.getD 0<4294967296:=Zt HRa.out (i+1)
   have x0:A[i]?.getD 0<4294967296:=Zt HRa.out i
   have HD:Hid (dn (A.drop q) b k=(A[i+1]?.getD 0*4294967296+A[i]?.getD 0) / 2 ^ b % 4294967296):=(by
    have h1:=HI.out
    show dn (A.drop q) b k=_
    unfold dn
    rw [List.getElem?_drop,List.getElem?_drop,show q+(k+1)=i+1 by omega,h1])
   generalize A[i+1]?.getD 0=y at *
   generalize A[i]?.getD 0=x at *
   have HAT:Hid (∀W,wr.grownBy W none→Calls Tryz.prog 152 #[.slice (some ⟨Ba,oa,none⟩) p ca,.int .i64 ((i:Int)+1)] W fun e w'=>e=.returned (.int .u64 (y:Int))∧w'=W):=hAt
   have hyI:(y:Int)≤4294967295:=by omega
   have hxI:(x:Int)≤4294967295:=by omega
   have hw1:IntKind.u64.wrap ((y:Int)*4294967296)=(y:Int)*4294967296:=by rw [IntKind.wrap_u64];omega
   obtain⟨Z,hZ⟩:∃Z,y*4294967296+x=Z:=⟨_,rfl⟩
   have hZI:(y:Int)*4294967296+x=(Z:Int):=by omega
   have hZ9:(Z:Int)≤18446744073709551615:=by omega
   have hw2:IntKind.u64.wrap ((y:Int)*4294967296+(x:Int))=(Z:Int):=by rw [hZI,IntKind.wrap_u64];omega
   have hw3:IntKind.u64.wrap (x:Int)=(x:Int):=by rw [IntKind.wrap_u64];omega
   have hwi:IntKind.i64.wrap ((i:Int)+1)=(i:Int)+1:=by rw [IntKind.wrap_i64];omega
   have hmod:(n:Int).tmod 32=(b:Int):=by rw [Int.tmod_eq_emod_of_nonneg (by omega)];exact hbI
   rw [hZ]at HD
   obtain⟨d,hd⟩:∃d,Z / 2 ^ b % 4294967296=d:=⟨_,rfl⟩
   rw [hd]at HD
   have hTm:((Z:Int) / 2 ^ b).tmod 4294967296=(d:Int):=by
    have e:(Z:Int) / 2 ^ b=((Z / 2 ^ b:Nat):Int):=by simp
    rw [e]
    generalize Z / 2 ^ b=T at *
    rw [Int.tmod_eq_emod_of_nonneg (by omega)]
    omega
   have hTm2:(d:Int) % 4294967296=(d:Int):=by omega
   have hd9:(d:Int)≤4294967295:=by omega
   have HR1:Hid (Row (wr.alloc (.cells #[.int .u32 (d:Int)] 145)).drew w.heap.size (.slice ao k cp) K):=Row.kept HR.out (Zf (World.grownBy_alloc _ _ none)) (by cases (Value.slice ao k cp).ownBlock<;>simp)
   have hgs:=HG.out.size
   have hcd:((wr.alloc (.cells #[.int .u32 (d:Int)] 145)).drew).cell? ⟨wr.heap.size,0,none⟩=some (.int .u32 (d:Int)):=(by
    have h:=heap_alloc_new wr (.cells #[.int .u32 (d:Int)] 145)
    have h2:((wr.alloc (.cells #[.int .u32 (d:Int)] 145)).drew).heap[wr.heap.size]?=some (.cells #[.int .u32 (d:Int)] 145):=h
    simp only [World.cell?,h2]
    rfl)
   have HCD:Hid (((wr.alloc (.cells #[.int .u32 (d:Int)] 145)).drew).cell? ⟨wr.heap.size,0,none⟩=some (.int .u32 (d:Int))):=hcd
   have HL9:Hid (K.length≤1000000000∧w.heap.size≤((wr.alloc (.cells #[.int .u32 (d:Int)] 145)).drew).heap.size):=(by
    have h1:=HK.out.1
    have h2:=HI.out
    refine⟨by omega,?_⟩
    have h3:((wr.alloc (.cells #[.int .u32 (d:Int)] 145)).drew).heap.size=wr.heap.size+1:=by simp
    omega)
   have HST:Hid (∀v' w',Row w' w.heap.size v' (K++[d])→(wr.alloc (.cells #[.int .u32 (d:Int)] 145)).drew.grownBy w' (Value.slice ao k cp).ownBlock→∃(k':Nat) (K':List Nat),(Value.int .i64 ((i:Int)+1))=.int .i64 ((q+k':Nat):Int)∧q+k'≤max p q∧K'.length=k'∧(∀x∈K',x<B32)∧(∀j,j<k'→K'[j]?.getD 0=dn (A.drop q) b j)∧Row w' w.heap.size v' K'∧w.grownBy w' none):=(by
    intro v' w' hR' hg'
    have h1:=HI.out
    obtain⟨a1,a2,a3⟩:=HK.out
    refine⟨k+1,K++[d],Zl (by omega),by omega,by simp [a1],fun x hx=>?_,fun j hj=>?_,hR',Ye (Za HG.out (Zf (grow1 _ _))) HR1.out hg'⟩
    ·rcases List.mem_append.1 hx with h|h
     ·exact a2 x h
     ·simp at h;subst h;simp only [B32];omega
    ·by_cases hjk:j<k
     ·rw [List.getElem?_append_left (by omega)];exact a3 j hjk
     ·obtain rfl:j=k:=by omega
      rw [List.getElem?_append_right (by omega),a1,Nat.sub_self,HD.out];rfl)
   have HRg:Hid (wr.grownBy wr none∧wr.grownBy wr.drew none):=⟨World.grownBy.refl _ _,Zf (World.grownBy.refl _ _)⟩
   clear e2 hve hDc hAt hg x1 x0 hZ hd hcd hgs
   go_wp2_with fail
   go_region_with (go_at_call 152;refine(HAT.out _ (by first|exact HRg.out.1|exact HRg.out.2)).mono ?_;rintro e w' ⟨rfl,rfl⟩)
   all_goals
    go_wp2_with (at_builtin;refine ZB rfl _ _ rfl w.heap.size (.slice ao k cp) K d rfl HR1.out HL9.out.1 HL9.out.2 ⟨wr.heap.size,0,none⟩ rfl HCD.out ?_)
    intro v' w' hR' hg' ho'
    have HF:=HST.out v' w' hR' hg'
    have HFF:Hid (∃(k':Nat) (K':List Nat),(Value.int .i64 ((i:Int)+1))=.int .i64 ((q+k':Nat):Int)∧q+k'≤max p q∧K'.length=k'∧(∀x∈K',x<B32)∧(∀j,j<k'→K'[j]?.getD 0=dn (A.drop q) b j)∧Row w' w.heap.size v' K'∧w.grownBy w' none):=HF
    clear hR' hg' ho' HF
    go_wp2_with fail
    go_roundw
    case rel=>exact HFF.out
    case measure=>simp [RowKit.intOf];omega
  ·have hpi:(p:Int)≤i:=by omega
   obtain⟨a1,a2,a3⟩:=HK.out
   have hcut:=Z2 wr (.slice ao k cp) K HR.out.d4 a2 (by rw [a1];have:=HI.out;omega)
   have HC:Hid (Calls Tryz.prog 130 #[.slice ao k cp] wr fun e w'=>∃v' k',e=.returned v'∧k'≤K.length∧D4 wr v' (K.take k')∧nv B32 (K.take k')=nv B32 K∧(k'=0∨(K.take k')[k'-1]?.getD 0≠0)∧w'=wr):=hcut
   clear hcut a1 a2 a3 hg
   go_wp2_with fail
   refine HC.out.mono ?_
   rintro e w1 ⟨v',k',rfl,hk',hD,hnk,hlast,hw1⟩
   subst hw1
   have HD:Hid (D4 w1 v' (K.take k')∧k'≤K.length∧nv B32 (K.take k')=nv B32 K∧(k'=0∨(K.take k')[k'-1]?.getD 0≠0)):=⟨hD,hk',hnk,hlast⟩
   clear hD hk' hnk hlast HC
   go_wp2_with fail
   go_ret
   obtain⟨d1,d2,d3,d4⟩:=HD.out
   obtain⟨a1,a2,a3⟩:=HK.out
   have h1:=HI.out
   have hP:=HP ()
   have hdl:(A.drop q).length=k:=by rw [List.length_drop,hP];omega
   have hv:nv B32 K=nv B32 (A.drop q) / 2 ^ b:=Zay b (by omega) (A.drop q) K (by rw [a1,hdl]) (fun x hx=>HRa.out x (List.mem_of_mem_drop hx)) (fun j hj=>a3 j (by omega))
   refine⟨v',K.take k',rfl,d1,fun x hx=>a2 x (List.mem_of_mem_take hx),?_,by rw [List.length_take];omega,?_,HG.out⟩
   ·rw [d3,hv,YG A q HRa.out,←HB.out.1,←HB.out.2]
    exact ZaZ _ _
   ·rcases d4 with h|h
    ·left;rw [h];rfl
    ·right
     have e:(K.take k').length=k':=by rw [List.length_take,Nat.min_eq_left d2]
     rw [e];exact h
theorem make4c (w:World) (q c:Nat) (hq:q≤c) (hn:c≤1000000000) :
    (Instr.makeSlice 146 (.int .i64 q) (.int .i64 c)).run Tryz.prog w=.ok (.slice (some ⟨w.heap.size,0,none⟩) q c) (w.alloc (.cells ((ints (List.replicate c 0)).map enc4).toArray 145)):=by
 obtain⟨i0,hi,hz0,hz1,hz2⟩:=info_parts Tryz.info4
 have h:=run_make (P:=Tryz.prog) w 146 145 i0 _ Tryz.underlying146 hi hz0 .i64 .i64 q c (by omega) (by omega) (by rw [hz2];omega) (by omega)
 rw [h,hz1,Vl _ _ rfl]
 simp [ints]
theorem Zfh (w:World) (q c:Nat) (hq:q≤c) (hc:c≤1000000000):Row (w.alloc (.cells ((ints (List.replicate c 0)).map enc4).toArray 145)) w.heap.size (.slice (some ⟨w.heap.size,0,none⟩) q c) (List.replicate q 0):=by
 have hb:BlkL (w.alloc (.cells ((ints (List.replicate c 0)).map enc4).toArray 145)) w.heap.size 145 enc4 (ints (List.replicate c 0)):=heap_alloc_new _ _
 have hr:=hb.row (Nat.le_refl _) (by simp [maxLen];omega)
 rw [List.length_replicate]at hr
 have:=hr.take hq
 rwa [List.take_replicate,Nat.min_eq_left hq]at this
theorem ZeK {V c S y s P:Nat} (h:V+c*P=S*2 ^ s):V+(c+y*2 ^ s) % 4294967296*P+(c+y*2 ^ s) / 4294967296*(P*4294967296)=(S+y*P)*2 ^ s:=by
 have e:=Nat.div_add_mod (c+y*2 ^ s) 4294967296
 generalize(c+y*2 ^ s) / 4294967296=d at *
 generalize(c+y*2 ^ s) % 4294967296=r at *
 have e2:=congrArg (·*P) e
 simp only [Nat.add_mul]at e2
 rw [Nat.add_mul,←h]
 have e3:d*(P*4294967296)=4294967296*d*P:=by rw [Nat.mul_comm P,←Nat.mul_assoc,Nat.mul_comm d]
 have e4:y*P*2 ^ s=y*2 ^ s*P:=by rw [Nat.mul_assoc,Nat.mul_comm P,Nat.mul_assoc]
 omega
theorem up_pos (w:World) (va:Value) (A:List Nat) (n:Nat) (hA:D4 w va A) (ra:∀x∈A,x<B32) (la:A.length≤1000000) (h0:A.length≠0) (hn:n≤10000000) :
    Calls Tryz.prog 181 #[va,.int .i64 (n:Int)] w fun e w'=>∃v K,e=.returned v∧D4 w' v K∧(∀x∈K,x<B32)∧nv B32 K=nv B32 A*2 ^ n∧K.length≤n / 32+A.length+1∧Trim K∧w.grownBy w' none:=by
 obtain⟨q,hq⟩:∃q,n / 32=q:=⟨_,rfl⟩
 obtain⟨b,hb⟩:∃b,n % 32=b:=⟨_,rfl⟩
 have hqI:(n:Int) / 32=(q:Int):=by omega
 have hbI:(n:Int) % 32=(b:Int):=by omega
 have hb9:(b:Int)≤31:=by omega
 have hnI:(n:Int)≤10000000:=by omega
 have hqN:(q:Int)≤1000000:=by omega
 obtain⟨aa,ca,rfl⟩:=hA.slice
 obtain⟨p,hp⟩:∃p,A.length=p:=⟨_,rfl⟩
 have HP:Unit→A.length=p:=fun _=>hp
 have HA:Hid (D4 w (.slice aa p ca) A):=(by rw [←hp];exact hA:D4 w (.slice aa p ca) A)
 have HRa:Hid (∀x∈A,x<B32):=ra
 have HB:Hid (n / 32=q∧n % 32=b):=⟨hq,hb⟩
 have hpI:(p:Int)≤1000000:=by omega
 have hp1:(1:Int)≤p:=by omega
 have hpz:((p:Int) == 0)=false:=by rw [beq_eq_false_iff_ne];omega
 have hmk:(Instr.makeSlice 146 (.int .i64 (q:Int)) (.int .i64 ((q:Int)+p+1))).run Tryz.prog w=.ok (.slice (some ⟨w.heap.size,0,none⟩) q (q+p+1)) (w.alloc (.cells ((ints (List.replicate (q+p+1) 0)).map enc4).toArray 145)):=make4c w q (q+p+1) (by omega) (by omega)
 have HR0:Hid (Row (w.alloc (.cells ((ints (List.replicate (q+p+1) 0)).map enc4).toArray 145)) w.heap.size (.slice (some ⟨w.heap.size,0,none⟩) q (q+p+1)) (List.replicate q 0)):=Zfh w q (q+p+1) (by omega) (by omega)
 have hmod:(n:Int).tmod 32=(b:Int):=by rw [Int.tmod_eq_emod_of_nonneg (by omega)];exact hbI
 rw [hp]
 rw [hq]
 clear hA ra hp hq hb la hn h0
 go_enter Tryz.func181,Tryz.ntmps181
 go_wp2_with fail
 clear hmk
 go_loopw [5,6,7] (fun s c t wr=>∃(i cy:Nat) (K:List Nat),t=.int .i64 (i:Int)∧c=.int .u64 (cy:Int)∧i≤p∧cy≤4294967295∧K.length=i∧(∀x∈K,x<B32)∧nv B32 K+cy*B32 ^ i=nv B32 (A.take i)*2 ^ b∧Row wr w.heap.size s (List.replicate q 0++K)∧w.grownBy wr none) (fun _ _ t _=>p-(RowKit.intOf t).toNat)
 case atStart=>exact⟨0,0,[],rfl,rfl,by omega,by omega,rfl,by simp,by simp [nv],by rw [List.append_nil];exact HR0.out,grow1 _ _⟩
 case round =>
  obtain⟨i,cy,K,rfl,rfl,hip,hcy,hKl,hKr,hKv,hR,hg⟩:=hrel
  have HK:Hid (K.length=i∧(∀x∈K,x<B32)∧nv B32 K+cy*B32 ^ i=nv B32 (A.take i)*2 ^ b):=⟨hKl,hKr,hKv⟩
  have HG:Hid (w.grownBy wr none):=hg
  have hcyI:(cy:Int)≤4294967295:=by omega
  obtain⟨ao,cp,hsl⟩:=hR.d4.slice
  rw [List.length_append,List.length_replicate,hKl]at hsl
  subst hsl
  have HR:Hid (Row wr w.heap.size (.slice ao (q+i) cp) (List.replicate q 0++K)):=hR
  have HNB:Hid (2 ^ b≤2147483648):=(by
   have h:b≤31:=by omega
   have:2 ^ b≤2 ^ 31:=Nat.pow_le_pow_right (by decide) h
   exact this:2 ^ b≤2147483648)
  clear hKl hKr hKv hR HR0 hcy
  by_cases hi1:i<p
  ·have hiI:(i:Int)<p:=by omega
   rcases HA.out with ⟨_,e⟩|⟨Ba,oa,c',hve,hcap,hDc⟩
   ·have:=HP ();rw [e]at this;simp at this;omega
   obtain⟨e1,e2,e3⟩:=Value.slice.inj hve
   subst e1
   subst e3
   have hx:=Zd hg (hDc i (by rw [HP ()];exact hi1)) (by simp)
   have y0:A[i]?.getD 0<4294967296:=Zt HRa.out i
   have SY:=Zp B32 A i
   have HSY:Hid (nv B32 (A.take (i+1))=nv B32 (A.take i)+A[i]?.getD 0*B32 ^ i):=SY
   generalize A[i]?.getD 0=y at *
   have hyI:(y:Int)≤4294967295:=by omega
   obtain⟨S,hS⟩:∃S,y*2 ^ b=S:=⟨_,rfl⟩
   have hS9:S≤4294967295*2147483648:=by rw [←hS];exact Nat.mul_le_mul (by omega) HNB.out
   have hSI:(y:Int)*2 ^ b=(S:Int):=by rw [←hS];simp
   obtain⟨T,hT⟩:∃T,cy+S=T:=⟨_,rfl⟩
   have hw1:IntKind.u64.wrap ((y:Int)*2 ^ b)=(S:Int):=by rw [hSI,IntKind.wrap_u64];omega
   have hw2:IntKind.u64.wrap ((cy:Int)+(S:Int))=(T:Int):=by rw [IntKind.wrap_u64];omega
   have hw3:IntKind.u64.wrap (y:Int)=(y:Int):=by rw [IntKind.wrap_u64];omega
   have hwS:IntKind.u64.wrap (S:Int)=(S:Int):=by rw [IntKind.wrap_u64];omega
   obtain⟨d,hd⟩:∃d,T % 4294967296=d:=⟨_,rfl⟩
   obtain⟨c2,hc2⟩:∃c2,T / 4294967296=c2:=⟨_,rfl⟩
   have hdI:(T:Int) % 4294967296=(d:Int):=by omega
   have hdI2:(d:Int) % 4294967296=(d:Int):=by omega
   have hc2I:(T:Int) / 4294967296=(c2:Int):=by omega
   have hdT:(T:Int).tmod 4294967296=(d:Int):=by rw [Int.tmod_eq_emod_of_nonneg (by omega)];omega
   have hcT:(T:Int).tdiv 4294967296=(c2:Int):=by rw [Int.tdiv_eq_ediv_of_nonneg (by omega)];omega
   have hw4:IntKind.u64.wrap (c2:Int)=(c2:Int):=by rw [IntKind.wrap_u64];omega
   have hd9:(d:Int)≤4294967295:=by omega
   have hT9:(T:Int)≤18446744073709551615:=by omega
   have HT:Hid (T=cy+y*2 ^ b∧T % 4294967296=d∧T / 4294967296=c2∧c2≤4294967295):=⟨by omega,hd,hc2,by omega⟩
   have HR1:Hid (Row (wr.alloc (.cells #[.int .u32 (d:Int)] 145)) w.heap.size (.slice ao (q+i) cp) (List.replicate q 0++K)):=Row.kept HR.out (World.grownBy_alloc _ _ none) (by cases (Value.slice ao (q+i) cp).ownBlock<;>simp)
   have HL9:Hid ((List.replicate q 0++K).length≤1000000000∧w.heap.size≤(wr.alloc (.cells #[.int .u32 (d:Int)] 145)).heap.size):=(by
    have h1:=HK.out.1
    have h2:=HG.out.size
    refine⟨by rw [List.length_append,List.length_replicate];omega,by simp;omega⟩)
   have HST:Hid (∀v' w',Row w' w.heap.size v' (List.replicate q 0++K++[d])→(wr.alloc (.cells #[.int .u32 (d:Int)] 145)).grownBy w' (Value.slice ao (q+i) cp).ownBlock→∃(i' cy':Nat) (K':List Nat),(Value.int .i64 ((i:Int)+1))=.int .i64 (i':Int)∧(Value.int .u64 (c2:Int))=.int .u64 (cy':Int)∧i'≤p∧cy'≤4294967295∧K'.length=i'∧(∀x∈K',x<B32)∧nv B32 K'+cy'*B32 ^ i'=nv B32 (A.take i')*2 ^ b∧Row w' w.heap.size v' (List.replicate q 0++K')∧w.grownBy w' none):=(by
    intro v' w' hR' hg'
    obtain⟨a1,a2,a3⟩:=HK.out
    obtain⟨t1,t2,t3,t4⟩:=HT.out
    refine⟨i+1,c2,K++[d],Zl (by omega),rfl,by omega,t4,by simp [a1],fun x hx=>?_,?_,by rw [←List.append_assoc];exact hR',Ye (Za HG.out (grow1 _ _)) HR1.out hg'⟩
    ·rcases List.mem_append.1 hx with h|h
     ·exact a2 x h
     ·simp at h;subst h;simp only [B32];omega
    ·rw [ZE,a1,HSY.out,Nat.pow_succ]
     have:=ZeK (V:=nv B32 K) (c:=cy) (S:=nv B32 (A.take i)) (y:=y) (s:=b) (P:=B32 ^ i) a3
     rw [←t1,t2,t3]at this
     simp only [nv,Nat.mul_zero,Nat.add_zero]
     rw [Nat.mul_comm (B32 ^ i) d]
     exact this)
   have hcd:(wr.alloc (.cells #[.int .u32 (d:Int)] 145)).cell? ⟨wr.heap.size,0,none⟩=some (.int .u32 (d:Int)):=(by
    have h:=heap_alloc_new wr (.cells #[.int .u32 (d:Int)] 145)
    simp only [World.cell?,h]
    rfl)
   have HCD:Hid ((wr.alloc (.cells #[.int .u32 (d:Int)] 145)).cell? ⟨wr.heap.size,0,none⟩=some (.int .u32 (d:Int))):=hcd
   clear e2 hve hDc hg y0 SY hS hS9 hT hd hc2 hcd
   go_wp2_with (at_builtin;refine ZB rfl _ _ rfl w.heap.size (.slice ao (q+i) cp) (List.replicate q 0++K) d rfl HR1.out HL9.out.1 HL9.out.2 ⟨wr.heap.size,0,none⟩ rfl HCD.out ?_)
   intro v' w' hR' hg' ho'
   try simp only [←List.append_assoc]at hR'
   have HF:=HST.out v' w' hR' hg'
   have HFF:Hid (∃(i' cy':Nat) (K':List Nat),(Value.int .i64 ((i:Int)+1))=.int .i64 (i':Int)∧(Value.int .u64 (c2:Int))=.int .u64 (cy':Int)∧i'≤p∧cy'≤4294967295∧K'.length=i'∧(∀x∈K',x<B32)∧nv B32 K'+cy'*B32 ^ i'=nv B32 (A.take i')*2 ^ b∧Row w' w.heap.size v' (List.replicate q 0++K')∧w.grownBy w' none):=HF
   clear hR' hg' ho' HF
   go_wp2_with fail
   go_roundw
   case rel=>exact HFF.out
   case measure=>simp [RowKit.intOf];omega
  ·obtain rfl:i=p:=by omega
   have hw5:IntKind.u32.wrap (cy:Int)=(cy:Int):=by rw [IntKind.wrap_u32];omega
   have hw6:(cy:Int) % 4294967296=(cy:Int):=by omega
   have HR1:Hid (Row (wr.alloc (.cells #[.int .u32 (cy:Int)] 145)) w.heap.size (.slice ao (q+i) cp) (List.replicate q 0++K)):=Row.kept HR.out (World.grownBy_alloc _ _ none) (by cases (Value.slice ao (q+i) cp).ownBlock<;>simp)
   have HL9:Hid ((List.replicate q 0++K).length≤1000000000∧w.heap.size≤(wr.alloc (.cells #[.int .u32 (cy:Int)] 145)).heap.size):=(by
    have h1:=HK.out.1
    have h2:=HG.out.size
    refine⟨by rw [List.length_append,List.length_replicate];omega,by simp;omega⟩)
   have hcd:(wr.alloc (.cells #[.int .u32 (cy:Int)] 145)).cell? ⟨wr.heap.size,0,none⟩=some (.int .u32 (cy:Int)):=(by
    have h:=heap_alloc_new wr (.cells #[.int .u32 (cy:Int)] 145)
    simp only [World.cell?,h]
    rfl)
   have HCD:Hid ((wr.alloc (.cells #[.int .u32 (cy:Int)] 145)).cell? ⟨wr.heap.size,0,none⟩=some (.int .u32 (cy:Int))):=hcd
   clear hcd hg
   go_wp2_with (at_builtin;refine ZB rfl _ _ rfl w.heap.size (.slice ao (q+i) cp) (List.replicate q 0++K) cy rfl HR1.out HL9.out.1 HL9.out.2 ⟨wr.heap.size,0,none⟩ rfl HCD.out ?_)
   intro v' w' hR' hg' ho'
   try simp only [←List.append_assoc]at hR'
   obtain⟨a1,a2,a3⟩:=HK.out
   have hdg:∀x∈List.replicate q 0++K++[cy],x<B32:=fun x hx=>by
    rcases List.mem_append.1 hx with h|h
    ·rcases List.mem_append.1 h with h|h
     ·rw [List.eq_of_mem_replicate h];decide
     ·exact a2 x h
    ·simp at h;subst h;simp only [B32];omega
   have hlen:(List.replicate q 0++K++[cy]).length=q+i+1:=by simp [a1];omega
   have hval:nv B32 (List.replicate q 0++K++[cy])=nv B32 A*2 ^ n:=by
    rw [List.append_assoc,ZE,ZO,ZE,List.length_replicate,a1]
    simp only [nv,Nat.mul_zero,Nat.add_zero,Nat.zero_add]
    rw [Zr B32 A i (by rw [HP ()];exact Nat.le_refl _)]at a3
    rw [Nat.mul_comm (B32 ^ i) cy,a3]
    have e:n=32*q+b:=by have:=HB.out;omega
    rw [e,Nat.pow_add,Nat.pow_mul,show(2:Nat) ^ 32=B32 from rfl,Nat.mul_left_comm]
   have hcut:=Z2 w' v' _ hR'.d4 hdg (by rw [hlen];omega)
   rw [hval]at hcut
   have HC:Hid (Calls Tryz.prog 130 #[v'] w' fun e w''=>∃v'' k',e=.returned v''∧k'≤(List.replicate q 0++K++[cy]).length∧D4 w' v'' ((List.replicate q 0++K++[cy]).take k')∧nv B32 ((List.replicate q 0++K++[cy]).take k')=nv B32 A*2 ^ n∧(k'=0∨((List.replicate q 0++K++[cy]).take k')[k'-1]?.getD 0≠0)∧w''=w'):=hcut
   have HE:Hid ((∀x∈List.replicate q 0++K++[cy],x<B32)∧(List.replicate q 0++K++[cy]).length=q+i+1∧w.grownBy w' none):=⟨hdg,hlen,Ye (Za HG.out (grow1 _ _)) HR1.out hg'⟩
   obtain⟨X,hX⟩:∃X,List.replicate q 0++K++[cy]=X:=⟨_,rfl⟩
   rw [hX]at HC HE
   clear hcut a1 a2 a3 hdg hlen hval hR' hg' ho' hX
   go_wp2_with fail
   refine HC.out.mono ?_
   rintro e w1 ⟨v2,k',rfl,hk',hD,hnk,hlast,hw1⟩
   subst hw1
   have HD:Hid (D4 w1 v2 (X.take k')∧k'≤X.length∧nv B32 (X.take k')=nv B32 A*2 ^ n∧(k'=0∨(X.take k')[k'-1]?.getD 0≠0)):=⟨hD,hk',hnk,hlast⟩
   clear hD hk' hnk hlast HC
   go_wp2_with fail
   go_ret
   obtain⟨d1,d2,d3,d4⟩:=HD.out
   obtain⟨b1,b2,b3⟩:=HE.out
   refine⟨v2,X.take k',rfl,d1,fun x hx=>b1 x (List.mem_of_mem_take hx),d3,by rw [List.length_take];omega,?_,b3⟩
   rcases d4 with h|h
   ·left;rw [h];rfl
   ·right
    have e:(X.take k').length=k':=by rw [List.length_take,Nat.min_eq_left d2]
    rw [e];exact h
theorem up_none (w:World) (ca:Nat) (aa:Option Addr) (n:Nat) :
    Calls Tryz.prog 181 #[.slice aa 0 ca,.int .i64 (n:Int)] w fun e w'=>e=.returned (.slice none 0 0)∧w'=w:=by
 go_enter Tryz.func181,Tryz.ntmps181
 go_wp2_with fail
 go_ret
 exact⟨rfl,rfl⟩
theorem up_any (w:World) (va:Value) (A:List Nat) (n:Nat) (hA:D4 w va A) (ra:∀x∈A,x<B32) (la:A.length≤1000000) (hn:n≤10000000) :
    Calls Tryz.prog 181 #[va,.int .i64 (n:Int)] w fun e w'=>∃v K,e=.returned v∧D4 w' v K∧(∀x∈K,x<B32)∧nv B32 K=nv B32 A*2 ^ n∧K.length≤n / 32+A.length+1∧Trim K∧w.grownBy w' none:=by
 by_cases h0:A.length=0
 ·obtain⟨aa,ca,rfl⟩:=hA.slice
  rw [h0]
  refine(up_none w ca aa n).mono ?_
  rintro e w' ⟨rfl,rfl⟩
  obtain rfl:=List.length_eq_zero_iff.1 h0
  exact⟨_,[],rfl,.inl ⟨rfl,rfl⟩,by simp,by simp [nv],by simp,.inl rfl,World.grownBy.refl _ _⟩
 ·exact up_pos w va A n hA ra la h0 hn
theorem bl_max {neg:Bool} {mag:ByteArray} (h:may neg mag=true) (K:Nat) (hK:K=8*16384):val (bN mag)<2 ^ K∧bl (val (bN mag))≤K:=by
 have hm1:=ZH h
 have:=Xx (bN mag) (Xg mag)
 rw [Ze,show(256:Nat)=2 ^ 8 from rfl,←Nat.pow_mul]at this
 have h2:val (bN mag)<2 ^ K:=Nat.lt_of_lt_of_le this (Nat.pow_le_pow_right (by decide) (by omega))
 exact⟨h2,bl_le h2⟩
theorem val_pos {neg:Bool} {mag:ByteArray} (h:may neg mag=true) (h0:mag.size≠0):0<val (bN mag):=by
 have hp:0<mag.size:=by omega
 have hne:mag[0].toNat≠0:=by
  unfold may at h
  rw [if_neg h0,Yl mag hp]at h
  simp at h
  exact h.2
 have h1:=bl_val mag hp hne
 obtain⟨k,hk⟩:=YS (Nat.pos_of_ne_zero hne)
 refine Nat.pos_of_ne_zero fun e=>?_
 rw [e,V1]at h1
 omega
end Go.Proofs.YtdcadiaeaclpgaaGreatDoor
