/- The document's product of magnitudes. -/
import Derived.Test.YtdcadiaeaclpgaaGreatDoorBunMor
import Derived.Lib.Bytealg
import Derived.RangeFuncFrom
import Derived.RangeFuncNested
import Derived.RangeFuncBound
import Derived.RangeFuncCalls
import Derived.RangeFuncLeaves
import Derived.RangeFuncBox
import Derived.Shelf.Abstract
import Derived.Shelf.RegionOpen
import Derived.OwnWalkIn
import Derived.TacticsInMore
import Derived.LoopNIn
import Derived.LoopIn
import Derived.Lib.BitFns
namespace Go.Proofs.YtdcadiaeaclpgaaGreatDoor
open Go.RowKit Go.Lib Go.Sort
set_option maxHeartbeats 6400000
set_option maxRecDepth 1000000
theorem Vs {x y:Nat} (hx:x<4294967296) (hy:y<4294967296):x*y≤18446744065119617025:=by
 have h1:x*y≤4294967295*4294967295:=Nat.mul_le_mul (by omega) (by omega)
 omega
theorem ZeY {L:List Nat} {i k c x y:Nat} {S T:Nat} (hk:i+k<L.length) (hv:nv B32 L+c*B32 ^ (i+k)=S+x*T*B32 ^ i) :
    nv B32 (L.set (i+k) ((c+x*y+L[i+k]?.getD 0) % 4294967296))+(c+x*y+L[i+k]?.getD 0) / 4294967296*B32 ^ (i+k+1)=S+x*(T+y*B32 ^ k)*B32 ^ i:=by
 have h:=Ym B32 L (i+k) ((c+x*y+L[i+k]?.getD 0) % 4294967296) hk
 have e1:(c+x*y+L[i+k]?.getD 0) % 4294967296*B32 ^ (i+k)+(c+x*y+L[i+k]?.getD 0) / 4294967296*B32 ^ (i+k+1)=(c+x*y+L[i+k]?.getD 0)*B32 ^ (i+k):=by
  rw [Nat.pow_succ,Nat.mul_comm (B32 ^ (i+k)) B32,←Nat.mul_assoc,←Nat.add_mul]
  congr 1
  simp only [B32]
  omega
 have e2:(c+x*y+L[i+k]?.getD 0)*B32 ^ (i+k)=c*B32 ^ (i+k)+x*y*B32 ^ (i+k)+L[i+k]?.getD 0*B32 ^ (i+k):=by rw [Nat.add_mul,Nat.add_mul]
 have e3:x*(T+y*B32 ^ k)*B32 ^ i=x*T*B32 ^ i+x*y*B32 ^ (i+k):=by
  rw [Nat.mul_add,Nat.add_mul,Nat.pow_add]
  congr 1
  rw [Nat.mul_assoc,Nat.mul_assoc,Nat.mul_assoc,Nat.mul_comm (B32 ^ i)]
 omega
theorem YP (w:World) (va vb:Value) (A B:List Nat) (hA:D4 w va A) (hB:D4 w vb B) (ra:∀x∈A,x<B32) (rb:∀x∈B,x<B32) (la:A.length≤100000000) (lb:B.length≤100000000) :
    Calls Tryz.prog 129 #[va,vb] w fun e w'=>∃v K,e=.returned v∧D4 w' v K∧(∀x∈K,x<B32)∧nv B32 K=nv B32 A*nv B32 B∧K.length≤A.length+B.length∧Trim K∧w.grownBy w' none:=by
 obtain⟨aa,ca,rfl⟩:=hA.slice
 obtain⟨ab,cb,rfl⟩:=hB.slice
 have HA:Hid (D4 w (.slice aa A.length ca) A):=hA
 have HB:Hid (D4 w (.slice ab B.length cb) B):=hB
 have HRa:Hid (∀x∈A,x<B32):=ra
 have HRb:Hid (∀x∈B,x<B32):=rb
 obtain⟨p,hp⟩:∃p,A.length=p:=⟨_,rfl⟩
 obtain⟨q,hq⟩:∃q,B.length=q:=⟨_,rfl⟩
 have HP:Unit→A.length=p:=fun _=>hp
 have HQ:Unit→B.length=q:=fun _=>hq
 have hp9:(p:Int)≤100000000:=by omega
 have hq9:(q:Int)≤100000000:=by omega
 have hmk:=make4 w (p+q) (by omega)
 rw [show((p+q:Nat):Int)=(p:Int)+q by omega]at hmk
 rw [hp]at HA ⊢
 rw [hq]at HB ⊢
 clear hA hB ra rb hp hq la lb
 go_enter Tryz.func129,Tryz.ntmps129
 go_wp2_with fail
 clear hmk
 go_loopw [6] (fun t wr=>∃(i:Nat) (L:List Nat),t=.int .i64 i∧i≤p∧L.length=p+q∧(∀x∈L,x<B32)∧nv B32 L=nv B32 (A.take i)*nv B32 B∧(∀j,i+q≤j→L[j]?.getD 0=0) ∧
  BlkL wr w.heap.size 145 enc4 (ints L)∧w.grownBy wr none) (fun t _=>p-(RowKit.intOf t).toNat)
 case atStart =>
  refine⟨0,List.replicate (p+q) 0,rfl,by omega,by simp,fun x hx=>by rw [List.eq_of_mem_replicate hx];decide,by rw [ZO];simp [nv],fun j _=>?_,heap_alloc_new _ _,grow1 _ _⟩
  rw [List.getElem?_replicate]
  split<;>rfl
 case round =>
  obtain⟨i,L,rfl,hi,hL,hr,hv,hz,hBk,hg⟩:=hrel
  by_cases hi1:i<p
  ·have HV:Hid (nv B32 L=nv B32 (A.take i)*nv B32 B):=hv
   have HZ:Hid (∀j,i+q≤j→L[j]?.getD 0=0):=hz
   have HR:Hid (∀x∈L,x<B32):=hr
   have HBk:Hid (BlkL wr w.heap.size 145 enc4 (ints L)):=hBk
   have HG:Hid (w.grownBy wr none):=hg
   rcases HA.out with ⟨_,hnil⟩|⟨Ba,oa,ca',hve,_,hcA⟩
   ·exfalso
    have:=HP ()
    rw [hnil]at this
    simp at this
    omega
   ·obtain⟨haa,hpp,hcc⟩:=Value.slice.inj hve
    clear hpp hve
    subst haa
    subst hcc
    have HCA:Hid (∀j,j<A.length→w.cell? ⟨Ba,oa+j,none⟩=some (.int .u32 ((A[j]?.getD 0:Nat):Int))):=hcA
    have hx:=Zd hg (HCA.out i (by rw [HP ()];omega)) (by simp)
    have rX:=Zt HRa.out i
    have SX:=Zp B32 A i
    have SXH:Hid (nv B32 (A.take (i+1))=nv B32 (A.take i)+A[i]?.getD 0*B32 ^ i):=SX
    clear SX hcA hv hz hr hBk hg
    generalize A[i]?.getD 0=x at *
    have hxI:(x:Int)≤4294967295:=by have:x<4294967296:=rX;omega
    generalize wr=wo at *
    go_wp2_with fail
    go_loopw [7,9] (fun s t wr=>∃(c k:Nat) (M:List Nat),s=.int .u64 c∧t=.int .i64 k∧(c:Int)≤4294967295∧k≤q∧M.length=p+q∧(∀x∈M,x<B32)∧nv B32 M+c*B32 ^ (i+k)=nv B32 L+x*nv B32 (B.take k)*B32 ^ i∧(∀j,i+q≤j→M[j]?.getD 0=0) ∧
     BlkL wr w.heap.size 145 enc4 (ints M)∧w.grownBy wr none) (fun _ t _=>q-(RowKit.intOf t).toNat)
    case atStart=>exact⟨0,0,L,rfl,rfl,by omega,by omega,hL,HR.out,by simp [nv],HZ.out,HBk.out,HG.out⟩
    case round =>
     obtain⟨c,k,M,rfl,rfl,hc,hk,hM,hmr,hmv,hmz,hmb,hmg⟩:=hrel
     have HMR:Hid (∀x∈M,x<B32):=hmr
     have HMV:Hid (nv B32 M+c*B32 ^ (i+k)=nv B32 L+x*nv B32 (B.take k)*B32 ^ i):=hmv
     have HMZ:Hid (∀j,i+q≤j→M[j]?.getD 0=0):=hmz
     have HMB:Hid (BlkL wr w.heap.size 145 enc4 (ints M)):=hmb
     have HMG:Hid (w.grownBy wr none):=hmg
     clear hx
     by_cases hk1:k<q
     ·rcases HB.out with ⟨_,hnil⟩|⟨Bb,ob,cb',hve,_,hcB⟩
      ·exfalso
       have:=HQ ()
       rw [hnil]at this
       simp at this
       omega
      ·obtain⟨hab,hqq,hcc2⟩:=Value.slice.inj hve
       clear hqq hve
       subst hab
       subst hcc2
       have hy:=Zd hmg (hcB k (by rw [HQ ()];omega)) (by simp)
       have rY:=Zt HRb.out k
       have hzc:=hmb.cell (i+k) (by rw [Zk];omega)
       rw [Z6]at hzc
       have hzf:=hmb.frozen (i+k)
       have rZ:=Zt HMR.out (i+k)
       have SY:=Zp B32 B k
       have SYH:Hid (nv B32 (B.take (k+1))=nv B32 (B.take k)+B[k]?.getD 0*B32 ^ k):=SY
       have RS:Hid (nv B32 (M.set (i+k) ((c+x*B[k]?.getD 0+M[i+k]?.getD 0) % 4294967296))+(c+x*B[k]?.getD 0+M[i+k]?.getD 0) / 4294967296*B32 ^ (i+k+1)=nv B32 L+x*(nv B32 (B.take k)+B[k]?.getD 0*B32 ^ k)*B32 ^ i):=ZeY (by omega) hmv
       clear SY hcB hmr hmv hmz hmb hmg HMV
       generalize B[k]?.getD 0=y at *
       generalize M[i+k]?.getD 0=z at *
       have hm1:=Vs (x:=x) (y:=y) rX rY
       have hzI:(z:Int)≤4294967295:=by have:z<4294967296:=rZ;omega
       have hyI:(y:Int)≤4294967295:=by have:y<4294967296:=rY;omega
       obtain⟨P,hP⟩:∃P,x*y=P:=⟨_,rfl⟩
       have hPI:(x:Int)*(y:Int)=(P:Int):=by rw [←hP];simp
       rw [hP]at hm1 RS
       have hw1:IntKind.u64.wrap ((x:Int)*(y:Int))=(P:Int):=by rw [hPI,IntKind.wrap_u64];omega
       have hw2:IntKind.u64.wrap ((c:Int)+(P:Int))=(c:Int)+P:=by rw [IntKind.wrap_u64];omega
       have hw3:IntKind.u64.wrap ((c:Int)+(P:Int)+(z:Int))=(c:Int)+P+z:=by rw [IntKind.wrap_u64];omega
       have hw4:IntKind.i64.wrap ((i:Int)+(k:Int))=((i+k:Nat):Int):=by rw [IntKind.wrap_i64];omega
       have hw5:IntKind.u64.wrap (y:Int)=(y:Int):=by rw [IntKind.wrap_u64];omega
       have hw6:IntKind.u64.wrap (z:Int)=(z:Int):=by rw [IntKind.wrap_u64];omega
       have hik:((i+k:Nat):Int)<(p:Int)+q:=by omega
       have hkq:(k:Int)<q:=by omega
       clear hP rX rY rZ
       go_wp2_with fail
       go_region
       go_wp2_with fail
       go_roundw
       case rel =>
        have hr1:(c+P+z) % 4294967296<B32:=Nat.mod_lt _ (by decide)
        refine⟨(c+P+z) / 4294967296,k+1,M.set (i+k) ((c+P+z) % 4294967296),Zl (by omega),rfl,by omega,by omega,by simp [hM],ZM HMR.out hr1,?_,fun j hj=>?_,?_,Zf (Zb HMG.out (Nat.le_refl _))⟩
        ·rw [SYH.out,←Nat.add_assoc]
         exact RS.out
        ·rw [List.getElem?_set_ne (by omega)]
         exact HMZ.out j hj
        ·have e:=HMB.out.set (i+k) (((c+P+z) % 4294967296:Nat):Int)
         rw [ZF]at e
         rw [show((c:Int)+P+z) % 4294967296=(((c+P+z) % 4294967296:Nat):Int)by omega]
         exact e
       case measure=>simp [RowKit.intOf];omega
     ·obtain rfl:k=q:=by omega
      have hzc:=hmb.cell (i+k) (by rw [Zk];omega)
      have hzf:=hmb.frozen (i+k)
      have hz0:M[i+k]?.getD 0=0:=HMZ.out (i+k) (Nat.le_refl _)
      have hwi:((i+k:Nat):Int)<(p:Int)+k:=by omega
      clear hmr hmv hmz hmb hmg
      go_wp2_with fail
      go_roundw
      case rel =>
       have hset:=Ym B32 M (i+k) c (by omega)
       rw [hz0,Nat.zero_mul,Nat.add_zero]at hset
       have hmv:=HMV.out
       rw [Zr B32 B k (by rw [HQ ()];exact Nat.le_refl _),HV.out]at hmv
       have hcr:c<B32:=by simp only [B32];omega
       refine⟨i+1,M.set (i+k) c,rfl,by omega,by simp [hM],ZM HMR.out hcr,?_,fun j hj=>?_,?_,Zb HMG.out (Nat.le_refl _)⟩
       ·rw [hset,hmv,SXH.out,Nat.add_mul]
        congr 1
        rw [Nat.mul_assoc,Nat.mul_assoc,Nat.mul_comm (nv B32 B)]
       ·rw [List.getElem?_set_ne (by omega)]
        exact HMZ.out j (by omega)
       ·have e:=HMB.out.set (i+k) (c:Int)
        rw [ZF]at e
        exact e
      case measure=>simp [RowKit.intOf];omega
  ·obtain rfl:i=p:=by omega
   have hvv:nv B32 L=nv B32 A*nv B32 B:=by rw [hv,Zr B32 A i (by rw [HP ()];exact Nat.le_refl _)]
   have hct:=Z2 wr _ L hBk.d4 hr (by omega)
   rw [hL]at hct
   have HCT:Hid (Calls Tryz.prog 130 #[.slice (some ⟨w.heap.size,0,none⟩) (i+q) (i+q)] wr fun e w'=>∃v' k,e=.returned v'∧k≤i+q∧D4 wr v' (L.take k)∧nv B32 (L.take k)=nv B32 L∧(k=0∨(L.take k)[k-1]?.getD 0≠0)∧w'=wr):=hct
   have HVV:Unit→nv B32 L=nv B32 A*nv B32 B:=fun _=>hvv
   have HR:Hid (∀x∈L,x<B32):=hr
   have HG:Hid (w.grownBy wr none):=hg
   clear hct hvv hr hv hBk hg hz
   go_wp2_with fail
   refine HCT.out.mono ?_
   rintro e w1 ⟨v',k,rfl,hk,hD,hnk,hlast,rfl⟩
   have hlen:(L.take k).length=k:=by rw [List.length_take,hL,Nat.min_eq_left hk]
   have HD:Hid (D4 w1 v' (L.take k)):=hD
   have HNK:Unit→nv B32 (L.take k)=nv B32 L:=fun _=>hnk
   have HLT:Hid (k=0∨(L.take k)[k-1]?.getD 0≠0):=hlast
   clear hD hnk hlast HCT
   go_wp2_with fail
   go_ret
   refine⟨v',L.take k,rfl,HD.out,fun x hx=>HR.out x (List.mem_of_mem_take hx),by rw [HNK (),HVV ()],by omega,?_,HG.out⟩
   unfold Trim
   rw [hlen]
   exact HLT.out
theorem Zan (T1 T2 P c x y X m:Nat) (h:T1+c*P=X*y+m) (hT:T2=T1+(c+x*y) % 4294967296*P):T2+(c+x*y) / 4294967296*(P*B32)=(X+x*P)*y+m:=by
 have e1:(c+x*y) % 4294967296*P+(c+x*y) / 4294967296*(P*B32)=c*P+x*y*P:=by
  rw [Nat.mul_comm P B32,←Nat.mul_assoc,←Nat.add_mul,←Nat.add_mul]
  congr 1
  simp only [B32]
  omega
 have e2:(X+x*P)*y=X*y+x*y*P:=by rw [Nat.add_mul,Nat.mul_right_comm]
 omega
theorem Zee (w:World) (base y m:Nat) (v:Value) (L:List Nat) (hA:Row w base v L) (rL:∀x∈L,x<B32) (hy:y<4294967296) (hm:m<4294967296) (ll:L.length≤100000000) (hbase:base≤w.heap.size) :
    Calls Tryz.prog 185 #[v,.int .u32 (y:Int),.int .u32 (m:Int)] w fun e w'=>∃v' K,e=.returned v'∧Row w' base v' K∧(∀x∈K,x<B32)∧nv B32 K=nv B32 L*y+m∧K.length≤L.length+1 ∧
     (v'.ownBlock=v.ownBlock∨∃g,v'.ownBlock=some g∧w.heap.size≤g)∧w.grownBy w' v.ownBlock:=by
 obtain⟨row,hrow⟩:∃row,v.ownBlock=row:=⟨_,rfl⟩
 obtain⟨ab,cp,rfl⟩:=hA.d4.slice
 obtain⟨k,hk⟩:∃k,L.length=k:=⟨_,rfl⟩
 have HK:Unit→L.length=k:=fun _=>hk
 have HRW:Unit→(Value.slice ab k cp).ownBlock=row:=fun _=>by rw [←hk];exact hrow
 rw [hrow]
 rw [hk]at hA ll ⊢
 have HA:Hid (Row w base (.slice ab k cp) L):=hA
 have HRL:Hid (∀x∈L,x<B32):=rL
 have hkI:(k:Int)≤100000000:=by omega
 have hyI:(y:Int)≤4294967295:=by omega
 have hmI:(m:Int)≤4294967295:=by omega
 clear hA rL hk hrow hm ll
 go_enter Tryz.func185,Tryz.ntmps185
 go_wp2_with fail
 go_loopw [7,14] (fun s t wr=>∃(c i:Nat) (M:List Nat),s=.int .u64 c∧t=.int .i64 i∧(c:Int)≤4294967295∧i≤k∧M.length=k∧(∀x∈M,x<B32)∧nv B32 (M.take i)+c*B32 ^ i=nv B32 (L.take i)*y+m∧M.drop i=L.drop i ∧
  Row wr base (.slice ab k cp) M∧w.grownBy wr row) (fun _ t _=>k-(RowKit.intOf t).toNat)
 case atStart=>exact⟨m,0,L,rfl,rfl,hmI,by omega,HK (),HRL.out,by simp [nv],rfl,HA.out,World.grownBy.refl _ _⟩
 case round =>
  obtain⟨c,i,M,rfl,rfl,hc,hi,hM,hr,hv,hd,hR,hg⟩:=hrel
  have HR:Hid (∀x∈M,x<B32):=hr
  have HV:Hid (nv B32 (M.take i)+c*B32 ^ i=nv B32 (L.take i)*y+m):=hv
  have HD:Hid (M.drop i=L.drop i):=hd
  have HBk:Hid (Row wr base (.slice ab k cp) M):=hR
  have HG:Hid (w.grownBy wr row):=hg
  have HM:Unit→M.length=k:=fun _=>hM
  by_cases hi1:i<k
  ·obtain⟨g,rfl,hcp⟩:∃g,ab=some ⟨g,0,none⟩∧k≤cp:=by
     rcases hR.cases with ⟨_,e⟩|⟨g,c,e,_,hc⟩
     ·rw [e]at hM;simp at hM;omega
     ·obtain⟨rfl,_,rfl⟩:=Value.slice.inj e
      exact⟨g,rfl,by omega⟩
   have hcell:=Row.cell (by rw [hM];exact hR) i (by omega)
   rw [drop_at hd]at hcell
   have hcell':wr.cell? ⟨g,i,none⟩=some (.int .u32 ((L[i]?.getD 0:Nat):Int)):=hcell
   have hfr:=hR.frozen i
   have rx:L[i]?.getD 0<4294967296:=Zt HRL.out i
   have SL:Hid (nv B32 (L.take (i+1))=nv B32 (L.take i)+L[i]?.getD 0*B32 ^ i):=Zp B32 L i
   clear hr hv hd hR hg hcell hM
   generalize L[i]?.getD 0=x at *
   have hxI:(x:Int)≤4294967295:=by omega
   have hm1:=Vs (x:=x) (y:=y) rx hy
   obtain⟨P,hP⟩:∃P,x*y=P:=⟨_,rfl⟩
   have HP:Unit→x*y=P:=fun _=>hP
   have hPI:(x:Int)*(y:Int)=(P:Int):=by rw [←hP];simp
   rw [hP]at hm1
   have hw1:IntKind.u64.wrap ((x:Int)*(y:Int))=(P:Int):=by rw [hPI,IntKind.wrap_u64];omega
   have hw2:IntKind.u64.wrap ((c:Int)+(P:Int))=(c:Int)+P:=by rw [IntKind.wrap_u64];omega
   have hw5:IntKind.u64.wrap (y:Int)=(y:Int):=by rw [IntKind.wrap_u64];omega
   have hw7:IntKind.u64.wrap (x:Int)=(x:Int):=by rw [IntKind.wrap_u64];omega
   have hik:(i:Int)<k:=by omega
   clear hP rx
   go_wp2_with fail
   go_roundw
   case rel =>
    have hr1:(c+P) % 4294967296<B32:=Nat.mod_lt _ (by decide)
    refine⟨(c+P) / 4294967296,i+1,M.set i ((c+P) % 4294967296),Zl (by omega),rfl,by omega,by omega,by simp [HM ()],ZM HR.out hr1,?_,ZdX HD.out,?_,?_⟩
    ·rw [SL.out,Nat.pow_succ,←HP ()]
     exact Zan _ _ _ _ _ _ _ _ HV.out (Xn B32 M i _ (by rw [HM ()];omega))
    ·have e:=HBk.out.set i ((c+P) % 4294967296)
     rw [show((c:Int)+P) % 4294967296=(((c+P) % 4294967296:Nat):Int)by omega]
     exact e
    ·have e:row=some g:=(HRW ()).symm
     rw [e]
     rw [e]at HG
     exact Za HG.out (Zc _ _ _ _)
   case measure=>simp [RowKit.intOf];omega
  ·obtain rfl:i=k:=by omega
   have hvv:nv B32 M+c*B32 ^ i=nv B32 L*y+m:=by
    have:=HV.out
    rwa [Zr B32 M i (by rw [hM];exact Nat.le_refl _),Zr B32 L i (by rw [HK ()];exact Nat.le_refl _)]at this
   have HVV:Unit→nv B32 M+c*B32 ^ i=nv B32 L*y+m:=fun _=>hvv
   clear hr hv hd hR hg hvv
   by_cases hc0:c=0
   ·subst hc0
    go_wp2_with fail
    go_ret
    exact⟨_,M,rfl,HBk.out,HR.out,by have:=HVV ();simpa using this,by omega,.inl (HRW ()),HG.out⟩
   ·have hcp:(0:Int)<c:=by omega
    have hw:IntKind.u32.wrap (c:Int)=(c:Int):=by rw [IntKind.wrap_u32];omega
    have hsz:=HG.out.size
    have HR1:Hid (Row (wr.alloc (.cells #[.int .u32 (c:Int)] 145)) base (.slice ab i cp) M):=Row.kept HBk.out (World.grownBy_alloc _ _ none) (by cases (Value.slice ab i cp).ownBlock<;>simp)
    go_wp2_with (at_builtin;refine ZB rfl _ _ rfl base (.slice ab i cp) M c rfl HR1.out (by rw [hM];omega) (by simp;omega) ⟨wr.heap.size,0,none⟩ rfl (by simp) ?_)
    intro v' w' hR' hg' ho'
    have HF:Hid (Row w' base v' (M++[c])∧(v'.ownBlock=row∨∃g,v'.ownBlock=some g∧w.heap.size≤g)∧w.grownBy w' row):=(by
     refine⟨hR',?_,Za HG.out (Za (World.grownBy_alloc _ _ _) (by rw [←HRW ()];exact hg'))⟩
     rcases ho' with e|e
     ·exact .inl (e.trans (HRW ()))
     ·exact .inr ⟨_,e,by omega⟩)
    clear hR' hg' ho'
    go_wp2_with fail
    go_ret
    obtain⟨f1,f2,f3⟩:=HF.out
    refine⟨_,M++[c],rfl,f1,fun x hx=>?_,?_,by simp [hM],f2,f3⟩
    ·rcases List.mem_append.1 hx with h|h
     ·exact HR.out x h
     ·simp at h;subst h;simp only [B32];omega
    ·rw [ZE,hM,←HVV ()]
     simp [nv]
     rw [Nat.mul_comm]
def dec (l:List Nat):Nat:=l.foldl (fun n b=>n*10+(b-48)) 0
theorem YK (l:List Nat) (b:Nat):dec (l++[b])=dec l*10+(b-48):=by simp [dec,List.foldl_append]
def isDig (b:Nat):Prop:=48≤b∧b≤57
theorem Y6:∀(b:List Nat) (n:Nat),b.foldl (fun n b=>n*10+(b-48)) n=n*10 ^ b.length+dec b
 |[],n=>by simp [dec]
 |x::b,n=>by
  have h1:=Y6 b (n*10+(x-48))
  have h2:=Y6 b (0*10+(x-48))
  have e:dec (x::b)=(0*10+(x-48))*10 ^ b.length+dec b:=h2
  rw [List.foldl_cons,h1,e,List.length_cons,Nat.pow_succ,Nat.add_mul,Nat.add_mul,Nat.zero_mul,Nat.zero_add,Nat.mul_assoc,Nat.mul_comm 10]
  omega
theorem Z8 (a b:List Nat):dec (a++b)=dec a*10 ^ b.length+dec b:=by
 rw [dec,List.foldl_append,Y6]
 rfl
theorem Yv (x:Nat) (b:List Nat):dec (x::b)=(x-48)*10 ^ b.length+dec b:=by
 have:=Z8 [x] b
 simpa [dec]using this
theorem Xh:∀(l:List Nat),(∀b∈l,isDig b)→dec l<10 ^ l.length
 |[],_=>by simp [dec]
 |x::l,h=>by
  have h1:=Xh l (fun y hy=>h y (List.mem_cons_of_mem _ hy))
  have h2:=h x (by simp)
  unfold isDig at h2
  rw [Yv,List.length_cons,Nat.pow_succ]
  have h3:(x-48)*10 ^ l.length≤9*10 ^ l.length:=Nat.mul_le_mul_right _ (by omega)
  omega
theorem V9 (s:ByteArray) (h9:s.size≤9) (hd:∀b∈bN s,isDig b) (w:World) :
    Calls Tryz.prog 186 #[.string s] w fun e w'=>e=.returned (.int .u32 ((dec (bN s):Nat):Int))∧w'=w:=by
 have HD:Hid (∀b∈bN s,isDig b):=hd
 clear hd
 go_enter Tryz.func186,Tryz.ntmps186
 go_wp2
 go_loopw [3,7] (fun x i wr=>∃k,k≤s.size∧x=.int .u32 ((dec ((bN s).take k):Nat):Int)∧i=.int .i64 k∧wr=w) (fun _ i _=>s.size-(RowKit.intOf i).toNat)
 case atStart=>exact⟨0,by omega,rfl,rfl,rfl⟩
 case round =>
  obtain⟨k,hk,rfl,rfl,rfl⟩:=hrel
  by_cases hk1:k<s.size
  ·have hb:=bN_at s k hk1
   have hlt:dec ((bN s).take k)<100000000:=by
    have h1:=Xh ((bN s).take k) (fun b hb=>HD.out b (List.mem_of_mem_take hb))
    have h2:10 ^ ((bN s).take k).length≤10 ^ 8:=Nat.pow_le_pow_right (by decide) (by rw [List.length_take];omega)
    have h3:10 ^ 8=100000000:=by decide
    omega
   have HS:Hid (dec ((bN s).take (k+1))=dec ((bN s).take k)*10+(s[k].toNat-48)):=(by show dec ((bN s).take (k+1))=_;rw [Zw hb,YK])
   have hy:=HD.out s[k].toNat (by rw [List.mem_iff_getElem?];exact⟨k,hb⟩)
   obtain⟨hy1,hy2⟩:=hy
   have hw:IntKind.u8.wrap ((s[k].toNat:Int)-48)=(s[k].toNat:Int)-48:=by rw [IntKind.wrap_u8];omega
   clear hb
   generalize dec ((bN s).take k)=X at *
   go_wp2
   go_roundw
   case rel=>exact⟨k+1,by omega,Zl (by rw [HS.out];omega),rfl,trivial⟩
   case measure=>simp [RowKit.intOf];omega
  ·have hk0:k=s.size:=by omega
   subst hk0
   have ht:(bN s).take s.size=bN s:=by rw [List.take_of_length_le (by rw [Ze];exact Nat.le_refl _)]
   rw [ht]
   go_wp2
   go_ret
   exact⟨rfl,rfl⟩
def plain (s:ByteArray):Prop:=(∀b∈bN s,isDig b)∧s.size≠0∧(s.size=1∨(bN s).head?.getD 0≠48)
instance (b:Nat):Decidable (isDig b):=by unfold isDig;exact inferInstance
instance (s:ByteArray):Decidable (plain s):=by unfold plain;exact inferInstance
theorem ZW (s:ByteArray) (a b:Nat):bN (s.extract a b)=((bN s).drop a).take (b-a):=by
 unfold bN
 rw [ByteArray.data_extract,Array.toList_extract,List.extract_eq_take_drop,List.map_take,List.map_drop]
theorem YZ (s:ByteArray):s.toList.map UInt8.toNat=bN s:=by rw [ByteArray.toList_eq];rfl
theorem YV {s:ByteArray} {l:List UInt8}:(s.toList == l)=decide (bN s=l.map UInt8.toNat):=by
 rw [←YZ]
 by_cases h:s.toList=l
 ·rw [h];simp
 ·have h2:¬s.toList.map UInt8.toNat=l.map UInt8.toNat:=fun e=>h ((List.map_inj_right (fun a b hab=>UInt8.toNat_inj.1 hab)).1 e)
  rw [decide_eq_false h2]
  simpa using h
theorem Uf (s:ByteArray) (h9:s.size≤1000000) (w:World) :
    Calls Tryz.prog 93 #[.string s,.string ⟨#[45]⟩] w fun e w'=>e=.returned (.bool (decide ((bN s).head?=some 45)))∧w'=w:=by
 by_cases h0:s.size=0
 ·obtain rfl:=Zi h0
  go_enter Tryz.func93,Tryz.ntmps93
  go_wp2
  go_ret
  exact⟨rfl,rfl⟩
 ·have hp:(1:Int)≤s.size:=by omega
  have h9':(s.size:Int)≤1000000:=by omega
  go_enter Tryz.func93,Tryz.ntmps93
  go_wp2
  go_ret
  refine⟨Zh ?_,rfl⟩
  rw [YV,ZW]
  have hl:(bN s).length=s.size:=Ze s
  cases hb:bN s with
  |nil=>rw [hb]at hl;simp at hl;omega
  |cons x l=>simp
def bare (s:ByteArray):ByteArray:=if(bN s).head?=some 45 then s.extract 1 s.size else s
theorem YF {s:ByteArray} (h:(bN s).head?=some 45):bN (bare s)=(bN s).drop 1:=by
 unfold bare
 rw [if_pos h,ZW,List.take_of_length_le (by rw [List.length_drop,Ze];exact Nat.le_refl _)]
theorem Ud (s:ByteArray) (h9:s.size≤1000000) (w:World) :
    Calls Tryz.prog 124 #[.string s,.string ⟨#[45]⟩] w fun e w'=>e=.returned (.tuple #[.string (bare s),.bool (decide ((bN s).head?=some 45))])∧w'=w:=by
 have h9':(s.size:Int)≤1000000:=by omega
 have hH:=Uf s h9 w
 by_cases h:(bN s).head?=some 45
 ·rw [decide_eq_true h]at hH ⊢
  have hb:bare s=s.extract 1 s.size:=by unfold bare;rw [if_pos h]
  rw [hb]
  have hp:(1:Int)≤s.size:=by
   have:=Ze s
   cases hb:bN s with
   |nil=>rw [hb]at h;simp at h
   |cons x l=>rw [hb]at this;simp at this;omega
  have HH:Hid (Calls Tryz.prog 93 #[.string s,.string ⟨#[45]⟩] w fun e w'=>e=.returned (.bool true)∧w'=w):=hH
  clear hH h hb
  go_enter Tryz.func124,Tryz.ntmps124
  go_wp2_with fail
  refine HH.out.mono ?_
  rintro e w' ⟨rfl,rfl⟩
  go_wp2_with fail
  go_ret2
  exact⟨rfl,rfl⟩
 ·rw [decide_eq_false h]at hH ⊢
  have hb:bare s=s:=by unfold bare;rw [if_neg h]
  rw [hb]
  have HH:Hid (Calls Tryz.prog 93 #[.string s,.string ⟨#[45]⟩] w fun e w'=>e=.returned (.bool false)∧w'=w):=hH
  clear hH h hb
  go_enter Tryz.func124,Tryz.ntmps124
  go_wp2_with fail
  refine HH.out.mono ?_
  rintro e w' ⟨rfl,rfl⟩
  go_wp2_with fail
  go_ret2
  exact⟨rfl,rfl⟩
theorem XE (s:ByteArray) (h9:s.size≤1000000) (w:World) :
    Calls Tryz.prog 95 #[.string s,.string ⟨#[45]⟩] w fun e w'=>e=.returned (.tuple #[.string (bare s),.bool (decide ((bN s).head?=some 45))])∧w'=w:=by
 have HH:Hid (Calls Tryz.prog 124 #[.string s,.string ⟨#[45]⟩] w fun e w'=>e=.returned (.tuple #[.string (bare s),.bool (decide ((bN s).head?=some 45))])∧w'=w):=Ud s h9 w
 generalize bare s=t at *
 generalize decide ((bN s).head?=some 45)=b at *
 go_enter Tryz.func95,Tryz.ntmps95
 go_wp2_with fail
 refine HH.out.mono ?_
 rintro e w' ⟨rfl,rfl⟩
 go_wp2_with fail
 go_ret2
 exact⟨rfl,rfl⟩
theorem Y3 (s:ByteArray) (h9:s.size≤1000000) (w:World) :
    Calls Tryz.prog 184 #[.string s] w fun e w'=>e=.returned (.bool (decide (plain s)))∧w'=w:=by
 have h9':(s.size:Int)≤1000000:=by omega
 obtain⟨r,hr⟩:∃r,decide (plain s)=r:=⟨_,rfl⟩
 have HR:Unit→decide (plain s)=r:=fun _=>hr
 rw [hr]
 clear hr
 go_enter Tryz.func184,Tryz.ntmps184
 go_wp2
 go_loopw [6] (fun i wr=>∃k,k≤s.size∧i=.int .i64 k∧(∀b∈(bN s).take k,isDig b)∧wr=w) (fun i _=>s.size-(RowKit.intOf i).toNat)
 case atStart=>exact⟨0,by omega,rfl,by simp,rfl⟩
 case round =>
  obtain⟨k,hk,rfl,hd,rfl⟩:=hrel
  have HD:Hid (∀b∈(bN s).take k,isDig b):=hd
  clear hd
  by_cases hk1:k<s.size
  ·have hb:=bN_at s k hk1
   have HB:Hid ((bN s)[k]?=some s[k].toNat):=hb
   have hkI:(k:Int)<s.size:=by omega
   clear hb
   by_cases h1:s[k].toNat<48
   ·obtain rfl:r=false:=by
      rw [←HR ()]
      refine decide_eq_false (fun hp=>?_)
      have:=hp.1 s[k].toNat (by rw [List.mem_iff_getElem?];exact⟨k,HB.out⟩)
      unfold isDig at this
      omega
    have h1I:(s[k].toNat:Int)≤47:=by omega
    go_wp2
    go_ret
    exact⟨rfl,rfl⟩
   ·have h1I:(48:Int)≤(s[k].toNat:Int):=by omega
    by_cases h2:57<s[k].toNat
    ·obtain rfl:r=false:=by
       rw [←HR ()]
       refine decide_eq_false (fun hp=>?_)
       have:=hp.1 s[k].toNat (by rw [List.mem_iff_getElem?];exact⟨k,HB.out⟩)
       unfold isDig at this
       omega
     have h2I:(58:Int)≤(s[k].toNat:Int):=by omega
     go_wp2
     go_ret
     exact⟨rfl,rfl⟩
    ·have h2I:(s[k].toNat:Int)≤57:=by omega
     go_wp2
     go_roundw
     case rel =>
      refine⟨k+1,by omega,rfl,fun b hb=>?_,trivial⟩
      rw [Zw HB.out]at hb
      rcases List.mem_append.1 hb with h|h
      ·exact HD.out b h
      ·simp at h;subst h;unfold isDig;omega
     case measure=>simp [RowKit.intOf];omega
  ·obtain rfl:k=s.size:=by omega
   have hall:∀b∈bN s,isDig b:=by
    have:=HD.out
    rwa [List.take_of_length_le (by rw [Ze];exact Nat.le_refl _)]at this
   have HA:Hid (∀b∈bN s,isDig b):=hall
   clear hall
   by_cases h0:s.size=0
   ·obtain rfl:=Zi h0
    obtain rfl:r=false:=by rw [←HR ()];exact decide_eq_false (fun hp=>hp.2.1 rfl)
    go_wp2
    go_ret
    exact⟨rfl,rfl⟩
   ·have he:=Zu h0
    have hp:0<s.size:=by omega
    have hz:(s.toList == [48])=decide (bN s=[48]):=YV
    have hh:=Yl s hp
    have hlen:=Ze s
    cases h1:(s.toList == [48])
    ·have hne:¬bN s=[48]:=by rw [hz]at h1;simpa using h1
     have hr2:r=decide (s[0].toNat≠48):=by
      rw [←HR ()]
      refine decide_eq_decide.2 ⟨fun hp=>?_,fun h=>⟨HA.out,h0,.inr (by rw [hh];exact h)⟩⟩
      rcases hp.2.2 with h|h
      ·intro e
       apply hne
       cases hb:bN s with
       |nil=>rw [hb]at hlen;simp at hlen;omega
       |cons x l =>
        rw [hb]at hlen hh
        simp at hlen hh
        have:l=[]:=List.length_eq_zero_iff.1 (by omega)
        rw [this,hh,e]
      ·rw [←hh];exact h
     clear hh hlen hne hz
     subst hr2
     go_wp2
     go_ret
     refine⟨Zh ?_,rfl⟩
     rw [Bool.eq_iff_iff]
     simp
     omega
    ·have hr2:r=true:=by
       rw [←HR ()]
       rw [hz]at h1
       have h1:bN s=[48]:=by simpa using h1
       refine decide_eq_true ⟨HA.out,h0,.inl ?_⟩
       rw [h1]at hlen
       simp at hlen
       omega
     subst hr2
     clear hh hlen hz
     go_wp2
     go_ret
     exact⟨rfl,rfl⟩
def be4 (x:Nat):List Nat:=[x / 16777216 % 256,x / 65536 % 256,x / 256 % 256,x % 256]
theorem Zcy (x:Nat):(be4 x).length=4:=rfl
theorem be4_rng (x:Nat):∀y∈be4 x,y<256:=by
 intro y hy
 simp only [be4,List.mem_cons,List.not_mem_nil,or_false]at hy
 rcases hy with rfl|rfl|rfl|rfl<;>exact Nat.mod_lt _ (by decide)
theorem val_be4 (l:List Nat) (x:Nat) (hx:x<B32):val (l++be4 x)=val l*B32+x:=by
 have e:l++be4 x=(((l++[x / 16777216 % 256])++[x / 65536 % 256])++[x / 256 % 256])++[x % 256]:=by simp [be4]
 rw [e,Yi,Yi,Yi,Yi]
 have hx':x<4294967296:=hx
 simp only [B32]
 omega
def ZP (L:List Nat):List Nat:=L.flatMap be4
theorem X2 (L:List Nat):∀y∈ZP L,y<256:=by
 intro y hy
 simp only [ZP,List.mem_flatMap]at hy
 obtain⟨x,_,hx⟩:=hy
 exact be4_rng x y hx
theorem YY (L:List Nat):(ZP L).length=4*L.length:=by
 induction L with
 |nil=>rfl
 |cons x L ih=>simp only [ZP,List.flatMap_cons,List.length_append,Zcy,List.length_cons]at *;omega
theorem UL (L:List Nat) (x:Nat):ZP (L++[x])=ZP L++be4 x:=by simp [ZP]
theorem X8:∀(L:List Nat),(∀x∈L,x<B32)→val (ZP L.reverse)=nv B32 L
 |[],_=>rfl
 |x::L,h=>by
  rw [List.reverse_cons,UL,val_be4 _ _ (h x (by simp)),X8 L (fun y hy=>h y (by simp [hy])),nv,Nat.mul_comm,Nat.add_comm]
theorem U5 (l:List Nat):val (0::l)=val l:=by simp [val]
theorem JM:∀(l:List Nat),val (l.dropWhile (· == 0))=val l
 |[]=>rfl
 |0::l=>by rw [List.dropWhile_cons_of_pos (by rfl),JM l,U5]
 |(x+1)::l=>by rw [List.dropWhile_cons_of_neg (by simp)]
theorem UC:∀(l:List Nat),l.dropWhile (· == 0)=[]∨(l.dropWhile (· == 0)).head?.getD 0≠0
 |[]=>.inl rfl
 |0::l=>by rw [List.dropWhile_cons_of_pos (by rfl)];exact UC l
 |(x+1)::l=>by rw [List.dropWhile_cons_of_neg (by simp)];exact .inr (by simp)
theorem Zct (l:List Nat) (h:∀x∈l,x<256):l.dropWhile (· == 0)=magN (val l):=by
 rw [←JM l]
 exact(Zax _ (fun x hx=>h x (List.dropWhile_sublist _ |>.subset hx)) (UC l)).symm
end Go.Proofs.YtdcadiaeaclpgaaGreatDoor
namespace Go.Proofs.YtdcadiaeaclpgaaGreatDoor
open Go.RowKit Go.Lib Go.Sort Go.Shelf
attribute [local go_sem] Oper.semAt_some
set_option maxHeartbeats 6400000
set_option maxRecDepth 1000000
def KeepsIn (K:Nat→Prop) (A B:World):Prop:=∀i,K i→B.heap[i]?=A.heap[i]?
theorem KeepsIn.refl (K:Nat→Prop) (A:World):KeepsIn K A A:=fun _ _=>rfl
theorem KeepsIn.trans {K:Nat→Prop} {A B C:World} (h:KeepsIn K A B) (k:KeepsIn K B C):KeepsIn K A C:=fun i hi=>(k i hi).trans (h i hi)
theorem KeepsIn.cell {K:Nat→Prop} {A B:World} (h:KeepsIn K A B) {b o:Nat} (hb:K b):B.cell? ⟨b,o,none⟩=A.cell? ⟨b,o,none⟩:=by
 simp only [World.cell?,h b hb]
theorem KeepsIn.put {K:Nat→Prop} {w:World} (hK:∀i,K i→i<w.heap.size) (W:World) (l:Nat) (o o':Obj) (hl:w.heap.size≤l) (h:W.heap[l]?=some o) (_:o.isCells=false) (_:o.isWalk=false):KeepsIn K W (W.putObj l o'):=fun i hi=>by
 have hlt:=hK i hi
 have hls:=(Array.getElem?_eq_some_iff.1 h).1
 exact(grownBy_putObj' W l o').block i (by omega) (by intro e;injection e with e;omega)
def Down (k:Nat) (xs:List (Fin k)):Prop:=∀t (h:t<xs.length),(xs[t]).1+t+1=k
theorem Down.nil (k:Nat):Down k []:=fun t h=>by simp at h
theorem Down.snoc {k:Nat} {xs:List (Fin k)} (h:Down k xs) (x:Fin k) (hx:x.1+xs.length+1=k):Down k (xs++[x]):=by
 intro t ht
 rw [List.length_append,List.length_singleton]at ht
 by_cases h1:t<xs.length
 ·rw [List.getElem_append_left h1];exact h t h1
 ·obtain rfl:t=xs.length:=by omega
  simpa using hx
def encD {k:Nat} (L:List Nat) (x:Fin k):Array Value:=#[.int .i64 (x.1:Int),.int .u32 ((L[x.1]?.getD 0:Nat):Int)]
theorem back_in (F:Fence) (n:Nat) (hf:F.fn 193) (hro:F.round=none) (hn:1≤n) (l Bs:Nat) (K:Nat→Prop) (L:List Nat) (k cp:Nat) (ab:Option Addr) (hk9:(k:Int)≤1000000000) (J Jx:List (Fin k)→World→Prop)
    (hY:∀pre x W,J pre W→pre.length<k→YieldAt F (n-1) Tryz.prog l (encD L x) W fun e W' =>
     (e=.returned (.bool true)∧J (pre++[x]) W'∧KeepsIn K W W')∨(e=.returned (.bool false)∧Jx (pre++[x]) W'))
    (W:World) (HC:Hid (∀W',KeepsIn K W W'→W'.cell? ⟨Bs,0,none⟩=some (.slice ab k cp)∧∀j,j<k→∃B off,ab=some ⟨B,off,none⟩∧W'.cell? ⟨B,off+j,none⟩=some (.int .u32 ((L[j]?.getD 0:Nat):Int))∧k≤cp)) (h0:J [] W) :
    CallsIn F n Tryz.prog 193 #[.func (.yield l) #[] #[],.pointer (some ⟨Bs,0,none⟩)] W fun e W'=>(∃v,e=.returned v) ∧
     ((∃ys,(Down k ys∧ys.length=k)∧J ys W')∨(∃pre,(Down k pre∧0<pre.length)∧Jx pre W')):=by
 have hcs:=(HC.out W (KeepsIn.refl _ _)).1
 refine callsIn_of_wp Tryz.func193 rfl hf ?_ hro
 simp only [Tryz.ntmps193,List.size_toArray,List.length_cons,List.length_nil,Nat.reduceAdd,Nat.reduceSub,Array.replicate_succ,Array.replicate_zero,List.push_toArray,List.append_toArray,List.nil_append,List.cons_append]
 gi_wp2
 clear hcs
 gi_loopw [3] (fun i wr=>∃(m:Nat) (pre:List (Fin k)),m≤k∧i=.int .i64 ((m:Int)-1)∧pre.length+m=k∧Down k pre∧J pre wr∧KeepsIn K W wr) (fun i _=>(RowKit.intOf i+1).toNat)
 case atStart=>exact⟨k,[],Nat.le_refl _,rfl,by simp,Down.nil _,h0,KeepsIn.refl _ _⟩
 case round =>
  obtain⟨m,pre,hm,rfl,hl,hd,hJ,hK⟩:=hrel
  obtain⟨hcs,hdig⟩:=HC.out wr hK
  rcases Nat.eq_zero_or_pos m with rfl|hm0
  ·gi_wp2
   go_end0
   exact⟨⟨_,rfl⟩,.inl ⟨pre,⟨hd,by omega⟩,hJ⟩⟩
  ·obtain⟨q,rfl⟩:∃q,m=q+1:=⟨m-1,by omega⟩
   obtain⟨B,off,rfl,hc,hcp⟩:=hdig q (by omega)
   have hY1:YieldAt F (n-1) Tryz.prog l #[.int .i64 (q:Int),.int .u32 ((L[q]?.getD 0:Nat):Int)] wr fun e W' =>
    (e=.returned (.bool true)∧J (pre++[⟨q,by omega⟩]) W'∧KeepsIn K wr W')∨(e=.returned (.bool false)∧Jx (pre++[⟨q,by omega⟩]) W'):=hY pre ⟨q,by omega⟩ wr hJ (by omega)
   rw [show(((q+1:Nat):Int)-1)=(q:Int)by omega]
   have hqk:(q:Int)<(k:Int):=by omega
   clear hdig
   obtain⟨fn,tmps,assign,body,hy,hR⟩:=hY1
   gi_wp2
   refine hR.mono ?_
   rintro e W3 (⟨rfl,hJ3,hK3⟩|⟨rfl,hJx3⟩)
   ·gi_wp2
    go_roundw
    case rel=>exact⟨q,pre++[⟨q,by omega⟩],by omega,rfl,by simp;omega,hd.snoc _ (by simp;omega),hJ3,hK.trans hK3⟩
    case measure=>simp [RowKit.intOf]
   ·gi_wp2
    refine bodyPost_ret (results_none rfl _ _ _) rfl ?_
    exact⟨⟨_,rfl⟩,.inr ⟨_,⟨hd.snoc ⟨q,by omega⟩ (by simp;omega),by simp⟩,hJx3⟩⟩
theorem Ux (F:Fence) (n:Nat) (hf:F.fn 193) (hro:F.round=none) (hn:1≤n) (Bs:Nat) (K:Nat→Prop) (L:List Nat) (k cp:Nat) (ab:Option Addr) (hk9:(k:Int)≤1000000000) (w:World) (hL:L.length=k)
    (hKs:K Bs) (hKd:0<k→∀b,ab=some b→K b.block) (hKw:∀i,K i→i<w.heap.size) (hs:w.cell? ⟨Bs,0,none⟩=some (.slice ab k cp)) (hd:D4 w (.slice ab k cp) L) :
    SeqStopsK F n Tryz.prog 193 #[.pointer (some ⟨Bs,0,none⟩)] (encD (k:=k) L) (KeepsIn K) (fun ys=>Down k ys∧ys.length=k) (fun pre=>Down k pre∧0<pre.length) k w:=fun l J Jx W hW _ _ hY h0 =>
 back_in F n hf hro hn l Bs K L k cp ab hk9 J Jx hY W (by
  intro W' hK
  have hk:KeepsIn K w W':=fun i hi=>(hK i hi).trans (hW.block i (hKw i hi))
  refine⟨(hk.cell hKs).trans hs,fun j hj=>?_⟩
  rcases hd with ⟨_,e⟩|⟨B,off,c,e,hc,h⟩
  ·rw [e]at hL;simp at hL;omega
  ·obtain⟨rfl,_,rfl⟩:=Value.slice.inj e
   exact⟨B,off,rfl,(hk.cell (hKd (by omega) _ rfl)).trans (h j (by omega)),by omega⟩) h0
theorem Yt (a:Option Addr) (n c:Nat) (w:World) :
    Calls Tryz.prog 171 #[.slice a n c] w fun e w'=>e=.returned (.func (.func 193) #[] #[.pointer (some ⟨w.heap.size,0,none⟩)])∧w'=w.alloc (.cells #[.slice a n c] 146):=by
 go_enter Tryz.func171,Tryz.ntmps171
 go_wp2
 go_ret
 exact⟨rfl,rfl⟩
end Go.Proofs.YtdcadiaeaclpgaaGreatDoor
namespace Go.Proofs.YtdcadiaeaclpgaaGreatDoor
open Go.RowKit Go.Lib Go.Sort
set_option maxHeartbeats 6400000
set_option maxRecDepth 1000000
theorem ZfF:∀z:Fin 256,(Lib.len8tab[z.1]'(by rw [Lib.len8tab_size];exact z.2)).toNat=bl z.1:=by decide +kernel
theorem tab8_at (z:Nat) (h:z<Lib.len8tab.size):(Lib.len8tab[z]).toNat=bl z:=ZfF ⟨z,by rw [Lib.len8tab_size]at h;exact h⟩
theorem bl_le {x k:Nat} (h:x<2 ^ k):bl x≤k:=by
 rcases Nat.eq_zero_or_pos x with rfl|hp
 ·simp [bl]
 ·obtain⟨j,hj⟩:=YS hp
  have:=X5.1 hj
  rw [hj]
  by_cases hjk:j<k
  ·omega
  ·have:2 ^ k≤2 ^ j:=Nat.pow_le_pow_right (by decide) (by omega)
   omega
theorem Zac {n:Int} (h0:0≤n) (h1:n≤1000):wrap64 n=n:=by
 unfold RowKit.wrap64
 omega
theorem ZdL (x:Int) (h0:0≤x) (h1:x≤4294967295) (w:World) :
    Calls Tryz.prog 220 #[.int .u32 x] w fun e w'=>e=.returned (.int .i64 (bl x.toNat))∧w'=w:=by
 have fin:∀(s z r:Nat) (hz:z<Lib.len8tab.size),x.toNat=z*2 ^ s+r→r<2 ^ s→(s=0∨0<z)→wrap64 ((s:Int)+wrap64 (((Lib.len8tab[z]'hz).toNat:Nat):Int))=(bl x.toNat:Int):=by
  intro s z r hz hx hr h0
  rw [tab8_at z hz]
  rw [Lib.len8tab_size]at hz
  have h8:=bl_le (k:=8) hz
  have e:bl x.toNat=s+bl z:=by
   rcases h0 with rfl|h0
   ·have:r=0:=by simpa using hr
    subst this;rw [hx];simp
   ·rw [hx];exact bl_up z s r h0 hr
  have h32:=bl_le (k:=32) (show x.toNat<2 ^ 32 by omega)
  rw [Zac (n:=(bl z:Int)) (by omega) (by omega),Zac (by omega) (by omega),e]
  omega
 have FIN:Hid (∀(s z r:Nat) (hz:z<Lib.len8tab.size),x.toNat=z*2 ^ s+r→r<2 ^ s→(s=0∨0<z)→wrap64 ((s:Int)+wrap64 (((Lib.len8tab[z]'hz).toNat:Nat):Int))=(bl x.toNat:Int)):=fin
 clear fin
 go_enter Tryz.func220,Tryz.ntmps220
 go_wp2
 all_goals have hsz:=Lib.len8tab_size
 all_goals first
  |(exfalso;omega)
  |(go_ret
    exact⟨Zv (FIN.out 24 (x / 65536 / 256).toNat (x.toNat % 16777216) (by omega) (by omega) (by omega) (.inr (by omega))),rfl⟩)
  |(go_ret
    exact⟨Zv (FIN.out 16 (x / 65536).toNat (x.toNat % 65536) (by omega) (by omega) (by omega) (.inr (by omega))),rfl⟩)
  |(go_ret
    exact⟨Zv (FIN.out 8 (x / 256).toNat (x.toNat % 256) (by omega) (by omega) (by omega) (.inr (by omega))),rfl⟩)
  |(go_ret
    refine⟨Zv ?_,rfl⟩
    have:=FIN.out 0 x.toNat 0 (by omega) (by omega) (by omega) (.inl rfl)
    simpa using this)
theorem Zaa (x:Nat) (hx:x<4294967296) (w:World) :
    Calls Tryz.prog 220 #[.int .u32 x] w fun e w'=>e=.returned (.int .i64 (bl x))∧w'=w :=
 ZdL (x:Int) (by omega) (by omega) w
theorem Jt {L:List Nat} (hr:∀x∈L,x<B32) (hT:Trim L) (h0:L.length≠0):bl (nv B32 L)=32*(L.length-1)+bl (L[L.length-1]?.getD 0):=by
 obtain⟨k,hk⟩:∃k,L.length=k+1:=⟨L.length-1,by omega⟩
 have ht:=hT.resolve_left h0
 rw [hk,Nat.add_sub_cancel]at ht ⊢
 rw [JJ B32 L k hk]
 have hlt:=nv_lt B32 (L.take k) (fun x hx=>hr x (List.mem_of_mem_take hx))
 rw [List.length_take,hk,Nat.min_eq_left (by omega)]at hlt
 have e:B32 ^ k=2 ^ (32*k):=by rw [Nat.pow_mul]
 rw [e]at hlt ⊢
 rw [Nat.add_comm,Nat.mul_comm]
 exact bl_up _ _ _ (by omega) hlt
theorem XM (w:World) (v:Value) (L:List Nat) (h:D4 w v L) (hr:∀x∈L,x<B32) (hT:Trim L) (hl:L.length≤100000000) :
    Calls Tryz.prog 204 #[v] w fun e w'=>e=.returned (.int .i64 (bl (nv B32 L)))∧w'=w:=by
 by_cases h0:L.length=0
 ·have hb:bl (nv B32 L)=0:=by rw [List.length_eq_zero_iff.1 h0];rfl
  rw [hb]
  obtain⟨ab,cb,rfl⟩:=h.slice
  rw [h0]
  clear h hr hT hl
  go_enter Tryz.func204,Tryz.ntmps204
  go_wp2_with fail
  go_ret
  exact⟨rfl,rfl⟩
 ·obtain⟨n,hn⟩:∃n,L.length=n+1:=⟨L.length-1,by omega⟩
  have hb:=Jt hr hT h0
  rw [hn,Nat.add_sub_cancel]at hb
  rcases h with ⟨_,e⟩|⟨B,off,c,rfl,hc,hd⟩
  ·rw [e]at hn;simp at hn
  ·have hx:=hd n (by omega)
   rw [hn]at hc hl ⊢
   have rX:=Zt hr n
   clear hd hr hT h0 hn
   generalize L[n]?.getD 0=x at *
   have h32:=bl_le (k:=32) (x:=x) rX
   have hL:=Zaa x rX w
   have HB:Hid (bl (nv B32 L)=32*n+bl x):=hb
   clear hb
   generalize bl (nv B32 L)=b at *
   have hnI:(n:Int)≤100000000:=by omega
   go_enter Tryz.func204,Tryz.ntmps204
   go_wp2_with fail
   refine hL.mono ?_
   rintro e w' ⟨rfl,rfl⟩
   obtain⟨m,hm⟩:∃m,bl x=m:=⟨_,rfl⟩
   have HB2:Unit→b=32*n+m:=fun _=>by rw [←hm];exact HB.out
   rw [hm]at h32 ⊢
   have hmI:(m:Int)≤32:=by omega
   go_wp2_with fail
   go_ret
   exact⟨Zv (by rw [HB2 ()];omega),rfl⟩
end Go.Proofs.YtdcadiaeaclpgaaGreatDoor
namespace Go.Proofs.YtdcadiaeaclpgaaGreatDoor
open Go.RowKit Go.Lib Go.Sort Go.Shelf
set_option maxHeartbeats 6400000
set_option maxRecDepth 1000000
theorem Zad (w:World) (B n cp:Nat) (l:List Nat) (hl:l.length=n) (hcp:n≤cp) (hc:∀j,j<n→w.cell? ⟨B,j,none⟩=some (.int .u8 ((l[j]?.getD 0:Nat):Int))) (hn:(n:Int)≤1000000000) :
    Calls Tryz.prog 208 #[.slice (some ⟨B,0,none⟩) n cp,.int .u8 0] w fun e w'=>∃s,e=.returned s∧Src w s (ints (l.dropWhile (· == 0)))∧w'=w:=by
 have HC:Hid (∀j,j<n→w.cell? ⟨B,j,none⟩=some (.int .u8 ((l[j]?.getD 0:Nat):Int))):=hc
 have HL:Unit→l.length=n:=fun _=>hl
 clear hc hl
 go_enter Tryz.func208,Tryz.ntmps208
 go_wp2_with fail
 go_loopw [0] (fun s wr=>∃k q o c:Nat,k+q=n∧s=.slice (some ⟨B,o,none⟩) q c∧q≤c∧(0<q→o=k)∧(l.drop k).dropWhile (· == 0)=l.dropWhile (· == 0)∧wr=w) (fun s _=>match s with|.slice _ n _=>n|_=>0)
 case atStart=>exact⟨0,n,0,cp,by omega,rfl,hcp,fun _=>rfl,by simp,rfl⟩
 case round =>
  obtain⟨k,q,o,c,hkq,rfl,hqc,hok,hd,rfl⟩:=hrel
  have HD:Hid ((l.drop k).dropWhile (· == 0)=l.dropWhile (· == 0)):=hd
  clear hd
  rcases Nat.eq_zero_or_pos q with rfl|hq
  ·have hnil:Unit→l.dropWhile (· == 0)=[]:=fun _=>by rw [←HD.out,List.drop_eq_nil_of_le (by rw [HL ()];omega)];rfl
   go_wp2_with fail
   go_ret
   exact⟨_,rfl,.inl ⟨rfl,by rw [hnil ()];rfl⟩,rfl⟩
  ·obtain rfl:o=k:=hok hq
   clear hok
   obtain⟨p,rfl⟩:∃p,q=p+1:=⟨q-1,by omega⟩
   have hx:=HC.out o (by omega)
   have hcd:l.drop o=(l[o]?.getD 0)::l.drop (o+1):=by
    have:o<l.length:=by rw [HL ()];omega
    rw [List.drop_eq_getElem_cons this,List.getElem?_eq_getElem this];rfl
   have HCD:Hid (l.drop o=(l[o]?.getD 0)::l.drop (o+1)):=hcd
   clear hcd
   have hpI:(p:Int)≤1000000000:=by omega
   by_cases h0:l[o]?.getD 0=0
   ·rw [h0]at hx
    have h2:Unit→(l.drop (o+1)).dropWhile (· == 0)=l.dropWhile (· == 0):=fun _=>by
     rw [←HD.out,HCD.out,h0,List.dropWhile_cons_of_pos (by rfl)]
    go_wp2_with fail
    go_roundw
    case rel =>
     by_cases hc1:c=1
     ·exact⟨o+1,p,o,c-1,by omega,by rw [if_pos hc1],by omega,by omega,h2 (),trivial⟩
     ·exact⟨o+1,p,o+1,c-1,by omega,by rw [if_neg hc1],by omega,fun _=>rfl,h2 (),trivial⟩
    case measure=>simp
   ·have h2:Unit→l.dropWhile (· == 0)=l.drop o:=fun _=>by
      rw [←HD.out,HCD.out,List.dropWhile_cons_of_neg (by simpa using h0)]
    have hz1:(((l[o]?.getD 0:Nat):Int) == 0)=false:=by
     rw [beq_eq_false_iff_ne];omega
    clear h0
    obtain⟨x,hxx⟩:∃x:Int,((l[o]?.getD 0:Nat):Int)=x:=⟨_,rfl⟩
    rw [hxx]at hx hz1
    go_wp2_with fail
    go_ret
    refine⟨_,rfl,.inr ⟨B,o,c,?_,?_⟩,rfl⟩
    ·rw [h2 (),Zk,List.length_drop,HL (),show n-o=p+1 by omega];rfl
    ·intro j u hj
     rw [h2 (),List.getElem?_map]at hj
     have hjl:j<(ints (l.drop o)).length:=by
      rcases Nat.lt_or_ge j (ints (l.drop o)).length with h|h
      ·exact h
      ·rw [List.getElem?_eq_none h]at hj;cases hj
     rw [Zk,List.length_drop,HL ()]at hjl
     rw [HC.out (o+j) (by omega),←hj]
     have e:(ints (l.drop o))[j]?=some ((l[o+j]?.getD 0:Nat):Int):=by
      simp only [ints,List.getElem?_map,List.getElem?_drop]
      rw [List.getElem?_eq_getElem (show o+j<l.length by rw [HL ()];omega)]
      rfl
     rw [e]
     rfl
theorem JS (w:World) (B n cp:Nat) (l:List Nat) (hl:l.length=n) (hcp:n≤cp) (hc:∀j,j<n→w.cell? ⟨B,j,none⟩=some (.int .u8 ((l[j]?.getD 0:Nat):Int))) (hn:(n:Int)≤1000000000) :
    Calls Tryz.prog 197 #[.slice (some ⟨B,0,none⟩) n cp,.string ⟨#[0]⟩] w fun e w'=>∃s,e=.returned s∧Src w s (ints (l.dropWhile (· == 0)))∧w.grownBy w' none:=by
 have HT:=Zad w B n cp l hl hcp hc hn
 have HTH:Hid (Calls Tryz.prog 208 #[.slice (some ⟨B,0,none⟩) n cp,.int .u8 0] w fun e w'=>∃s,e=.returned s∧Src w s (ints (l.dropWhile (· == 0)))∧w'=w):=HT
 clear HT hc
 rcases Nat.eq_zero_or_pos n with rfl|h0
 ·obtain rfl:l=[]:=List.length_eq_zero_iff.1 hl
  go_enter Tryz.func197,Tryz.ntmps197
  go_wp2_with fail
  go_ret
  exact⟨_,rfl,.inl ⟨rfl,rfl⟩,World.grownBy.refl _ _⟩
 ·have hz1:((n:Int) == 0)=false:=by rw [beq_eq_false_iff_ne];omega
  clear hl
  go_enter Tryz.func197,Tryz.ntmps197
  go_wp2_with fail
  refine HTH.out.mono ?_
  rintro e w' ⟨s,rfl,hs,rfl⟩
  have HS:Hid (Src w' s (ints (l.dropWhile (· == 0)))):=hs
  clear hs
  go_wp2_with fail
  go_ret
  exact⟨s,rfl,HS.out,World.grownBy.refl _ _⟩
attribute [local go_sem] Oper.semAt_some
def gone {k:Nat} (L:List Nat) (pre:List (Fin k)):List Nat:=ZP (pre.map fun x=>L[x.1]?.getD 0)
def mgI (w:World) (k:Nat) (L:List Nat) (g m cap:Nat) (pre:List (Fin k)) (W:World):Prop :=
 W.heap[m]?=some (.cells #[.slice (some ⟨g,0,none⟩) (4*pre.length) cap] 91 (0,0)) ∧
 W.ownsRow w.heap.size 5 1 (.slice (some ⟨g,0,none⟩) (4*pre.length) cap) (4*pre.length) ((ints (gone L pre)).map encB)∧w.grownBy W none∧w.heap.size+3≤W.heap.size
theorem makeC (w:World) (n:Nat) (hn:n≤1000000000) :
    (Instr.makeSlice 91 (.int .i64 0) (.int .i64 n)).run Tryz.prog w=.ok (.slice (some ⟨w.heap.size,0,none⟩) 0 n) (w.alloc (.cells ((ints (List.replicate n 0)).map encB).toArray 5)):=by
 obtain⟨i0,hi,hz0,hz1,hz2⟩:=info_parts Tryz.info1
 have h:=run_make (P:=Tryz.prog) w 91 5 i0 _ Tryz.underlying91 hi hz0 .i64 .i64 0 n (by omega) (by omega) (by rw [hz2];omega) (by omega)
 rw [hz1,Vl _ _ rfl]at h
 simpa [ints]using h
theorem row_new (w:World) (n:Nat) (hn:n≤1000000000) {W:World} {g:Nat} (hg:W.heap[g]?=some (.cells ((ints (List.replicate n 0)).map encB).toArray 5 (0,0))) (hb:w.heap.size≤g) :
    W.ownsRow w.heap.size 5 1 (.slice (some ⟨g,0,none⟩) 0 n) 0 [] :=
 ⟨by simp,.inr ⟨g,n,_,rfl,hb,hg,by omega,by unfold maxLen;omega,by simp [ints],by simp⟩⟩
theorem Src.kept {w w':World} {s:Value} {L:List Int} (h:Src w s L) (hg:w.grownBy w' none):Src w' s L:=by
 rcases h with h|⟨b,off,c,e,h⟩
 ·exact .inl h
 ·exact .inr ⟨b,off,c,e,fun j u hj=>Zd hg (h j u hj) (by simp)⟩
theorem cell_lt {w:World} {b o:Nat} {v:Value} (h:w.cell? ⟨b,o,none⟩=some v):b<w.heap.size:=by
 unfold World.cell? at h
 cases hb:w.heap[b]? with
 |none=>simp [hb]at h
 |some o=>exact(Array.getElem?_eq_some_iff.1 hb).1
theorem D4.blk {w:World} {b:Addr} {k cp:Nat} {L:List Nat} (h:D4 w (.slice (some b) k cp) L) (hk:0<k) (hL:L.length=k):b.block<w.heap.size:=by
 rcases h with ⟨e,_⟩|⟨B,off,c,e,_,h⟩
 ·cases e
 ·cases e
  exact cell_lt (h 0 (by omega))
theorem mgI_own (w:World) (k:Nat) (L:List Nat) (g m cap B:Nat) (hB:w.heap.size≤B):OwnFrom B (mgI w k L g m cap):=by
 intro s W W' row ⟨h1,h2,h3,h4⟩ hg hr
 have hne:∀(i:Nat) (o:Obj),W.heap[i]?=some o→o.isCells=true→row≠some i:=by
  intro i o ho hc e
  obtain⟨_,o',ho',hc'⟩:=hr i e
  rw [ho]at ho'
  cases ho'
  rw [hc]at hc'
  exact absurd hc' (by simp)
 refine⟨(hg.block m (Array.getElem?_eq_some_iff.1 h1).1 (fun e=>hne m _ h1 rfl e.symm)).trans h1,World.ownsRow.kept h2 hg ?_,⟨hg.os.trans h3.os,hg.tape.trans h3.tape,hg.output.trans h3.output,Nat.le_trans h3.size hg.size,fun i hi hn=>?_⟩,Nat.le_trans h4 hg.size⟩
 ·rcases h2.2 with ⟨e,_⟩|⟨g',cap',cur,e,hb,hgg,_⟩
  ·cases e
  ·cases e
   right
   intro e
   exact hne _ _ hgg rfl e.symm
 ·refine(hg.block i (Nat.lt_of_lt_of_le hi h3.size) (fun e=>?_)).trans (h3.block i hi hn)
  have:=(hr i e.symm).1
  omega
theorem Zcw {W:World} {B:Nat} {t:TypeId} {a b c d:Int} (h:W.heap[B]?=some (.cells #[.int .u8 a,.int .u8 b,.int .u8 c,.int .u8 d] t (0,0))) :
    ∀j u,[Value.int .u8 a,.int .u8 b,.int .u8 c,.int .u8 d][j]?=some u→W.cell? ((⟨B,0,none⟩:Addr).add j)=some u:=by
 intro j u hj
 rw [Addr.add_lit,Nat.zero_add]
 simp only [World.cell?,h]
 simpa using hj
theorem ZeA {k:Nat} (L:List Nat) (pre:List (Fin k)) (x:Fin k):gone L (pre++[x])=gone L pre++be4 (L[x.1]?.getD 0):=by
 simp [gone,ZP]
theorem Zfo {k:Nat} {L:List Nat} {ys:List (Fin k)} (hL:L.length=k) (hd:Down k ys) (hy:ys.length=k):gone L ys=ZP L.reverse:=by
 unfold gone
 congr 1
 apply List.ext_getElem?
 intro t
 rcases Nat.lt_or_ge t k with h|h
 ·have h1:=hd t (by omega)
  rw [List.getElem?_map,List.getElem?_eq_getElem (show t<ys.length by omega),List.getElem?_reverse (by omega)]
  have e:(ys[t]'(by omega)).1=L.length-1-t:=by omega
  simp only [Option.map_some,e]
  rw [List.getElem?_eq_getElem (show L.length-1-t<L.length by omega)]
  rfl
 ·rw [List.getElem?_eq_none (by simp;omega),List.getElem?_eq_none (by simp;omega)]
theorem mg_end {w W W1 W2:World} {k:Nat} {L:List Nat} {g m cap:Nat} {pre:List (Fin k)} {x:Fin k} {d:Nat} (hm:m≠g) (hwm:w.heap.size≤m) (hwg:w.heap.size≤g) (hI:mgI w k L g m cap pre W) (hd:L[x.1]?.getD 0=d) (h1:W.grownBy W1 none)
    (h2:W2.ownsRow w.heap.size 5 1 (.slice (some ⟨g,0,none⟩) (4*pre.length+4) cap) (4*pre.length+4) ((ints (gone L pre)).map encB++(ints (be4 d)).map encB)) (hg:W1.grownBy W2 (some g)) {K:Nat→Prop} (hK:∀i,K i→i<W.heap.size∧i≠g∧i≠m) :
    KeepsOthers W (W2.setCell ⟨m,0,none⟩ (.slice (some ⟨g,0,none⟩) (4*pre.length+4) cap))∧KeepsIn K W (W2.setCell ⟨m,0,none⟩ (.slice (some ⟨g,0,none⟩) (4*pre.length+4) cap)) ∧
     mgI w k L g m cap (pre++[x]) (W2.setCell ⟨m,0,none⟩ (.slice (some ⟨g,0,none⟩) (4*pre.length+4) cap)):=by
 obtain⟨i1,i2,i3,i4⟩:=hI
 have lm:=(Array.getElem?_eq_some_iff.1 i1).1
 have m1:=(h1.block m lm (by simp)).trans i1
 have m2:=(hg.block m (Nat.lt_of_lt_of_le lm h1.size) (by intro e;injection e with e;exact hm e)).trans m1
 have kS:=Zc W2 m 0 (.slice (some ⟨g,0,none⟩) (4*pre.length+4) cap)
 have gc:∀o,W1.heap[g]?=some o→o.isCells=true:=by
  intro o ho
  rcases i2.2 with ⟨e,_⟩|⟨g',cap',cur,e,hb,hgg,_⟩
  ·cases e
  ·cases e
   have:=(h1.block g (Array.getElem?_eq_some_iff.1 hgg).1 (by simp)).trans hgg
   rw [this]at ho;cases ho;rfl
 have KO:KeepsOthers W (W2.setCell ⟨m,0,none⟩ (.slice (some ⟨g,0,none⟩) (4*pre.length+4) cap)) :=
  ((KeepsOthers.of_grownBy h1 (fun j o e=>by cases e)).trans (KeepsOthers.of_grownBy hg (fun j o e ho=>by cases e;exact gc o ho))).trans (KeepsOthers.setCell _ _ _)
 have all:∀i,i<W.heap.size→i≠g→i≠m→(W2.setCell ⟨m,0,none⟩ (.slice (some ⟨g,0,none⟩) (4*pre.length+4) cap)).heap[i]?=W.heap[i]?:=fun i hi hgi hmi =>
  ((kS.block i (Nat.lt_of_lt_of_le hi (Nat.le_trans h1.size hg.size)) (by intro e;injection e with e;exact hmi e)).trans (hg.block i (Nat.lt_of_lt_of_le hi h1.size) (by intro e;injection e with e;exact hgi e))).trans (h1.block i hi (by simp))
 refine⟨KO,fun i hi=>all i (hK i hi).1 (hK i hi).2.1 (hK i hi).2.2,?_,?_,⟨((kS.os.trans hg.os).trans h1.os).trans i3.os,((kS.tape.trans hg.tape).trans h1.tape).trans i3.tape,((kS.output.trans hg.output).trans h1.output).trans i3.output,Nat.le_trans i3.size (Nat.le_trans h1.size (Nat.le_trans hg.size kS.size)),fun i hi _ =>
  (all i (Nat.lt_of_lt_of_le hi i3.size) (by omega) (by omega)).trans (i3.block i hi (by simp))⟩,Nat.le_trans i4 (Nat.le_trans h1.size (Nat.le_trans hg.size kS.size))⟩
 ·rw [List.length_append,List.length_singleton,Nat.mul_add,Nat.mul_one]
  simp [World.setCell,Array.getElem?_modify,m2]
 ·rw [List.length_append,List.length_singleton,Nat.mul_add,Nat.mul_one,ZeA,hd]
  have e:(ints (gone L pre++be4 d)).map encB=(ints (gone L pre)).map encB++(ints (be4 d)).map encB:=by simp [ints]
  rw [e]
  exact World.ownsRow.kept h2 kS (.inr (by intro e;injection e with e;exact hm e.symm))
theorem Jo (w:World) (ab:Option Addr) (k cp:Nat) (L:List Nat) (hL:L.length=k) (hd:D4 w (.slice ab k cp) L) (hr:∀x∈L,x<B32) (hk9:(k:Int)≤100000000) :
    Calls Tryz.prog 177 #[.slice ab k cp] w fun e w'=>∃s,e=.returned (.string s)∧bN s=magN (nv B32 L)∧w.grownBy w' none:=by
 have hmk:=makeC w (4*k) (by omega)
 rw [show((4*k:Nat):Int)=4*(k:Int)by omega]at hmk
 refine(callsIn_wide (n:=5)).1 ?_
 refine callsIn_of_wp_marks Tryz.func177 rfl trivial ?_ rfl
 simp only [Tryz.ntmps177,List.size_toArray,List.length_cons,List.length_nil,Nat.reduceAdd,Nat.reduceSub,Array.replicate_succ,Array.replicate_zero,List.push_toArray,List.append_toArray,List.nil_append,List.cons_append]
 gi_wp2
 clear hmk
 refine⟨trivial,?_⟩
 refine(callsIn_wide.2 (Yt _ _ _ _)).mono ?_
 rintro e w' ⟨rfl,rfl⟩
 gi_wp2
 have hS:=heap_alloc_new ((w.alloc (Obj.cells (List.map encB (ints (List.replicate (4*k) 0))).toArray 5)).alloc (Obj.cells #[Value.slice (some ⟨w.heap.size,0,none⟩) 0 (4*k)] 91)) (Obj.cells #[Value.slice ab k cp] 146)
 have hG0:=grow3 w (Obj.cells (List.map encB (ints (List.replicate (4*k) 0))).toArray 5) (Obj.cells #[Value.slice (some ⟨w.heap.size,0,none⟩) 0 (4*k)] 91) (Obj.cells #[Value.slice ab k cp] 146)
 have hM:=J5 w (Obj.cells (List.map encB (ints (List.replicate (4*k) 0))).toArray 5) (Obj.cells #[Value.slice (some ⟨w.heap.size,0,none⟩) 0 (4*k)] 91) (Obj.cells #[Value.slice ab k cp] 146)
 have hA:(((w.alloc (Obj.cells (List.map encB (ints (List.replicate (4*k) 0))).toArray 5)).alloc (Obj.cells #[Value.slice (some ⟨w.heap.size,0,none⟩) 0 (4*k)] 91)).alloc (Obj.cells #[Value.slice ab k cp] 146)).heap[w.heap.size]?=some (Obj.cells (List.map encB (ints (List.replicate (4*k) 0))).toArray 5):=Zn _ _ (Zx _ _ _)
 have hsz:(((w.alloc (Obj.cells (List.map encB (ints (List.replicate (4*k) 0))).toArray 5)).alloc (Obj.cells #[Value.slice (some ⟨w.heap.size,0,none⟩) 0 (4*k)] 91)).alloc (Obj.cells #[Value.slice ab k cp] 146)).heap.size=w.heap.size+3:=by simp
 simp only [World.size_alloc]at hS
 generalize(((w.alloc (Obj.cells (List.map encB (ints (List.replicate (4*k) 0))).toArray 5)).alloc (Obj.cells #[Value.slice (some ⟨w.heap.size,0,none⟩) 0 (4*k)] 91)).alloc (Obj.cells #[Value.slice ab k cp] 146))=V at *
 have hKw:∀i,(i<w.heap.size∨i=w.heap.size+1+1)→i<V.heap.size:=by intro i hi;omega
 refine wpIn_rangeFunc_ownF rfl (by omega) (gf:=193) (lb:=#[.pointer (some ⟨w.heap.size+1+1,0,none⟩)]) rfl trivial (enters_of Tryz.func193 (by kernel_rfl) rfl)
  (Ux Fence.wide (5-1) trivial rfl (by omega) (w.heap.size+1+1) (fun i=>i<w.heap.size∨i=w.heap.size+1+1) L k cp ab (by omega) V hL (.inr rfl) (fun h0 b e=>.inl (by subst e;exact hd.blk h0 hL)) hKw (by simp [World.cell?,hS]) (hd.kept hG0))
  (fun h k=>KeepsIn.trans h k) (KeepsIn.put hKw) (Below.refl _ _) (fun _=>rfl)
  (mgI w k L w.heap.size (w.heap.size+1) (4*k)) (fun _ _ _=>False) (mgI_own w k L _ _ _ _ (by omega)) (fun _ _ _ _ _ h _ _=>h)
  ⟨hM,row_new w (4*k) (by omega) hA (Nat.le_refl _),hG0,by omega⟩
  (fun x=>{ tmps:=#[.slice ab k cp,undef,.string ⟨#[]⟩,.pointer (some ⟨w.heap.size+1,0,none⟩),undef,.int .u32 ((L[x.1]?.getD 0:Nat):Int),.slice ab k cp,.int .i64 k,.int .i64 (4*k),.slice (some ⟨w.heap.size,0,none⟩) 0 (4*k),.slice ab k cp,.func (.func 193) #[] #[.pointer (some ⟨w.heap.size+1+1,0,none⟩)],.int .i64 (x.1:Int),.int .u32 ((L[x.1]?.getD 0:Nat):Int),undef,undef,undef,undef,undef,undef,undef,undef,undef,undef,undef,undef,undef,undef,undef,undef,undef],defers:=[] }) ?assign ?body ?done ?stop
 case assign =>
  intro l x W K hK
  simp only [encD]
  generalize L[x.1]?.getD 0=d at hK ⊢
  gi_wp2
  exact hK
 case stop =>
  rintro D c pre W _ _ h _
  exact h.elim
 case body =>
  rintro l pre x W hI hlen
  have HI:Hid (mgI w k L w.heap.size (w.heap.size+1) (4*k) pre W):=hI
  obtain⟨i1,i2,i3,i4⟩:=hI
  have c1:W.cell? ⟨w.heap.size+1,0,none⟩=some (.slice (some ⟨w.heap.size,0,none⟩) (4*pre.length) (4*k)):=by simp [World.cell?,i1]
  obtain⟨d,hdd⟩:∃d,L[x.1]?.getD 0=d:=⟨_,rfl⟩
  have HD:Unit→L[x.1]?.getD 0=d:=fun _=>hdd
  have rD:d<4294967296:=by rw [←hdd];exact Zt hr x.1
  rw [hdd]
  have HM2:Hid (∀o W2,(W.alloc o).grownBy W2 (some w.heap.size)→W2.cell? ⟨w.heap.size+1,0,none⟩=some (.slice (some ⟨w.heap.size,0,none⟩) (4*pre.length) (4*k))∧W2.frozen? ⟨w.heap.size+1,0,none⟩=false):=(by
   intro o W2 hg
   have h2:=(hg.block (w.heap.size+1) (by simp;have:=(Array.getElem?_eq_some_iff.1 i1).1;omega) (by intro e;injection e with e;omega)).trans (Zn _ o i1)
   exact⟨by simp [World.cell?,h2],by simp [World.frozen?,h2]⟩)
  clear hdd i1 i3
  obtain⟨i0,hi,hz0,hz1,hz2⟩:=info_parts Tryz.info1
  have i2':∀o,(W.alloc o).ownsRow w.heap.size 5 1 (.slice (some ⟨w.heap.size,0,none⟩) (4*pre.length) (4*k)) (4*pre.length) ((ints (gone L pre)).map encB):=fun o=>World.ownsRow.kept i2 (World.grownBy_alloc _ o none) (.inr (by simp [Value.ownBlock]))
  have HO:Hid (∀o,(W.alloc o).ownsRow w.heap.size 5 1 (.slice (some ⟨w.heap.size,0,none⟩) (4*pre.length) (4*k)) (4*pre.length) ((ints (gone L pre)).map encB)):=i2'
  clear i2 i2'
  gi_wp2_with (gi_at_builtin;refine wpListIn_append_fits _ rfl _ _ 91 rfl w.heap.size 5 i0 1 Tryz.underlying91 hi hz1 w.heap.size (4*pre.length) (4*k) _ rfl (HO.out _) ⟨W.heap.size,0,none⟩ 4 4 _ rfl rfl (Zcw (heap_alloc_new _ _)) (by intro u hu;simp at hu;rcases hu with rfl|rfl|rfl|rfl<;>rfl) (by omega) ?_;intro W2 hO2 hG2;obtain⟨hcm,hfm⟩:=HM2.out _ W2 hG2;have HO2:Hid _:=hO2;clear hO2)
  have e4:[Value.int .u8 ((d:Int) / 16777216),.int .u8 ((d:Int) / 65536 % 256),.int .u8 ((d:Int) / 256 % 256),.int .u8 ((d:Int) % 256)]=(ints (be4 d)).map encB:=by
   simp only [be4,ints,List.map_cons,List.map_nil,encB]
   rw [show(d:Int) / 16777216=((d / 16777216 % 256:Nat):Int)by omega,show(d:Int) / 65536 % 256=((d / 65536 % 256:Nat):Int)by omega,show(d:Int) / 256 % 256=((d / 256 % 256:Nat):Int)by omega,show(d:Int) % 256=((d % 256:Nat):Int)by omega]
  have hO2:=HO2.out
  rw [e4]at hO2
  refine mg_end (by omega) (by omega) (Nat.le_refl _) HI.out (HD ()) (grow1 _ _) hO2 hG2 ?_
  intro i hi
  have:=HI.out.2.2.2
  omega
 case done =>
  rintro D ys W hD' ⟨hdn,hyl⟩ ⟨h1,h2,h3,h4⟩ hK
  rw [hyl]at h1 h2
  rw [Zfo hL hdn hyl]at h2
  have c1:W.cell? ⟨w.heap.size+1,0,none⟩=some (.slice (some ⟨w.heap.size,0,none⟩) (4*k) (4*k)):=by simp [World.cell?,h1]
  have hcs:∀j,j<4*k→W.cell? ⟨w.heap.size,j,none⟩=some (.int .u8 (((ZP L.reverse)[j]?.getD 0:Nat):Int)):=by
   intro j hj
   have hl:j<(ZP L.reverse).length:=by rw [YY,List.length_reverse];omega
   have:=World.ownsRow.cells h2 (g:=w.heap.size) rfl j (.int .u8 (((ZP L.reverse)[j]?.getD 0:Nat):Int)) (by simp [ints,hl,encB])
   rw [Addr.add_lit,Nat.zero_add]at this
   exact this
  have HT:=JS W w.heap.size (4*k) (4*k) (ZP L.reverse) (by rw [YY,List.length_reverse];omega) (Nat.le_refl _) hcs (by omega)
  clear hcs h1 h2
  gi_wp2
  refine⟨trivial,?_⟩
  refine(callsIn_wide.2 HT).mono ?_
  rintro e W' ⟨s,rfl,hs,hg⟩
  have hcv:=YM (hs.kept hg)
  have hK':W'.heap[D]?=some (Obj.deferred (some [])):=(hg.block D (Array.getElem?_eq_some_iff.1 hK).1 (by simp)).trans hK
  have HG:Hid (w.grownBy W' none):=Za h3 hg
  clear hs hg h3 hK
  gi_wp2
  refine⟨by simp,.inl ⟨_,_,rfl,run_takeDeferred hK',?_⟩⟩
  have kD:=grownBy_putObj' W' D (.deferred none)
  have h5:=HG.out
  refine⟨_,results_tmp rfl _ _ _,_,rfl,?_,?_⟩
  ·rw [Yk _ (fun y hy=>X2 L.reverse y (List.dropWhile_sublist _ |>.subset hy)),Zct _ (X2 _),X8 L hr]
  ·exact⟨kD.os.trans h5.os,kD.tape.trans h5.tape,kD.output.trans h5.output,Nat.le_trans h5.size kD.size,fun i hi hn=>(kD.block i (Nat.lt_of_lt_of_le hi h5.size) (by intro e;injection e with e;omega)).trans (h5.block i hi hn)⟩
end Go.Proofs.YtdcadiaeaclpgaaGreatDoor
namespace Go.Proofs.YtdcadiaeaclpgaaGreatDoor
open Go.RowKit Go.Lib Go.Sort
set_option maxHeartbeats 6400000
set_option maxRecDepth 1000000
theorem Zbp (n:Nat):(magN n).length=(bl n+7) / 8:=by
 induction n using Nat.strongRecOn with
 |ind n ih =>
  rcases Nat.eq_zero_or_pos n with rfl|hp
  ·rw [ZL];rfl
  ·rw [Yr hp,List.length_append,List.length_singleton,ih (n / 256) (by omega)]
   rcases Nat.lt_or_ge n 256 with h|h
   ·rw [show n / 256=0 by omega,V1]
    obtain⟨k,hk⟩:=YS hp
    have:=bl_le (k:=8) h
    omega
   ·have e:bl n=8+bl (n / 256):=by
      have:=bl_up (n / 256) 8 (n % 256) (by omega) (by omega)
      rw [←this]
      congr 1
      omega
    omega
def Made (neg:Bool) (n:Nat) (e:Ending):Prop :=
 (bl n≤131072∧∃s,e=.returned (.tuple #[whole (neg && decide (n≠0)) s,.int .i64 0])∧bN s=magN n)∨(131072<bl n∧e=.returned (.tuple #[whole false eS,.int .i64 4]))
theorem ZcW (neg:Bool) (w:World) (v:Value) (L:List Nat) (h:D4 w v L) (hr:∀x∈L,x<B32) (hl:L.length≤100000000) :
    Calls Tryz.prog 187 #[.bool neg,v] w fun e w'=>Made neg (nv B32 L) e∧w.grownBy w' none:=by
 have HT:=Zb2 (w.alloc (wObj false eS)) v L (h.kept (grow1 _ _)) (by omega)
 have HTH:Hid (Calls Tryz.prog 154 #[v] (w.alloc (wObj false eS)) fun e w'=>∃v' k,e=.returned v'∧k≤L.length∧D4 (w.alloc (wObj false eS)) v' (L.take k)∧nv B32 (L.take k)=nv B32 L∧Trim (L.take k)∧w'=w.alloc (wObj false eS)):=HT
 have HR:Hid (∀x∈L,x<B32):=hr
 clear HT h hr
 go_enter Tryz.func187,Tryz.ntmps187
 go_wp2_with fail
 refine HTH.out.mono ?_
 rintro e w1 ⟨v',k,rfl,hk,hD,hn,hT,rfl⟩
 have hlen:(L.take k).length=k:=by rw [List.length_take,Nat.min_eq_left hk]
 have hR':∀x∈L.take k,x<B32:=fun x hx=>HR.out x (List.mem_of_mem_take hx)
 have hB:=XM _ v' (L.take k) hD hR' hT (by omega)
 rw [hn]at hB
 obtain⟨ab,cp,rfl⟩:=hD.slice
 rw [hlen]at hD hB
 have HM:Hid (Calls Tryz.prog 177 #[.slice ab k cp] (w.alloc (wObj false eS)) fun e w'=>∃s,e=.returned (.string s)∧bN s=magN (nv B32 L)∧(w.alloc (wObj false eS)).grownBy w' none):=(by
  have:=Jo (w.alloc (wObj false eS)) ab k cp (L.take k) hlen hD hR' (by omega)
  rw [hn]at this
  exact this)
 have hz:Unit→(k=0 ↔ nv B32 L=0):=fun _=>by
  rw [←hn]
  constructor
  ·intro e;subst e;simp [nv]
  ·intro e
   rcases Nat.eq_zero_or_pos k with h|h
   ·exact h
   ·have:=ZK hT (k-1) (by omega)
    have hp:0<B32 ^ (k-1):=Nat.pow_pos (by decide)
    omega
 clear hD hn hT hR' HTH
 rw [hlen]
 have HB:Hid (Calls Tryz.prog 204 #[.slice ab k cp] (w.alloc (wObj false eS)) fun e w'=>e=.returned (.int .i64 (bl (nv B32 L)))∧w'=w.alloc (wObj false eS)):=hB
 clear hB hlen
 obtain⟨n,hnn⟩:∃n,nv B32 L=n:=⟨_,rfl⟩
 have HNN:Unit→nv B32 L=n:=fun _=>hnn
 rw [hnn]at HM HB hz
 clear hnn
 obtain⟨b,hb⟩:∃b,bl n=b:=⟨_,rfl⟩
 have HB2:Unit→bl n=b:=fun _=>hb
 rw [hb]at HB
 clear hb
 go_wp2_with fail
 refine HB.out.mono ?_
 rintro e w1 ⟨rfl,rfl⟩
 clear HB
 by_cases hbig:b≤131072
 ·have hbI:(b:Int)≤131072:=by omega
  cases neg
  ·go_wp2_with fail
   refine HM.out.mono ?_
   rintro e w1 ⟨s,rfl,hs,hg⟩
   have HS:Hid (bN s=magN n):=hs
   have hb:WBlk w1 w.heap.size (.bool false) (.string eS):=WBlk.kept (w:=w.alloc (wObj false eS)) (heap_alloc_new _ _) hg (by simp)
   have hc0:=hb.c0
   have hc1:=hb.c1
   have hf0:=hb.fr 0
   have hf1:=hb.fr 1
   have HG:Hid ((w.alloc (wObj false eS)).grownBy w1 none):=hg
   clear hg hs HM
   go_wp2_with fail
   refine bodyPost_ret (Zm rfl _ _ w.heap.size _ _ _ _ rfl (hb.put _ _)) rfl ?_
   refine⟨.inl ⟨by rw [HNN (),HB2 ()];exact hbig,s,?_,by rw [HNN ()];exact HS.out⟩,Zb (Zb (Za (grow1 _ _) HG.out) (Nat.le_refl _)) (Nat.le_refl _)⟩
   rfl
  ·have hneg:Unit→decide (0<k)=decide (n≠0):=fun _=>by
     have:=hz ()
     exact decide_eq_decide.2 (by omega)
   go_wp2_with fail
   refine HM.out.mono ?_
   rintro e w1 ⟨s,rfl,hs,hg⟩
   have HS:Hid (bN s=magN n):=hs
   have hb:WBlk w1 w.heap.size (.bool false) (.string eS):=WBlk.kept (w:=w.alloc (wObj false eS)) (heap_alloc_new _ _) hg (by simp)
   have hc0:=hb.c0
   have hc1:=hb.c1
   have hf0:=hb.fr 0
   have hf1:=hb.fr 1
   have HG:Hid ((w.alloc (wObj false eS)).grownBy w1 none):=hg
   clear hg hs HM
   go_wp2_with fail
   refine bodyPost_ret (Zm rfl _ _ w.heap.size _ _ _ _ rfl (hb.put _ _)) rfl ?_
   refine⟨.inl ⟨by rw [HNN (),HB2 ()];exact hbig,s,?_,by rw [HNN ()];exact HS.out⟩,Zb (Zb (Za (grow1 _ _) HG.out) (Nat.le_refl _)) (Nat.le_refl _)⟩
   rw [HNN (),Bool.true_and,←hneg ()]
   rfl
 ·have hbI:(131072:Int)+1≤b:=by omega
  go_wp2_with (go_at_call 140;refine(Z0 _).mono ?_;rintro e w' ⟨rfl,rfl⟩)
  refine bodyPost_ret (Zm rfl _ _ w.heap.size _ _ _ _ rfl (Zn _ _ (heap_alloc_new _ _))) rfl ?_
  exact⟨.inr ⟨by rw [HNN (),HB2 ()];omega,rfl⟩,grow2 _ _ _⟩
def cmpI (x y:Int):Int:=if x<y then -1 else if y<x then 1 else 0
theorem Za2 (a b:Nat):cmpI a b=cmpN a b:=by
 unfold cmpI cmpN
 repeat' split
 all_goals first|rfl|omega
theorem JG (x:Int) (w:World):Calls Tryz.prog 226 #[.int .i64 x] w fun e w'=>e=.returned (.bool false)∧w'=w:=by
 go_enter Tryz.func226,Tryz.ntmps226
 go_wp2
 go_ret
 exact⟨Zh (by simp),rfl⟩
theorem Jj (x:Int) (w:World):Calls Tryz.prog 227 #[.int .u32 x] w fun e w'=>e=.returned (.bool false)∧w'=w:=by
 go_enter Tryz.func227,Tryz.ntmps227
 go_wp2
 go_ret
 exact⟨Zh (by simp),rfl⟩
theorem ZaB (x y:Int) (w:World):Calls Tryz.prog 212 #[.int .i64 x,.int .i64 y] w fun e w'=>e=.returned (.int .i64 (cmpI x y))∧w'=w:=by
 have h1:=JG x w
 have h2:=JG y w
 unfold cmpI
 by_cases hlt:x<y
 ·rw [if_pos hlt]
  go_enter Tryz.func212,Tryz.ntmps212
  go_wp2_with fail
  refine h1.mono ?_
  rintro e w' ⟨rfl,rfl⟩
  go_wp2_with fail
  refine h2.mono ?_
  rintro e w' ⟨rfl,rfl⟩
  go_wp2_with fail
  go_ret
  exact⟨rfl,rfl⟩
 ·rw [if_neg hlt]
  by_cases hgt:y<x
  ·rw [if_pos hgt]
   go_enter Tryz.func212,Tryz.ntmps212
   go_wp2_with fail
   refine h1.mono ?_
   rintro e w' ⟨rfl,rfl⟩
   go_wp2_with fail
   refine h2.mono ?_
   rintro e w' ⟨rfl,rfl⟩
   go_wp2_with fail
   go_ret
   exact⟨rfl,rfl⟩
  ·rw [if_neg hgt]
   go_enter Tryz.func212,Tryz.ntmps212
   go_wp2_with fail
   refine h1.mono ?_
   rintro e w' ⟨rfl,rfl⟩
   go_wp2_with fail
   refine h2.mono ?_
   rintro e w' ⟨rfl,rfl⟩
   go_wp2_with fail
   go_ret
   exact⟨rfl,rfl⟩
theorem ZaT (x y:Int) (w:World):Calls Tryz.prog 213 #[.int .u32 x,.int .u32 y] w fun e w'=>e=.returned (.int .i64 (cmpI x y))∧w'=w:=by
 have h1:=Jj x w
 have h2:=Jj y w
 unfold cmpI
 by_cases hlt:x<y
 ·rw [if_pos hlt]
  go_enter Tryz.func213,Tryz.ntmps213
  go_wp2_with fail
  refine h1.mono ?_
  rintro e w' ⟨rfl,rfl⟩
  go_wp2_with fail
  refine h2.mono ?_
  rintro e w' ⟨rfl,rfl⟩
  go_wp2_with fail
  go_ret
  exact⟨rfl,rfl⟩
 ·rw [if_neg hlt]
  by_cases hgt:y<x
  ·rw [if_pos hgt]
   go_enter Tryz.func213,Tryz.ntmps213
   go_wp2_with fail
   refine h1.mono ?_
   rintro e w' ⟨rfl,rfl⟩
   go_wp2_with fail
   refine h2.mono ?_
   rintro e w' ⟨rfl,rfl⟩
   go_wp2_with fail
   go_ret
   exact⟨rfl,rfl⟩
  ·rw [if_neg hgt]
   go_enter Tryz.func213,Tryz.ntmps213
   go_wp2_with fail
   refine h1.mono ?_
   rintro e w' ⟨rfl,rfl⟩
   go_wp2_with fail
   refine h2.mono ?_
   rintro e w' ⟨rfl,rfl⟩
   go_wp2_with fail
   go_ret
   exact⟨rfl,rfl⟩
end Go.Proofs.YtdcadiaeaclpgaaGreatDoor
namespace Go.Proofs.YtdcadiaeaclpgaaGreatDoor
open Go.RowKit Go.Lib Go.Sort Go.Shelf
attribute [local go_sem] Oper.semAt_some
set_option maxHeartbeats 6400000
set_option maxRecDepth 1000000
theorem VF {A B:List Nat} (ra:∀x∈A,x<B32) (x:Nat) (hx:x<A.length) (hs:∀j,x<j→A[j]?.getD 0=B[j]?.getD 0) (hlt:A[x]?.getD 0<B[x]?.getD 0):nv B32 A<nv B32 B:=by
 have e1:=Z9 A (x+1)
 have e2:=Z9 B (x+1)
 have e3:=V6 (A.drop (x+1)) (B.drop (x+1)) (fun j=>by rw [List.getElem?_drop,List.getElem?_drop];exact hs _ (by omega))
 rw [Zp]at e1 e2
 rw [e3]at e1
 have h1:=nv_lt B32 (A.take x) (fun y hy=>ra y (List.mem_of_mem_take hy))
 rw [List.length_take,Nat.min_eq_left (by omega)]at h1
 generalize B32 ^ (x+1)*nv B32 (B.drop (x+1))=D at *
 have h2:(A[x]?.getD 0+1)*B32 ^ x≤B[x]?.getD 0*B32 ^ x:=Nat.mul_le_mul_right _ hlt
 rw [Nat.add_mul,Nat.one_mul]at h2
 omega
theorem Zfy {A B:List Nat} (ra:∀x∈A,x<B32) (rb:∀x∈B,x<B32) (x:Nat) (hx:x<A.length) (hl:A.length=B.length) (hs:∀j,x<j→A[j]?.getD 0=B[j]?.getD 0) (hne:A[x]?.getD 0≠B[x]?.getD 0) :
    cmpN (nv B32 A) (nv B32 B)=cmpI ((A[x]?.getD 0:Nat):Int) ((B[x]?.getD 0:Nat):Int):=by
 rw [Za2]
 unfold cmpN
 rcases Nat.lt_or_ge (A[x]?.getD 0) (B[x]?.getD 0)with h|h
 ·rw [if_pos h,if_pos (VF ra x hx hs h)]
 ·have h1:B[x]?.getD 0<A[x]?.getD 0:=by omega
  have h2:=VF rb x (by omega) (fun j hj=>(hs j hj).symm) h1
  rw [if_neg (by omega),if_neg (by omega),if_neg (by omega),if_neg (by omega)]
theorem Zfa {A B:List Nat} (ra:∀x∈A,x<B32) (rb:∀x∈B,x<B32) (tA:Trim A) (tB:Trim B) (hl:A.length≠B.length):cmpN (nv B32 A) (nv B32 B)=cmpI (A.length:Int) (B.length:Int):=by
 rw [Za2]
 unfold cmpN
 rcases Nat.lt_or_ge A.length B.length with h|h
 ·rw [if_pos h,if_pos (Za3 ra tB h)]
 ·have h2:=Za3 rb tA (show B.length<A.length by omega)
  rw [if_neg (by omega),if_neg (by omega),if_neg (by omega),if_neg (by omega)]
theorem Down.above {k:Nat} {pre:List (Fin k)} {x:Fin k} (h:Down k (pre++[x])) {P:Nat→Prop} (hp:∀y∈pre,P y.1):∀j,x.1<j→j<k→P j:=by
 intro j hj hjk
 have hx:=h pre.length (by simp)
 simp at hx
 have ht:k-1-j<pre.length:=by omega
 have:=h (k-1-j) (by simp;omega)
 rw [List.getElem_append_left ht]at this
 have e:(pre[k-1-j]).1=j:=by omega
 rw [←e]
 exact hp _ (List.getElem_mem ht)
def cdI (w:World) (k:Nat) (A B:List Nat) (vb:Value) (pre:List (Fin k)) (W:World):Prop :=
 (∀x∈pre,A[x.1]?.getD 0=B[x.1]?.getD 0)∧W.heap[w.heap.size]?=some (.cells #[vb] 146 (0,0))∧W.heap[w.heap.size+1]?=some (.cells #[.int .i64 0] 3 (0,0))∧w.grownBy W none
def cdX (w:World) (k:Nat) (A B:List Nat) (c:Code) (pre:List (Fin k)) (W:World):Prop :=
 c=.ret∧∃p x,pre=p++[x]∧(∀y∈p,A[y.1]?.getD 0=B[y.1]?.getD 0)∧A[x.1]?.getD 0≠B[x.1]?.getD 0∧W.heap[w.heap.size+1]?=some (.cells #[.int .i64 (cmpI ((A[x.1]?.getD 0:Nat):Int) ((B[x.1]?.getD 0:Nat):Int))] 3 (0,0))∧w.grownBy W none
theorem ZR {B:Nat} {W W':World} {row:Option Nat} (hg:W.grownBy W' row) (hr:∀r,row=some r→B≤r∧∃o:Obj,W.heap[r]?=some o∧o.isCells=false) {i:Nat} {o:Obj} (h:W.heap[i]?=some o) (hc:o.isCells=true):W'.heap[i]?=some o:=by
 refine(hg.block i (Array.getElem?_eq_some_iff.1 h).1 (fun e=>?_)).trans h
 obtain⟨_,o',ho',hc'⟩:=hr i e.symm
 rw [h]at ho'
 cases ho'
 rw [hc]at hc'
 exact absurd hc' (by simp)
theorem VY {B:Nat} {w W W':World} {row:Option Nat} (hB:w.heap.size≤B) (h:w.grownBy W none) (hg:W.grownBy W' row) (hr:∀r,row=some r→B≤r∧∃o:Obj,W.heap[r]?=some o∧o.isCells=false):w.grownBy W' none :=
 ⟨hg.os.trans h.os,hg.tape.trans h.tape,hg.output.trans h.output,Nat.le_trans h.size hg.size,fun i hi hn=>(hg.block i (Nat.lt_of_lt_of_le hi h.size) (fun e=>by have:=(hr i e.symm).1;omega)).trans (h.block i hi hn)⟩
theorem cdI_own (w:World) (k:Nat) (A B:List Nat) (vb:Value) (b:Nat) (hb:w.heap.size≤b):OwnFrom b (cdI w k A B vb):=fun _ _ _ _ ⟨h0,h1,h2,h3⟩ hg hr =>
 ⟨h0,ZR hg hr h1 rfl,ZR hg hr h2 rfl,VY hb h3 hg hr⟩
theorem cdX_own (w:World) (k:Nat) (A B:List Nat) (c:Code) (b:Nat) (hb:w.heap.size≤b):OwnFrom b (cdX w k A B c):=fun _ _ _ _ ⟨hc,p,x,e,h0,h1,h2,h3⟩ hg hr =>
 ⟨hc,p,x,e,h0,h1,ZR hg hr h2 rfl,VY hb h3 hg hr⟩
theorem ZaA (w:World) (g:Nat) (v:Value) (hc:w.cell? ⟨g,0,none⟩=some v):(loadVar 3 ⟨g,0,none⟩).run Tryz.prog w=.ok v w:=by
 have hagg:(isAgg 3).run Tryz.prog w=.ok false w:=by
  unfold isAgg
  rw [Sem.run_bind,run_underlying Tryz.underlying3 w]
  rfl
 simp only [loadVar,Sem.run_bind,hagg,Result.andThen]
 show(load ⟨g,0,none⟩).run Tryz.prog w=.ok v w
 rw [run_load,hc]
theorem ZaH {fn:Func} {p:Tmp} (h:fn.results=#[.cell p 3]) (tmps:Array Value) (w:World) (g:Nat) (v:Value) (hp:tmps.getD p undef=.pointer (some ⟨g,0,none⟩)) (hc:w.cell? ⟨g,0,none⟩=some v) :
    (results fn tmps).run Tryz.prog w=.ok v w:=by
 have hp':tmps[p]?.getD undef=.pointer (some ⟨g,0,none⟩):=by simpa using hp
 simp [results,h,hp',asAddr,ZaA w g v hc]
theorem ZZ (w:World) (va vb:Value) (A B:List Nat) (hA:D4 w va A) (hB:D4 w vb B) (ra:∀x∈A,x<B32) (rb:∀x∈B,x<B32) (tA:Trim A) (tB:Trim B) (_la:A.length≤100000000) (lb:B.length≤100000000) :
    Calls Tryz.prog 198 #[va,vb] w fun e w'=>e=.returned (.int .i64 (cmpN (nv B32 A) (nv B32 B)))∧w.grownBy w' none:=by
 obtain⟨aa,ca,rfl⟩:=hA.slice
 obtain⟨ab,cb,rfl⟩:=hB.slice
 refine(callsIn_wide (n:=5)).1 ?_
 refine callsIn_of_wp_marks Tryz.func198 rfl trivial ?_ rfl
 simp only [Tryz.ntmps198,List.size_toArray,List.length_cons,List.length_nil,Nat.reduceAdd,Nat.reduceSub,Array.replicate_succ,Array.replicate_zero,List.push_toArray,List.append_toArray,List.nil_append,List.cons_append]
 by_cases hl:A.length=B.length
 ·obtain⟨k,hk⟩:∃k,A.length=k:=⟨_,rfl⟩
  rw [hk]at hl _la hA ⊢
  rw [←hl]at hB lb ⊢
  have HK:Unit→A.length=k∧B.length=k:=fun _=>⟨hk,hl.symm⟩
  have hkI:(k:Int)≤100000000:=by omega
  have HA:Hid (D4 w (.slice aa k ca) A):=hA
  have HB:Hid (D4 w (.slice ab k cb) B):=hB
  clear hA hB hk hl tA tB _la lb
  gi_wp2
  refine⟨trivial,?_⟩
  refine(callsIn_wide.2 (Yt _ _ _ _)).mono ?_
  rintro e w' ⟨rfl,rfl⟩
  gi_wp2
  have hS:=heap_alloc_new ((w.alloc (Obj.cells #[Value.slice ab k cb] 146)).alloc (Obj.cells #[Value.int IntKind.i64 0] 3)) (Obj.cells #[Value.slice aa k ca] 146)
  have hG0:=grow3 w (Obj.cells #[Value.slice ab k cb] 146) (Obj.cells #[Value.int IntKind.i64 0] 3) (Obj.cells #[Value.slice aa k ca] 146)
  have hM:=J5 w (Obj.cells #[Value.slice ab k cb] 146) (Obj.cells #[Value.int IntKind.i64 0] 3) (Obj.cells #[Value.slice aa k ca] 146)
  have hA0:(((w.alloc (Obj.cells #[Value.slice ab k cb] 146)).alloc (Obj.cells #[Value.int IntKind.i64 0] 3)).alloc (Obj.cells #[Value.slice aa k ca] 146)).heap[w.heap.size]?=some (Obj.cells #[Value.slice ab k cb] 146):=Zn _ _ (Zx _ _ _)
  have hsz:(((w.alloc (Obj.cells #[Value.slice ab k cb] 146)).alloc (Obj.cells #[Value.int IntKind.i64 0] 3)).alloc (Obj.cells #[Value.slice aa k ca] 146)).heap.size=w.heap.size+3:=by simp
  simp only [World.size_alloc]at hS
  generalize((w.alloc (Obj.cells #[Value.slice ab k cb] 146)).alloc (Obj.cells #[Value.int IntKind.i64 0] 3)).alloc (Obj.cells #[Value.slice aa k ca] 146)=V at *
  have hKw:∀i,(i<V.heap.size)→i<V.heap.size:=fun i h=>h
  refine wpIn_rangeFunc_ownF rfl (by omega) (gf:=193) (lb:=#[.pointer (some ⟨w.heap.size+1+1,0,none⟩)]) rfl trivial (enters_of Tryz.func193 (by kernel_rfl) rfl)
   (Ux Fence.wide (5-1) trivial rfl (by omega) (w.heap.size+1+1) (fun i=>i<V.heap.size) A k ca aa (by omega) V (HK ()).1 (by omega) (fun h0 b e=>by have:=(show D4 w (.slice (some b) k ca) A by rw [←e];exact HA.out).blk h0 (HK ()).1;omega) hKw (by simp [World.cell?,hS]) (HA.out.kept hG0))
   (fun h k=>KeepsIn.trans h k) (KeepsIn.put hKw) (Below.refl _ _) (fun _=>rfl)
   (cdI w k A B (.slice ab k cb)) (cdX w k A B) (cdI_own w k A B _ _ (by omega)) (fun c=>cdX_own w k A B c _ (by omega))
   ⟨by simp,hA0,hM,hG0⟩
   (fun x=>{ tmps:=#[.slice aa k ca,.slice ab k cb,undef,.pointer (some ⟨w.heap.size,0,none⟩),.pointer (some ⟨w.heap.size+1,0,none⟩),.int .i64 (x.1:Int),.int .u32 ((A[x.1]?.getD 0:Nat):Int),.slice aa k ca,.int .i64 k,.slice ab k cb,.int .i64 k,.bool false,undef,undef,undef,undef,undef,.slice aa k ca,.func (.func 193) #[] #[.pointer (some ⟨w.heap.size+1+1,0,none⟩)],.int .i64 (x.1:Int),.int .u32 ((A[x.1]?.getD 0:Nat):Int),undef,undef,undef,undef,undef,undef,undef,undef,undef,undef,undef,undef],defers:=[] }) ?assign ?body ?done ?stop
  case assign =>
   intro l x W K hK
   simp only [encD]
   generalize A[x.1]?.getD 0=d at hK ⊢
   gi_wp2
   exact hK
  case body =>
   rintro l pre ⟨x,hx⟩ W hI hlen
   have HI:Hid (cdI w k A B (.slice ab k cb) pre W):=hI
   obtain⟨i0,i1,i2,i3⟩:=hI
   have c1:W.cell? ⟨w.heap.size,0,none⟩=some (.slice ab k cb):=by simp [World.cell?,i1]
   have c2:W.cell? ⟨w.heap.size+1,0,none⟩=some (.int .i64 0):=by simp [World.cell?,i2]
   have f2:W.frozen? ⟨w.heap.size+1,0,none⟩=false:=by simp [World.frozen?,i2]
   obtain⟨Bb,ob,hab,hcb,hkc⟩:∃Bb ob,ab=some ⟨Bb,ob,none⟩∧W.cell? ⟨Bb,ob+x,none⟩=some (.int .u32 ((B[x]?.getD 0:Nat):Int))∧k≤cb:=by
    rcases HB.out with ⟨_,e⟩|⟨Bb,ob,c,e,hc,h⟩
    ·have:=(HK ()).2;rw [e]at this;simp at this;omega
    ·obtain⟨rfl,_,rfl⟩:=Value.slice.inj e
     have:=(HK ()).2
     exact⟨Bb,ob,rfl,Zd i3 (h x (by omega)) (by simp),by omega⟩
   subst hab
   have hxk:(x:Int)<k:=by omega
   have HE:Hid (∀y,A[x]?.getD 0=y→B[x]?.getD 0=y→cdI w k A B (.slice (some ⟨Bb,ob,none⟩) k cb) (pre++[⟨x,hx⟩]) W):=(by
    intro y h1 h2
    refine⟨fun z hz=>?_,i1,i2,i3⟩
    rcases List.mem_append.1 hz with h|h
    ·exact i0 z h
    ·simp at h;subst h;exact h1.trans h2.symm)
   have HF:Hid (∀y z,A[x]?.getD 0=y→B[x]?.getD 0=z→y≠z→cdX w k A B .ret (pre++[⟨x,hx⟩]) (W.setCell ⟨w.heap.size+1,0,none⟩ (.int .i64 (cmpI (y:Int) (z:Int))))):=(by
    intro y z h1 h2 hne
    refine⟨rfl,pre,⟨x,hx⟩,rfl,i0,by simp only;rw [h1,h2];exact hne,?_,Zb i3 (by omega)⟩
    simp only
    rw [h1,h2]
    simp [World.setCell,Array.getElem?_modify,i2])
   simp only
   obtain⟨y,hy⟩:∃y,A[x]?.getD 0=y:=⟨_,rfl⟩
   obtain⟨z,hz⟩:∃z,B[x]?.getD 0=z:=⟨_,rfl⟩
   have HE2:=HE.out
   have HYZ:Unit→A[x]?.getD 0=y∧B[x]?.getD 0=z:=fun _=>⟨hy,hz⟩
   rw [hz]at hcb
   rw [hy]
   clear i0 i1 i2 i3 hy hz HE2
   by_cases he:y=z
   ·subst he
    gi_wp2
    exact⟨KeepsOthers.refl _,KeepsIn.refl _ _,HE.out y (HYZ ()).1 (HYZ ()).2⟩
   ·have hne:((y:Int) != (z:Int))=true:=by simpa using (show(y:Int)≠(z:Int)by omega)
    gi_wp2
    refine⟨trivial,?_⟩
    refine(CallsIn.inRound l (callsIn_wide.2 (ZaT _ _ _))).mono ?_
    rintro e w' ⟨rfl,rfl⟩
    gi_wp2
    exact⟨KeepsOthers.setCell _ _ _,HF.out y z (HYZ ()).1 (HYZ ()).2 he⟩
  case stop =>
   rintro D c pre W hD' ⟨hdn,hp0⟩ ⟨rfl,p,x,rfl,hs,hne,hc,hg⟩ hK
   have hc1:W.cell? ⟨w.heap.size+1,0,none⟩=some (.int .i64 (cmpI ((A[x.1]?.getD 0:Nat):Int) ((B[x.1]?.getD 0:Nat):Int))):=by simp [World.cell?,hc]
   have htop:=Zfy ra rb x.1 (by rw [(HK ()).1];exact x.2) (by rw [(HK ()).1,(HK ()).2]) (by
    intro j hj
    rcases Nat.lt_or_ge j k with h|h
    ·exact hdn.above (P:=fun j=>A[j]?.getD 0=B[j]?.getD 0) hs j hj h
    ·rw [List.getElem?_eq_none (by rw [(HK ()).1];exact h),List.getElem?_eq_none (by rw [(HK ()).2];exact h)]) hne
   rw [←htop]at hc1
   have hlt:=(Array.getElem?_eq_some_iff.1 hc).1
   clear hc hs hne htop
   gi_wp2
   refine⟨by simp,.inl ⟨_,_,rfl,run_takeDeferred hK,?_⟩⟩
   have kD:=grownBy_putObj' W D (.deferred none)
   refine⟨_,ZaH rfl _ _ (w.heap.size+1) _ rfl (Zd kD hc1 (by intro e;injection e with e;omega)),rfl,?_⟩
   exact⟨kD.os.trans hg.os,kD.tape.trans hg.tape,kD.output.trans hg.output,Nat.le_trans hg.size kD.size,fun i hi hn=>(kD.block i (Nat.lt_of_lt_of_le hi hg.size) (by intro e;injection e with e;omega)).trans (hg.block i hi hn)⟩
  case done =>
   rintro D ys W hD' ⟨hdn,hyl⟩ ⟨h0,h1,h2,h3⟩ hK
   have c2:W.cell? ⟨w.heap.size+1,0,none⟩=some (.int .i64 0):=by simp [World.cell?,h2]
   have f2:W.frozen? ⟨w.heap.size+1,0,none⟩=false:=by simp [World.frozen?,h2]
   have heq:Unit→cmpN (nv B32 A) (nv B32 B)=0:=fun _=>by
    have e:nv B32 A=nv B32 B:=V6 A B (by
     intro j
     rcases Nat.lt_or_ge j k with h|h
     ·have hd:=hdn (k-1-j) (by omega)
      have hj:(ys[k-1-j]'(by omega)).1=j:=by omega
      have:=h0 _ (List.getElem_mem (show k-1-j<ys.length by omega))
      rw [hj]at this
      exact this
     ·rw [List.getElem?_eq_none (by rw [(HK ()).1];exact h),List.getElem?_eq_none (by rw [(HK ()).2];exact h)])
    unfold cmpN
    rw [e,if_neg (by omega),if_pos rfl]
   have HW:Hid (W.heap[w.heap.size+1]?=some (.cells #[.int .i64 0] 3 (0,0))):=h2
   have HG:Hid (w.grownBy W none):=h3
   clear h0 h1 h2 h3
   gi_wp2
   refine⟨by simp,.inl ⟨_,_,rfl,run_takeDeferred (w:=W.setCell _ _) ?_,?_⟩⟩
   ·exact((Zc W (w.heap.size+1) 0 _).block D (Array.getElem?_eq_some_iff.1 hK).1 (by intro e;injection e with e;omega)).trans hK
   ·have kS:=Zc W (w.heap.size+1) 0 (.int .i64 0)
    have kD:=grownBy_putObj' (W.setCell ⟨w.heap.size+1,0,none⟩ (.int .i64 0)) D (.deferred none)
    have hc:(W.setCell ⟨w.heap.size+1,0,none⟩ (.int .i64 0)).cell? ⟨w.heap.size+1,0,none⟩=some (.int .i64 0):=by
     simp [World.cell?,World.setCell,Array.getElem?_modify,HW.out]
    have hg:=Zb (i:=0) (v:=.int .i64 0) HG.out (show w.heap.size≤w.heap.size+1 by omega)
    refine⟨_,ZaH rfl _ _ (w.heap.size+1) _ rfl (Zd kD hc (by intro e;injection e with e;omega)),Zv (heq ()).symm,?_⟩
    exact⟨kD.os.trans hg.os,kD.tape.trans hg.tape,kD.output.trans hg.output,Nat.le_trans hg.size kD.size,fun i hi hn=>(kD.block i (Nat.lt_of_lt_of_le hi hg.size) (by intro e;injection e with e;omega)).trans (hg.block i hi hn)⟩
 ·have HN:=Zfa ra rb tA tB hl
  have HN2:Unit→cmpN (nv B32 A) (nv B32 B)=cmpI (A.length:Int) (B.length:Int):=fun _=>HN
  have HC:=fun w=>ZaB (A.length:Int) (B.length:Int) w
  have hne:((A.length:Int) != (B.length:Int))=true:=by simpa using (show(A.length:Int)≠(B.length:Int)by omega)
  obtain⟨p,hp⟩:∃p,A.length=p:=⟨_,rfl⟩
  obtain⟨q,hq⟩:∃q,B.length=q:=⟨_,rfl⟩
  rw [hp,hq]at HN2 HC hne
  rw [hp,hq]
  obtain⟨r,hr⟩:∃r,cmpI (p:Int) (q:Int)=r:=⟨_,rfl⟩
  rw [hr]at HN2 HC
  clear HN hA hB ra rb tA tB _la lb hl hp hq hr
  gi_wp2
  refine⟨trivial,?_⟩
  refine(callsIn_wide.2 (HC _)).mono ?_
  rintro e w' ⟨rfl,rfl⟩
  gi_wp2
  refine⟨_,ZaH rfl _ _ (w.heap.size+1) _ rfl (by have:=heap_alloc2_new w (Obj.cells #[Value.slice ab q cb] 146) (Obj.cells #[Value.int IntKind.i64 r] 3);unfold World.cell?;simp only [this];rfl),?_⟩
  exact⟨Zv (HN2 ()).symm,grow2 _ _ _⟩
end Go.Proofs.YtdcadiaeaclpgaaGreatDoor
namespace Go.Proofs.YtdcadiaeaclpgaaGreatDoor
open Go.RowKit Go.Lib Go.Sort
set_option maxHeartbeats 6400000
set_option maxRecDepth 1000000
theorem or8w (x y:Int) (h₀:0≤x) (h₁:x≤16777215) (h2:0≤y) (h3:y<256):bits .or .u32 (x*256) y=x*256+y :=
 bits_join .u32 32 (by decide) wraps_u32 8 (x*256) y (by omega) (by omega) (by omega) h2 (by omega) (by omega)
def DgI (L:List Nat) (V r:Nat):Prop:=∃U D,V=U*256 ^ (4-r % 4)+D∧D<256 ^ (4-r % 4)∧nv B32 L=(D+B32*U)*B32 ^ (r / 4)
theorem DgI.next {L:List Nat} {V r:Nat} (h:DgI L V (r+1)) (hr:∀x∈L,x<B32) :
    ∃D,L[r / 4]?.getD 0=D∧D<16777216∧∀b,b<256→r / 4<L.length→DgI (L.set (r / 4) (D*256+b)) (V*256+b) r:=by
 obtain⟨U,D,hV,hD,hn⟩:=h
 by_cases hs:(r+1) % 4=0
 ·rw [hs]at hV hD
  have hq:(r+1) / 4=r / 4+1:=by omega
  rw [hq,Nat.pow_succ]at hn
  have hd0:L[r / 4]?.getD 0=0:=by
   rw [←YN B32 L (r / 4) hr,hn]
   rw [show(D+B32*U)*(B32 ^ (r / 4)*B32)=B32 ^ (r / 4)*((D+B32*U)*B32)by rw [Nat.mul_comm (B32 ^ (r / 4)) B32,←Nat.mul_assoc,Nat.mul_comm _ (B32 ^ (r / 4))],Nat.mul_div_cancel_left _ (Nat.pow_pos (by decide)),Nat.mul_mod_left]
  refine⟨0,hd0,by decide,fun b hb hlt=>⟨V,b,?_,?_,?_⟩⟩
  ·have h3:r % 4=3:=by omega
   rw [h3]
  ·have h3:r % 4=3:=by omega
   rw [h3];simpa using hb
  ·have h1:=Ym B32 L (r / 4) (0*256+b) hlt
   have hV':D+B32*U=V:=by
    have e:256 ^ (4-0)=4294967296:=rfl
    rw [e]at hV
    simp only [B32]
    omega
   rw [hV']at hn
   rw [hd0,hn]at h1
   have e3:B32*V*B32 ^ (r / 4)=V*(B32 ^ (r / 4)*B32):=by rw [Nat.mul_comm B32 V,Nat.mul_assoc,Nat.mul_comm B32]
   have e4:(0*256+b)*B32 ^ (r / 4)=b*B32 ^ (r / 4):=by rw [Nat.zero_mul,Nat.zero_add]
   have e5:0*B32 ^ (r / 4)=0:=Nat.zero_mul _
   rw [e5,Nat.add_zero,e4]at h1
   rw [Nat.add_mul,e3,h1,Nat.add_comm]
 ·have hq:(r+1) / 4=r / 4:=by omega
  have hs4:4-r % 4=(4-(r+1) % 4)+1:=by omega
  rw [hq]at hn
  have hDs:D<16777216:=by
   have:256 ^ (4-(r+1) % 4)≤256 ^ 3:=Nat.pow_le_pow_right (by decide) (by omega)
   have e:256 ^ 3=16777216:=rfl
   omega
  have hd0:L[r / 4]?.getD 0=D:=by
   rw [←YN B32 L (r / 4) hr,hn,Nat.mul_div_cancel _ (Nat.pow_pos (by decide)),Nat.add_mul_mod_self_left,Nat.mod_eq_of_lt (by simp only [B32];omega)]
  refine⟨D,hd0,hDs,fun b hb hlt=>⟨U,D*256+b,?_,?_,?_⟩⟩
  ·rw [hs4,Nat.pow_succ,hV,Nat.add_mul,←Nat.mul_assoc,Nat.add_assoc]
  ·rw [hs4,Nat.pow_succ];omega
  ·have h1:=Ym B32 L (r / 4) (D*256+b) hlt
   rw [hd0,hn,Nat.add_mul]at h1
   rw [Nat.add_mul]
   omega
theorem X0 (m:ByteArray) (hm:m.size≤16384) (w:World) :
    Calls Tryz.prog 153 #[.string m] w fun e w'=>∃B L,e=.returned (.slice (some ⟨B,0,none⟩) L.length L.length)∧w.heap.size≤B∧BlkL w' B 145 enc4 (ints L)∧w.grownBy w' none ∧
     L.length=(m.size+3) / 4∧(∀x∈L,x<B32)∧nv B32 L=val (bN m):=by
 have hmk:=make4 w ((m.size+3) / 4) (by omega)
 rw [show((((m.size+3) / 4:Nat)):Int)=((m.size:Int)+4-1) / 4 by omega]at hmk
 obtain⟨n,hn⟩:∃n,(m.size+3) / 4=n:=⟨_,rfl⟩
 rw [hn]at hmk
 go_enter Tryz.func153,Tryz.ntmps153
 go_wp2
 clear hmk
 go_loopw [14] (fun t wr=>∃(i:Nat) (L:List Nat),t=.int .i64 i∧i≤m.size∧L.length=n∧(∀x∈L,x<B32)∧DgI L (val ((bN m).take i)) (m.size-i)∧BlkL wr w.heap.size 145 enc4 (ints L)∧w.grownBy wr none) (fun t _=>m.size-(RowKit.intOf t).toNat)
 case atStart=>exact⟨0,List.replicate n 0,rfl,by omega,by simp,fun x hx=>by rw [List.eq_of_mem_replicate hx];decide,⟨0,0,by simp [val],Nat.pow_pos (by decide),by rw [ZO];simp⟩,heap_alloc_new _ _,grow1 _ _⟩
 case round =>
  obtain⟨i,L,rfl,hi,hL,hr,hI,hB,hg⟩:=hrel
  by_cases hi1:i<m.size
  ·obtain⟨r,hrr⟩:∃r,m.size-i=r+1:=⟨m.size-i-1,by omega⟩
   rw [hrr]at hI
   obtain⟨D,hD,hDs,hnext⟩:=hI.next hr
   have hq:r / 4<n:=by omega
   have hb:=(m[i]).toNat_lt
   have hnx:=hnext m[i].toNat hb (by omega)
   have hval:val ((bN m).take (i+1))=val ((bN m).take i)*256+m[i].toNat:=by rw [Zw (bN_at m i hi1),Yi]
   have HNX:Hid (DgI (L.set (r / 4) (D*256+m[i].toNat)) (val ((bN m).take (i+1))) r):=by rw [hval];exact hnx
   have HR:Hid (∀x∈L,x<B32):=hr
   have hc:=hB.cell (r / 4) (by rw [Zk];omega)
   rw [Z6,hD]at hc
   have hf:=hB.frozen (r / 4)
   have hB1:BlkL (wr.setCell ⟨w.heap.size,r / 4,none⟩ (.int .u32 ((D*256:Nat):Int))) w.heap.size 145 enc4 (ints (L.set (r / 4) (D*256))):=by
    have e:=hB.set (r / 4) ((D*256:Nat):Int)
    rw [ZF]at e
    exact e
   have HG1:Hid (w.grownBy (wr.setCell ⟨w.heap.size,r / 4,none⟩ (.int .u32 ((D*256:Nat):Int))) none):=Zb hg (Nat.le_refl _)
   have hDI:(D:Int)≤16777215:=by omega
   have hplace:((m.size:Int)-1-(i:Int)) / 4=((r / 4:Nat):Int):=by omega
   rw [show((D*256:Nat):Int)=(D:Int)*256 by omega]at hB1 HG1
   have hor:=or8w (D:Int) (m[i].toNat:Int) (by omega) hDI (by omega) (by omega)
   have hqI:((r / 4:Nat):Int)<n:=by omega
   clear hnext hnx hval hI hr hD hDs hB hg
   go_wp2
   clear hc hf
   rw [hplace]
   generalize wr.setCell ⟨w.heap.size,r / 4,none⟩ (.int .u32 ((D:Int)*256))=w2 at *
   have hc1:=hB1.cell (r / 4) (by rw [Zk];simp;omega)
   rw [Z6,List.getElem?_set_self (by omega)]at hc1
   simp only [Option.getD_some]at hc1
   rw [show((D*256:Nat):Int)=(D:Int)*256 by omega]at hc1
   have hf1:=hB1.frozen (r / 4)
   go_region
   go_wp2
   go_roundw
   case rel =>
    have hr1:D*256+m[i].toNat<B32:=by simp only [B32];omega
    refine⟨i+1,L.set (r / 4) (D*256+m[i].toNat),rfl,by omega,by simp [hL],ZM HR.out hr1,?_,?_,Zf (Zb HG1.out (Nat.le_refl _))⟩
    ·rw [show m.size-(i+1)=r by omega]
     exact HNX.out
    ·have e:=hB1.set (r / 4) ((D*256+m[i].toNat:Nat):Int)
     rw [ZF,List.set_set]at e
     rw [show((D:Int)*256+m[i].toNat)=((D*256+m[i].toNat:Nat):Int)by omega]
     exact e
   case measure=>simp [RowKit.intOf];omega
  ·obtain rfl:i=m.size:=by omega
   rw [Nat.sub_self]at hI
   obtain⟨U,D,hV,hD,hnv⟩:=hI
   have ht:(bN m).take m.size=bN m:=List.take_of_length_le (by rw [Ze];exact Nat.le_refl _)
   rw [ht]at hV
   have hvv:nv B32 L=val (bN m):=by
    have e:256 ^ (4-0 % 4)=4294967296:=rfl
    rw [e]at hV
    have e2:B32 ^ (0 / 4)=1:=rfl
    rw [e2,Nat.mul_one]at hnv
    rw [hnv,hV]
    simp only [B32]
    omega
   have HB:Hid (BlkL wr w.heap.size 145 enc4 (ints L)):=hB
   have HG:Hid (w.grownBy wr none):=hg
   have HR:Hid (∀x∈L,x<B32):=hr
   have HVV:Unit→nv B32 L=val (bN m):=fun _=>hvv
   clear hV hD hnv hB hg hr hvv ht
   go_wp2
   go_ret
   exact⟨w.heap.size,L,by rw [hL];rfl,Nat.le_refl _,HB.out,HG.out,by rw [hL,←hn],HR.out,HVV ()⟩
end Go.Proofs.YtdcadiaeaclpgaaGreatDoor
