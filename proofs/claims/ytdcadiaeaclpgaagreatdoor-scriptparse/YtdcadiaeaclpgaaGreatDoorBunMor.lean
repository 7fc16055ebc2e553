/- The document's sum of magnitudes. -/
import Derived.Test.YtdcadiaeaclpgaaGreatDoorBunWds
namespace Go.Proofs.YtdcadiaeaclpgaaGreatDoor
open Go.RowKit Go.Lib Go.Sort
set_option maxHeartbeats 3200000
set_option maxRecDepth 1000000
theorem D4.slice {w:World} {v:Value} {L:List Nat} (h:D4 w v L):∃ao c,v=.slice ao L.length c:=by
 rcases h with ⟨rfl,rfl⟩|⟨B,off,c,rfl,_⟩
 ·exact⟨_,_,rfl⟩
 ·exact⟨_,_,rfl⟩
theorem Zp (B:Nat) (L:List Nat) (i:Nat):nv B (L.take (i+1))=nv B (L.take i)+L[i]?.getD 0*B ^ i:=by
 rcases Nat.lt_or_ge i L.length with h|h
 ·have h1:L[i]?=some (L[i]'h):=List.getElem?_eq_getElem h
  rw [Zw h1,ZE,List.length_take,Nat.min_eq_left (by omega),h1]
  simp [nv,Nat.mul_comm]
 ·rw [List.getElem?_eq_none h,List.take_of_length_le (by omega),List.take_of_length_le h]
  simp
theorem Xn (B:Nat) (L:List Nat) (i x:Nat) (h:i<L.length):nv B ((L.set i x).take (i+1))=nv B (L.take i)+x*B ^ i:=by
 rw [Zp]
 congr 1
 ·rw [List.take_set_of_le (Nat.le_refl i)]
 ·rw [List.getElem?_set_self h];rfl
theorem Zr (B:Nat) (L:List Nat) (i:Nat) (h:L.length≤i):nv B (L.take i)=nv B L:=by rw [List.take_of_length_le h]
theorem XG (w:World) (va vb:Value) (A B:List Nat) (hA:D4 w va A) (hB:D4 w vb B) (ra:∀x∈A,x<B32) (rb:∀x∈B,x<B32) (la:A.length≤100000000) (lb:B.length≤100000000) :
    Calls Tryz.prog 128 #[va,vb] w fun e w'=>∃v K,e=.returned v∧D4 w' v K∧(∀x∈K,x<B32)∧nv B32 K=nv B32 A+nv B32 B∧K.length≤max A.length B.length+1∧(K.length=0∨K[K.length-1]?.getD 0≠0)∧w.grownBy w' none:=by
 obtain⟨q,hq⟩:∃q,max A.length B.length=q:=⟨_,rfl⟩
 rw [hq]
 have hq9:(q:Int)≤100000000:=by omega
 have hmk:=make4 w (q+1) (by omega)
 rw [show((q+1:Nat):Int)=(q:Int)+1 by omega]at hmk
 obtain⟨aa,ca,rfl⟩:=hA.slice
 obtain⟨ab,cb,rfl⟩:=hB.slice
 have HA:Hid (D4 w (.slice aa A.length ca) A):=hA
 have HB:Hid (D4 w (.slice ab B.length cb) B):=hB
 have HRa:Hid (∀x∈A,x<B32):=ra
 have HRb:Hid (∀x∈B,x<B32):=rb
 have hmax:(max (A.length:Int) (B.length:Int))=(q:Int):=by omega
 have HL:Hid (A.length≤q∧B.length≤q∧q≤100000000):=⟨by omega,by omega,by omega⟩
 clear hA hB ra rb hq
 go_enter Tryz.func128,Tryz.ntmps128
 go_wp2_with fail
 clear hmax hmk
 go_loopw [7,8] (fun s t wr=>∃(c i:Nat) (L:List Nat),s=.int .u64 c∧t=.int .i64 i∧(c:Int)≤1∧i≤q+1∧L.length=q+1∧(∀x∈L,x<B32)∧nv B32 (L.take i)+c*B32 ^ i=nv B32 (A.take i)+nv B32 (B.take i) ∧
  BlkL wr w.heap.size 145 enc4 (ints L)∧w.grownBy wr none) (fun _ t _=>q+1-(RowKit.intOf t).toNat)
 case atStart=>exact⟨0,0,List.replicate (q+1) 0,rfl,rfl,by omega,by omega,by simp,fun x hx=>by rw [List.eq_of_mem_replicate hx];decide,by simp [nv],heap_alloc_new _ _,grow1 _ _⟩
 case round =>
  obtain⟨c,i,L,rfl,rfl,hc,hi,hL,hr,hv,hBk,hg⟩:=hrel
  have HR:Hid (∀x∈L,x<B32):=hr
  have HV:Hid (nv B32 (L.take i)+c*B32 ^ i=nv B32 (A.take i)+nv B32 (B.take i)):=hv
  have HBk:Hid (BlkL wr w.heap.size 145 enc4 (ints L)):=hBk
  have HG:Hid (w.grownBy wr none):=hg
  have hl:=HL.out
  by_cases hi1:i<q+1
  ·have aA:=ZbM wr _ A (HA.out.kept hg) HRa.out (by omega) i (by omega)
   have aB:=ZbM wr _ B (HB.out.kept hg) HRb.out (by omega) i (by omega)
   have rA:=Zt HRa.out i
   have rB:=Zt HRb.out i
   have sA:=Zp B32 A i
   have sB:=Zp B32 B i
   have hcell:=hBk.cell i (by rw [Zk];omega)
   have hfr:=hBk.frozen i
   have AA:Hid (Calls Tryz.prog 152 #[.slice aa A.length ca,.int .i64 i] wr fun e w'=>e=.returned (.int .u64 ((A[i]?.getD 0:Nat):Int))∧w'=wr):=aA
   have AB:Hid (Calls Tryz.prog 152 #[.slice ab B.length cb,.int .i64 i] wr fun e w'=>e=.returned (.int .u64 ((B[i]?.getD 0:Nat):Int))∧w'=wr):=aB
   have SA:Hid (nv B32 (A.take (i+1))=nv B32 (A.take i)+A[i]?.getD 0*B32 ^ i):=sA
   have SB:Hid (nv B32 (B.take (i+1))=nv B32 (B.take i)+B[i]?.getD 0*B32 ^ i):=sB
   clear aA aB sA sB hr hv hBk hg hl
   generalize A[i]?.getD 0=x at *
   generalize B[i]?.getD 0=y at *
   have hx:(x:Int)≤4294967295:=by have:x<4294967296:=rA;omega
   have hy:(y:Int)≤4294967295:=by have:y<4294967296:=rB;omega
   clear rA rB
   go_wp2_with fail
   refine AA.out.mono ?_
   rintro e w1 ⟨rfl,rfl⟩
   clear AA
   go_wp2_with fail
   refine AB.out.mono ?_
   rintro e w1 ⟨rfl,rfl⟩
   clear AB
   go_wp2_with fail
   go_roundw
   case rel =>
    have hr1:(c+x+y) % 4294967296<B32:=Nat.mod_lt _ (by decide)
    refine⟨(c+x+y) / 4294967296,i+1,L.set i ((c+x+y) % 4294967296),Zl (by omega),rfl,by omega,by omega,by simp [hL],ZM HR.out hr1,?_,?_,Zb HG.out (Nat.le_refl _)⟩
    ·rw [Xn B32 L i _ (by omega),SA.out,SB.out,Nat.pow_succ]
     have hvv:=HV.out
     have e1:(c+x+y) % 4294967296*B32 ^ i+(c+x+y) / 4294967296*(B32 ^ i*B32)=c*B32 ^ i+x*B32 ^ i+y*B32 ^ i:=by
      rw [Nat.mul_comm (B32 ^ i) B32,←Nat.mul_assoc,←Nat.add_mul,←Nat.add_mul,←Nat.add_mul]
      congr 1
      simp only [B32]
      omega
     omega
    ·have e:=HBk.out.set i (((c+x+y) % 4294967296:Nat):Int)
     rw [ZF]at e
     rw [show((c:Int)+x+y) % 4294967296=(((c+x+y) % 4294967296:Nat):Int)by omega]
     exact e
   case measure=>simp [RowKit.intOf];omega
  ·obtain rfl:i=q+1:=by omega
   have hvv:=HV.out
   rw [Zr B32 L _ (by omega),Zr B32 A _ (by omega),Zr B32 B _ (by omega)]at hvv
   have hA1:=nv_lt B32 A HRa.out
   have hB1:=nv_lt B32 B HRb.out
   have pA:B32 ^ A.length≤B32 ^ q:=Nat.pow_le_pow_right (by decide) hl.1
   have pB:B32 ^ B.length≤B32 ^ q:=Nat.pow_le_pow_right (by decide) hl.2.1
   have pq:B32 ^ (q+1)=B32 ^ q*4294967296:=Nat.pow_succ _ _
   have hc0:c=0:=by
    rcases Nat.eq_zero_or_pos c with h|h
    ·exact h
    ·have:c=1:=by omega
     subst this
     rw [Nat.one_mul,pq]at hvv
     generalize B32 ^ q=P at *
     omega
   subst hc0
   rw [Nat.zero_mul,Nat.add_zero]at hvv
   have hct:=Z2 wr _ L hBk.d4 hr (by omega)
   rw [hL]at hct
   have HCT:Hid (Calls Tryz.prog 130 #[.slice (some ⟨w.heap.size,0,none⟩) (q+1) (q+1)] wr fun e w'=>∃v' k,e=.returned v'∧k≤q+1∧D4 wr v' (L.take k)∧nv B32 (L.take k)=nv B32 L∧(k=0∨(L.take k)[k-1]?.getD 0≠0)∧w'=wr):=hct
   have HVV:Unit→nv B32 L=nv B32 A+nv B32 B:=fun _=>hvv
   clear hct hvv hA1 hB1 pA pB pq hr hv hBk hg HV
   go_wp2_with fail
   refine HCT.out.mono ?_
   rintro e w1 ⟨v',k,rfl,hk,hD,hnk,hlast,rfl⟩
   have hlen:(L.take k).length=k:=by rw [List.length_take,hL,Nat.min_eq_left hk]
   have HD:Hid (D4 w1 v' (L.take k)):=hD
   have HNK:Unit→nv B32 (L.take k)=nv B32 L:=fun _=>hnk
   have HLT:Hid (k=0∨(L.take k)[k-1]?.getD 0≠0):=hlast
   clear hD hnk hlast HCT
   go_wp2_with fail
   go_ret
   refine⟨v',L.take k,rfl,HD.out,fun x hx=>HR.out x (List.mem_of_mem_take hx),by rw [HNK (),HVV ()],by omega,?_,HG.out⟩
   rw [hlen]
   exact HLT.out
def cmpN (a b:Nat):Int:=if a<b then -1 else if a=b then 0 else 1
theorem ZaF {a b:Nat} (h:a<b):cmpN a b=-1:=by unfold cmpN;rw [if_pos h]
theorem cmpN_eq {a b:Nat} (h:a=b):cmpN a b=0:=by unfold cmpN;rw [if_neg (by omega),if_pos h]
theorem ZcU {a b:Nat} (h:b<a):cmpN a b=1:=by unfold cmpN;rw [if_neg (by omega),if_neg (by omega)]
def Trim (L:List Nat):Prop:=L.length=0∨L[L.length-1]?.getD 0≠0
theorem ZK {L:List Nat} (h:Trim L) (k:Nat) (hk:k<L.length):B32 ^ k≤nv B32 L:=by
 obtain⟨q,hq⟩:∃q,L.length=q+1:=⟨L.length-1,by omega⟩
 have h1:=JJ B32 L q hq
 have h2:L[q]?.getD 0≠0:=by
  rcases h with h|h
  ·omega
  ·rwa [hq,Nat.add_sub_cancel]at h
 have h3:B32 ^ q*1≤B32 ^ q*L[q]?.getD 0:=Nat.mul_le_mul_left _ (by omega)
 have h4:B32 ^ k≤B32 ^ q:=Nat.pow_le_pow_right (by decide) (by omega)
 omega
theorem Za3 {A B:List Nat} (ra:∀x∈A,x<B32) (hB:Trim B) (h:A.length<B.length):nv B32 A<nv B32 B :=
 Nat.lt_of_lt_of_le (nv_lt B32 A ra) (ZK hB A.length h)
theorem Za1 (L:List Nat) (k:Nat) (h:k<L.length):nv B32 L=nv B32 (L.take k)+B32 ^ k*(L[k]?.getD 0+B32*nv B32 (L.drop (k+1))):=by
 have e:L=L.take k++(L[k]::L.drop (k+1)):=by rw [←List.drop_eq_getElem_cons h,List.take_append_drop]
 conv=>lhs;rw [e]
 rw [ZE,List.length_take,Nat.min_eq_left (by omega),List.getElem?_eq_getElem h]
 simp [nv]
theorem Zbe {A B:List Nat} (ra:∀x∈A,x<B32) (k:Nat) (ha:k<A.length) (hb:k<B.length) (hd:A.drop (k+1)=B.drop (k+1)) (hlt:A[k]?.getD 0<B[k]?.getD 0):nv B32 A<nv B32 B:=by
 rw [Za1 A k ha,Za1 B k hb,hd]
 have h1:=nv_lt B32 (A.take k) (fun x hx=>ra x (List.mem_of_mem_take hx))
 rw [List.length_take,Nat.min_eq_left (by omega)]at h1
 have h2:B32 ^ k*(A[k]?.getD 0+1+B32*nv B32 (B.drop (k+1)))≤B32 ^ k*(B[k]?.getD 0+B32*nv B32 (B.drop (k+1))):=Nat.mul_le_mul_left _ (by omega)
 have h3:B32 ^ k*(A[k]?.getD 0+1+B32*nv B32 (B.drop (k+1)))=B32 ^ k*(A[k]?.getD 0+B32*nv B32 (B.drop (k+1)))+B32 ^ k:=by
  rw [show A[k]?.getD 0+1+B32*nv B32 (B.drop (k+1))=(A[k]?.getD 0+B32*nv B32 (B.drop (k+1)))+1 by omega,Nat.mul_add,Nat.mul_one]
 omega
theorem Xu (w:World) (va vb:Value) (A B:List Nat) (hA:D4 w va A) (hB:D4 w vb B) (ra:∀x∈A,x<B32) (rb:∀x∈B,x<B32) (tA:Trim A) (tB:Trim B) (la:A.length≤100000000) (lb:B.length≤100000000) :
    Calls Tryz.prog 179 #[va,vb] w fun e w'=>e=.returned (.int .i64 (cmpN (nv B32 A) (nv B32 B)))∧w.grownBy w' none:=by
 by_cases hlen:A.length=B.length
 ·by_cases h0:B.length=0
  ·have eA:A=[]:=List.eq_nil_of_length_eq_zero (by omega)
   have eB:B=[]:=List.eq_nil_of_length_eq_zero h0
   subst eA eB
   obtain⟨aa,ca,rfl⟩:=hA.slice
   obtain⟨ab,cb,rfl⟩:=hB.slice
   clear hA hB
   go_enter Tryz.func179,Tryz.ntmps179
   go_wp2
   go_loopw [5] (fun s wr=>s=.int .i64 (-1)∧wr=w) (fun _ _=>0)
   case atStart=>exact⟨rfl,rfl⟩
   case round =>
    obtain⟨rfl,rfl⟩:=hrel
    go_wp2
    go_ret
    exact⟨rfl,World.grownBy.refl _ _⟩
  ·rcases hA with ⟨_,rfl⟩|⟨Ba,oa,ca,rfl,hca,hA⟩
   ·simp at hlen;omega
   ·rcases hB with ⟨_,rfl⟩|⟨Bb,ob,cb,rfl,hcb,hB⟩
    ·simp at h0
    ·have HCa:Hid (∀j,j<A.length→w.cell? ⟨Ba,oa+j,none⟩=some (.int .u32 ((A[j]?.getD 0:Nat):Int))):=hA
     have HCb:Hid (∀j,j<B.length→w.cell? ⟨Bb,ob+j,none⟩=some (.int .u32 ((B[j]?.getD 0:Nat):Int))):=hB
     have HRa:Hid (∀x∈A,x<B32):=ra
     have HRb:Hid (∀x∈B,x<B32):=rb
     obtain⟨q,hq⟩:∃q,B.length=q:=⟨_,rfl⟩
     have HQb:Unit→B.length=q:=fun _=>hq
     have HQa:Unit→A.length=q:=fun _=>hlen.trans hq
     have hq9:(q:Int)≤100000000:=by omega
     obtain⟨R,hR⟩:∃R,cmpN (nv B32 A) (nv B32 B)=R:=⟨_,rfl⟩
     have HRR:Unit→cmpN (nv B32 A) (nv B32 B)=R:=fun _=>hR
     rw [hR]
     have eA:=HQa ()
     rw [eA]at hca ⊢
     rw [hq]at hcb h0 ⊢
     clear hA hB ra rb hR hlen hq eA la lb tA tB
     go_enter Tryz.func179,Tryz.ntmps179
     go_wp2
     go_loopw [5] (fun s wr=>∃k:Nat,k≤q∧s=.int .i64 ((k:Int)-1)∧A.drop k=B.drop k∧w.grownBy wr none) (fun s _=>(RowKit.intOf s+1).toNat)
     case atStart=>exact⟨q,Nat.le_refl _,rfl,by rw [List.drop_of_length_le (by rw [HQa ()];exact Nat.le_refl _),List.drop_of_length_le (by rw [HQb ()];exact Nat.le_refl _)],World.grownBy.refl _ _⟩
     case round =>
      obtain⟨k,hk,rfl,hd,hg⟩:=hrel
      have HD:Unit→A.drop k=B.drop k:=fun _=>hd
      have HG:Hid (w.grownBy wr none):=hg
      by_cases hk0:k=0
      ·subst hk0
       have hR0:R=0:=by
        rw [←HRR ()]
        apply cmpN_eq
        have:=HD ()
        simp at this
        rw [this]
       subst hR0
       clear hd hg
       go_wp2
       go_ret
       exact⟨rfl,HG.out⟩
      ·obtain⟨j,rfl⟩:∃j,k=j+1:=⟨k-1,by omega⟩
       have ea:=HCa.out j (by rw [HQa ()];omega)
       have eb:=HCb.out j (by rw [HQb ()];omega)
       have ca1:=Zd hg ea (by simp)
       have cb1:=Zd hg eb (by simp)
       have hjI:((j+1:Nat):Int)-1=(j:Int):=by omega
       rw [hjI]
       have hjq:(j:Int)<q:=by omega
       clear hd hg ea eb hjI
       have rlt:=fun h=>Zbe HRa.out j (by rw [HQa ()];omega) (by rw [HQb ()];omega) (HD ()) h
       have rgt:=fun h=>Zbe HRb.out j (by rw [HQb ()];omega) (by rw [HQa ()];omega) (HD ()).symm h
       have HLT:Unit→A[j]?.getD 0<B[j]?.getD 0→R=-1:=fun _ h=>by rw [←HRR ()];exact ZaF (rlt h)
       have HGT:Unit→B[j]?.getD 0<A[j]?.getD 0→R=1:=fun _ h=>by rw [←HRR ()];exact ZcU (rgt h)
       have HEQ:Unit→A[j]?.getD 0=B[j]?.getD 0→A.drop j=B.drop j:=fun _ h=>by
        have la1:j<A.length:=by rw [HQa ()];omega
        have lb1:j<B.length:=by rw [HQb ()];omega
        rw [List.drop_eq_getElem_cons la1,List.drop_eq_getElem_cons lb1,HD ()]
        rw [List.getElem?_eq_getElem la1,List.getElem?_eq_getElem lb1]at h
        simp at h
        rw [h]
       clear rlt rgt
       generalize A[j]?.getD 0=x at *
       generalize B[j]?.getD 0=y at *
       rcases Nat.lt_trichotomy x y with h|h|h
       ·have hR1:=HLT () h
        subst hR1
        have hI:(x:Int)<y:=by omega
        clear HLT HGT HEQ h
        go_wp2
        go_quiet (fail)
        go_wp2
        go_ret
        exact⟨rfl,ZC HG.out _⟩
       ·have hEQ:=HEQ () h
        have HEQ2:Unit→A.drop j=B.drop j:=fun _=>hEQ
        subst h
        clear HLT HGT HEQ hEQ
        go_wp2
        go_quiet (fail)
        go_wp2
        go_quiet (fail)
        go_wp2
        go_roundw
        case rel=>exact⟨j,by omega,Zl (by omega),HEQ2 (),ZC HG.out _⟩
        case measure=>simp [RowKit.intOf]
       ·have hR1:=HGT () h
        subst hR1
        have hI:(y:Int)<x:=by omega
        clear HLT HGT HEQ h
        go_wp2
        go_quiet (fail)
        go_wp2
        go_quiet (fail)
        go_wp2
        go_ret
        exact⟨rfl,ZC (ZC HG.out _) _⟩
 ·obtain⟨aa,ca,rfl⟩:=hA.slice
  obtain⟨ab,cb,rfl⟩:=hB.slice
  rcases Nat.lt_or_ge A.length B.length with h|h
  ·have hR:=ZaF (Za3 ra tB h)
   rw [hR]
   clear hA hB ra rb tA tB hR
   generalize A.length=p at *
   generalize B.length=q at *
   go_enter Tryz.func179,Tryz.ntmps179
   go_wp2
   go_ret
   exact⟨rfl,World.grownBy.refl _ _⟩
  ·have hR:=ZcU (Za3 rb tA (by omega:B.length<A.length))
   rw [hR]
   clear hA hB ra rb tA tB hR
   generalize A.length=p at *
   generalize B.length=q at *
   go_enter Tryz.func179,Tryz.ntmps179
   go_wp2
   go_ret
   exact⟨rfl,World.grownBy.refl _ _⟩
theorem Zb2 (w:World) (v:Value) (L:List Nat) (h:D4 w v L) (hl:L.length≤1000000000) :
    Calls Tryz.prog 154 #[v] w fun e w'=>∃v' k,e=.returned v'∧k≤L.length∧D4 w v' (L.take k)∧nv B32 (L.take k)=nv B32 L∧Trim (L.take k)∧w'=w:=by
 rcases h with ⟨rfl,rfl⟩|⟨B,off,c,rfl,hc,h⟩
 ·go_enter Tryz.func154,Tryz.ntmps154
  go_wp2
  go_loopw [0] (fun s wr=>s=.slice none 0 0∧wr=w) (fun _ _=>0)
  case atStart=>exact⟨rfl,rfl⟩
  case round =>
   obtain⟨rfl,rfl⟩:=hrel
   go_wp2
   go_ret
   exact⟨_,0,rfl,by simp,.inl ⟨rfl,rfl⟩,rfl,.inl rfl,rfl⟩
 ·have HC:Hid (∀j,j<L.length→w.cell? ⟨B,off+j,none⟩=some (.int .u32 ((L[j]?.getD 0:Nat):Int))):=h
  have hlI:(L.length:Int)≤1000000000:=by omega
  obtain⟨n,hn⟩:∃n,L.length=n:=⟨_,rfl⟩
  have HN:Unit→L.length=n:=fun _=>hn
  rw [hn]at hc hlI ⊢
  clear h hl hn
  go_enter Tryz.func154,Tryz.ntmps154
  go_wp2
  go_loopw [0] (fun s wr=>∃k,k≤n∧s=.slice (some ⟨B,off,none⟩) k c∧nv B32 (L.take k)=nv B32 L∧wr=w) (fun s _=>match s with|.slice _ n _=>n|_=>0)
  case atStart=>exact⟨n,Nat.le_refl _,rfl,by rw [←HN (),List.take_length],rfl⟩
  case round =>
   obtain⟨k,hk,rfl,hv,rfl⟩:=hrel
   have HV:Hid (nv B32 (L.take k)=nv B32 L):=hv
   clear hv
   by_cases hk0:k=0
   ·subst hk0
    go_wp2
    go_ret
    exact⟨_,0,rfl,by omega,.inr ⟨B,off,c,by simp,by simp,fun j hj=>by simp at hj⟩,HV.out,.inl (by simp),rfl⟩
   ·obtain⟨q,rfl⟩:∃q,k=q+1:=⟨k-1,by omega⟩
    have hx:=HC.out q (by rw [HN ()];omega)
    have hqI:(q:Int)≤1000000000:=by omega
    have hqc:q+1≤c:=by omega
    by_cases hz:L[q]?.getD 0=0
    ·rw [hz]at hx
     go_wp2
     go_roundw
     case rel=>exact⟨q,by omega,rfl,by rw [←HV.out,Yu B32 L q (by rw [HN ()];omega) hz],trivial⟩
     case measure=>simp
    ·have hz1:(((L[q]?.getD 0:Nat):Int) == 0)=false:=by
       rw [beq_eq_false_iff_ne];omega
     have HZ:Hid (L[q]?.getD 0≠0):=hz
     clear hz
     generalize((L[q]?.getD 0:Nat):Int)=x at *
     go_wp2
     go_ret
     have hlen:(L.take (q+1)).length=q+1:=by rw [List.length_take,HN (),Nat.min_eq_left hk]
     refine⟨_,q+1,rfl,by omega,.inr ⟨B,off,c,?_,?_,fun j hj=>?_⟩,HV.out,.inr ?_,rfl⟩
     ·rw [hlen];rfl
     ·rw [hlen];omega
     ·rw [hlen]at hj
      rw [HC.out j (by rw [HN ()];omega),List.getElem?_take,if_pos hj]
     ·rw [hlen,Nat.add_sub_cancel,List.getElem?_take,if_pos (by omega)];exact HZ.out
theorem ZdX {i:Nat} {C A:List Nat} {x:Nat} (hd:C.drop i=A.drop i):(C.set i x).drop (i+1)=A.drop (i+1):=by
 rw [List.drop_set_of_lt (by omega),←List.drop_drop,←List.drop_drop,hd]
theorem drop_at {i:Nat} {C A:List Nat} (hd:C.drop i=A.drop i):C[i]?.getD 0=A[i]?.getD 0:=by
 have e:(C.drop i)[0]?=(A.drop i)[0]?:=by rw [hd]
 rw [List.getElem?_drop,List.getElem?_drop]at e
 simpa using congrArg (·.getD 0) e
theorem nv_cut (L:List Nat) (k:Nat) (h:k≤L.length):nv B32 L=nv B32 (L.take k)+B32 ^ k*nv B32 (L.drop k):=by
 have e:=ZE B32 (L.take k) (L.drop k)
 rwa [List.take_append_drop,List.length_take,Nat.min_eq_left h]at e
def Row (w:World) (base:Nat) (v:Value) (L:List Nat):Prop:=w.ownsRow base 145 1 v L.length ((ints L).map enc4)
theorem Row.nil (w:World) (base:Nat):Row w base (.slice none 0 0) []:=World.ownsRow_nil _ _ _ _
theorem Row.cases {w:World} {base:Nat} {v:Value} {L:List Nat} (h:Row w base v L):(v=.slice none 0 0∧L=[])∨∃g c,v=.slice (some ⟨g,0,none⟩) L.length c∧base≤g∧L.length≤c:=by
 rcases h.2 with ⟨e,hn⟩|⟨g,cap,cur,rfl,hb,_,hc,_⟩
 ·exact .inl ⟨e,List.length_eq_zero_iff.1 hn⟩
 ·exact .inr ⟨g,cap,rfl,hb,hc⟩
theorem Row.cell {w:World} {base g c:Nat} {L:List Nat} (h:Row w base (.slice (some ⟨g,0,none⟩) L.length c) L) (i:Nat) (hi:i<L.length):w.cell? ⟨g,i,none⟩=some (.int .u32 ((L[i]?.getD 0:Nat):Int)):=by
 have:=World.ownsRow.cells h rfl i (.int .u32 ((L[i]?.getD 0:Nat):Int)) (by simp [ints,hi])
 rcases Nat.eq_zero_or_pos i with rfl|h0
 ·simpa [Addr.add]using this
 ·simpa [Addr.add,Nat.ne_of_gt h0]using this
theorem Row.frozen {w:World} {base g c n:Nat} {L:List Nat} (h:Row w base (.slice (some ⟨g,0,none⟩) n c) L) (i:Nat):w.frozen? ⟨g,i,none⟩=false:=by
 rcases h.2 with ⟨e,hn⟩|⟨g',cap,cur,e,hb,hg,_⟩
 ·cases e
 ·cases e
  simp [World.frozen?,hg]
theorem Row.set {w:World} {base g c n:Nat} {L:List Nat} (h:Row w base (.slice (some ⟨g,0,none⟩) n c) L) (i x:Nat):Row (w.setCell ⟨g,i,none⟩ (.int .u32 (x:Int))) base (.slice (some ⟨g,0,none⟩) n c) (L.set i x):=by
 rcases h.2 with ⟨e,hn⟩|⟨g',cap,cur,e,hb,hg,hc,hm,hs,ht⟩
 ·cases e
 ·cases e
  refine⟨by simp [ints],.inr ⟨g,c,cur.setIfInBounds i (.int .u32 (x:Int)),by simp,hb,?_,by simpa using hc,hm,by simpa using hs,?_⟩⟩
  ·simp [World.setCell,Array.getElem?_modify,hg]
  ·rw [Array.toList_setIfInBounds,List.length_set,List.take_set,ht,←ZF,List.map_set]
theorem Row.d4 {w:World} {base:Nat} {v:Value} {L:List Nat} (h:Row w base v L):D4 w v L:=by
 rcases h.cases with e|⟨g,c,rfl,_,hc⟩
 ·exact .inl e
 ·exact .inr ⟨g,0,c,rfl,hc,fun j hj=>by rw [Nat.zero_add];exact h.cell j hj⟩
theorem Row.kept {w w':World} {base:Nat} {v:Value} {L:List Nat} {row:Option Nat} (h:Row w base v L) (hg:w.grownBy w' row) (hne:v.ownBlock=none∨v.ownBlock≠row):Row w' base v L:=World.ownsRow.kept h hg hne
theorem D4.readsO {w:World} {v:Value} {L:List Nat} {row:Option Nat} (h:D4 w v L) (ha:∀b n c,v=.slice (some b) n c→some b.block≠row):∃ab c,v=.slice ab L.length c∧∀w',w.grownBy w' row→∀i,i<L.length→∃B' off,ab=some ⟨B',off,none⟩∧w'.cell? ⟨B',off+i,none⟩=some (.int .u32 ((L[i]?.getD 0:Nat):Int))∧L.length≤c:=by
 rcases h with ⟨rfl,rfl⟩|⟨B',off,c,rfl,hc,h⟩
 ·exact⟨none,0,rfl,fun _ _ i hi=>by simp at hi⟩
 ·refine⟨_,c,rfl,fun w' hg i hi=>⟨B',off,rfl,?_,hc⟩⟩
  have:=ha _ _ _ rfl
  exact Zd hg (h i hi) (fun e=>this e.symm)
theorem Z9 (L:List Nat) (k:Nat):nv B32 L=nv B32 (L.take k)+B32 ^ k*nv B32 (L.drop k):=by
 rcases Nat.le_total k L.length with h|h
 ·exact nv_cut L k h
 ·rw [List.take_of_length_le h,List.drop_eq_nil_of_le h]
  simp [nv]
theorem Vf (w:World) (base:Nat) (ty:TypeId) (v:Value) (L:List Nat) (x:Nat) (h:Row w base v L) (hl:L.length≤1000000000) (hb:base≤w.heap.size) (a:Addr) (hx:w.cell? a=some (.int .u32 (x:Int))) :
    ∃v' w',(Builtin.append_ #[146,146] ty #[v,.slice (some a) 1 1]).run Tryz.prog w=.ok v' w'∧Row w' base v' (L++[x])∧w.grownBy w' v.ownBlock∧(v'.ownBlock=v.ownBlock∨v'.ownBlock=some w.heap.size):=by
 obtain⟨i0,hi,hz0,hz1,hz2⟩:=info_parts Tryz.info4
 have hadd:∀j u,[Value.int .u32 (x:Int)][j]?=some u→w.cell? (a.add j)=some u:=by
  intro j u hj
  match j,hj with
  |0,hj=>simp at hj;subst hj;simpa [Addr.add]using hx
 have h1:∀u∈[Value.int .u32 (x:Int)],u.oneCell'=true:=by
  intro u hu;simp at hu;subst hu;rfl
 obtain⟨v',w',hr,ho,hg,hn⟩:=run_append_own (P:=Tryz.prog) w base 146 ty 145 i0 (.int .u32 0) 1 4 Tryz.underlying146 hi hz0 hz1 hz2 rfl (by decide) v L.length _ h a 1 1 [.int .u32 (x:Int)] rfl hadd h1 (by unfold maxLen;omega) (by omega) hb
 refine⟨v',w',hr,?_,hg,?_⟩
 ·have e:ints (L++[x])=ints L++[(x:Int)]:=by simp [ints]
  unfold Row
  rw [e,List.map_append,List.length_append]
  exact ho
 ·rcases h.2 with ⟨rfl,hn⟩|⟨g,cap,cur,rfl,hbg,hgg,hnc,hcm,hcs,htake⟩
  ·right
   have hr2:=run_append_nil (P:=Tryz.prog) w 146 ty 145 i0 (.int .u32 0) Tryz.underlying146 hi hz0 a 1 1 [.int .u32 (x:Int)] (by rw [hz1];rfl) hadd (by omega) (by omega) (by rw [hz2];omega)
   rw [hr2]at hr
   cases hr
   rfl
  ·by_cases hroom:L.length+1≤cap
   ·left
    have hr2:=run_append_room (P:=Tryz.prog) w 146 ty 145 i0 Tryz.underlying146 hi g L.length cap cur hgg a 1 1 [.int .u32 (x:Int)] (by rw [hz1];rfl) hadd h1 hroom (by rw [hz1];simp;omega)
    rw [hr2]at hr
    cases hr
    rfl
   ·right
    have holds:∀j u,((ints L).map enc4)[j]?=some u→w.cell? ((⟨g,0,none⟩:Addr).add j)=some u:=World.ownsRow.cells h (g:=g) rfl
    have hr2:=run_append_grow (P:=Tryz.prog) w 146 ty 145 i0 (.int .u32 0) Tryz.underlying146 hi hz0 ⟨g,0,none⟩ L.length cap ((ints L).map enc4) (by rw [hz1];simp [ints]) holds a 1 1 [.int .u32 (x:Int)] (by rw [hz1];rfl) hadd (by omega) (by omega) (by rw [hz2];exact growslice_fits (by omega) (by omega))
    rw [hr2]at hr
    cases hr
    rfl
theorem ZB {w:World} {ops:Array Oper} {rest:List Oper} {o:Oper} {a:Act} {Q:Exit→Act→World→Prop} (hgd:o.guard=none) (s x:Operand)
    (ho:o.op=.call { callee:=.builtin .append,args:=#[s,x],argTypes:=#[146,146] })
    (base:Nat) (v:Value) (L:List Nat) (y:Nat) (hs:a.eval s=v) (hR:Row w base v L) (hl:L.length≤1000000000) (hb:base≤w.heap.size)
    (ad:Addr) (hx:a.eval x=.slice (some ad) 1 1) (hy:w.cell? ad=some (.int .u32 (y:Int)))
    (h:∀v' w',Row w' base v' (L++[y])→w.grownBy w' v.ownBlock→(v'.ownBlock=v.ownBlock∨v'.ownBlock=some w.heap.size)→wpList Tryz.prog ops Q rest (a.put o.dst v') w'):wpList Tryz.prog ops Q (o::rest) a w :=
 wpList_plain hgd fun K hK=>by
  obtain⟨v',w',hr,h2,h3,h4⟩:=Vf w base o.type v L y hR hl hb ad hy
  unfold Oper.wp execOp
  simp only [ho,resolve,invoke,builtin,Sem.run_bind,Sem.run_pure,Result.andThen_ok,List.map_toArray,List.map_cons,List.map_nil,hs,hx,hr]
  exact hK _ _ (h v' w' h2 h3 h4)
theorem XX:∀(L:List Nat),(∀j:Nat,L[j]?.getD 0=0)→nv B32 L=0
 |[],_=>rfl
 |x::L,h=>by
  have h0:=h 0
  have h1:=XX L (fun j=>by simpa using h (j+1))
  simp at h0
  rw [nv,h0,h1];rfl
theorem V6:∀(L A:List Nat),(∀j:Nat,L[j]?.getD 0=A[j]?.getD 0)→nv B32 L=nv B32 A
 |[],A,h=>(XX A (fun j=>by simpa using (h j).symm)).symm
 |x::L,[],h=>XX (x::L) (fun j=>by simpa using h j)
 |x::L,y::A,h=>by
  have h0:=h 0
  have h1:=V6 L A (fun j=>by simpa using h (j+1))
  simp at h0
  rw [nv,nv,h0,h1]
theorem Zes {w wr w':World} {row r':Option Nat} (hg:w.grownBy wr row) (ho:r'=row∨∃g,r'=some g∧w.heap.size≤g) (k:wr.grownBy w' r'):w.grownBy w' row:=by
 rcases ho with rfl|⟨g,rfl,hlt⟩
 ·exact Za hg k
 ·exact⟨k.os.trans hg.os,k.tape.trans hg.tape,k.output.trans hg.output,Nat.le_trans hg.size k.size,fun j hj hne=>(k.block j (Nat.lt_of_lt_of_le hj hg.size) (fun e=>by have:j=g:=Option.some.inj e;omega)).trans (hg.block j hj hne)⟩
end Go.Proofs.YtdcadiaeaclpgaaGreatDoor
