/- Towards the document's divided: a copy of digits, one digit's round. -/
import Derived.Laws.CopyOwn
import Derived.Test.YtdcadiaeaclpgaaGreatDoorBunFrz
import Derived.Test.YtdcadiaeaclpgaaGreatDoorBunPrd
import Derived.Test.YtdcadiaeaclpgaaGreatDoorBunRed
namespace Go.Proofs.YtdcadiaeaclpgaaGreatDoor
open Go.RowKit Go.Lib Go.Sort
set_option maxHeartbeats 6400000
set_option maxRecDepth 1000000
theorem Tryz.size4:(Tryz.prog.info? 145).map (·.size)=some 1:=by kernel_rfl
theorem ZaS (w:World) (g R:Nat) (v:Value) (M K:List Nat) (hB:BlkL w g 145 enc4 (ints M)) (hM:M.length=R) (hK:D4 w v K) (hl:K.length≤R) (h0:K.length≠0) :
    ∃w',(Builtin.copy_ #[146,146] 3 #[.slice (some ⟨g,0,none⟩) R R,v]).run Tryz.prog w=.ok (goInt K.length) w'∧BlkL w' g 145 enc4 (ints (K++M.drop K.length))∧w.grownBy w' (some g):=by
 rcases hK with ⟨_,e⟩|⟨B',off,c,rfl,hc,hKc⟩
 ·rw [e]at h0;exact absurd rfl h0
 ·have hcl:((ints K).map enc4).length=K.length:=by simp [ints]
  have hR:=run_copy_row (P:=Tryz.prog) w 146 146 3 145 g 0 R R ⟨B',off,none⟩ K.length c ((ints M).map enc4).toArray 145 ((ints K).map enc4) Tryz.underlying146 Tryz.size4 hB (by rw [hcl];exact(Nat.min_eq_left hl).symm)
   (fun j u hu=>by
    have hj:j<K.length:=by
     obtain⟨hlt,_⟩:=List.getElem?_eq_some_iff.1 hu
     rwa [hcl]at hlt
    have h1:=hKc j hj
    rw [Addr.add_lit,h1]
    rw [List.getElem?_map,ints,List.getElem?_map,List.getElem?_eq_getElem hj]at hu
    rw [List.getElem?_eq_getElem hj]
    simpa [enc4]using hu) (by rw [hcl];simp [ints];omega) (fun u hu=>by obtain⟨x,_,rfl⟩:=List.mem_map.1 hu;rfl)
  rw [hcl]at hR
  refine⟨_,hR,?_,?_⟩
  ·have hh:=setRow_heap w g (((ints M).map enc4).toArray) ((((ints M).map enc4).toArray.toList.take 0++(ints K).map enc4++((ints M).map enc4).toArray.toList.drop (0+K.length)).toArray) 145 (0,0) hB
   unfold BlkL
   rw [hh]
   simp [ints,List.map_drop]
  ·exact⟨rfl,rfl,rfl,by simp [World.setRow],fun i _ hn=>setRow_other w g i _ (by intro e;subst e;exact hn rfl)⟩
theorem DlI.next {w wo wf:World} {B Q R n g t:Nat} {M D K Mx M':List Nat} (hO:DlI w B Q R M D (g+1) wo K Mx) (hV:0<nv B32 D) (hD:D.length=n+2) (hDr:∀x∈D,x<B32) (htq:t=nv B32 (Mx.drop g) / nv B32 D) (ht:t≤4294967295)
    (hbK:BlkL wf w.heap.size 145 enc4 (ints (K.set g t))) (hb:BlkL wf B 145 enc4 (ints M')) (hl:M'.length=R) (hr:∀x∈M',x<B32) (ha:∀j,j<g∨g+(n+3)≤j→M'[j]?.getD 0=Mx[j]?.getD 0) (o:Nat) (he:nv B32 M'+t*nv B32 D*B32 ^ g=nv B32 Mx+o*B32 ^ (g+(n+3))) (hg:w.grownBy wf (some B)) :
    DlI w B Q R M D g wf (K.set g t) M':=by
 obtain⟨hX,hXlt⟩:=DlI.top hO hD hDr
 obtain⟨hgQ,_,hKl,hKr,hK0,_,hMl,hMr,hMv,hsum,_⟩:=hO
 have hz:nv B32 (Mx.drop (g+(n+3)))=0:=by
  have h1:=Z9 (Mx.drop g) (n+3)
  rw [List.drop_drop,←hX]at h1
  have hp:0<B32 ^ (n+3):=Nat.pow_pos (by decide)
  rcases Nat.eq_zero_or_pos (nv B32 (Mx.drop (g+(n+3))))with h|h
  ·exact h
  ·have:B32 ^ (n+3)*1≤B32 ^ (n+3)*nv B32 (Mx.drop (g+(n+3))):=Nat.mul_le_mul_left _ h
   omega
 obtain⟨low,e1,e2,hX',_⟩:=ZbL (M:=Mx) (M':=M') (g:=g) (N:=n+3) ha hz hr
 have hP:0<B32 ^ g:=Nat.pow_pos (by decide)
 have hc:=Uu (X:=nv B32 (Mx.drop g)) (X':=nv B32 (M'.drop g)) (T:=t*nv B32 D) (low:=low) (P:=B32 ^ g) (C:=o*B32 ^ (n+3)) hP (by
  rw [←e1,←e2,he,Nat.pow_add,Nat.mul_left_comm])
 have htle:t*nv B32 D≤nv B32 (Mx.drop g):=by rw [htq];exact Nat.div_mul_le_self _ _
 have ho:o=0:=by
  rcases Nat.eq_zero_or_pos o with h|h
  ·exact h
  ·have:1*B32 ^ (n+3)≤o*B32 ^ (n+3):=Nat.mul_le_mul_right _ h
   omega
 subst ho
 rw [Nat.zero_mul,Nat.add_zero]at hc he
 have hmod:nv B32 (M'.drop g)<nv B32 D:=by
  have h1:=Nat.div_add_mod (nv B32 (Mx.drop g)) (nv B32 D)
  have h2:=Nat.mod_lt (nv B32 (Mx.drop g)) hV
  rw [←htq,Nat.mul_comm]at h1
  omega
 have hset:=Ym B32 K g t (by omega)
 rw [hK0 g (by omega),Nat.zero_mul,Nat.add_zero]at hset
 refine⟨by omega,hbK,by simp [hKl],ZM hKr (by simp only [B32];omega),fun j hj=>?_,hb,hl,hr,hmod,?_,hg⟩
 ·rw [List.getElem?_set_ne (by omega)]
  exact hK0 j (by omega)
 ·rw [hset,Nat.mul_add]
  have e3:nv B32 D*(t*B32 ^ g)=t*nv B32 D*B32 ^ g:=by rw [←Nat.mul_assoc,Nat.mul_comm (nv B32 D) t]
  omega
theorem Zec {c bo y t z r x:Nat} (hc:c≤4294967295) (hb:bo≤1) (hy:y≤4294967295) (ht:t≤4294967295) (hz:z≤4294967295) (hr:(c+t*y) % 4294967296=r) (hx:4294967296+z-r-bo=x) :
    (c+t*y) / 4294967296≤4294967295∧1-x / 4294967296≤1∧x % 4294967296+(c+bo+y*t)=z+4294967296*((c+t*y) / 4294967296+(1-x / 4294967296))∧x<8589934592∧c+t*y≤18446744069414584320:=by
 have h1:t*y≤4294967295*4294967295:=Nat.mul_le_mul ht hy
 rw [Nat.mul_comm y t]
 generalize t*y=p at *
 omega
def DvM (w:World) (a d:Nat) (N:Nat) (e:Ending) (w':World):Prop :=
 ∃vq vr Kq Kr,e=.returned (.tuple #[vq,vr])∧D4 w' vq Kq∧D4 w' vr Kr∧(∀x∈Kq,x<B32)∧(∀x∈Kr,x<B32)∧Trim Kq∧Trim Kr∧nv B32 Kq=a / d∧nv B32 Kr=a % d∧Kq.length≤N∧Kr.length≤N∧w.grownBy w' none
theorem D4.blk_lt {w:World} {b:Addr} {n c:Nat} {L:List Nat} (h:D4 w (.slice (some b) n c) L) (h0:L.length≠0):b.block<w.heap.size:=by
 rcases h with ⟨e,_⟩|⟨B,off,c',e,_,h⟩
 ·cases e
 ·obtain⟨e1,_,_⟩:=Value.slice.inj e
  cases e1
  have h1:=h 0 (by omega)
  simp only [World.cell?]at h1
  refine Nat.lt_of_not_le fun hge=>?_
  rw [Array.getElem?_eq_none hge]at h1
  cases h1
theorem Zen {A D M:List Nat} {n s Q:Nat} (rA:∀x∈A,x<B32) (rM:∀x∈M,x<B32) (tD:Trim D) (hD:D.length=n+2) (hM:nv B32 M=nv B32 A*2 ^ s) (hQ:A.length≤Q+(n+1)):nv B32 (M.drop Q)<nv B32 D*2 ^ s:=by
 rw [YG M Q rM,hM]
 have h1:=nv_lt B32 A rA
 have h2:B32 ^ (n+1)≤nv B32 D:=ZK tD (n+1) (by omega)
 have hp:0<2 ^ s:=Nat.pow_pos (by decide)
 refine Nat.lt_of_lt_of_le (Nat.div_lt_of_lt_mul (n:=B32 ^ Q) (k:=B32 ^ (n+1)*2 ^ s) ?_) (Nat.mul_le_mul_right _ h2)
 have e:B32 ^ Q*(B32 ^ (n+1)*2 ^ s)=B32 ^ (Q+(n+1))*2 ^ s:=by
  rw [←Nat.mul_assoc,←Nat.pow_add]
 rw [e]
 exact Nat.mul_lt_mul_of_pos_right (Nat.lt_of_lt_of_le h1 (Nat.pow_le_pow_right (by decide) hQ)) hp
theorem ZeS (K:List Nat) (m:Nat):nv B32 (K++List.replicate m 0)=nv B32 K:=by rw [ZE,ZO];simp
theorem Ze0 {a d m k P:Nat} (hP:0<P) (h:m+d*P*k=a*P) (hm:m<d*P):k=a / d∧m / P=a % d:=by
 have hdP:0<d*P:=by omega
 have h1:(a*P) / (d*P)=k:=by
  rw [←h,Nat.add_mul_div_left _ _ hdP,Nat.div_eq_of_lt hm,Nat.zero_add]
 have h2:(a*P) % (d*P)=m:=by
  rw [←h,Nat.add_mul_mod_self_left,Nat.mod_eq_of_lt hm]
 rw [Nat.mul_div_mul_right _ _ hP]at h1
 rw [Nat.mul_mod_mul_right]at h2
 exact⟨h1.symm,by rw [←h2,Nat.mul_div_cancel _ hP]⟩
theorem Zaf (w:World) (va vb:Value) (A D:List Nat) (n:Nat) (hA:D4 w va A) (hB:D4 w vb D) (ra:∀x∈A,x<B32) (rb:∀x∈D,x<B32) (tA:Trim A) (tB:Trim D) (la:A.length≤100000) (hn:D.length=n+2) (hle:nv B32 D≤nv B32 A) :
    Calls Tryz.prog 164 #[va,vb] w (DvM w (nv B32 A) (nv B32 D) (A.length+2)):=by
 have hAn:n+2≤A.length:=Zdj ra (Nat.le_trans (ZK tB (n+1) (by omega)) hle)
 have hC:=Xu w va vb A D hA hB ra rb tA tB (by omega) (by omega)
 obtain⟨cv,hcv⟩:∃cv,cmpN (nv B32 A) (nv B32 D)=cv:=⟨_,rfl⟩
 have hcv0:0≤cv:=by rw [←hcv];unfold cmpN;repeat' split;all_goals omega
 rw [hcv]at hC
 have hcvb:decide (cv<0)=false:=decide_eq_false (by omega)
 obtain⟨aa,ca,rfl⟩:=hA.slice
 obtain⟨p,hp⟩:∃p,A.length=p:=⟨_,rfl⟩
 rcases hB with ⟨_,e⟩|⟨Bd,od,cd,rfl,hcd,hDc⟩
 ·rw [e]at hn;simp at hn
 have hB:D4 w (.slice (some ⟨Bd,od,none⟩) (n+2) cd) D:=.inr ⟨Bd,od,cd,by rw [hn],hcd,hDc⟩
 rw [hn]at hC hcd ⊢
 rw [hp]at hC hA hAn la ⊢
 obtain⟨x,hxx⟩:∃x,D[n+1]?.getD 0=x:=⟨_,rfl⟩
 have rx:x<B32:=by rw [←hxx];exact Zt rb (n+1)
 have hx0:x≠0:=by
  rcases tB with h|h
  ·omega
  ·rw [hn]at h
   rw [←hxx]
   exact h
 obtain⟨s,hs⟩:∃s,s+bl x=32:=⟨32-bl x,by have:bl x≤32:=bl_le rx;omega⟩
 have hs31:s≤31:=by
  obtain⟨k,hk⟩:=YS (Nat.pos_of_ne_zero hx0)
  omega
 have HC:Hid (Calls Tryz.prog 179 #[.slice aa p ca,.slice (some ⟨Bd,od,none⟩) (n+2) cd] w fun e w'=>e=.returned (.int .i64 cv)∧w.grownBy w' none):=hC
 have HBT:Hid (∀W,w.grownBy W none→Calls Tryz.prog 180 #[.slice (some ⟨Bd,od,none⟩) (n+2) cd] W fun e w'=>e=.returned (.int .i64 ((32*(n+2)-s:Nat):Int))∧w'=W):=fun W hW=>by
  have:=Zdv W _ D (hB.kept hW) rb (by omega)
  rw [hn,show n+2-1=n+1 by omega,hxx,show 32*(n+1)+bl x=32*(n+2)-s by omega]at this
  exact this
 have HA:Hid (D4 w (.slice aa p ca) A∧(∀x∈A,x<B32)∧A.length=p):=⟨hA,ra,hp⟩
 have HB:Hid (D4 w (.slice (some ⟨Bd,od,none⟩) (n+2) cd) D∧(∀x∈D,x<B32)∧Trim D∧D.length=n+2):=⟨hB,rb,tB,hn⟩
 have HS:Hid (s+bl (D[n+1]?.getD 0)=32):=(by rw [hxx];exact hs:s+bl (D[n+1]?.getD 0)=32)
 have HAP:Hid (0<nv B32 A):=Nat.lt_of_lt_of_le (Nat.lt_of_lt_of_le (Nat.pow_pos (by decide)) (ZK tB (n+1) (by omega))) hle
 obtain⟨Q,hQ⟩:∃Q,p+2=Q+(n+2):=⟨p-n,by omega⟩
 have HQ:Hid (p+2=Q+(n+2)∧n+2≤p∧p≤100000):=⟨hQ,hAn,la⟩
 have hnI:(n:Int)≤100000:=by omega
 have hpI:(p:Int)≤100000:=by omega
 have hsI:(s:Int)≤31:=by omega
 have hby:32*((n:Int)+2)-((32*(n+2)-s:Nat):Int)=(s:Int):=by omega
 obtain⟨bt,hbt⟩:∃bt,32*(n+2)-s=bt:=⟨_,rfl⟩
 rw [hbt]at hby HBT
 have hbtI:(bt:Int)≤10000000:=by omega
 have hQI:(p:Int)+2-((n:Int)+2)=(Q:Int):=by omega
 have hmk1:∀W:World,(Instr.makeSlice 146 (.int .i64 ((p:Int)+2)) (.int .i64 ((p:Int)+2))).run Tryz.prog W=.ok (.slice (some ⟨W.heap.size,0,none⟩) (p+2) (p+2)) (W.alloc (.cells ((ints (List.replicate (p+2) 0)).map enc4).toArray 145)):=fun W=>make4 W (p+2) (by omega)
 have hmk2:∀W:World,(Instr.makeSlice 146 (.int .i64 (Q:Int)) (.int .i64 (Q:Int))).run Tryz.prog W=.ok (.slice (some ⟨W.heap.size,0,none⟩) Q Q) (W.alloc (.cells ((ints (List.replicate Q 0)).map enc4).toArray 145)):=fun W=>make4 W Q (by omega)
 clear hA hB ra rb tA tB la hn hle hAn hC hcv hDc hxx rx hx0 hs hQ hp hbt hcd
 go_enter Tryz.func164,Tryz.ntmps164
 go_wp2_with fail
 refine HC.out.mono ?_
 rintro e w1 ⟨rfl,g1⟩
 have HG1:Hid (w.grownBy w1 none):=g1
 clear g1 HC
 go_wp2_with fail
 refine(HBT.out _ HG1.out).mono ?_
 rintro e w1' ⟨rfl,hw1⟩
 subst hw1
 have hU:=up_any w1' (.slice (some ⟨Bd,od,none⟩) (n+2) cd) D s (HB.out.1.kept HG1.out) HB.out.2.1 (by have:=HB.out.2.2.2;have:=HQ.out;omega) (by omega)
 have HU:Hid (Calls Tryz.prog 181 #[.slice (some ⟨Bd,od,none⟩) (n+2) cd,.int .i64 (s:Int)] w1' fun e w'=>∃v K,e=.returned v∧D4 w' v K∧(∀x∈K,x<B32)∧nv B32 K=nv B32 D*2 ^ s∧K.length≤s / 32+D.length+1∧Trim K∧w1'.grownBy w' none):=hU
 clear hU HBT
 go_wp2_with fail
 refine HU.out.mono ?_
 rintro e w2 ⟨vv,V,rfl,dV,rV,nV,lV,tV,g2⟩
 obtain⟨hVl,hVt⟩:=ZbB HB.out.2.2.2 HB.out.2.1 HB.out.2.2.1 HS.out rV tV nV
 obtain⟨av,cV,hvv⟩:=dV.slice
 rw [hVl]at hvv
 subst hvv
 have HG2:Hid (w.grownBy w2 none):=Za HG1.out g2
 have HV:Hid (D4 w2 (.slice av (n+2) cV) V∧(∀x∈V,x<B32)∧nv B32 V=nv B32 D*2 ^ s∧V.length=n+2∧V[n+1]?.getD 0≠0):=⟨dV,rV,nV,hVl,hVt⟩
 have HU2:Hid (∀W,w2.grownBy W none→Calls Tryz.prog 181 #[.slice aa p ca,.int .i64 (s:Int)] W fun e w'=>∃v K,e=.returned v∧D4 w' v K∧(∀x∈K,x<B32)∧nv B32 K=nv B32 A*2 ^ s∧K.length≤s / 32+A.length+1∧Trim K∧W.grownBy w' none):=fun W hW=>up_any W (.slice aa p ca) A s (HA.out.1.kept (Za HG2.out hW)) HA.out.2.1 (by have:=HA.out.2.2;have:=HQ.out;omega) (by omega)
 clear dV rV nV lV tV g2 hVl hVt HU
 go_wp2_with fail
 refine(HU2.out _ (grow1 _ _)).mono ?_
 rintro e w3 ⟨vk,K3,rfl,d3,r3,n3,l3,t3,g3⟩
 obtain⟨M,hM⟩:∃M,K3++(List.replicate (p+2) 0).drop K3.length=M:=⟨_,rfl⟩
 have hK3:K3.length≤p+2:=by have:=HA.out.2.2;omega
 have hK30:K3.length≠0:=fun e=>by
  have hpos:0<nv B32 A:=HAP.out
  have h2:0<2 ^ s:=Nat.pow_pos (by decide)
  have h3:=Nat.mul_pos hpos h2
  rw [←n3,List.length_eq_zero_iff.1 e]at h3
  simp [nv]at h3
 have hMv:nv B32 M=nv B32 A*2 ^ s:=by rw [←hM,List.drop_replicate,ZeS,n3]
 have hMl:M.length=p+2:=by rw [←hM];simp;omega
 have hMr:∀x∈M,x<B32:=fun x hx=>by
  rw [←hM]at hx
  rcases List.mem_append.1 hx with h|h
  ·exact r3 x h
  ·rw [List.eq_of_mem_replicate (List.mem_of_mem_drop h)];decide
 have hbU:BlkL w3 w2.heap.size 145 enc4 (ints (List.replicate (p+2) 0)):=BlkL.kept (heap_alloc_new w2 _) g3 (by simp)
 have HM:Hid (nv B32 M=nv B32 A*2 ^ s∧M.length=p+2∧(∀x∈M,x<B32)):=⟨hMv,hMl,hMr⟩
 have HCP:Hid (BlkL w3 w2.heap.size 145 enc4 (ints (List.replicate (p+2) 0))∧D4 w3 vk K3∧K3.length≤p+2∧K3.length≠0):=⟨hbU,d3,hK3,hK30⟩
 have HMM:Hid (K3++(List.replicate (p+2) 0).drop K3.length=M):=hM
 have hG3:w2.grownBy w3 none:=Za (grow1 _ _) g3
 have HG3:Hid (w2.grownBy w3 none):=hG3
 clear hM hK3 hK30 hMv hMl hMr hbU d3 r3 n3 l3 t3 g3 hG3 HU2
 obtain⟨w4,hcp,hb4,g4⟩:=ZaS w3 w2.heap.size (p+2) vk (List.replicate (p+2) 0) K3 HCP.out.1 (by simp) HCP.out.2.1 HCP.out.2.2.1 HCP.out.2.2.2
 rw [HMM.out]at hb4
 have hG4:w.grownBy w4 none:=Zq (Za HG2.out HG3.out) HG2.out.size g4
 have hbl:w2.heap.size<w4.heap.size:=hb4.lt
 have hapV:∀b n' c,(Value.slice av (n+2) cV)=.slice (some b) n' c→some b.block≠some w2.heap.size:=fun b n' c e h=>by
  obtain⟨e1,_,_⟩:=Value.slice.inj e
  subst e1
  have h1:=HV.out.1.blk_lt (by have:=HV.out.2.2.2.1;omega)
  have h2:b.block=w2.heap.size:=Option.some.inj h
  omega
 have hDV4:D4 w4 (.slice av (n+2) cV) V:=(HV.out.1.kept HG3.out).keptB g4 hapV
 have HI0:Hid (DlI w4 w2.heap.size Q (p+2) M V Q (w4.alloc (.cells ((ints (List.replicate Q 0)).map enc4).toArray 145)) (List.replicate Q 0) M):=(by
  refine⟨Nat.le_refl _,heap_alloc_new _ _,by simp,fun x hx=>by rw [List.eq_of_mem_replicate hx];decide,fun j hj=>?_,Zn _ _ hb4,HM.out.2.1,HM.out.2.2,?_,by rw [ZO];simp,World.grownBy_alloc _ _ _⟩
  ·rw [List.getElem?_replicate]
   split<;>rfl
  ·rw [HV.out.2.2.1]
   refine Zen HA.out.2.1 HM.out.2.2 HB.out.2.2.1 HB.out.2.2.2 HM.out.1 ?_
   have:=HA.out.2.2
   have:=HQ.out
   omega)
 have HDV:Hid (D4 w4 (.slice av (n+2) cV) V∧(∀b n' c,(Value.slice av (n+2) cV)=.slice (some b) n' c→some b.block≠some w2.heap.size)):=⟨hDV4,hapV⟩
 have HG4:Hid (w.grownBy w4 none∧w2.heap.size<w4.heap.size∧w.heap.size≤w2.heap.size):=⟨hG4,hbl,HG2.out.size⟩
 clear hb4 g4 hG4 hbl hapV hDV4 HCP HMM HG3
 go_wp2_with fail
 clear hcp hmk1 hmk2
 go_loopw [13] (fun s wr=>∃(a:Int) (g:Nat) (K Mx:List Nat),s=.int .i64 a∧a+1=(g:Int)∧DlI w4 w2.heap.size Q (p+2) M V g wr K Mx) (fun s _=>(RowKit.intOf s+1).toNat)
 case atStart=>exact⟨(Q:Int)-1,Q,_,_,rfl,by omega,HI0.out⟩
 case round =>
  obtain⟨a,g,K,Mx,rfl,hag,hI⟩:=hrel
  have HI:Hid (DlI w4 w2.heap.size Q (p+2) M V g wr K Mx):=hI
  clear hI HI0
  cases g with
  |zero =>
   obtain rfl:a=-1:=by omega
   clear hag
   obtain⟨_,hbK,hKl,hKr,_,hbM,hMl,hMr,hMv,hsum,hg⟩:=HI.out
   have hq:=HQ.out
   have hC1:=Z2 wr _ K hbK.d4 hKr (by omega)
   have hC2:=Z2 wr _ Mx hbM.d4 hMr (by omega)
   rw [hKl]at hC1
   rw [hMl]at hC2
   have HC1:Hid (Calls Tryz.prog 130 #[.slice (some ⟨w4.heap.size,0,none⟩) Q Q] wr fun e w'=>∃v' k,e=.returned v'∧k≤Q∧D4 wr v' (K.take k)∧nv B32 (K.take k)=nv B32 K∧(k=0∨(K.take k)[k-1]?.getD 0≠0)∧w'=wr):=hC1
   have HC2:Hid (Calls Tryz.prog 130 #[.slice (some ⟨w2.heap.size,0,none⟩) (p+2) (p+2)] wr fun e w'=>∃v' k,e=.returned v'∧k≤p+2∧D4 wr v' (Mx.take k)∧nv B32 (Mx.take k)=nv B32 Mx∧(k=0∨(Mx.take k)[k-1]?.getD 0≠0)∧w'=wr):=hC2
   have hGw:w.grownBy wr none:=Zq HG4.out.1 HG4.out.2.2 hg
   have hAD:nv B32 K=nv B32 A / nv B32 D∧nv B32 Mx / 2 ^ s=nv B32 A % nv B32 D:=by
    refine Ze0 (Nat.pow_pos (by decide)) ?_ ?_
    ·rw [←HV.out.2.2.1,hsum,HM.out.1]
    ·rw [←HV.out.2.2.1];simpa using hMv
   have HKM:Hid (K.length=Q∧(∀x∈K,x<B32)∧Mx.length=p+2∧(∀x∈Mx,x<B32)∧w.grownBy wr none∧nv B32 K=nv B32 A / nv B32 D∧nv B32 Mx / 2 ^ s=nv B32 A % nv B32 D):=⟨hKl,hKr,hMl,hMr,hGw,hAD⟩
   clear hbK hKl hKr hbM hMl hMr hMv hsum hg hq hC1 hC2 hGw hAD HI
   go_wp2_with fail
   refine HC1.out.mono ?_
   rintro e w7 ⟨vq,kq,rfl,hkq,dq,nq,tq,hw7⟩
   subst hw7
   have HVQ:Hid (kq≤Q∧D4 w7 vq (K.take kq)∧nv B32 (K.take kq)=nv B32 K∧(kq=0∨(K.take kq)[kq-1]?.getD 0≠0)):=⟨hkq,dq,nq,tq⟩
   clear hkq dq nq tq HC1
   go_wp2_with fail
   refine HC2.out.mono ?_
   rintro e w8 ⟨vm,km,rfl,hkm,dm,nm,tm,hw8⟩
   subst hw8
   have hSD:=ZeG w8 vm (Mx.take km) s dm (fun x hx=>HKM.out.2.2.2.1 x (List.mem_of_mem_take hx)) (by rw [List.length_take];have:=HKM.out.2.2.1;omega) (by omega)
   rw [nm,HKM.out.2.2.2.2.2.2]at hSD
   have HSD:Hid (Calls Tryz.prog 183 #[vm,.int .i64 (s:Int)] w8 fun e w'=>∃v K',e=.returned v∧D4 w' v K'∧(∀x∈K',x<B32)∧nv B32 K'=nv B32 A % nv B32 D∧K'.length≤(Mx.take km).length∧Trim K'∧w8.grownBy w' none):=hSD
   clear hkm dm nm tm hSD HC2
   go_wp2_with fail
   refine HSD.out.mono ?_
   rintro e w9 ⟨vr,Kr,rfl,dr,rr,nr,lr,tr,g9⟩
   have HR9:Hid (D4 w9 vr Kr∧(∀x∈Kr,x<B32)∧nv B32 Kr=nv B32 A % nv B32 D∧Kr.length≤(Mx.take km).length∧Trim Kr∧w8.grownBy w9 none):=⟨dr,rr,nr,lr,tr,g9⟩
   clear dr rr nr lr tr g9 HSD
   go_wp2_with fail
   go_ret2
   obtain⟨hkq,dq,nq,tq⟩:=HVQ.out
   obtain⟨hKl,hKr,hMl,hMr,hGw,hk1,hk2⟩:=HKM.out
   obtain⟨dr,rr,nr,lr,tr,g9⟩:=HR9.out
   refine⟨vq,vr,K.take kq,Kr,rfl,dq.kept g9,dr,fun x hx=>hKr x (List.mem_of_mem_take hx),rr,?_,tr,nq.trans hk1,nr,?_,?_,Za hGw g9⟩
   ·rcases tq with h|h
    ·left;rw [h];rfl
    ·right
     have e:(K.take kq).length=kq:=by rw [List.length_take];omega
     rw [e];exact h
   ·rw [List.length_take];have:=HQ.out;omega
   ·rw [List.length_take]at lr;omega
  |succ g =>
   obtain rfl:a=(g:Int):=by omega
   clear hag
   obtain⟨hgQ,hbK,hKl,hKr,hK0,hbM,hMl,hMr,hMv,hsum,hg⟩:=HI.out
   have hq:=HQ.out
   have hgR:(g:Int)+((n:Int)+2)≤p+1:=by omega
   have kA:=hbM.cell (g+(n+2)) (by rw [Zk];omega)
   have kB:=hbM.cell (g+(n+1)) (by rw [Zk];omega)
   rw [Z6]at kA kB
   have rA:Mx[g+(n+2)]?.getD 0<4294967296:=Zt hMr _
   have rB:Mx[g+(n+1)]?.getD 0<4294967296:=Zt hMr _
   have dV:=HDV.out.1.keptB hg HDV.out.2
   rcases dV with ⟨_,e⟩|⟨Bv,ov,cv',hve,hcv',hVc⟩
   ·have:=HV.out.2.2.2.1;rw [e]at this;simp at this
   obtain⟨e1,e2,e3⟩:=Value.slice.inj hve
   subst e1
   subst e3
   have kV:=hVc (n+1) (by have:=HV.out.2.2.2.1;omega)
   have rV:V[n+1]?.getD 0<4294967296:=Zt HV.out.2.1 _
   have hV0:=HV.out.2.2.2.2
   have hXX:=DlI.top HI.out HV.out.2.2.2.1 HV.out.2.1
   have hPl:((Mx.drop g).take (n+3)).length=n+3:=by rw [List.length_take,List.length_drop];omega
   have hPr:∀x∈(Mx.drop g).take (n+3),x<B32:=fun x hx=>hMr x (List.mem_of_mem_drop (List.mem_of_mem_take hx))
   have hPat:∀j,j<n+3→((Mx.drop g).take (n+3))[j]?.getD 0=Mx[g+j]?.getD 0:=fun j hj=>by rw [List.getElem?_take,if_pos hj,List.getElem?_drop]
   have HFI:Hid (nv B32 (Mx.drop g) / nv B32 V≤(Mx[g+(n+2)]?.getD 0*4294967296+Mx[g+(n+1)]?.getD 0) / V[n+1]?.getD 0):=(by
    obtain⟨hx,hXe⟩:=ZbD _ n hPr hPl
    rw [hPat n (by omega),hPat (n+1) (by omega),hPat (n+2) (by omega),←hXX.1]at hXe
    obtain⟨_,hVe⟩:=Zel V n HV.out.2.1 HV.out.2.2.2.1
    exact ZaY hx (Zt hMr _) hXe hVe (Nat.pow_pos (by decide)) (Nat.pos_of_ne_zero hV0))
   have HQB:Hid (nv B32 (Mx.drop g) / nv B32 V<4294967296):=(by
    refine Nat.div_lt_of_lt_mul ?_
    rw [Nat.mul_comm,hXX.1]
    exact hXX.2)
   have hVpos:0<nv B32 V:=Nat.lt_of_le_of_lt (Nat.zero_le _) hMv
   have HVP:Hid (0<nv B32 V):=hVpos
   have HWIN:Hid (nv B32 ((Mx.drop g).take (n+3))=nv B32 (Mx.drop g)):=hXX.1.symm
   clear hPl hPr hPat hXX hVpos
   generalize Mx[g+(n+2)]?.getD 0=u2 at *
   generalize Mx[g+(n+1)]?.getD 0=u1 at *
   generalize V[n+1]?.getD 0=v1 at *
   have b1:(u2:Int)≤4294967295:=by omega
   have b2:(u1:Int)≤4294967295:=by omega
   have b3:(v1:Int)≤4294967295:=by omega
   have b4:(1:Int)≤v1:=by omega
   have hvz:((v1:Int) == 0)=false:=by rw [beq_eq_false_iff_ne];omega
   have hw1:IntKind.u64.wrap (v1:Int)=(v1:Int):=by rw [IntKind.wrap_u64];omega
   have hw2:IntKind.u64.wrap (u2:Int)=(u2:Int):=by rw [IntKind.wrap_u64];omega
   have hw3:IntKind.u64.wrap (u1:Int)=(u1:Int):=by rw [IntKind.wrap_u64];omega
   obtain⟨W,hW⟩:∃W,u2*4294967296+u1=W:=⟨_,rfl⟩
   have HWW:Hid (u2*4294967296+u1=W):=hW
   have hw4:IntKind.u64.wrap ((u2:Int)*4294967296)=(u2:Int)*4294967296:=by rw [IntKind.wrap_u64];omega
   have hw5:IntKind.u64.wrap ((u2:Int)*4294967296+(u1:Int))=(W:Int):=by rw [IntKind.wrap_u64];omega
   have hWI:(u2:Int)*4294967296+u1=(W:Int):=by omega
   have hW9:(W:Int)≤18446744073709551615:=by omega
   have hi1:IntKind.i64.wrap ((g:Int)+((n:Int)+2))=(g:Int)+((n:Int)+2):=by rw [IntKind.wrap_i64];omega
   have hi2:IntKind.i64.wrap ((g:Int)+((n:Int)+2)-1)=(g:Int)+((n:Int)+2)-1:=by rw [IntKind.wrap_i64];omega
   obtain⟨T,hT⟩:∃T,W / v1=T:=⟨_,rfl⟩
   have HT:Hid (W / v1=T):=hT
   have hwq:IntKind.u64.wrap ((W:Int) / (v1:Int))=(T:Int):=by
    have e:(W:Int) / (v1:Int)=((W / v1:Nat):Int):=by simp
    have h1:W / v1≤W:=Nat.div_le_self W v1
    rw [e,hT]
    rw [hT]at h1
    rw [IntKind.wrap_u64]
    omega
   clear hgQ hbK hKl hKr hK0 hbM hMl hMr hMv hsum hg hve hVc e2 rA rB rV hV0 hq hW hT
   go_wp2_with fail
   go_region
   go_wp2_with fail
   obtain⟨q0,hq0⟩:∃q0,nv B32 (Mx.drop g) / nv B32 V=q0:=⟨_,rfl⟩
   have HQ0:Hid (nv B32 (Mx.drop g) / nv B32 V=q0):=hq0
   rw [hq0]at HFI HQB
   obtain⟨G0,hG0⟩:∃G0,min T 4294967295=G0:=⟨_,rfl⟩
   have hGI:min (T:Int) 4294967295=(G0:Int):=by omega
   have HG0:Hid (q0≤G0∧G0≤4294967295):=(by
    have h1:=HFI.out
    have h2:=HQB.out
    rw [HWW.out,HT.out]at h1
    omega:q0≤G0∧G0≤4294967295)
   rw [hGI,show g+(n+2)-1=g+(n+1)by omega,show n+2-1=n+1 by omega]
   clear hq0 hG0 hGI HFI hWI
   generalize wr=wo at *
   go_loopw [15] (fun s wy=>∃t:Nat,s=.int .u64 (t:Int)∧q0≤t∧t≤4294967295∧wo.grownBy wy none) (fun s _=>(RowKit.intOf s).toNat)
   case atStart=>exact⟨G0,rfl,HG0.out.1,HG0.out.2,Zf (World.grownBy.refl _ _)⟩
   case round =>
    obtain⟨t,rfl,hqt,ht9,hgy⟩:=hrel
    have htI:(t:Int)≤4294967295:=by omega
    have HGY:Hid (wo.grownBy wr none):=hgy
    have HTQ:Hid (q0≤t∧t≤4294967295):=⟨hqt,ht9⟩
    obtain⟨X,hX⟩:∃X,(Mx.drop g).take (n+2+1)=X:=⟨_,rfl⟩
    have HXV:Hid (nv B32 X=nv B32 (Mx.drop g)):=(by rw [←hX];exact HWIN.out:nv B32 X=nv B32 (Mx.drop g))
    have hIO:=HI.out
    have hFT:=ZeM wr w2.heap.size (p+2) g (n+2) t (.slice (some ⟨Bv,ov,none⟩) (n+2) cV) Mx V X hX (hIO.2.2.2.2.2.1.kept hgy (by simp)) hIO.2.2.2.2.2.2.2.1 hIO.2.2.2.2.2.2.1 (by have:=HQ.out;omega) ((HDV.out.1.keptB hIO.2.2.2.2.2.2.2.2.2.2 HDV.out.2).kept hgy) HV.out.2.1 HV.out.2.2.2.1 (by have:=HQ.out;have:=hIO.1;omega) ht9
    have HFT:Hid (Calls Tryz.prog 182 #[.slice (some ⟨w2.heap.size,0,none⟩) (p+2) (p+2),.slice (some ⟨Bv,ov,none⟩) (n+2) cV,.int .i64 (g:Int),.int .u64 (t:Int)] wr fun e w'=>e=.returned (.bool (decide (t*nv B32 V≤nv B32 X)))∧wr.grownBy w' none):=hFT
    clear hqt ht9 hgy hX hIO hFT
    by_cases hfit:t*nv B32 V≤nv B32 X
    ·rw [decide_eq_true hfit]at HFT
     have HTE:Hid (t=q0):=(by
      have h1:=HQ0.out
      have h2:=HTQ.out.1
      rw [HXV.out]at hfit
      have h3:t≤nv B32 (Mx.drop g) / nv B32 V:=(Nat.le_div_iff_mul_le HVP.out).2 hfit
      rw [h1]at h3
      exact Nat.le_antisymm h3 h2)
     have htw:IntKind.u32.wrap (t:Int)=(t:Int):=by rw [IntKind.wrap_u32];omega
     have htw2:(t:Int) % 4294967296=(t:Int):=by omega
     clear hfit
     go_wp2_with fail
     refine HFT.out.mono ?_
     rintro e w5 ⟨rfl,g5⟩
     have hIO:=HI.out
     have hG5:=Za HGY.out g5
     have hbK5:=hIO.2.1.kept hG5 (by simp)
     have hkc:=hbK5.cell g (by rw [Zk];have:=hIO.1;have:=hIO.2.2.1;omega)
     have hkf:=hbK5.frozen g
     have hgQI:(g:Int)<Q:=by have:=hIO.1;omega
     have HG5:Hid (wo.grownBy w5 none):=hG5
     clear hIO hG5 hbK5 g5 HFT
     go_wp2_with fail
     have hIO:=HI.out
     have hG45:w4.grownBy w5 (some w2.heap.size):=Za hIO.2.2.2.2.2.2.2.2.2.2 (Xk HG5.out)
     have hbK6:=(hIO.2.1.kept HG5.out (by simp)).set g (t:Int)
     rw [ZF]at hbK6
     have hbM6:=(hIO.2.2.2.2.2.1.kept HG5.out (by simp)).kept (Zc w5 w4.heap.size g (.int .u32 (t:Int))) (by intro e;injection e with e;have:=HG4.out.2.1;omega)
     have hg6:w4.grownBy (w5.setCell ⟨w4.heap.size,g,none⟩ (.int .u32 (t:Int))) (some w2.heap.size):=Zes hG45 (.inr ⟨w4.heap.size,rfl,Nat.le_refl _⟩) (Zc _ _ _ _)
     have HB6:Hid (BlkL (w5.setCell ⟨w4.heap.size,g,none⟩ (.int .u32 (t:Int))) w4.heap.size 145 enc4 (ints (K.set g t))∧BlkL (w5.setCell ⟨w4.heap.size,g,none⟩ (.int .u32 (t:Int))) w2.heap.size 145 enc4 (ints Mx)∧w4.grownBy (w5.setCell ⟨w4.heap.size,g,none⟩ (.int .u32 (t:Int))) (some w2.heap.size)):=⟨hbK6,hbM6,hg6⟩
     clear hIO hG45 hbK6 hbM6 hg6 hkc hkf HG5 HGY kA kB kV hw1 hw2 hw3 hw4 hw5 hwq hvz htw htw2 hi1 hi2
     obtain⟨w6,hw6⟩:∃w6,w5.setCell ⟨w4.heap.size,g,none⟩ (.int .u32 (t:Int))=w6:=⟨_,rfl⟩
     rw [hw6]at HB6 ⊢
     clear hw6
     go_loopw [16,17,18] (fun s16 s17 s18 wz=>∃(bo c k:Nat) (U:List Nat),s16=.int .u64 (bo:Int)∧s17=.int .u64 (c:Int)∧s18=.int .i64 (k:Int)∧bo≤1∧c≤4294967295∧k≤n+3∧BlkL wz w4.heap.size 145 enc4 (ints (K.set g t))∧BlkL wz w2.heap.size 145 enc4 (ints U)∧U.length=p+2∧(∀x∈U,x<B32)∧(∀j,j<g∨g+k≤j→U[j]?.getD 0=Mx[j]?.getD 0) ∧
      nv B32 U+t*nv B32 (V.take k)*B32 ^ g=nv B32 Mx+(c+bo)*B32 ^ (g+k)∧w4.grownBy wz (some w2.heap.size)) (fun _ _ s18 _=>n+3-(RowKit.intOf s18).toNat)
     case atStart=>exact⟨0,0,0,Mx,rfl,rfl,rfl,by omega,by omega,by omega,HB6.out.1,HB6.out.2.1,HI.out.2.2.2.2.2.2.1,HI.out.2.2.2.2.2.2.2.1,fun _ _=>rfl,by simp [nv],HB6.out.2.2⟩
     case round =>
      obtain⟨bo,c,k,U,rfl,rfl,rfl,hbo,hc,hk,hbK,hbU,hUl,hUr,hUa,hv,hg⟩:=hrel
      have HBK:Hid (BlkL wr w4.heap.size 145 enc4 (ints (K.set g t))):=hbK
      have HBU:Hid (BlkL wr w2.heap.size 145 enc4 (ints U)):=hbU
      have HUL:Hid (U.length=p+2):=hUl
      have HUR:Hid (∀x∈U,x<B32):=hUr
      have HUA:Hid (∀j,j<g∨g+k≤j→U[j]?.getD 0=Mx[j]?.getD 0):=hUa
      have HVV:Hid (nv B32 U+t*nv B32 (V.take k)*B32 ^ g=nv B32 Mx+(c+bo)*B32 ^ (g+k)):=hv
      have HG:Hid (w4.grownBy wr (some w2.heap.size)):=hg
      by_cases hk1:k<n+3
      ·have aV:=ZbM wr (.slice (some ⟨Bv,ov,none⟩) (n+2) cV) V (HDV.out.1.keptB hg HDV.out.2) HV.out.2.1 (by have:=HV.out.2.2.2.1;omega) k (by omega)
       have hzl:k+g<U.length:=by rw [hUl];omega
       have hz:=hbU.cell (k+g) (by rw [Zk];exact hzl)
       rw [Z6]at hz
       have hzf:=hbU.frozen (k+g)
       have rY:V[k]?.getD 0<B32:=Zt HV.out.2.1 k
       have rZ:U[k+g]?.getD 0<B32:=Zt hUr (k+g)
       have HSY:Hid (nv B32 (V.take (k+1))=nv B32 (V.take k)+V[k]?.getD 0*B32 ^ k):=Zp B32 V k
       have HST:Hid (∀d,nv B32 (U.set (k+g) d)+U[k+g]?.getD 0*B32 ^ (k+g)=nv B32 U+d*B32 ^ (k+g)):=fun d=>Ym B32 U (k+g) d hzl
       clear hbK hbU hUl hUr hUa hv hg hzl
       generalize V[k]?.getD 0=y at *
       generalize U[k+g]?.getD 0=z at *
       have hyN:y≤4294967295:=by have:y<4294967296:=rY;omega
       have hzN:z≤4294967295:=by have:z<4294967296:=rZ;omega
       obtain⟨r,hr⟩:∃r,(c+t*y) % 4294967296=r:=⟨_,rfl⟩
       obtain⟨xd,hxd⟩:∃xd,4294967296+z-r-bo=xd:=⟨_,rfl⟩
       obtain⟨q1,q2,q3,q4,q5⟩:=Zec hc hbo hyN (by omega) hzN hr hxd
       obtain⟨pr,hpr⟩:∃pr,t*y=pr:=⟨_,rfl⟩
       have HPR:Hid (y*t=pr):=(by rw [Nat.mul_comm];exact hpr:y*t=pr)
       have hpI:(t:Int)*(y:Int)=(pr:Int):=by rw [←hpr];simp
       rw [Nat.mul_comm y t,hpr]at q3
       rw [hpr]at hr q1 q5
       obtain⟨S,hS⟩:∃S,c+pr=S:=⟨_,rfl⟩
       rw [hS]at hr q1 q5 q3
       obtain⟨C1,hC1⟩:∃C1,S / 4294967296=C1:=⟨_,rfl⟩
       obtain⟨d,hd⟩:∃d,xd % 4294967296=d:=⟨_,rfl⟩
       obtain⟨e1,he1⟩:∃e1,xd / 4294967296=e1:=⟨_,rfl⟩
       obtain⟨b1',hb1'⟩:∃b1',1-e1=b1':=⟨_,rfl⟩
       rw [hC1]at q1 q3
       rw [he1,hb1']at q2 q3
       rw [hd]at q3
       have Q3:Hid (d+(c+bo+pr)=z+4294967296*(C1+b1')∧d<B32∧b1'≤1∧C1≤4294967295):=⟨q3,by rw [←hd];exact Nat.mod_lt _ (by decide),q2,q1⟩
       have hw1:IntKind.u64.wrap ((t:Int)*(y:Int))=(pr:Int):=by rw [hpI,IntKind.wrap_u64];omega
       have hw2:IntKind.u64.wrap ((c:Int)+(pr:Int))=(S:Int):=by rw [IntKind.wrap_u64];omega
       have hw3:IntKind.u64.wrap (z:Int)=(z:Int):=by rw [IntKind.wrap_u64];omega
       have hw4:IntKind.u64.wrap (4294967296+(z:Int))=4294967296+(z:Int):=by rw [IntKind.wrap_u64];omega
       have hri:(S:Int) % 4294967296=(r:Int):=by omega
       have hw5:IntKind.u64.wrap (4294967296+(z:Int)-(r:Int))=4294967296+(z:Int)-(r:Int):=by rw [IntKind.wrap_u64];omega
       have hw6:IntKind.u64.wrap (4294967296+(z:Int)-(r:Int)-(bo:Int))=(xd:Int):=by rw [IntKind.wrap_u64];omega
       have hCi:(S:Int) / 4294967296=(C1:Int):=by omega
       have hw7:IntKind.u64.wrap (C1:Int)=(C1:Int):=by rw [IntKind.wrap_u64];omega
       have hdi:(xd:Int) % 4294967296=(d:Int):=by omega
       have hd9:(d:Int)≤4294967295:=by omega
       have hw8:IntKind.u32.wrap (d:Int)=(d:Int):=by rw [IntKind.wrap_u32];omega
       have hei:(xd:Int) / 4294967296=(e1:Int):=by omega
       have hw9:IntKind.u64.wrap (1-(e1:Int))=(b1':Int):=by rw [IntKind.wrap_u64];omega
       have hw10:IntKind.u64.wrap (e1:Int)=(e1:Int):=by rw [IntKind.wrap_u64];omega
       have hkI:(k:Int)≤(n:Int)+2:=by omega
       have hgk:(k:Int)+(g:Int)≤(p:Int)+1:=by omega
       have HAV:Hid (Calls Tryz.prog 152 #[.slice (some ⟨Bv,ov,none⟩) (n+2) cV,.int .i64 (k:Int)] wr fun e w'=>e=.returned (.int .u64 (y:Int))∧w'=wr):=aV
       clear aV rY rZ hr hxd q1 q2 q3 q4 q5 hpr hS hC1 hd he1 hb1' hyN hzN hc hbo hpI hk
       go_wp2_with fail
       refine HAV.out.mono ?_
       rintro e wr' ⟨rfl,hwr⟩
       subst hwr
       go_wp2_with fail
       go_roundw
       case rel =>
        obtain⟨f1,f2,f3,f4⟩:=Q3.out
        refine⟨b1',C1,k+1,U.set (k+g) d,rfl,rfl,rfl,f3,f4,by omega,?_,?_,by rw [List.length_set];exact HUL.out,ZM HUR.out f2,fun j hj=>?_,?_,Za HG.out (Zc _ _ _ _)⟩
        ·exact HBK.out.kept (Zc _ _ _ _) (by intro e;injection e with e;have:=HG4.out.2.1;omega)
        ·have e:=HBU.out.set (k+g) (d:Int)
         rw [ZF]at e
         exact e
        ·rw [List.getElem?_set_ne (by omega)]
         exact HUA.out j (by omega)
        ·rw [HSY.out,ZdQ,show g+(k+1)=g+k+1 by omega,Nat.pow_succ]
         have hst:=HST.out d
         rw [Nat.add_comm k g]at hst
         have:=ZcX (y:=y) (t:=t) (o:=c+bo) (o':=C1+b1') HVV.out hst (by rw [HPR.out];exact f1)
         rw [Nat.add_comm k g]
         exact this
       case measure=>simp [RowKit.intOf];omega
      ·have hkI:(n:Int)+3≤(k:Int):=by omega
       have HKE:Hid (k=n+3):=(by omega:k=n+3)
       have HN:Hid (DlI w4 w2.heap.size Q (p+2) M V g wr (K.set g t) U):=(by
        have hke:=HKE.out
        subst hke
        have hv':=HVV.out
        rw [Zr B32 V (n+3) (by rw [HV.out.2.2.2.1];omega)]at hv'
        exact DlI.next HI.out HVP.out HV.out.2.2.2.1 HV.out.2.1 (by rw [HQ0.out];exact HTE.out) HTQ.out.2 hbK hbU hUl hUr hUa (c+bo) hv' hg)
       clear hbK hbU hUl hUr hUa hv hg HBK HBU HUL HUR HUA HVV HG hk1 hbo hc hk
       go_wp2_with fail
       go_roundw
       case rel=>exact⟨(g:Int)-1,g,K.set g t,U,rfl,by omega,HN.out⟩
       case measure=>simp [RowKit.intOf]
    ·rw [decide_eq_false hfit]at HFT
     have HTL:Hid (q0<t):=(by
      have h1:=HQ0.out
      rw [HXV.out]at hfit
      rw [←h1]
      refine Nat.div_lt_of_lt_mul ?_
      rw [Nat.mul_comm]
      omega)
     have ht1:(1:Int)≤t:=by have:=HTL.out;omega
     have htw:IntKind.u64.wrap ((t:Int)-1)=(t:Int)-1:=by rw [IntKind.wrap_u64];omega
     clear hfit
     go_wp2_with fail
     refine HFT.out.mono ?_
     rintro e w5 ⟨rfl,g5⟩
     have HG5:Hid (wo.grownBy w5 none):=Za HGY.out g5
     clear g5 HFT
     go_wp2_with fail
     go_roundw
     case rel =>
      have h1:=HTL.out
      have h2:=HTQ.out
      exact⟨t-1,Zl (by omega),by omega,by omega,HG5.out⟩
     case measure=>simp [RowKit.intOf];omega
theorem Zah (w:World) (va vb:Value) (A D:List Nat) (hA:D4 w va A) (hB:D4 w vb D) (ra:∀x∈A,x<B32) (rb:∀x∈D,x<B32) (tA:Trim A) (tB:Trim D) (la:A.length≤100000) (lb:D.length≤100000) (hlt:nv B32 A<nv B32 D) :
    Calls Tryz.prog 164 #[va,vb] w (DvM w (nv B32 A) (nv B32 D) (A.length+2)):=by
 have hC:=Xu w va vb A D hA hB ra rb tA tB (by omega) (by omega)
 rw [show cmpN (nv B32 A) (nv B32 D)=-1 by unfold cmpN;rw [if_pos hlt]]at hC
 have HC:Hid (Calls Tryz.prog 179 #[va,vb] w fun e w'=>e=.returned (.int .i64 (-1))∧w.grownBy w' none):=hC
 have HA:Hid (D4 w va A):=hA
 have HQ:Unit→nv B32 A / nv B32 D=0∧nv B32 A % nv B32 D=nv B32 A:=fun _=>⟨Nat.div_eq_of_lt hlt,Nat.mod_eq_of_lt hlt⟩
 obtain⟨aa,ca,rfl⟩:=hA.slice
 obtain⟨ab,cb,rfl⟩:=hB.slice
 have HF:Hid ((∀x∈A,x<B32)∧Trim A):=⟨ra,tA⟩
 clear hC hA hB ra rb tA tB hlt
 go_enter Tryz.func164,Tryz.ntmps164
 go_wp2_with fail
 refine HC.out.mono ?_
 rintro e w1 ⟨rfl,g1⟩
 have HG1:Hid (w.grownBy w1 none):=g1
 clear g1 HC
 go_wp2_with fail
 go_ret2
 obtain⟨q1,q2⟩:=HQ ()
 exact⟨_,_,[],A,rfl,.inl ⟨rfl,rfl⟩,HA.out.kept HG1.out,by simp,HF.out.1,.inl rfl,HF.out.2,by rw [q1];rfl,q2.symm,by simp,by omega,HG1.out⟩
theorem ZaV (w:World) (va:Value) (A:List Nat) (d:Nat) (Bd od cd:Nat) (hA:D4 w va A) (hB:D4 w (.slice (some ⟨Bd,od,none⟩) 1 cd) [d]) (ra:∀x∈A,x<B32) (hd:d<B32) (hd0:0<d) (tA:Trim A) (la:A.length≤100000) (_hcd:1≤cd) (hle:d≤nv B32 A) :
    Calls Tryz.prog 164 #[va,.slice (some ⟨Bd,od,none⟩) 1 cd] w (DvM w (nv B32 A) d (A.length+2)):=by
 have hnd:nv B32 [d]=d:=by simp [nv]
 have hC:=Xu w va _ A [d] hA hB ra (by intro x hx;simp at hx;subst hx;exact hd) tA (.inr (by simp;omega)) (by omega) (by simp)
 obtain⟨cv,hcv⟩:∃cv,cmpN (nv B32 A) (nv B32 [d])=cv:=⟨_,rfl⟩
 have hcv0:0≤cv:=by rw [←hcv,hnd];unfold cmpN;repeat' split;all_goals omega
 have hcvb:decide (cv<0)=false:=decide_eq_false (by omega)
 rw [hcv]at hC
 have HC:Hid (Calls Tryz.prog 179 #[va,.slice (some ⟨Bd,od,none⟩) 1 cd] w fun e w'=>e=.returned (.int .i64 cv)∧w.grownBy w' none):=hC
 have HA:Hid (D4 w va A):=hA
 have hc:=hB.cell0
 have HCD:Hid (w.cell? ⟨Bd,od,none⟩=some (.int .u32 (d:Int))):=hc
 obtain⟨aa,ca,rfl⟩:=hA.slice
 have HF:Hid ((∀x∈A,x<B32)∧Trim A∧A.length≤100000):=⟨ra,tA,la⟩
 have HD:Hid (d<B32∧0<d):=⟨hd,hd0⟩
 have hd9:(d:Int)≤4294967295:=by have:d<4294967296:=hd;omega
 have hwd:IntKind.u64.wrap (d:Int)=(d:Int):=by rw [IntKind.wrap_u64];omega
 clear hC hA hB ra tA la hc hd hd0 hle hnd hcv
 go_enter Tryz.func164,Tryz.ntmps164
 go_wp2_with fail
 refine HC.out.mono ?_
 rintro e w1 ⟨rfl,g1⟩
 have hcd1:=Zd g1 HCD.out (by simp)
 obtain⟨r,hr⟩:∃r,nv B32 A % d=r:=⟨_,rfl⟩
 have hS:=Jl w1 _ A d (HA.out.kept g1) HF.out.1 (by have:=HF.out.2.2;omega) HD.out.2 HD.out.1
 rw [hr]at hS
 have HS:Hid (Calls Tryz.prog 112 #[.slice aa A.length ca,.int .u64 (d:Int)] w1 fun e w'=>∃v K,e=.returned (.tuple #[v,.int .u64 (r:Int)])∧D4 w' v K∧(∀x∈K,x<B32)∧nv B32 K=nv B32 A / d∧K.length≤A.length∧Trim K∧(∃g,v.ownBlock=some g∧w1.heap.size≤g∧g<w'.heap.size)∧w1.grownBy w' none):=hS
 have HG1:Hid (w.grownBy w1 none):=g1
 have HRR:Hid (nv B32 A % d=r∧r<B32):=⟨hr,by have h2:=Nat.mod_lt (nv B32 A) HD.out.2;have h3:=HD.out.1;omega⟩
 have hr9:(r:Int)≤4294967295:=by have h:r<4294967296:=HRR.out.2;omega
 have hwr:IntKind.u32.wrap (r:Int)=(r:Int):=by rw [IntKind.wrap_u32];omega
 clear g1 HC hS hr
 go_wp2_with fail
 refine HS.out.mono ?_
 rintro e w2 ⟨vq,K,rfl,dq,rq,nq,lq,tq,_,g2⟩
 have HQ:Hid (D4 w2 vq K∧(∀x∈K,x<B32)∧nv B32 K=nv B32 A / d∧K.length≤A.length∧Trim K∧w.grownBy w2 none):=⟨dq,rq,nq,lq,tq,Za HG1.out g2⟩
 have hb:BlkL (w2.alloc (.cells #[.int .u32 (r:Int)] 145)) w2.heap.size 145 enc4 (ints [r]):=heap_alloc_new _ _
 have hT:=Z2 _ _ [r] hb.d4 (by intro x hx;simp at hx;subst hx;exact HRR.out.2) (by simp)
 have HT:Hid (Calls Tryz.prog 130 #[.slice (some ⟨w2.heap.size,0,none⟩) 1 1] (w2.alloc (.cells #[.int .u32 (r:Int)] 145)) fun e w'=>∃v' k,e=.returned v'∧k≤[r].length∧D4 (w2.alloc (.cells #[.int .u32 (r:Int)] 145)) v' ([r].take k)∧nv B32 ([r].take k)=nv B32 [r]∧(k=0∨([r].take k)[k-1]?.getD 0≠0)∧w'=w2.alloc (.cells #[.int .u32 (r:Int)] 145)):=hT
 clear dq rq nq lq tq g2 hb hT HS
 go_wp2_with fail
 refine HT.out.mono ?_
 rintro e w3 ⟨vr,k,rfl,hk,dr,nr,tr,hw3⟩
 subst hw3
 have HR:Hid (k≤[r].length∧D4 (w2.alloc (.cells #[.int .u32 (r:Int)] 145)) vr ([r].take k)∧nv B32 ([r].take k)=nv B32 [r]∧(k=0∨([r].take k)[k-1]?.getD 0≠0)):=⟨hk,dr,nr,tr⟩
 clear hk dr nr tr HT
 go_wp2_with fail
 go_ret2
 obtain⟨dq,rq,nq,lq,tq,gq⟩:=HQ.out
 obtain⟨hk,dr,nr,tr⟩:=HR.out
 have gw:w.grownBy (w2.alloc (.cells #[.int .u32 (r:Int)] 145)) none:=Za gq (grow1 _ _)
 refine⟨vq,vr,K,[r].take k,rfl,dq.kept (grow1 _ _),dr,rq,fun x hx=>?_,tq,?_,nq,?_,by omega,?_,gw⟩
 ·have:=List.mem_of_mem_take hx
  simp at this
  subst this
  exact HRR.out.2
 ·rcases tr with h|h
  ·left;rw [h];rfl
  ·right
   have e:([r].take k).length=k:=by rw [List.length_take];omega
   rw [e];exact h
 ·rw [nr,HRR.out.1];simp [nv]
 ·rw [List.length_take];simp;omega
theorem Zau (w:World) (va vb:Value) (A D:List Nat) (hA:D4 w va A) (hB:D4 w vb D) (ra:∀x∈A,x<B32) (rb:∀x∈D,x<B32) (tA:Trim A) (tB:Trim D) (la:A.length≤100000) (lb:D.length≤100000) (h0:D.length≠0) :
    Calls Tryz.prog 164 #[va,vb] w (DvM w (nv B32 A) (nv B32 D) (A.length+2)):=by
 rcases Nat.lt_or_ge (nv B32 A) (nv B32 D)with h|h
 ·exact Zah w va vb A D hA hB ra rb tA tB la lb h
 ·by_cases h1:D.length=1
  ·obtain⟨d,rfl⟩:∃d,D=[d]:=by
     match D,h1 with
     |[d],_=>exact⟨d,rfl⟩
   have hd:nv B32 [d]=d:=by simp [nv]
   have hdr:d<B32:=rb d (by simp)
   have hd0:0<d:=by
    rcases tB with h2|h2
    ·simp at h2
    ·simp at h2;omega
   rcases hB with ⟨_,e⟩|⟨Bd,od,cd,rfl,hcd,hDc⟩
   ·simp at e
   rw [hd]at h ⊢
   exact ZaV w va A d Bd od cd hA (.inr ⟨Bd,od,cd,rfl,hcd,hDc⟩) ra hdr hd0 tA la (by simpa using hcd) h
  ·exact Zaf w va vb A D (D.length-2) hA hB ra rb tA tB la (by omega) h
end Go.Proofs.YtdcadiaeaclpgaaGreatDoor
