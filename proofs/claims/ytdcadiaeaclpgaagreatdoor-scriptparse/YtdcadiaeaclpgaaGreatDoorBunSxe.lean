/- What is read of a line is a statement that may be, and the line is its. Pure. -/
import Derived.Test.YtdcadiaeaclpgaaGreatDoorBunSxa
namespace Go.Proofs.YtdcadiaeaclpgaaGreatDoor
open Go Go.RowKit Go.Lib Go.Sort
set_option linter.unusedVariables false
set_option linter.unusedSimpArgs false
theorem Zbu:∀(D:List UInt8) (acc u:Nat),Lib.parseUint10 acc D=.ok u→(∀b∈D,dgU b)∧u=acc*10 ^ D.length+dec (D.map UInt8.toNat)
 |[],acc,u,h=>by
  simp only [Lib.parseUint10]at h
  injection h with h
  exact⟨fun b hb=>by simp at hb,by simp [dec,h]⟩
 |c::r,acc,u,h=>by
  unfold Lib.parseUint10 at h
  split at h
  ·rename_i hc
   split at h
   ·cases h
   ·split at h
    ·cases h
    ·obtain⟨h1,h2⟩:=Zbu r _ u h
     refine⟨fun b hb=>?_,?_⟩
     ·rcases List.mem_cons.1 hb with rfl|hb
      ·exact hc
      ·exact h1 b hb
     ·rw [h2]
      have h3:=Y6 (r.map UInt8.toNat) (c.toNat-48)
      have h4:dec (c.toNat::r.map UInt8.toNat)=(r.map UInt8.toNat).foldl (fun n b=>n*10+(b-48)) (c.toNat-48):=by simp [dec]
      rw [List.map_cons,h4,h3,List.length_map,List.length_cons,Nat.pow_succ,Nat.add_mul]
      have:acc*(10 ^ r.length*10)=acc*10*10 ^ r.length:=by rw [Nat.mul_comm (10 ^ r.length) 10,Nat.mul_assoc]
      omega
  ·cases h
theorem Zfm {s:ByteArray} {i lo hi:Nat} (h:nxt s i lo hi=true):∃b,(bN s)[i]?=some b∧lo≤b∧b≤hi:=by
 unfold nxt at h
 split at h
 ·rename_i b hb
  exact⟨b,hb,by simpa using h⟩
 ·cases h
theorem U0 {L:List UInt8} {i lo hi:Nat} (h:nxt (bA L) i lo hi=true):∃b:UInt8,L[i]?=some b∧lo≤b.toNat∧b.toNat≤hi:=by
 obtain⟨b,h1,h2⟩:=Zfm h
 rw [bN_bA,List.getElem?_map]at h1
 cases hL:L[i]? with
 |none=>rw [hL]at h1;cases h1
 |some c =>
  rw [hL]at h1
  simp only [Option.map_some,Option.some.injEq]at h1
  subst h1
  exact⟨c,rfl,h2⟩
theorem Zdi {L:List UInt8} {k:Nat} (h:numE (bA L)=some k):L.take k=[48]∨(∃c r,L.take k=c::r∧49≤c.toNat∧c.toNat≤57)∨∃c r,L.take k=45::c::r∧49≤c.toNat∧c.toNat≤57:=by
 unfold numE at h
 split at h
 ·rename_i h45
  obtain⟨b,hb,h1,h2⟩:=U0 h45
  have hb45:b=45:=by
   apply UInt8.toNat_inj.1
   have:(45:UInt8).toNat=45:=by decide
   omega
  subst hb45
  have hk:=Zbm h
  unfold stD at h
  split at h
  ·rename_i hn
   obtain⟨c,hc,h3⟩:=U0 hn
   refine .inr (.inr ?_)
   match L,hb,hc with
   |x::y::r,hb,hc =>
    simp at hb hc
    subst hb hc
    obtain⟨m,rfl⟩:∃m,k=m+2:=⟨k-2,by omega⟩
    exact⟨y,r.take m,by simp,h3⟩
  ·cases h
 ·split at h
  ·rename_i _ h48
   injection h with h
   subst h
   obtain⟨b,hb,h1,h2⟩:=U0 h48
   have hb48:b=48:=by
    apply UInt8.toNat_inj.1
    have:(48:UInt8).toNat=48:=by decide
    omega
   subst hb48
   match L,hb with
   |x::r,hb =>
    simp at hb
    subst hb
    exact .inl (by simp)
  ·have hk:=Zbm h
   unfold stD at h
   split at h
   ·rename_i hn
    obtain⟨c,hc,h3⟩:=U0 hn
    refine .inr (.inl ?_)
    match L,hc with
    |x::r,hc =>
     simp at hc
     subst hc
     obtain⟨m,rfl⟩:∃m,k=m+1:=⟨k-1,by omega⟩
     exact⟨x,r.take m,by simp,h3⟩
   ·cases h
theorem Zef {s:ByteArray} {D:List UInt8} (hD:NumZ D) (hs:bN s=D.map UInt8.toNat):plain s:=by
 refine⟨?_,?_,?_⟩
 ·intro b hb
  rw [hs]at hb
  obtain⟨c,hc,rfl⟩:=List.mem_map.1 hb
  exact hD.all c hc
 ·rw [←Ze,hs,List.length_map]
  intro h
  exact hD.ne (List.length_eq_zero_iff.1 h)
 ·refine .inr ?_
  rw [hs]
  cases D with
  |nil=>exact absurd rfl hD.ne
  |cons c r=>simpa using hD.hd c rfl
theorem Zd0 {D:List UInt8} (hD:NumZ D):TextOf (dec (D.map UInt8.toNat)) (bA D):=by
 have hb:=bN_bA D
 have hh:¬(bN (bA D)).head?=some 45:=by
  rw [hb]
  cases D with
  |nil=>exact absurd rfl hD.ne
  |cons c r =>
   have:=hD.all c (by simp)
   unfold dgU at this
   simp
   omega
 have hbare:bare (bA D)=bA D:=by
  unfold bare
  rw [if_neg hh]
 refine⟨⟨by rw [hbare];exact Zef hD hb,fun h=>hh (by rw [h];rfl)⟩,?_⟩
 unfold textZ
 rw [if_neg hh,hbare,hb]
theorem Zeq {D:List UInt8} (hD:NumZ D):TextOf (-(dec (D.map UInt8.toNat):Int)) (bA (45::D)):=by
 have hb:=bN_bA (45::D)
 have hh:(bN (bA (45::D))).head?=some 45:=by
  rw [hb]
  rfl
 have hbb:bN (bare (bA (45::D)))=D.map UInt8.toNat:=by
  rw [YF hh,hb]
  rfl
 refine⟨⟨Zef hD hbb,?_⟩,?_⟩
 ·rw [hb]
  intro h
  cases D with
  |nil=>exact absurd rfl hD.ne
  |cons c r =>
   simp at h
   exact hD.hd c rfl h.1
 ·unfold textZ
  rw [if_pos hh,hbb]
theorem ZdH {v:Int} {T:List UInt8} (h:TextOf v (bA T)):T=Lib.itoa v:=by
 have h1:=h.one (Xr v)
 have h2:=congrArg (·.data.toList) h1
 simpa [bA,itB]using h2
theorem Vz {D:List UInt8} {u:Nat} (h:Lib.parseMag D=.ok u):D≠[]∧(∀b∈D,dgU b)∧u=dec (D.map UInt8.toNat):=by
 unfold Lib.parseMag at h
 split at h
 ·cases h
 ·rename_i h0
  obtain⟨h1,h2⟩:=Zbu D 0 u h
  exact⟨h0,h1,by simpa using h2⟩
theorem JE {L r:List UInt8} {v:Int} (h:smlU L=some (v,r)):L=Lib.itoa v++r:=by
 unfold smlU at h
 cases hk:numE (bA L)with
 |none=>rw [hk]at h;cases h
 |some k =>
  rw [hk]at h
  dsimp only at h
  split at h
  ·rename_i v' ha
   simp only [Option.some.injEq,Prod.mk.injEq]at h
   obtain⟨rfl,rfl⟩:=h
   have key:L.take k=Lib.itoa v':=by
    rcases Zdi hk with e|⟨c,t,e,h1,h2⟩|⟨c,t,e,h1,h2⟩
    ·rw [e]at ha ⊢
     have:Lib.atoiAll [48]=.ok 0:=rfl
     rw [this]at ha
     injection ha with ha
     subst ha
     rcases ZT 0 with ⟨_,e⟩|⟨_,_,h,_⟩|⟨_,_,h,_⟩
     ·exact e.symm
     ·omega
     ·omega
    ·rw [e]at ha ⊢
     unfold Lib.atoiAll at ha
     dsimp only at ha
     rw [if_neg (by omega)]at ha
     rcases hp:Lib.parseMag (c::t)with u|_|_
     rotate_left
     ·rw [hp]at ha
      cases ha
     ·rw [hp]at ha
      cases ha
     ·rw [hp]at ha
      dsimp only at ha
      obtain⟨_,hd,rfl⟩:=Vz hp
      split at ha
      ·cases ha
      ·split at ha
       ·cases ha
       ·rw [if_neg (by omega)]at ha
        injection ha with ha
        subst ha
        exact ZdH (Zd0 ⟨by simp,hd,fun b hb=>by
         obtain rfl:=Option.some.inj hb
         omega⟩)
    ·rw [e]at ha ⊢
     unfold Lib.atoiAll at ha
     have e45:(45:UInt8).toNat=45:=by decide
     dsimp only at ha
     rw [e45,if_pos (by decide)]at ha
     rcases hp:Lib.parseMag (c::t)with u|_|_
     rotate_left
     ·rw [hp]at ha
      cases ha
     ·rw [hp]at ha
      cases ha
     ·rw [hp]at ha
      dsimp only at ha
      obtain⟨_,hd,rfl⟩:=Vz hp
      split at ha
      ·cases ha
      ·split at ha
       ·cases ha
       ·rw [if_pos rfl]at ha
        injection ha with ha
        subst ha
        exact ZdH (Zeq ⟨by simp,hd,fun b hb=>by
         obtain rfl:=Option.some.inj hb
         omega⟩)
   rw [←key,List.take_append_drop]
  ·cases h
theorem Zak {s:ByteArray} {x:Fq} (h:rdF s=some x):mayQ x.n x.p x.d x.q=true∧qT x.n x.p x.d x.q=s:=by
 by_cases hx:∃y:Fq,FrRes s y.n y.p y.d y.q 0
 ·obtain⟨⟨n,p,d,q⟩,hq⟩:=hx
  rw [VQ hq]at h
  obtain rfl:=Option.some.inj h
  rcases hq with ⟨_,x,y,h1,h2⟩|⟨h1,_⟩
  ·refine⟨h1.may,qT_is ?_⟩
   have e1:=h1.zn
   have e2:=h1.zd
   have h3:=YW h1.may
   rw [h1.zn.num,h1.zd.num]
   exact h2
  ·cases h1
 ·exfalso
  unfold rdF at h
  rw [dif_neg hx]at h
  cases h
theorem ZbE {L r:List UInt8} {x:Fq} (h:frU L=some (x,r)):mayQ x.n x.p x.d x.q=true∧L=(qT x.n x.p x.d x.q).data.toList++r:=by
 unfold frU at h
 cases hk:numE (bA L)with
 |none=>rw [hk]at h;cases h
 |some k =>
  rw [hk]at h
  dsimp only at h
  cases hx:rdF (bA (L.take k))with
  |none=>rw [hx]at h;cases h
  |some y =>
   rw [hx]at h
   simp only [Option.some.injEq,Prod.mk.injEq]at h
   obtain⟨rfl,rfl⟩:=h
   obtain⟨h1,h2⟩:=Zak hx
   refine⟨h1,?_⟩
   rw [h2,ZD,List.take_append_drop]
theorem Za9 {L r:List UInt8} {m:UInt8} (h:bhU L m=some r):L=m::r:=by
 unfold bhU at h
 split at h
 ·rename_i h0
  obtain rfl:=Option.some.inj h
  cases L with
  |nil=>cases h0
  |cons b l =>
   simp at h0
   subst h0
   rfl
 ·cases h
theorem Ze2 {L:List UInt8} {z:Gz} (h:gzU L=some z):mayZ z=true∧L=(qT z.a z.b z.c z.d).data.toList++(44::((qT z.e z.f z.g z.h).data.toList++[41])):=by
 unfold gzU at h
 split at h
 ·cases h
 ·rename_i x r h1
  split at h
  ·cases h
  ·rename_i r1 h2
   split at h
   ·cases h
   ·rename_i y r2 h3
    split at h
    ·rename_i h4
     obtain rfl:=Option.some.inj h
     obtain⟨m1,e1⟩:=ZbE h1
     obtain⟨m2,e2⟩:=ZbE h3
     refine⟨?_,?_⟩
     ·unfold mayZ
      rw [m1,m2]
      rfl
     ·rw [e1,Za9 h2,e2,h4]
    ·cases h
theorem ZbZ:∀(f:Nat) (L:List UInt8) (W V:List Int),wdU f L W=some V→∃k M,V=W++k::M∧L=jn 46 ((k::M).map Lib.itoa)++[93]∧(∀x∈k::M,isLt x=true)∧V.length≤4096
 |0,L,W,V,h=>by cases h
 |f+1,L,W,V,h=>by
  rw [wdU]at h
  split at h
  ·cases h
  ·rename_i k r h1
   have e1:=JE h1
   split at h
   ·rename_i h2
    split at h
    ·rename_i h3
     obtain rfl:=Option.some.inj h
     refine⟨k,[],rfl,?_,?_,?_⟩
     ·rw [e1,h3]
      rfl
     ·intro x hx
      obtain rfl:=List.mem_singleton.1 hx
      exact h2.1
     ·simp
      omega
    ·split at h
     ·rename_i r' h4
      obtain⟨k2,M,e2,e3,h5,h6⟩:=ZbZ f r' _ V h
      refine⟨k,k2::M,?_,?_,?_,h6⟩
      ·rw [e2]
       simp
      ·rw [e1,Za9 h4,e3]
       simp [jn]
      ·intro x hx
       rcases List.mem_cons.1 hx with rfl|hx
       ·exact h2.1
       ·exact h5 x hx
     ·cases h
   ·cases h
theorem ZcL {L:List UInt8} {W:List Int} (h:wordU L=some W):isWd W=true∧L=(ltB W).data.toList++[93]:=by
 have e:∀W,(ltB W).data.toList=jn 46 (W.map Lib.itoa):=fun W=>by
  unfold ltB
  rw [jn_is]
 rw [e]
 unfold wordU at h
 split at h
 ·rename_i h0
  obtain rfl:=Option.some.inj h
  exact⟨rfl,by rw [h0];rfl⟩
 ·obtain⟨k,M,e2,e3,h5,h6⟩:=ZbZ _ L [] W h
  rw [List.nil_append]at e2
  subst e2
  refine⟨?_,e3⟩
  simp only [isWd,Bool.and_eq_true,decide_eq_true_eq,List.all_eq_true]
  exact⟨h6,h5⟩
theorem ZeO {L:List UInt8} {n:Int} (h:ctU L=some n):isCt n=true∧L=(itB n).data.toList:=by
 unfold ctU at h
 split at h
 ·rename_i m h1
  split at h
  ·rename_i h2
   obtain rfl:=Option.some.inj h
   refine⟨h2,?_⟩
   have:=JE h1
   rw [List.append_nil]at this
   rw [this]
   simp [itB]
  ·cases h
 ·cases h
theorem XC {L:List UInt8} {b:UInt8} (h:L.head?=some b):L=b::L.tail:=by
 cases L with
 |nil=>cases h
 |cons c l =>
  obtain rfl:=Option.some.inj h
  rfl
theorem ZeP {L:List UInt8} {a:Ag} (h:agU L=some a):mayA a=true∧(agT a).data.toList=L:=by
 unfold agU at h
 split at h
 ·rename_i h0
  obtain rfl:=Option.some.inj h
  exact⟨rfl,by rw [h0];simp [agT]⟩
 ·split at h
  ·rename_i h0
   split at h
   ·rename_i z h1
    obtain rfl:=Option.some.inj h
    obtain⟨h2,h3⟩:=Ze2 h1
    refine⟨?_,?_⟩
    ·simp only [mayA]
     rw [if_neg (by decide),if_pos (by decide),h2]
     rfl
    ·rw [XC h0,h3]
     simp [agT]
   ·cases h
  ·split at h
   ·rename_i h0
    split at h
    ·rename_i W h1
     obtain rfl:=Option.some.inj h
     obtain⟨h2,h3⟩:=ZcL h1
     refine⟨?_,?_⟩
     ·simp only [mayA]
      rw [if_neg (by decide),if_neg (by decide),if_neg (by decide),if_pos (by decide),h2]
      rfl
     ·rw [XC h0,h3]
      simp [agT]
    ·cases h
   ·split at h
    ·rename_i h0
     split at h
     ·rename_i n h1
      obtain rfl:=Option.some.inj h
      obtain⟨h2,h3⟩:=ZeO h1
      refine⟨?_,?_⟩
      ·simp only [mayA]
       rw [if_neg (by decide),if_neg (by decide),if_neg (by decide),if_neg (by decide),if_pos (by decide),h2]
       rfl
      ·rw [XC h0,h3]
       simp [agT]
     ·cases h
    ·split at h
     ·rename_i h0
      obtain rfl:=Option.some.inj h
      refine⟨?_,?_⟩
      ·simp only [mayA]
       rw [if_pos (by decide),h0]
       rfl
      ·simp [agT,bA]
     ·cases h
theorem UG:∀(P:List (List UInt8)) (G:List Ag),agsR P=some G→(∀a∈G,mayA a=true)∧G.map (fun a=>(agT a).data.toList)=P
 |[],G,h=>by
  obtain rfl:=Option.some.inj h
  exact⟨fun a ha=>by simp at ha,rfl⟩
 |p::P,G,h=>by
  rw [agsR]at h
  split at h
  ·cases h
  ·rename_i a h1
   split at h
   ·cases h
   ·rename_i l h2
    obtain rfl:=Option.some.inj h
    obtain⟨m1,e1⟩:=ZeP h1
    obtain⟨m2,e2⟩:=UG P l h2
    refine⟨fun x hx=>?_,?_⟩
    ·rcases List.mem_cons.1 hx with rfl|hx
     ·exact m1
     ·exact m2 x hx
    ·rw [List.map_cons,e1,e2]
theorem Ur {P:List (List UInt8)} {G:List Ag} (h:finG [] P=some G):G.length≤64∧(∀a∈G,mayA a=true)∧G.map (fun a=>(agT a).data.toList)=P:=by
 unfold finG at h
 split at h
 ·rename_i h0
  split at h
  ·cases h
  ·rename_i l h1
   rw [List.nil_append]at h
   obtain rfl:=Option.some.inj h
   obtain⟨h2,h3⟩:=UG P l h1
   refine⟨?_,h2,h3⟩
   have:=congrArg List.length h3
   rw [List.length_map]at this
   simp at h0
   omega
 ·cases h
theorem jn_spl {m:UInt8}:∀L:List UInt8,jn m (spl m L)=L
 |[]=>rfl
 |b::l=>by
  have ih:=jn_spl (m:=m) l
  unfold spl
  split
  ·rename_i e
   subst e
   cases hs:spl b l with
   |nil=>exact absurd hs (X3 b l)
   |cons p ps =>
    rw [hs]at ih
    unfold jn
    rw [ih]
    rfl
  ·cases hs:spl m l with
   |nil=>exact absurd hs (X3 m l)
   |cons p ps =>
    rw [hs]at ih
    dsimp only
    cases ps with
    |nil=>simpa [jn]using ih
    |cons q qs=>simpa [jn]using ih
theorem Zc6 {L:List UInt8} {s:St} (h:stU L=some s):okS s=true∧(lnB s).data.toList=L:=by
 unfold stU at h
 cases hs:spl 32 L with
 |nil=>exact absurd hs (X3 32 L)
 |cons v ps =>
  rw [hs]at h
  dsimp only at h
  have hL:L=jn 32 (v::ps):=by rw [←hs,jn_spl]
  split at h
  ·rename_i hv
   split at h
   ·rename_i h61
    split at h
    ·rename_i hn
     split at h
     ·cases h
     ·rename_i G hG
      obtain rfl:=Option.some.inj h
      obtain⟨g1,g2,g3⟩:=Ur hG
      have hns:¬(bA (ps.headD []).tail).size=0:=by
       intro h0
       simp only [isNm,Bool.and_eq_true,decide_eq_true_eq]at hn
       omega
      refine⟨?_,?_⟩
      ·simp only [okS,Bool.and_eq_true,Bool.or_eq_true,decide_eq_true_eq,List.all_eq_true]
       exact⟨hv,.inr hn,g1,g2⟩
      ·rw [Vi,hL]
       congr 1
       unfold lineL
       simp only
       rw [if_neg hns]
       cases ps with
       |nil=>simp at h61
       |cons p ps =>
        simp only [List.headD_cons,List.tail_cons]at h61 g3 ⊢
        have hp:=XC h61
        rw [List.map_append,List.map_map]
        have e2:(fun x:ByteArray=>x.data.toList) ∘ agT=fun a=>(agT a).data.toList:=rfl
        rw [e2,g3]
        simp only [List.map_cons,List.map_nil,ZD,List.cons_append,List.nil_append]
        congr 2
        rw [hp]
        simp [bA]
    ·cases h
   ·split at h
    ·cases h
    ·rename_i G hG
     obtain rfl:=Option.some.inj h
     obtain⟨g1,g2,g3⟩:=Ur hG
     refine⟨?_,?_⟩
     ·simp only [okS,Bool.and_eq_true,Bool.or_eq_true,decide_eq_true_eq,List.all_eq_true]
      exact⟨hv,.inl rfl,g1,g2⟩
     ·rw [Vi,hL]
      congr 1
      unfold lineL
      simp only
      rw [if_pos (show eS.size=0 from rfl),List.map_append,List.map_map]
      have e2:(fun x:ByteArray=>x.data.toList) ∘ agT=fun a=>(agT a).data.toList:=rfl
      rw [e2,g3]
      simp [bA]
  ·cases h
def nbF (L:List UInt8) (n:Int):Int:=L.foldl (fun n c=>10*n+(c.toNat:Int)-48) n
def nbG (L:List UInt8):Int:=if L.head?=some 45 then -(nbF (L.take 12).tail 0)else nbF (L.take 12) 0
def inB (p:List UInt8):List UInt8:=p.tail.dropLast
def wdG (L:List UInt8):List Int:=if L=[]then []else(spl 46 L).map nbG
noncomputable def gzG (L:List UInt8):Option Gz:=match spl 44 L with
 |[a,b]=>match rdF (bA a)with
  |none=>none
  |some x=>match rdF (bA b)with
   |none=>none
   |some y=>some ⟨x.n,x.p,x.d,x.q,y.n,y.p,y.d,y.q⟩
 |_=>none
noncomputable def gsA (p:List UInt8):Ag :=
 if p=[40,105,110,102,41]then⟨3,eS,Gz.zero,[],0⟩
 else if p=[]then⟨0,eS,Gz.zero,[],0⟩
 else if p.head?=some 40 then(match gzG (inB p)with|some z=>⟨2,eS,z,[],0⟩|none=>⟨0,eS,Gz.zero,[],0⟩)
 else if p.head?=some 91 then⟨4,eS,Gz.zero,wdG (inB p),0⟩
 else if p.head?=some 35 then⟨5,eS,Gz.zero,[],nbG p.tail⟩
 else⟨1,bA p,Gz.zero,[],0⟩
noncomputable def stG (L:List UInt8):St:=match spl 32 L with
 |[]=>⟨eS,eS,[]⟩
 |v::ps=>if(ps.headD []).head?=some 61∧1<(ps.headD []).length then⟨bA v,bA (ps.headD []).tail,(ps.tail.take 66).map gsA⟩else⟨bA v,eS,(ps.take 66).map gsA⟩
theorem Zao:∀(D:List UInt8) (n:Nat),(∀b∈D,dgU b)→nbF D n=((n*10 ^ D.length+dec (D.map UInt8.toNat):Nat):Int)
 |[],n,_=>by simp [nbF,dec]
 |c::r,n,h=>by
  have hc:dgU c:=h c (by simp)
  unfold dgU at hc
  have ih:=Zao r (n*10+(c.toNat-48)) (fun b hb=>h b (by simp [hb]))
  have e:nbF (c::r) (n:Int)=nbF r ((n*10+(c.toNat-48):Nat):Int):=by
   unfold nbF
   rw [List.foldl_cons]
   congr 1
   omega
  rw [e,ih]
  congr 1
  have h3:=Y6 (r.map UInt8.toNat) (c.toNat-48)
  have h4:dec (c.toNat::r.map UInt8.toNat)=(r.map UInt8.toNat).foldl (fun n b=>n*10+(b-48)) (c.toNat-48):=by simp [dec]
  rw [List.map_cons,h4,h3,List.length_map,List.length_cons,Nat.pow_succ,Nat.add_mul]
  have:n*(10 ^ r.length*10)=n*10*10 ^ r.length:=by rw [Nat.mul_comm (10 ^ r.length) 10,Nat.mul_assoc]
  omega
theorem NumZ.len {D:List UInt8} (h:NumZ D) (hd:dec (D.map UInt8.toNat)<10 ^ 10):D.length≤10:=by
 have hlow:=UW (D:=D.map UInt8.toNat) (fun b hb=>by
  obtain⟨c,hc,rfl⟩:=List.mem_map.1 hb
  exact h.all c hc) (by
  intro e
  exact h.ne (List.map_eq_nil_iff.1 e)) (by
  cases D with
  |nil=>exact absurd rfl h.ne
  |cons c r=>simpa using h.hd c rfl)
 rw [List.length_map]at hlow
 rcases Nat.lt_or_ge 10 D.length with h1|h1
 ·have h2:10 ^ 10≤10 ^ (D.length-1):=Nat.pow_le_pow_right (by decide) (by omega)
  omega
 ·exact h1
theorem ZbH {x:Int} (h:x.natAbs<10 ^ 10):nbG (Lib.itoa x)=x:=by
 rcases ZT x with ⟨rfl,e⟩|⟨D,hD,h0,e,hd⟩|⟨D,hD,h0,e,hd⟩
 ·rw [e]
  rfl
 ·rw [e]
  have hl:=hD.len (by rw [hd];omega)
  have hh:¬D.head?=some 45:=by
   intro hh
   cases D with
   |nil=>cases hh
   |cons c r =>
    obtain rfl:=Option.some.inj hh
    have:=hD.all 45 (by simp)
    revert this
    unfold dgU
    decide
  unfold nbG
  rw [if_neg hh,List.take_of_length_le (by omega)]
  have:=Zao D 0 hD.all
  rw [Nat.zero_mul,Nat.zero_add,hd]at this
  rw [show(0:Int)=((0:Nat):Int)from rfl,this]
  omega
 ·rw [e]
  have hl:=hD.len (by rw [hd];omega)
  unfold nbG
  rw [if_pos List.head?_cons,List.take_of_length_le (by simp;omega),List.tail_cons]
  have:=Zao D 0 hD.all
  rw [Nat.zero_mul,Nat.zero_add,hd]at this
  rw [show(0:Int)=((0:Nat):Int)from rfl,this]
  omega
theorem itoa_ne (x:Int):Lib.itoa x≠[]:=by
 rcases ZT x with ⟨_,e⟩|⟨D,hD,_,e,_⟩|⟨D,hD,_,e,_⟩
 ·rw [e];simp
 ·rw [e];exact hD.ne
 ·rw [e];simp
theorem qL_no2 {m:UInt8} (h1:m≠45) (h2:¬dgU m) (h3:m≠47) (x y:Int):∀b∈qL x y,b≠m:=by
 unfold qL
 split
 ·exact YE h1 h2
 ·intro b hb
  rw [List.mem_append]at hb
  rcases hb with hb|hb
  ·exact YE h1 h2 b hb
  ·rcases List.mem_cons.1 hb with rfl|hb
   ·exact h3.symm
   ·exact YE h1 h2 b hb
theorem Zb5 {n d:Bool} {s t:ByteArray} (h:mayQ n s d t=true):rdF (bA (qL (num n s) (num d t)))=some ⟨n,s,d,t⟩ :=
 VQ (.inl ⟨rfl,_,_,YW h,XN _ _⟩)
theorem ZfC {z:Gz} (h:mayZ z=true):gzG ((qT z.a z.b z.c z.d).data.toList++(44::(qT z.e z.f z.g z.h).data.toList))=some z:=by
 simp only [mayZ,Bool.and_eq_true]at h
 rw [XU,XU,ZD,ZD]
 have hn:∀x y,∀b∈qL x y,b≠(44:UInt8):=fun x y=>qL_no2 (by decide) (by unfold dgU;decide) (by decide) x y
 unfold gzG
 rw [VS _ (hn _ _),VO (hn _ _)]
 dsimp only
 rw [Zb5 h.1]
 dsimp only
 rw [Zb5 h.2]
theorem Ze5 {W:List Int} (h:isWd W=true):wdG (ltB W).data.toList=W:=by
 have hk:W.length≤4096∧∀x∈W,isLt x=true:=by
  simp only [isWd,Bool.and_eq_true,decide_eq_true_eq,List.all_eq_true]at h
  exact h
 have e:(ltB W).data.toList=jn 46 (W.map Lib.itoa):=by
  unfold ltB
  rw [jn_is]
 rw [e]
 cases W with
 |nil=>rfl
 |cons k W =>
  unfold wdG
  rw [if_neg,Zbf _ (by simp) (fun x hx=>by
   obtain⟨y,_,rfl⟩:=List.mem_map.1 hx
   exact YE (by decide) (by unfold dgU;decide))]
  ·rw [List.map_map]
   conv=>rhs;rw [←List.map_id (k::W)]
   refine List.map_congr_left fun x hx=>?_
   have:=YH (hk.2 x hx)
   exact ZbH (by omega)
  ·intro h2
   cases W with
   |nil=>exact itoa_ne k h2
   |cons k2 W =>
    simp [jn]at h2
theorem Zfb {a:Ag} (h:mayA a=true):gsA (agT a).data.toList=a:=by
 rcases XT h with ⟨nm,hn,rfl⟩|⟨z,hz,rfl⟩|rfl|⟨W,hW,rfl⟩|⟨n,hn,rfl⟩
 ·have e:agT ⟨1,nm,Gz.zero,[],0⟩=nm:=by simp [agT]
  rw [e]
  obtain⟨b,r,hb,h1,h2⟩:=VB hn
  unfold gsA
  have hne:∀c:UInt8,c.toNat<97→¬nm.data.toList.head?=some c:=fun c hc hh=>by
   rw [hb]at hh
   obtain rfl:=Option.some.inj hh
   omega
  rw [if_neg,if_neg (by rw [hb];simp),if_neg (hne 40 (by decide)),if_neg (hne 91 (by decide)),if_neg (hne 35 (by decide)),bA_of]
  intro e
  rw [e]at hne
  exact hne 40 (by decide) rfl
 ·have e:(agT ⟨2,eS,z,[],0⟩).data.toList=40::((qT z.a z.b z.c z.d).data.toList++(44::((qT z.e z.f z.g z.h).data.toList++[41]))):=by
    simp [agT]
  have hi:inB (40::((qT z.a z.b z.c z.d).data.toList++(44::((qT z.e z.f z.g z.h).data.toList++[41]))))=(qT z.a z.b z.c z.d).data.toList++(44::(qT z.e z.f z.g z.h).data.toList):=by
   unfold inB
   rw [List.tail_cons,show(qT z.a z.b z.c z.d).data.toList++(44::((qT z.e z.f z.g z.h).data.toList++[41]))=((qT z.a z.b z.c z.d).data.toList++(44::(qT z.e z.f z.g z.h).data.toList))++[41]by simp,List.dropLast_concat]
  rw [e]
  unfold gsA
  rw [if_neg,if_neg (by simp),if_pos List.head?_cons,hi,ZfC hz]
  intro h2
  have h3:=congrArg List.tail h2
  rw [List.tail_cons,List.tail_cons]at h3
  have h4:=UN hz
  rw [h3]at h4
  have:gzU [105,110,102,41]=none:=by
   unfold gzU frU
   have:numE (bA [105,110,102,41])=none:=by kernel_rfl
   rw [this]
  rw [this]at h4
  cases h4
 ·have e:(agT ⟨3,eS,Gz.zero,[],0⟩).data.toList=[40,105,110,102,41]:=by simp [agT]
  rw [e]
  unfold gsA
  rw [if_pos rfl]
 ·have e:(agT ⟨4,eS,Gz.zero,W,0⟩).data.toList=91::((ltB W).data.toList++[93]):=by simp [agT]
  have hi:inB (91::((ltB W).data.toList++[93]))=(ltB W).data.toList:=by
   unfold inB
   rw [List.tail_cons,List.dropLast_concat]
  rw [e]
  unfold gsA
  rw [if_neg (by simp),if_neg (by simp),if_neg (by simp),if_pos List.head?_cons,hi,Ze5 hW]
 ·have e:(agT ⟨5,eS,Gz.zero,[],n⟩).data.toList=35::(itB n).data.toList:=by simp [agT]
  have e2:(itB n).data.toList=Lib.itoa n:=by simp [itB]
  rw [e,e2]
  unfold gsA
  simp only [isCt,Bool.and_eq_true,decide_eq_true_eq]at hn
  rw [if_neg (by simp),if_neg (by simp),if_neg (by simp),if_neg (by simp),if_pos List.head?_cons,List.tail_cons,ZbH (by omega)]
theorem Zdx {G:List Ag} (h:∀a∈G,mayA a=true):(G.map fun a=>(agT a).data.toList).map gsA=G:=by
 rw [List.map_map]
 conv=>rhs;rw [←List.map_id G]
 exact List.map_congr_left fun a ha=>Zfb (h a ha)
theorem Zfk {s:St} (h:okS s=true):stG (lnB s).data.toList=s:=by
 obtain⟨h1,h2,h3,h4⟩:=ZJ h
 have hU:=ZbG h
 unfold stU at hU
 unfold stG
 have hpc:∀x∈(lineL s).map (·.data.toList),∀b∈x,b≠32:=by
  intro x hx
  obtain⟨y,hy,rfl⟩:=List.mem_map.1 hx
  unfold lineL at hy
  rw [List.mem_append]at hy
  rcases hy with hy|hy
  ·split at hy
   ·obtain rfl:=List.mem_singleton.1 hy
    exact U8 h1
   ·rename_i hn
    simp at hy
    rcases hy with rfl|rfl
    ·exact U8 h1
    ·have hnm:isNm s.nm=true:=by
       rcases h2 with h2|h2
       ·exact absurd h2 hn
       ·exact h2
     intro b hb
     simp at hb
     rcases hb with rfl|hb
     ·decide
     ·exact ZaP hnm b (by simpa using hb)
  ·obtain⟨a,ha,rfl⟩:=List.mem_map.1 hy
   exact(Vo (h4 a ha)).1
 have hne:(lineL s).map (·.data.toList)≠[]:=by
  unfold lineL
  split<;>simp
 clear hU
 rw [Vi,Zbf _ hne hpc]
 unfold lineL
 by_cases hn:s.nm.size=0
 ·rw [if_pos hn]
  have e:(([s.vb]++s.ags.map agT).map (·.data.toList))=s.vb.data.toList::s.ags.map (fun a=>(agT a).data.toList):=by simp
  rw [e]
  dsimp only
  rw [bA_of,if_neg,List.take_of_length_le (by rw [List.length_map];omega),Zdx h4]
  ·have:=Zi hn
   obtain⟨vb,nm,G⟩:=s
   simp only at this
   subst this
   rfl
  ·rintro⟨h61,_⟩
   cases hg:s.ags with
   |nil=>rw [hg]at h61;simp at h61
   |cons a G =>
    rw [hg]at h61
    exact(Vo (h4 a (by rw [hg];simp))).2 (by simpa using h61)
 ·rw [if_neg hn]
  have e:(([s.vb,⟨#[61]⟩++s.nm]++s.ags.map agT).map (·.data.toList))=s.vb.data.toList::(61::s.nm.data.toList)::s.ags.map (fun a=>(agT a).data.toList):=by simp
  rw [e]
  dsimp only [List.headD_cons,List.tail_cons]
  have hlen:1<(61::s.nm.data.toList).length:=by
   have e3:s.nm.data.toList.length=s.nm.size:=Array.length_toList
   rw [List.length_cons,e3]
   omega
  refine Eq.trans (if_pos ⟨List.head?_cons,hlen⟩) ?_
  rw [bA_of,List.take_of_length_le (by rw [List.length_map];omega),Zdx h4]
  have e61:bA s.nm.data.toList=s.nm:=bA_of s.nm
  rw [e61]
theorem JA (L:List UInt8):(if okS (stG L)=true∧(lnB (stG L)).data.toList=L then some (stG L)else none)=stU L:=by
 cases h:stU L with
 |none =>
  rw [if_neg]
  rintro⟨h1,h2⟩
  have:=ZbG h1
  rw [h2,h]at this
  cases this
 |some s =>
  obtain⟨h1,h2⟩:=Zc6 h
  have h3:=Zfk h1
  rw [h2]at h3
  rw [h3,if_pos ⟨h1,h2⟩]
end Go.Proofs.YtdcadiaeaclpgaaGreatDoor
