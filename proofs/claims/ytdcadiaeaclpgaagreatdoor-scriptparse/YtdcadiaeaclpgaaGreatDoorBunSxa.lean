/- Numerals and where they end: pure. -/
import Derived.Test.YtdcadiaeaclpgaaGreatDoorBunSrq
import Derived.Test.YtdcadiaeaclpgaaGreatDoorBunScs
namespace Go.Proofs.YtdcadiaeaclpgaaGreatDoor
open Go Go.RowKit Go.Lib Go.Sort
set_option linter.unusedVariables false
set_option linter.unusedSimpArgs false
def dgU (b:UInt8):Prop:=48≤b.toNat∧b.toNat≤57
structure NumZ (D:List UInt8):Prop where
 ne:D≠[]
 all:∀b∈D,dgU b
 hd:∀b,D.head?=some b→b.toNat≠48
theorem Y5 {d:Nat} (h:d<10):(UInt8.ofNat (48+d)).toNat=48+d:=by
 rw [UInt8.toNat_ofNat']
 omega
theorem Yz (u:Nat):(∀b∈Lib.decDigits u,dgU b)∧Lib.decDigits u≠[]∧dec ((Lib.decDigits u).map UInt8.toNat)=u∧(0<u→∀b,(Lib.decDigits u).head?=some b→b.toNat≠48):=by
 induction u using Nat.strongRecOn with
 |_ u ih =>
  unfold Lib.decDigits
  split
  ·rename_i h
   refine⟨?_,by simp,?_,?_⟩
   ·intro b hb
    obtain rfl:=List.mem_singleton.1 hb
    unfold dgU
    rw [Y5 h]
    omega
   ·rw [List.map_cons,List.map_nil,Y5 h]
    simp [dec]
   ·intro h0 b hb
    obtain rfl:=Option.some.inj hb
    rw [Y5 h]
    omega
  ·rename_i h
   obtain⟨h1,h2,h3,h4⟩:=ih (u / 10) (by omega)
   refine⟨?_,by simp,?_,?_⟩
   ·intro b hb
    rw [List.mem_append]at hb
    rcases hb with hb|hb
    ·exact h1 b hb
    ·obtain rfl:=List.mem_singleton.1 hb
     unfold dgU
     rw [Y5 (Nat.mod_lt _ (by decide))]
     omega
   ·rw [List.map_append,List.map_cons,List.map_nil,YK,h3,Y5 (Nat.mod_lt _ (by decide))]
    omega
   ·intro h0 b hb
    refine h4 (by omega) b ?_
    cases hl:Lib.decDigits (u / 10)with
    |nil=>exact absurd hl h2
    |cons c l =>
     rw [hl]at hb
     exact hb
theorem decD_z {u:Nat} (h:0<u):NumZ (Lib.decDigits u):=⟨(Yz u).2.1,(Yz u).1,(Yz u).2.2.2 h⟩
theorem ZT (x:Int):(x=0∧Lib.itoa x=[48])∨(∃D,NumZ D∧0<x∧Lib.itoa x=D∧dec (D.map UInt8.toNat)=x.toNat)∨∃D,NumZ D∧x<0∧Lib.itoa x=45::D∧dec (D.map UInt8.toNat)=x.natAbs:=by
 unfold Lib.itoa
 split
 ·rename_i h
  exact .inr (.inr ⟨_,decD_z (by omega),h,rfl,(Yz _).2.2.1⟩)
 ·rename_i h
  by_cases h0:x=0
  ·subst h0
   refine .inl ⟨rfl,?_⟩
   rw [show(0:Int).toNat=0 from rfl,Lib.decDigits_one (by decide)]
   rfl
  ·exact .inr (.inl ⟨_,decD_z (by omega),by omega,rfl,(Yz _).2.2.1⟩)
theorem Vc (A R:List UInt8) (lo hi:Nat):nxt (bA (A++R)) A.length lo hi=match R.head? with|some b=>decide (lo≤b.toNat∧b.toNat≤hi)|none=>false:=by
 unfold nxt
 rw [bN_bA,List.map_append,List.getElem?_append_right (by rw [List.length_map];exact Nat.le_refl _),List.length_map,Nat.sub_self]
 cases R<;>rfl
theorem runD_bA {A D R:List UInt8} (hD:∀b∈D,dgU b) (hR:∀b,R.head?=some b→¬dgU b):runD (bA (A++(D++R))) A.length=A.length+D.length:=by
 unfold runD
 congr 1
 have e:A.length=(A.map UInt8.toNat).length:=by simp
 rw [bN_bA,List.map_append,e,List.drop_left,List.map_append]
 have h1:∀b∈D.map UInt8.toNat,decide (48≤b∧b≤57)=true:=by
  intro b hb
  obtain⟨c,hc,rfl⟩:=List.mem_map.1 hb
  exact decide_eq_true (hD c hc)
 rw [List.takeWhile_append_of_pos h1]
 have h2:(R.map UInt8.toNat).takeWhile (fun b=>decide (48≤b∧b≤57))=[]:=by
  cases R with
  |nil=>rfl
  |cons c r =>
   rw [List.map_cons,List.takeWhile_cons,if_neg]
   have:=hR c rfl
   unfold dgU at this
   simp
   omega
 rw [h2,List.append_nil,List.length_map]
theorem NumZ.first {D:List UInt8} (h:NumZ D) (R:List UInt8):∃b,(D++R).head?=some b∧49≤b.toNat∧b.toNat≤57:=by
 cases D with
 |nil=>exact absurd rfl h.ne
 |cons b l =>
  refine⟨b,rfl,?_⟩
  have h1:=h.all b (by simp)
  have h2:=h.hd b rfl
  unfold dgU at h1
  omega
theorem NumZ.runs {A D R:List UInt8} (h:NumZ D) (hR:∀b,R.head?=some b→¬dgU b):nxt (bA (A++(D++R))) A.length 49 57=true∧runD (bA (A++(D++R))) (A.length+1)=A.length+D.length:=by
 obtain⟨b,hb,hb2⟩:=h.first R
 constructor
 ·rw [Vc,hb]
  exact decide_eq_true hb2
 ·cases D with
  |nil=>exact absurd rfl h.ne
  |cons c l =>
   have:=runD_bA (A:=A++[c]) (D:=l) (R:=R) (fun x hx=>h.all x (by simp [hx])) hR
   have e:A++[c]++(l++R)=A++(c::l++R):=by simp
   rw [e]at this
   have e2:(A++[c]).length=A.length+1:=by simp
   rw [e2]at this
   rw [this]
   simp
   omega
theorem ZaE {A D R:List UInt8} {d:Bool} (h:NumZ D) (hR:∀b,R.head?=some b→¬dgU b∧(b.toNat≠47∨d=true)):stD (bA (A++(D++R))) A.length d=some (A.length+D.length):=by
 obtain⟨h1,h2⟩:=h.runs (A:=A) (R:=R) (fun b hb=>(hR b hb).1)
 unfold stD finD
 rw [h1,h2]
 simp only [if_true]
 have e:A.length+D.length=(A++D).length:=by simp
 have e2:A++(D++R)=(A++D)++R:=by simp
 rw [e2,e,Vc]
 cases hr:R.head? with
 |none=>rfl
 |some b =>
  rcases(hR b hr).2 with h3|h3
  ·have:decide (47≤b.toNat∧b.toNat≤47)=false:=decide_eq_false (by omega)
   simp only [this]
   rfl
  ·rw [h3]
   simp
theorem Zei {A D E R:List UInt8} (h:NumZ D) (hE:NumZ E) (hR:∀b,R.head?=some b→¬dgU b):stD (bA (A++(D++(47::(E++R))))) A.length false=some (A.length+D.length+1+E.length):=by
 obtain⟨h1,h2⟩:=h.runs (A:=A) (R:=47::(E++R)) (fun b hb=>by
  simp at hb
  subst hb
  unfold dgU
  decide)
 unfold stD finD
 rw [h1,h2]
 simp only [if_true]
 have e:A.length+D.length=(A++D).length:=by simp
 have e2:A++(D++47::(E++R))=(A++D)++47::(E++R):=by simp
 rw [e2,e,Vc]
 have:decide (47≤(47:UInt8).toNat∧(47:UInt8).toNat≤47)=true:=by decide
 simp only [List.head?_cons,this,Bool.not_false,Bool.and_self,if_true]
 rw [ZbY]
 have e3:(A++D)++47::(E++R)=(A++D++[47])++(E++R):=by simp
 have e4:(A++D).length+1=(A++D++[47]).length:=by simp;omega
 rw [e3,e4,ZaE hE (fun b hb=>⟨hR b hb,.inr rfl⟩)]
theorem ZdV (R:List UInt8):numE (bA (48::R))=some 1:=by
 unfold numE
 have h1:=Vc [] (48::R) 45 45
 have h2:=Vc [] (48::R) 48 48
 simp at h1 h2
 rw [h1,h2]
 rfl
theorem Zb3 {D T:List UInt8} (h:NumZ D):numE (bA (D++T))=stD (bA (D++T)) 0 false:=by
 obtain⟨b,hb,hb2⟩:=h.first T
 unfold numE
 have h1:=Vc [] (D++T) 45 45
 have h2:=Vc [] (D++T) 48 48
 rw [hb]at h1 h2
 simp only [List.nil_append,List.length_nil]at h1 h2
 rw [h1,h2,decide_eq_false (by omega),decide_eq_false (by omega)]
 rfl
theorem Zbj (T:List UInt8):numE (bA (45::T))=stD (bA (45::T)) 1 false:=by
 unfold numE
 have h1:=Vc [] (45::T) 45 45
 simp only [List.nil_append,List.length_nil,List.head?_cons]at h1
 rw [h1]
 rfl
theorem Jk (x:Int) {R:List UInt8} (hR:∀b,R.head?=some b→¬dgU b∧b.toNat≠47):numE (bA (Lib.itoa x++R))=some (Lib.itoa x).length:=by
 rcases ZT x with ⟨_,h⟩|⟨D,hD,_,h,_⟩|⟨D,hD,_,h,_⟩
 ·rw [h]
  exact ZdV R
 ·rw [h,Zb3 hD]
  have:=ZaE (A:=[]) (d:=false) hD (R:=R) (fun b hb=>⟨(hR b hb).1,.inl (hR b hb).2⟩)
  simpa using this
 ·rw [h]
  have h2:=Zbj (D++R)
  rw [List.cons_append,h2]
  have:=ZaE (A:=[45]) (d:=false) hD (R:=R) (fun b hb=>⟨(hR b hb).1,.inl (hR b hb).2⟩)
  simp at this
  rw [this]
  simp
  omega
theorem Zex {x y:Int} (hx:x≠0) (hy:0<y) {R:List UInt8} (hR:∀b,R.head?=some b→¬dgU b):numE (bA (Lib.itoa x++(47::(Lib.itoa y++R))))=some (Lib.itoa x++(47::Lib.itoa y)).length:=by
 have hE:NumZ (Lib.itoa y):=by
  rcases ZT y with ⟨h,_⟩|⟨D,hD,_,h,_⟩|⟨D,hD,h0,h,_⟩
  ·omega
  ·rw [h]
   exact hD
  ·omega
 rcases ZT x with ⟨h0,h⟩|⟨D,hD,_,h,_⟩|⟨D,hD,_,h,_⟩
 ·exact absurd h0 hx
 ·rw [h,Zb3 hD]
  have:=Zei (A:=[]) hD hE hR
  simp at this ⊢
  rw [this]
  congr 1
  omega
 ·rw [h]
  have h2:=Zbj (D++(47::(Lib.itoa y++R)))
  rw [List.cons_append,h2]
  have:=Zei (A:=[45]) hD hE hR
  simp at this ⊢
  rw [this]
  congr 1
  omega
theorem V0:∀(D:List UInt8) (acc:Nat),(∀b∈D,dgU b)→acc*10 ^ D.length+dec (D.map UInt8.toNat)<18446744073709551616→Lib.parseUint10 acc D=.ok (acc*10 ^ D.length+dec (D.map UInt8.toNat))
 |[],acc,_,_=>by simp [Lib.parseUint10,dec]
 |c::r,acc,hD,h=>by
  have hc:dgU c:=hD c (by simp)
  have hr:∀b∈r,dgU b:=fun b hb=>hD b (by simp [hb])
  have e:acc*10 ^ (c::r).length+dec ((c::r).map UInt8.toNat)=(acc*10+(c.toNat-48))*10 ^ r.length+dec (r.map UInt8.toNat):=by
   rw [List.map_cons]
   have h1:=Y6 (r.map UInt8.toNat) (c.toNat-48)
   have h2:dec (c.toNat::r.map UInt8.toNat)=(r.map UInt8.toNat).foldl (fun n b=>n*10+(b-48)) (c.toNat-48):=by simp [dec]
   rw [h2,h1,List.length_map,List.length_cons,Nat.pow_succ,Nat.add_mul]
   have:acc*(10 ^ r.length*10)=acc*10*10 ^ r.length:=by rw [Nat.mul_comm (10 ^ r.length) 10,Nat.mul_assoc]
   omega
  rw [e]at h ⊢
  have hp:1≤10 ^ r.length:=Nat.pow_pos (by decide)
  have hle:acc*10+(c.toNat-48)≤(acc*10+(c.toNat-48))*10 ^ r.length:=Nat.le_mul_of_pos_right _ hp
  unfold Lib.parseUint10
  unfold dgU at hc
  rw [if_pos hc,if_neg (by omega),if_neg (by omega)]
  exact V0 r _ hr h
theorem Zdl {x:Int} (h:i64 x):Lib.atoiAll (Lib.itoa x)=.ok x:=by
 unfold i64 at h
 rcases ZT x with ⟨rfl,e⟩|⟨D,hD,h0,e,hd⟩|⟨D,hD,h0,e,hd⟩
 ·rw [e]
  rfl
 ·rw [e]
  cases D with
  |nil=>exact absurd rfl hD.ne
  |cons c r =>
   have hc:=hD.all c (by simp)
   unfold dgU at hc
   have hp:=V0 (c::r) 0 hD.all (by rw [hd];omega)
   rw [hd,Nat.zero_mul,Nat.zero_add]at hp
   unfold Lib.atoiAll
   dsimp only
   rw [if_neg (by omega)]
   have hm:Lib.parseMag (c::r)=.ok x.toNat:=by
    unfold Lib.parseMag
    rw [if_neg (by simp)]
    exact hp
   rw [hm]
   dsimp only
   rw [if_neg (by omega),if_neg (by omega),if_neg (by omega)]
   congr 1
   omega
 ·rw [e]
  have hp:=V0 D 0 hD.all (by rw [hd];omega)
  rw [hd,Nat.zero_mul,Nat.zero_add]at hp
  have hm:Lib.parseMag D=.ok x.natAbs:=by
   unfold Lib.parseMag
   rw [if_neg hD.ne]
   exact hp
  unfold Lib.atoiAll
  have e45:(45:UInt8).toNat=45:=by decide
  dsimp only
  rw [e45,if_pos (by decide),hm]
  dsimp only
  rw [if_neg (by simp),if_neg (by omega),if_pos rfl]
  congr 1
  omega
theorem UK {x:Int} (h:i64 x) {R:List UInt8} (hR:∀b,R.head?=some b→¬dgU b∧b.toNat≠47):smlU (Lib.itoa x++R)=some (x,R):=by
 unfold smlU
 rw [Jk x hR]
 dsimp only
 rw [List.take_left,Zdl h]
 dsimp only
 rw [List.drop_left]
theorem Xr (x:Int):TextOf x (itB x):=by
 have hb:bN (itB x)=(Lib.itoa x).map UInt8.toNat:=bN_bA _
 have hplain:∀ {s:ByteArray} {D:List UInt8},NumZ D→bN s=D.map UInt8.toNat→plain s:=fun {s D} hD hs=>by
  refine⟨?_,?_,?_⟩
  ·intro b hb
   rw [hs]at hb
   obtain⟨c,hc,rfl⟩:=List.mem_map.1 hb
   exact hD.all c hc
  ·rw [←Ze,hs,List.length_map]
   intro h
   exact hD.ne (List.length_eq_zero_iff.1 h)
  ·refine .inr ?_
   rw [hs]
   cases D with
   |nil=>exact absurd rfl hD.ne
   |cons c r=>simpa using hD.hd c rfl
 rcases ZT x with ⟨rfl,e⟩|⟨D,hD,h0,e,hd⟩|⟨D,hD,h0,e,hd⟩
 ·have:itB 0=⟨#[48]⟩:=by
    unfold itB
    rw [e]
  rw [this]
  exact Z5
 ·rw [e]at hb
  have hh:¬(bN (itB x)).head?=some 45:=by
   rw [hb]
   cases D with
   |nil=>exact absurd rfl hD.ne
   |cons c r =>
    have:=hD.all c (by simp)
    unfold dgU at this
    simp
    omega
  have hbare:bare (itB x)=itB x:=by
   unfold bare
   rw [if_neg hh]
  refine⟨⟨by rw [hbare];exact hplain hD hb,fun h=>hh (by rw [h];rfl)⟩,?_⟩
  unfold textZ
  rw [if_neg hh,hbare,hb,hd]
  omega
 ·rw [e]at hb
  have hh:(bN (itB x)).head?=some 45:=by
   rw [hb]
   rfl
  have hbb:bN (bare (itB x))=D.map UInt8.toNat:=by
   rw [YF hh,hb]
   rfl
  refine⟨⟨hplain hD hbb,?_⟩,?_⟩
  ·rw [hb]
   intro h
   cases D with
   |nil=>exact absurd rfl hD.ne
   |cons c r =>
    simp at h
    exact hD.hd c rfl h.1
  ·unfold textZ
   rw [if_pos hh,hbb,hd]
   omega
def qL (x y:Int):List UInt8:=if y=1 then Lib.itoa x else Lib.itoa x++(47::Lib.itoa y)
theorem XN (x y:Int):QText x y (bA (qL x y)):=by
 unfold qL
 split
 ·rename_i h
  exact .inl ⟨h,Xr x⟩
 ·rename_i h
  refine .inr ⟨h,itB x,itB y,Xr x,Xr y,?_⟩
  apply Yx
  rw [bN_bA,Y9,Y9]
  have e1:bN (itB x)=(Lib.itoa x).map UInt8.toNat:=bN_bA _
  have e2:bN (itB y)=(Lib.itoa y).map UInt8.toNat:=bN_bA _
  rw [e1,e2,List.map_append,List.map_cons]
  simp
  rfl
theorem XU {n d:Bool} {s t:ByteArray}:qT n s d t=bA (qL (num n s) (num d t)):=qT_is (XN _ _)
theorem Zda {n d:Bool} {s t:ByteArray} (h:mayQ n s d t=true) {R:List UInt8} (hR:∀b,R.head?=some b→¬dgU b∧b.toNat≠47):frU (qL (num n s) (num d t)++R)=some (⟨n,s,d,t⟩,R):=by
 have hq:=YW h
 have hnum:numE (bA (qL (num n s) (num d t)++R))=some (qL (num n s) (num d t)).length:=by
  unfold qL
  split
  ·exact Jk _ hR
  ·rename_i hy
   have hx:num n s≠0:=fun hx=>by
    have h2:=hq.low
    rw [hx]at h2
    have h3:=hq.pos
    simp at h2
    omega
   have:=Zex hx hq.pos (R:=R) (fun b hb=>(hR b hb).1)
   simpa using this
 unfold frU
 rw [hnum]
 dsimp only
 rw [List.take_left,VQ (n:=n) (p:=s) (d:=d) (q:=t) (.inl ⟨rfl,_,_,hq,XN _ _⟩)]
 dsimp only
 rw [List.drop_left]
def jn (m:UInt8):List (List UInt8)→List UInt8
 |[]=>[]
 |[x]=>x
 |x::y::r=>x++m::jn m (y::r)
theorem jn_is (m:UInt8):∀xs,Lib.join xs [m]=jn m xs
 |[]=>rfl
 |[x]=>by simp [Lib.join,List.intercalate,jn]
 |x::y::r=>by
  have ih:=jn_is m (y::r)
  unfold jn
  rw [←ih]
  simp [Lib.join,List.intercalate]
theorem Zbf {m:UInt8}:∀(xs:List (List UInt8)),xs≠[]→(∀x∈xs,∀b∈x,b≠m)→spl m (jn m xs)=xs
 |[],h,_=>absurd rfl h
 |[x],_,h=>VO (h x (by simp))
 |x::y::r,_,h=>by
  unfold jn
  rw [VS _ (h x (by simp)),Zbf (y::r) (by simp) (fun z hz=>h z (by simp [hz]))]
theorem Zbg {k:Int} (h:isLt k=true):i64 k:=by
 have:=YH h
 unfold i64
 omega
theorem Zbt:∀(W:List Int) (k:Int) (V:List Int) (f:Nat),(∀x∈k::W,isLt x=true)→V.length+(k::W).length≤4096→(jn 46 ((k::W).map Lib.itoa)++[93]).length<f→wdU f (jn 46 ((k::W).map Lib.itoa)++[93]) V=some (V++k::W)
 |[],k,V,0,_,_,h=>by omega
 |k2::W,k,V,0,_,_,h=>by omega
 |[],k,V,f+1,hk,hl,_=>by
  rw [wdU]
  have e:jn 46 ([k].map Lib.itoa)++[93]=Lib.itoa k++[93]:=rfl
  rw [e,UK (Zbg (hk k (by simp))) (R:=[93]) (fun b hb=>by
   obtain rfl:=Option.some.inj hb
   unfold dgU
   decide)]
  dsimp only
  rw [if_pos ⟨hk k (by simp),by simp at hl;omega⟩,if_pos rfl]
 |k2::W,k,V,f+1,hk,hl,hf=>by
  have e:jn 46 ((k::k2::W).map Lib.itoa)++[93]=Lib.itoa k++(46::(jn 46 ((k2::W).map Lib.itoa)++[93])):=by
   simp [jn]
  rw [e]at hf ⊢
  rw [wdU,UK (Zbg (hk k (by simp))) (R:=46::(jn 46 ((k2::W).map Lib.itoa)++[93])) (fun b hb=>by
   obtain rfl:=Option.some.inj hb
   unfold dgU
   decide)]
  dsimp only
  rw [if_pos ⟨hk k (by simp),by simp at hl;omega⟩,if_neg (by simp)]
  have hb:bhU (46::(jn 46 ((k2::W).map Lib.itoa)++[93])) 46=some (jn 46 ((k2::W).map Lib.itoa)++[93]):=rfl
  rw [hb]
  dsimp only
  rw [Zbt W k2 (V++[k]) f (fun x hx=>hk x (by simp at hx ⊢;exact .inr hx)) (by simp at hl ⊢;omega) (by simp at hf ⊢;omega)]
  simp
theorem ZcT {W:List Int} (h:isWd W=true):wordU ((ltB W).data.toList++[93])=some W:=by
 have hk:W.length≤4096∧∀x∈W,isLt x=true:=by
  simp only [isWd,Bool.and_eq_true,decide_eq_true_eq,List.all_eq_true]at h
  exact h
 have e:(ltB W).data.toList=jn 46 (W.map Lib.itoa):=by
  unfold ltB
  rw [jn_is]
 rw [e]
 cases W with
 |nil=>rfl
 |cons k W =>
  unfold wordU
  rw [if_neg,Zbt W k [] _ hk.2 (by simpa using hk.1) (by omega)]
  ·rfl
  ·intro h2
   have h3:=congrArg List.length h2
   have h4:1≤(jn 46 ((k::W).map Lib.itoa)).length:=by
    have:1≤(Lib.itoa k).length:=by
     rcases ZT k with ⟨_,e⟩|⟨D,hD,_,e,_⟩|⟨D,hD,_,e,_⟩
     ·rw [e]
      decide
     ·rw [e]
      have:=hD.ne
      cases D with
      |nil=>exact absurd rfl this
      |cons c r=>simp
     ·rw [e]
      simp
    cases W with
    |nil=>exact this
    |cons k2 W =>
     simp [jn]
     omega
   rw [List.length_append]at h3
   have h5:([93]:List UInt8).length=1:=rfl
   omega
theorem ZfJ {k:Int} (h:isCt k=true):i64 k:=by
 simp only [isCt,Bool.and_eq_true,decide_eq_true_eq]at h
 unfold i64
 omega
theorem Zfj {n:Int} (h:isCt n=true):ctU (itB n).data.toList=some n:=by
 have e:(itB n).data.toList=Lib.itoa n++[]:=by simp [itB]
 unfold ctU
 rw [e,UK (ZfJ h) (R:=[]) (fun b hb=>by cases hb)]
 dsimp only
 rw [if_pos h]
theorem UN {z:Gz} (h:mayZ z=true):gzU ((qT z.a z.b z.c z.d).data.toList++(44::((qT z.e z.f z.g z.h).data.toList++[41])))=some z:=by
 simp only [mayZ,Bool.and_eq_true]at h
 rw [XU,XU,ZD,ZD]
 unfold gzU
 rw [Zda h.1 (R:=44::(qL (num z.e z.f) (num z.g z.h)++[41])) (fun b hb=>by
  obtain rfl:=Option.some.inj hb
  unfold dgU
  decide)]
 dsimp only
 have hb:bhU (44::(qL (num z.e z.f) (num z.g z.h)++[41])) 44=some (qL (num z.e z.f) (num z.g z.h)++[41]):=rfl
 rw [hb]
 dsimp only
 rw [Zda h.2 (R:=[41]) (fun b hb=>by
  obtain rfl:=Option.some.inj hb
  unfold dgU
  decide)]
 dsimp only
 rw [if_pos rfl]
theorem XT {a:Ag} (h:mayA a=true):(∃nm,isNm nm=true∧a=⟨1,nm,Gz.zero,[],0⟩)∨(∃z,mayZ z=true∧a=⟨2,eS,z,[],0⟩)∨a=⟨3,eS,Gz.zero,[],0⟩∨(∃W,isWd W=true∧a=⟨4,eS,Gz.zero,W,0⟩)∨∃n,isCt n=true∧a=⟨5,eS,Gz.zero,[],n⟩:=by
 obtain⟨k,nm,z,W,n⟩:=a
 unfold mayA at h
 simp only at h
 split at h
 ·rename_i hk
  simp only [Bool.and_eq_true]at h
  have:=Ag.eqb_iff.1 h.2
  simp at this
  exact .inl ⟨nm,h.1,by simp [hk,this]⟩
 split at h
 ·rename_i hk
  simp only [Bool.and_eq_true]at h
  have:=Ag.eqb_iff.1 h.2
  simp at this
  exact .inr (.inl ⟨z,h.1,by simp [hk,this]⟩)
 split at h
 ·rename_i hk
  have:=Ag.eqb_iff.1 h
  simp at this
  exact .inr (.inr (.inl (by simp [hk,this])))
 split at h
 ·rename_i hk
  simp only [Bool.and_eq_true]at h
  have:=Ag.eqb_iff.1 h.2
  simp at this
  exact .inr (.inr (.inr (.inl ⟨W,h.1,by simp [hk,this]⟩)))
 split at h
 ·rename_i hk
  simp only [Bool.and_eq_true]at h
  have:=Ag.eqb_iff.1 h.2
  simp at this
  exact .inr (.inr (.inr (.inr ⟨n,h.1,by simp [hk,this]⟩)))
 ·cases h
theorem VB {s:ByteArray} (h:isNm s=true):∃b r,s.data.toList=b::r∧97≤b.toNat∧b.toNat≤122:=by
 simp only [isNm,Bool.and_eq_true,decide_eq_true_eq]at h
 cases hs:s.data.toList with
 |nil =>
  have:s.size=0:=by
   rw [←bA_of s,hs,Zo]
   rfl
  omega
 |cons b r =>
  refine⟨b,r,rfl,?_⟩
  have h2:=h.2.1
  rw [Xj,hs]at h2
  simp [smallB]at h2
  omega
theorem ZeQ {a:Ag} (h:mayA a=true):agU (agT a).data.toList=some a:=by
 rcases XT h with ⟨nm,hn,rfl⟩|⟨z,hz,rfl⟩|rfl|⟨W,hW,rfl⟩|⟨n,hn,rfl⟩
 ·have e:agT ⟨1,nm,Gz.zero,[],0⟩=nm:=by simp [agT]
  rw [e]
  obtain⟨b,r,hb,h1,h2⟩:=VB hn
  unfold agU
  have hne:∀c:UInt8,c.toNat<97→¬nm.data.toList.head?=some c:=fun c hc hh=>by
   rw [hb]at hh
   obtain rfl:=Option.some.inj hh
   omega
  rw [if_neg,if_neg (hne 40 (by decide)),if_neg (hne 91 (by decide)),if_neg (hne 35 (by decide)),bA_of,if_pos hn]
  intro e
  rw [e]at hne
  exact hne 40 (by decide) rfl
 ·have e:(agT ⟨2,eS,z,[],0⟩).data.toList=40::((qT z.a z.b z.c z.d).data.toList++(44::((qT z.e z.f z.g z.h).data.toList++[41]))):=by
    simp [agT]
  rw [e]
  unfold agU
  rw [if_neg,if_pos List.head?_cons,List.tail_cons,UN hz]
  intro h2
  have h3:=congrArg List.tail h2
  rw [List.tail_cons,List.tail_cons]at h3
  have h4:=UN hz
  rw [h3]at h4
  have:gzU [105,110,102,41]=none:=by
   unfold gzU frU
   have:numE (bA [105,110,102,41])=none:=by kernel_rfl
   rw [this]
  rw [this]at h4
  cases h4
 ·have e:(agT ⟨3,eS,Gz.zero,[],0⟩).data.toList=[40,105,110,102,41]:=by simp [agT]
  rw [e]
  exact ag_3
 ·have e:(agT ⟨4,eS,Gz.zero,W,0⟩).data.toList=91::((ltB W).data.toList++[93]):=by simp [agT]
  rw [e]
  unfold agU
  rw [if_neg (by simp),if_neg (by simp),if_pos List.head?_cons,List.tail_cons,ZcT hW]
 ·have e:(agT ⟨5,eS,Gz.zero,[],n⟩).data.toList=35::(itB n).data.toList:=by simp [agT]
  rw [e]
  unfold agU
  rw [if_neg (by simp),if_neg (by simp),if_neg (by simp),if_pos List.head?_cons,List.tail_cons,Zfj hn]
theorem Zce (x:Int):∀b∈Lib.itoa x,b=45∨dgU b:=by
 intro b hb
 rcases ZT x with ⟨_,e⟩|⟨D,hD,_,e,_⟩|⟨D,hD,_,e,_⟩
 ·rw [e]at hb
  obtain rfl:=List.mem_singleton.1 hb
  exact .inr (by unfold dgU;decide)
 ·rw [e]at hb
  exact .inr (hD.all b hb)
 ·rw [e]at hb
  rcases List.mem_cons.1 hb with rfl|hb
  ·exact .inl rfl
  ·exact .inr (hD.all b hb)
theorem YE {x:Int} {m:UInt8} (h1:m≠45) (h2:¬dgU m):∀b∈Lib.itoa x,b≠m:=by
 rintro b hb rfl
 rcases Zce x b hb with h|h
 ·exact h1 h
 ·exact h2 h
theorem no32:¬dgU 32:=by
 unfold dgU
 decide
theorem qL_no (x y:Int):∀b∈qL x y,b≠32:=by
 unfold qL
 split
 ·exact YE (by decide) no32
 ·intro b hb
  rw [List.mem_append]at hb
  rcases hb with hb|hb
  ·exact YE (by decide) no32 b hb
  ·rcases List.mem_cons.1 hb with rfl|hb
   ·decide
   ·exact YE (by decide) no32 b hb
theorem jn_no {m:UInt8} (hm:m≠32):∀xs:List (List UInt8),(∀x∈xs,∀b∈x,b≠32)→∀b∈jn m xs,b≠32
 |[],_,b,hb=>by simp [jn]at hb
 |[x],h,b,hb=>h x (by simp) b hb
 |x::y::r,h,b,hb=>by
  unfold jn at hb
  rw [List.mem_append]at hb
  rcases hb with hb|hb
  ·exact h x (by simp) b hb
  ·rcases List.mem_cons.1 hb with rfl|hb
   ·exact hm
   ·exact jn_no hm (y::r) (fun z hz=>h z (by simp [hz])) b hb
theorem U8 {s:ByteArray} (h:isVb s=true):∀b∈s.data.toList,b≠32:=by
 simp only [isVb,Bool.and_eq_true,List.all_eq_true]at h
 rintro b hb rfl
 have:=h.2 (32:UInt8).toNat (by rw [Xj];exact List.mem_map.2 ⟨_,hb,rfl⟩)
 simp [smallB]at this
theorem ZaP {s:ByteArray} (h:isNm s=true):∀b∈s.data.toList,b≠32:=by
 simp only [isNm,Bool.and_eq_true,List.all_eq_true]at h
 rintro b hb rfl
 have:=h.2.2 (32:UInt8).toNat (by rw [Xj];exact List.mem_map.2 ⟨_,hb,rfl⟩)
 simp [nameB,smallB]at this
theorem Vo {a:Ag} (h:mayA a=true):(∀b∈(agT a).data.toList,b≠32)∧(agT a).data.toList.head?≠some 61:=by
 rcases XT h with ⟨nm,hn,rfl⟩|⟨z,hz,rfl⟩|rfl|⟨W,hW,rfl⟩|⟨n,hn,rfl⟩
 ·have e:agT ⟨1,nm,Gz.zero,[],0⟩=nm:=by simp [agT]
  rw [e]
  refine⟨ZaP hn,fun hh=>?_⟩
  obtain⟨b,r,hb,h1,h2⟩:=VB hn
  rw [hb]at hh
  obtain rfl:=Option.some.inj hh
  revert h1
  decide
 ·have e:(agT ⟨2,eS,z,[],0⟩).data.toList=40::((qT z.a z.b z.c z.d).data.toList++(44::((qT z.e z.f z.g z.h).data.toList++[41]))):=by
    simp [agT]
  rw [e,XU,XU,ZD,ZD]
  refine⟨fun b hb=>?_,by simp⟩
  rcases List.mem_cons.1 hb with rfl|hb
  ·decide
  ·rw [List.mem_append]at hb
   rcases hb with hb|hb
   ·exact qL_no _ _ b hb
   ·rcases List.mem_cons.1 hb with rfl|hb
    ·decide
    ·rw [List.mem_append]at hb
     rcases hb with hb|hb
     ·exact qL_no _ _ b hb
     ·obtain rfl:=List.mem_singleton.1 hb
      decide
 ·have e:(agT ⟨3,eS,Gz.zero,[],0⟩).data.toList=[40,105,110,102,41]:=by simp [agT]
  rw [e]
  exact⟨by decide,by decide⟩
 ·have e:(agT ⟨4,eS,Gz.zero,W,0⟩).data.toList=91::((ltB W).data.toList++[93]):=by simp [agT]
  have e2:(ltB W).data.toList=jn 46 (W.map Lib.itoa):=by
   unfold ltB
   rw [jn_is]
  rw [e,e2]
  refine⟨fun b hb=>?_,by simp⟩
  rcases List.mem_cons.1 hb with rfl|hb
  ·decide
  ·rw [List.mem_append]at hb
   rcases hb with hb|hb
   ·refine jn_no (by decide) _ (fun x hx=>?_) b hb
    obtain⟨k,_,rfl⟩:=List.mem_map.1 hx
    exact YE (by decide) no32
   ·obtain rfl:=List.mem_singleton.1 hb
    decide
 ·have e:(agT ⟨5,eS,Gz.zero,[],n⟩).data.toList=35::(itB n).data.toList:=by simp [agT]
  have e2:(itB n).data.toList=Lib.itoa n:=by simp [itB]
  rw [e,e2]
  refine⟨fun b hb=>?_,by simp⟩
  rcases List.mem_cons.1 hb with rfl|hb
  ·decide
  ·exact YE (by decide) no32 b hb
theorem Jh:∀G:List Ag,(∀a∈G,mayA a=true)→agsR (G.map fun a=>(agT a).data.toList)=some G
 |[],_=>rfl
 |a::G,h=>by
  rw [List.map_cons,agsR,ZeQ (h a (by simp)),Jh G (fun x hx=>h x (by simp [hx]))]
theorem JX {G:List Ag} (h:∀a∈G,mayA a=true) (hl:G.length≤64):finG [] (G.map fun a=>(agT a).data.toList)=some G:=by
 unfold finG
 rw [if_pos (by simpa using hl),Jh G h]
 rfl
theorem Vi (s:St):(lnB s).data.toList=jn 32 ((lineL s).map (·.data.toList)):=by
 unfold lnB
 rw [jn_is]
theorem ZbG {s:St} (h:okS s=true):stU (lnB s).data.toList=some s:=by
 obtain⟨h1,h2,h3,h4⟩:=ZJ h
 have hpc:∀x∈(lineL s).map (·.data.toList),∀b∈x,b≠32:=by
  intro x hx
  obtain⟨y,hy,rfl⟩:=List.mem_map.1 hx
  unfold lineL at hy
  rw [List.mem_append]at hy
  rcases hy with hy|hy
  ·split at hy
   ·obtain rfl:=List.mem_singleton.1 hy
    exact U8 h1
   ·rename_i hn
    simp at hy
    rcases hy with rfl|rfl
    ·exact U8 h1
    ·have hnm:isNm s.nm=true:=by
       rcases h2 with h2|h2
       ·exact absurd h2 hn
       ·exact h2
     intro b hb
     simp at hb
     rcases hb with rfl|hb
     ·decide
     ·exact ZaP hnm b (by simpa using hb)
  ·obtain⟨a,ha,rfl⟩:=List.mem_map.1 hy
   exact(Vo (h4 a ha)).1
 have hne:(lineL s).map (·.data.toList)≠[]:=by
  unfold lineL
  split<;>simp
 unfold stU
 rw [Vi,Zbf _ hne hpc]
 unfold lineL
 by_cases hn:s.nm.size=0
 ·rw [if_pos hn]
  have e:(([s.vb]++s.ags.map agT).map (·.data.toList))=s.vb.data.toList::s.ags.map (fun a=>(agT a).data.toList):=by simp
  rw [e]
  dsimp only
  rw [bA_of,if_pos h1,if_neg,JX h4 h3]
  ·dsimp only
   have:=Zi hn
   obtain⟨vb,nm,G⟩:=s
   simp only at this
   subst this
   rfl
  ·cases hg:s.ags with
   |nil=>simp
   |cons a G =>
    simpa using (Vo (h4 a (by rw [hg];simp))).2
 ·rw [if_neg hn]
  have hnm:isNm s.nm=true:=by
   rcases h2 with h2|h2
   ·exact absurd h2 hn
   ·exact h2
  have e:(([s.vb,⟨#[61]⟩++s.nm]++s.ags.map agT).map (·.data.toList))=s.vb.data.toList::(61::s.nm.data.toList)::s.ags.map (fun a=>(agT a).data.toList):=by simp
  rw [e]
  dsimp only
  rw [bA_of,if_pos h1,if_pos (by simp)]
  have e61:bA (((61::s.nm.data.toList)::s.ags.map (fun a=>(agT a).data.toList)).headD []).tail=s.nm:=bA_of s.nm
  rw [if_pos (by rw [e61];exact hnm)]
  show(match finG [] (s.ags.map (fun a=>(agT a).data.toList))with
   |none=>none
   |some G=>some (⟨s.vb,bA (((61::s.nm.data.toList)::s.ags.map (fun a=>(agT a).data.toList)).headD []).tail,G⟩:St))=_
  rw [JX h4 h3,e61]
end Go.Proofs.YtdcadiaeaclpgaaGreatDoor
