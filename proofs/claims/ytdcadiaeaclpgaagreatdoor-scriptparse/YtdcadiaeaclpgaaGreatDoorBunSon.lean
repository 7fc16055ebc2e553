/- The document's number: what a few digits say. -/
import Derived.Test.YtdcadiaeaclpgaaGreatDoorBunSxe
import Derived.Test.YtdcadiaeaclpgaaGreatDoorBunSoc
import Derived.Deep.RegionLaw
import Derived.Deep.RegionHeld3
namespace Go.Proofs.YtdcadiaeaclpgaaGreatDoor
open Go Go.RowKit Go.Lib Go.Sort
set_option linter.unusedVariables false
set_option linter.unusedSimpArgs false
set_option maxHeartbeats 6400000
set_option maxRecDepth 1000000
def nbP (L:List UInt8) (i:Nat):Int:=if L.head?=some 45 then nbF (L.take i).tail 0 else nbF (L.take i) 0
theorem Zbv (L:List UInt8) (c:UInt8) (n:Int):nbF (L++[c]) n=10*nbF L n+(c.toNat:Int)-48:=by simp [nbF,List.foldl_append]
theorem UV (L:List UInt8):nbP L 0=0:=by
 unfold nbP
 split<;>rfl
theorem ZbS {L:List UInt8} (h:L[0]?=some 45):nbP L 1=0:=by
 unfold nbP
 cases L with
 |nil=>cases h
 |cons c l=>split<;>simp at h<;>simp [nbF]<;>simp_all
theorem ZbA {L:List UInt8} {i:Nat} {c:UInt8} (h:L[i]?=some c) (hc:¬(i=0∧c=45)):nbP L (i+1)=10*nbP L i+(c.toNat:Int)-48:=by
 unfold nbP
 rw [List.take_add_one,h]
 show(if _ then nbF (L.take i++[c]).tail 0 else nbF (L.take i++[c]) 0)=_
 split
 ·rename_i h45
  cases i with
  |zero =>
   cases L with
   |nil=>cases h45
   |cons x l =>
    simp at h h45
    subst h h45
    exact absurd ⟨rfl,rfl⟩ hc
  |succ i =>
   cases L with
   |nil=>cases h45
   |cons x l =>
    simp only [List.take_succ_cons,List.cons_append,List.tail_cons]
    exact Zbv _ _ _
 ·exact Zbv _ _ _
theorem ZcZ {L:List UInt8}:∀ {i:Nat},i≤L.length→(nbP L i).natAbs+303≤303*10 ^ i
 |0,_=>by rw [UV];decide
 |i+1,h=>by
  have ih:=ZcZ (L:=L) (i:=i) (by omega)
  have hp:1≤10 ^ i:=Nat.pow_pos (by decide)
  have hi:L[i]?=some (L[i]'(by omega)):=List.getElem?_eq_getElem _
  rw [Nat.pow_succ]
  by_cases hc:i=0∧L[i]'(by omega)=45
  ·obtain⟨rfl,h45⟩:=hc
   rw [h45]at hi
   rw [ZbS hi]
   decide
  ·rw [ZbA hi hc]
   have h255:(L[i]'(by omega)).toNat≤255:=by
    have:=(L[i]'(by omega)).toNat_lt
    omega
   generalize(L[i]'(by omega)).toNat=c at *
   generalize 10 ^ i=p at *
   generalize nbP L i=z at *
   omega
theorem nbP_12 {L:List UInt8} {i:Nat} (h:i≤L.length) (hi:i≤12):-303000000000000≤nbP L i∧nbP L i≤303000000000000:=by
 have h1:=ZcZ h
 have h2:10 ^ i≤10 ^ 12:=Nat.pow_le_pow_right (by decide) hi
 have h3:10 ^ 12=1000000000000:=by decide
 rw [h3]at h2
 generalize 10 ^ i=p at *
 generalize nbP L i=z at *
 omega
theorem nbP_end {L:List UInt8} {i:Nat} (h:i=12∨(L.length≤i∧i≤12)):(if L.head?=some 45 then -(nbP L i)else nbP L i)=nbG L:=by
 unfold nbP nbG
 rcases h with rfl|⟨h,h2⟩
 ·split<;>rfl
 ·rw [List.take_of_length_le h,List.take_of_length_le (by omega)]
  split<;>rfl
theorem VL (L:List UInt8) (hL:L.length≤20000) (w:World) :
    Calls Tryz.prog 75 #[.string (bA L)] w fun e w'=>e=.returned (.int .i64 (nbG L))∧w'=w:=by
 have hsz:=Zo L
 have HAt:Hid (∀k (h:k<(bA L).size),L[k]?=some (bA L)[k]):=fun k h=>bA_at h
 obtain⟨sz,hszz⟩:∃sz,L.length=sz:=⟨_,rfl⟩
 have HSz:Hid (L.length=sz):=hszz
 rw [hszz]at hsz hL
 have hszI:(sz:Int)≤20000:=by omega
 have H45:Hid (∀(h:0<(bA L).size),(L.head?=some 45 ↔ (bA L)[0]=45)):=fun h=>by
  have h1:=bA_at h
  rw [List.head?_eq_getElem?,h1]
  simp
 have HNil:Hid (sz=0→¬L.head?=some 45):=fun h=>by
  have:L=[]:=List.length_eq_zero_iff.1 (by omega)
  rw [this]
  simp
 clear hszz
 generalize bA L=s at *
 go_enter Tryz.func75,Tryz.ntmps75
 go_wp2_with fail
 go_loopw [3,4] (fun s3 s4 wr=>∃i:Nat,i≤12∧i≤sz∧s3=.int .i64 (nbP L i)∧s4=.int .i64 i∧wr=w) (fun _ s4 _=>match s4 with|.int _ i=>12-i.toNat|_=>0)
 case atStart=>exact⟨0,by omega,by omega,by rw [UV],rfl,rfl⟩
 case round =>
  obtain⟨i,hi12,hisz,rfl,rfl,rfl⟩:=hrel
  by_cases hgo:i<sz∧i<12
  ·obtain⟨h1,h2⟩:=hgo
   have hlt:i<s.size:=by omega
   have hltI:(i:Int)<s.size:=by omega
   have h1I:(i:Int)<sz:=by omega
   have h12I:(i:Int)<12:=by omega
   have HX:Hid (L[i]?=some s[i]):=HAt.out i hlt
   obtain⟨hb1,hb2⟩:=nbP_12 (L:=L) (i:=i) (by have:=HSz.out;omega) (by omega)
   have hc255:(s[i].toNat:Int)≤255:=by
    have:=s[i].toNat_lt
    omega
   by_cases hc:i=0∧s[i]=45
   ·obtain⟨rfl,hc⟩:=hc
    have HN:Hid (nbP L (0+1)=nbP L 0):=by
     show _=_
     rw [UV]
     exact ZbS (by rw [HX.out,hc])
    go_wp2_with fail
    first
     |exact⟨⟨1,by omega,by omega,by rw [HN.out],rfl,trivial⟩,by simp⟩
     |exact⟨⟨1,by omega,by omega,by rw [HN.out],rfl,rfl⟩,by simp⟩
   ·have HN:Hid (nbP L (i+1)=10*nbP L i+(s[i].toNat:Int)-48):=ZbA HX.out hc
    have HI:Hid (i<sz∧i<12):=⟨h1,h2⟩
    by_cases h45:s[i]=45
    ·have hi0:0<i:=by
       rcases Nat.eq_zero_or_pos i with h|h
       ·exact absurd ⟨h,h45⟩ hc
       ·exact h
     have hi0I:(0:Int)<i:=by omega
     have hi0b:decide ((0:Int)<(i:Int))=true:=decide_eq_true hi0I
     clear hc
     rw [h45]at HN
     have e45:((45:UInt8).toNat:Int)=45:=by decide
     rw [e45]at HN
     generalize nbP L i=z at *
     go_wp2_with fail
     all_goals first
      |(exfalso;omega)
      |(exfalso;contradiction)
      |(have HN2:=HN.out
        first
         |exact⟨⟨i+1,by omega,by omega,by congr 1;omega,Zl (by omega),trivial⟩,by simp;omega⟩
         |exact⟨⟨i+1,by omega,by omega,by congr 1;omega,Zl (by omega),rfl⟩,by simp;omega⟩)
    ·have h45b:((s[i].toNat:Int) == 45)=false:=by
       rw [beq_eq_false_iff_ne]
       intro h
       apply h45
       apply UInt8.toNat_inj.1
       have:(45:UInt8).toNat=45:=by decide
       omega
     have h45p:¬((s[i].toNat:Int)=45):=by
      rw [beq_eq_false_iff_ne]at h45b
      exact h45b
     clear hc h45
     generalize nbP L i=z at *
     go_wp2_with fail
     all_goals first
      |(exfalso;omega)
      |(exfalso;contradiction)
      |(have HN2:=HN.out
        first
         |exact⟨⟨i+1,by omega,by omega,by congr 1;omega,Zl (by omega),trivial⟩,by simp;omega⟩
         |exact⟨⟨i+1,by omega,by omega,by congr 1;omega,Zl (by omega),rfl⟩,by simp;omega⟩)
  ·have HE:Hid ((if L.head?=some 45 then -(nbP L i)else nbP L i)=nbG L):=nbP_end (by have:=HSz.out;omega)
   obtain⟨hb1,hb2⟩:=nbP_12 (L:=L) (i:=i) (by have:=HSz.out;omega) (by omega)
   by_cases hs0:sz=0
   ·subst hs0
    obtain rfl:i=0:=by omega
    have HE2:Hid (nbP L 0=nbG L):=by
     have h:=HE.out
     rw [if_neg (HNil.out rfl)]at h
     exact h
    generalize nbP L 0=z at *
    go_wp2_with fail
    go_ret
    rw [HE2.out]
    exact⟨rfl,rfl⟩
   ·have hs1:0<s.size:=by omega
    have hs1I:(0:Int)<s.size:=by omega
    have hszp:(0:Int)<sz:=by omega
    have hge:¬((i:Int)<(sz:Int)∧(i:Int)<12):=by omega
    have H45s:=H45.out hs1
    by_cases h45:s[0]=45
    ·have HE2:Hid (-(nbP L i)=nbG L):=by
       have h:=HE.out
       rw [if_pos (H45s.2 h45)]at h
       exact h
     generalize nbP L i=z at *
     clear H45s
     go_wp2_with fail
     all_goals first
      |(exfalso;omega)
      |(go_ret;rw [←HE2.out];exact⟨rfl,rfl⟩)
      |trace_state
    ·have HE2:Hid (nbP L i=nbG L):=by
       have h:=HE.out
       rw [if_neg (fun h2=>h45 (H45s.1 h2))]at h
       exact h
     have h45p:¬((s[0].toNat:Int)=45):=by
      intro h
      apply h45
      apply UInt8.toNat_inj.1
      have:(45:UInt8).toNat=45:=by decide
      omega
     generalize nbP L i=z at *
     clear H45s h45
     go_wp2_with fail
     all_goals first
      |(exfalso;omega)
      |(go_ret;rw [HE2.out];exact⟨rfl,rfl⟩)
      |trace_state
def gsQ (L:List UInt8) (w:World) (base:Nat) (e:Ending):Prop:=∃ab n c,e=.returned (agv (gsA L) (.slice ab n c))∧OwI w base (.slice ab n c) (gsA L).wd
theorem VK {L:List UInt8} {a:Ag} (h:gsA L=a) (w:World) (base:Nat) (ab:Option Addr) (n c:Nat) (hO:OwI w base (.slice ab n c) a.wd):gsQ L w base (.returned (agv a (.slice ab n c))):=by
 unfold gsQ
 rw [h]
 exact⟨ab,n,c,rfl,hO⟩
theorem ZdJ (w:World) :
    Calls Tryz.prog 48 #[.string (bA [40,105,110,102,41])] w fun e w'=>gsQ [40,105,110,102,41] w' w.heap.size e∧w.grownBy w' none:=by
 have HN:Hid (∀w' base,gsQ [40,105,110,102,41] w' base (.returned (agv ⟨3,eS,Gz.zero,[],0⟩ (.slice none 0 0)))):=fun w' base=>VK (by unfold gsA;rw [if_pos rfl]) _ _ _ _ _ (OwI.nil _ _)
 have e:bA [40,105,110,102,41]=⟨#[40,105,110,102,41]⟩:=rfl
 rw [e]
 generalize gsQ [40,105,110,102,41]=R at *
 clear e
 go_enter Tryz.func48,Tryz.ntmps48
 go_wp2_with fail
 refine bodyPost_ret (Zz rfl _ _ w.heap.size _ ⟨3,eS,Gz.zero,[],0⟩ _ _ rfl (heap_alloc_new _ _)) rfl ?_
 exact⟨HN.out _ _,grow1 _ _⟩
theorem Zdd (w:World) :
    Calls Tryz.prog 48 #[.string (bA [])] w fun e w'=>gsQ [] w' w.heap.size e∧w.grownBy w' none:=by
 have HN:Hid (∀w' base,gsQ [] w' base (.returned (agv ⟨0,eS,Gz.zero,[],0⟩ (.slice none 0 0)))):=fun w' base=>VK (by unfold gsA;rw [if_neg (by simp),if_pos rfl]) _ _ _ _ _ (OwI.nil _ _)
 have e:bA []=⟨#[]⟩:=rfl
 rw [e]
 generalize gsQ []=R at *
 clear e
 go_enter Tryz.func48,Tryz.ntmps48
 go_wp2_with fail
 refine bodyPost_ret (Zz rfl _ _ w.heap.size _ ⟨0,eS,Gz.zero,[],0⟩ _ _ rfl (heap_alloc_new _ _)) rfl ?_
 exact⟨HN.out _ _,grow1 _ _⟩
theorem inB_bA {L:List UInt8} (h:L≠[]):(bA L).extract 1 (max 1 (L.length-1))=bA (inB L):=by
 rw [ZeD]
 congr 1
 unfold inB
 cases L with
 |nil=>exact absurd rfl h
 |cons c t =>
  simp only [List.drop_succ_cons,List.drop_zero,List.tail_cons,List.length_cons]
  rw [List.dropLast_eq_take]
  congr 1
  omega
theorem ZcK (L:List UInt8) (hL:L.length≤20000) (hq:¬L=[40,105,110,102,41]) (hn:L≠[]) (n40:¬L.head?=some 40) (n91:¬L.head?=some 91) (n35:¬L.head?=some 35) (w:World) :
    Calls Tryz.prog 48 #[.string (bA L)] w fun e w'=>gsQ L w' w.heap.size e∧w.grownBy w' none:=by
 have HN:Hid (∀w' base,gsQ L w' base (.returned (agv ⟨1,bA L,Gz.zero,[],0⟩ (.slice none 0 0)))):=fun w' base=>VK (by unfold gsA;rw [if_neg hq,if_neg hn,if_neg n40,if_neg n91,if_neg n35]) _ _ _ _ _ (OwI.nil _ _)
 have hE:=YB hq
 have hE0:=YB (L:=L) (M:=[]) hn
 have hsz:=Zo L
 have hs1:0<(bA L).size:=by
  rw [hsz]
  exact List.length_pos_iff.2 hn
 have hx:=bA_at hs1
 have hne:∀c:UInt8,¬L.head?=some c→¬((bA L)[0].toNat:Int)=c.toNat:=fun c hc h=>by
  apply hc
  rw [List.head?_eq_getElem?,hx]
  congr 1
  apply UInt8.toNat_inj.1
  omega
 have h40:¬((bA L)[0].toNat:Int)=40:=hne 40 n40
 have h91:¬((bA L)[0].toNat:Int)=91:=hne 91 n91
 have h35:¬((bA L)[0].toNat:Int)=35:=hne 35 n35
 obtain⟨k,hk⟩:∃k,L.length=k:=⟨_,rfl⟩
 rw [hk]at hsz hL
 have hkI:(k:Int)≤20000:=by omega
 have hk1:(1:Int)≤k:=by omega
 have hs1I:(0:Int)<(bA L).size:=by omega
 clear hq hn n40 n91 n35 hx hne hk
 generalize gsQ L=R at *
 generalize bA L=s at *
 go_enter Tryz.func48,Tryz.ntmps48
 go_wp2_with fail
 refine bodyPost_ret (Zz rfl _ _ w.heap.size _ ⟨1,s,Gz.zero,[],0⟩ _ _ rfl (heap_alloc_new _ _)) rfl ?_
 exact⟨HN.out _ _,grow1 _ _⟩
theorem Zar (L:List UInt8) (hL:L.length≤20000) (hq:¬L=[40,105,110,102,41]) (h35:L.head?=some 35) (w:World) :
    Calls Tryz.prog 48 #[.string (bA L)] w fun e w'=>gsQ L w' w.heap.size e∧w.grownBy w' none:=by
 have hn:L≠[]:=by
  rintro rfl
  cases h35
 have n40:¬L.head?=some 40:=by rw [h35];decide
 have n91:¬L.head?=some 91:=by rw [h35];decide
 have HN:Hid (∀w' base,gsQ L w' base (.returned (agv ⟨5,eS,Gz.zero,[],nbG L.tail⟩ (.slice none 0 0)))):=fun w' base=>VK (by unfold gsA;rw [if_neg hq,if_neg hn,if_neg n40,if_neg n91,if_pos h35]) _ _ _ _ _ (OwI.nil _ _)
 have hE:=YB hq
 have hE0:=YB (L:=L) (M:=[]) hn
 have hsz:=Zo L
 have hs1:0<(bA L).size:=by
  rw [hsz]
  exact List.length_pos_iff.2 hn
 have hx:=bA_at hs1
 have hc:(bA L)[0]=35:=by
  rw [List.head?_eq_getElem?,hx]at h35
  exact Option.some.inj h35
 have HC:Hid (∀W,Calls Tryz.prog 75 #[.string ((bA L).extract 1 L.length)] W fun e w'=>e=.returned (.int .i64 (nbG L.tail))∧w'=W):=fun W=>by
  have h:=VL L.tail (by rw [List.length_tail];omega) W
  have e:(bA L).extract 1 L.length=bA L.tail:=by
   have:=Xq L 1
   rw [hsz]at this
   rw [this,List.drop_one]
  rw [e]
  exact h
 obtain⟨k,hk⟩:∃k,L.length=k:=⟨_,rfl⟩
 rw [hk]at hsz hL HC
 have hkI:(k:Int)≤20000:=by omega
 have hk1:(1:Int)≤k:=by omega
 have hs1I:(0:Int)<(bA L).size:=by omega
 clear hq hn n40 n91 h35 hx hk
 generalize nbG L.tail=z at *
 generalize gsQ L=R at *
 generalize bA L=s at *
 go_enter Tryz.func48,Tryz.ntmps48
 go_wp2_with fail
 refine(HC.out _).mono ?_
 rintro e w1 ⟨rfl,hw1⟩
 obtain rfl:=hw1.symm
 clear hw1
 go_wp2_with fail
 refine bodyPost_ret (Zz rfl _ _ w.heap.size _ ⟨5,eS,Gz.zero,[],z⟩ _ _ rfl (heap_alloc_new _ _)) rfl ?_
 exact⟨HN.out _ _,grow1 _ _⟩
theorem RowS.two {w:World} {base:Nat} {v:Value} {a b:ByteArray} (h:RowS w base v [a,b]):∃g c,v=.slice (some ⟨g,0,none⟩) 2 c∧∀w',w.grownBy w' none→w'.cell? ⟨g,0,none⟩=some (.string a)∧w'.cell? ⟨g,1,none⟩=some (.string b):=by
 rcases h.2 with ⟨_,h0⟩|⟨g,c,cur,rfl,_⟩
 ·cases h0
 ·exact⟨g,c,rfl,fun w' hg=>⟨RowS.cell (h.kept hg) 0 a rfl,RowS.cell (h.kept hg) 1 b rfl⟩⟩
theorem ZbT (s:ByteArray) (hs:s.size≤6000):(∃n p d q,rdF s=some ⟨n,p,d,q⟩∧∀W,Calls Tryz.prog 74 #[.string s] W fun e w'=>e=.returned (.tuple #[frac n p d q,.int .i64 0])∧W.grownBy w' none) ∨
    (rdF s=none∧∀W,Calls Tryz.prog 74 #[.string s] W fun e w'=>e=.returned (.tuple #[frac false eS false eS,.int .i64 130])∧W.grownBy w' none):=by
 by_cases hx:∃y:Fq,FrRes s y.n y.p y.d y.q 0
 ·obtain⟨⟨n,p,d,q⟩,hq⟩:=hx
  refine .inl ⟨n,p,d,q,VQ hq,fun W=>(Uz s hs W).mono ?_⟩
  rintro e w' ⟨n',p',d',q',er,rfl,h,hg⟩
  obtain⟨rfl,rfl,rfl,rfl,rfl⟩:=hq.one h
  exact⟨rfl,hg⟩
 ·refine .inr ⟨?_,fun W=>(Uz s hs W).mono ?_⟩
  ·unfold rdF
   rw [dif_neg hx]
  ·rintro e w' ⟨n',p',d',q',er,rfl,h,hg⟩
   rcases h with ⟨rfl,x,y,h1,h2⟩|⟨rfl,rfl,rfl,rfl,rfl,_⟩
   ·exact absurd ⟨⟨n',p',d',q'⟩,.inl ⟨rfl,x,y,h1,h2⟩⟩ hx
   ·exact⟨rfl,hg⟩
theorem JN (L:List UInt8) (hL:L.length≤6000) (hq:¬L=[40,105,110,102,41]) (h40:L.head?=some 40) (w:World) :
    Calls Tryz.prog 48 #[.string (bA L)] w fun e w'=>gsQ L w' w.heap.size e∧w.grownBy w' none:=by
 have hn:L≠[]:=by
  rintro rfl
  cases h40
 have HNz:Hid (gzG (inB L)=none→∀w' base,gsQ L w' base (.returned (agv ⟨0,eS,Gz.zero,[],0⟩ (.slice none 0 0)))):=fun hz w' base=>VK (by unfold gsA;rw [if_neg hq,if_neg hn,if_pos h40,hz]) _ _ _ _ _ (OwI.nil _ _)
 have HNs:Hid (∀z,gzG (inB L)=some z→∀w' base,gsQ L w' base (.returned (agv ⟨2,eS,z,[],0⟩ (.slice none 0 0)))):=fun z hz w' base=>VK (by unfold gsA;rw [if_neg hq,if_neg hn,if_pos h40,hz]) _ _ _ _ _ (OwI.nil _ _)
 have hE:=YB hq
 have hE0:=YB (L:=L) (M:=[]) hn
 have hsz:=Zo L
 have hs1:0<(bA L).size:=by
  rw [hsz]
  exact List.length_pos_iff.2 hn
 have hx:=bA_at hs1
 have hc:(bA L)[0]=40:=by
  rw [List.head?_eq_getElem?,hx]at h40
  exact Option.some.inj h40
 have hil:(inB L).length≤6000:=by
  unfold inB
  simp
  omega
 have hin:(bA L).extract 1 (max 1 ((L.length:Int)-1)).toNat=bA (inB L):=by
  rw [←inB_bA hn]
  congr 1
  omega
 have HCu:Hid (∀W,Calls Tryz.prog 47 #[.string (bA (inB L)),.int .u8 44] W fun e w'=>∃v,e=.returned v∧RowS w' W.heap.size v ((spl 44 (inB L)).map bA)∧W.grownBy w' none):=fun W=>U2 (inB L) (by omega) 44 44 (by decide) W
 obtain⟨k,hk⟩:∃k,L.length=k:=⟨_,rfl⟩
 rw [hk]at hsz hL hin
 have hkI:(k:Int)≤6000:=by omega
 have hk1:(1:Int)≤k:=by omega
 have hs1I:(0:Int)<(bA L).size:=by omega
 clear hq hn h40 hx hk
 have hsl:∀p∈spl 44 (inB L),p.length≤(inB L).length:=XS _
 by_cases h2:∃a b,spl 44 (inB L)=[a,b]
 ·obtain⟨a,b,hab⟩:=h2
  have ha:=hsl a (by rw [hab];simp)
  have hb:=hsl b (by rw [hab];simp)
  have HG:Hid (gzG (inB L)=match rdF (bA a)with
   |none=>none
   |some x=>match rdF (bA b)with
    |none=>none
    |some y=>some ⟨x.n,x.p,x.d,x.q,y.n,y.p,y.d,y.q⟩):=by
   show _=_
   unfold gzG
   rw [hab]
   rfl
  have hra:=ZbT (bA a) (by rw [Zo];omega)
  have hrb:=ZbT (bA b) (by rw [Zo];omega)
  simp only [hab,List.map_cons,List.map_nil]at HCu
  clear hsl hab ha hb hil
  generalize gzG (inB L)=gz at *
  generalize bA (inB L)=si at *
  generalize gsQ L=R at *
  generalize bA L=s at *
  rcases hra with ⟨n1,p1,d1,q1,ea,hra⟩|⟨ea,hra⟩
  ·rcases hrb with ⟨n2,p2,d2,q2,eb,hrb⟩|⟨eb,hrb⟩
   ·generalize bA a=sa at *
    generalize bA b=sb at *
    have HN:Hid (∀w' base,R w' base (.returned (agv ⟨2,eS,⟨n1,p1,d1,q1,n2,p2,d2,q2⟩,[],0⟩ (.slice none 0 0)))):=HNs.out _ (by rw [HG.out,ea,eb])
    clear ea eb HG HNs HNz
    go_enter Tryz.func48,Tryz.ntmps48
    go_wp2_with fail
    refine(HCu.out _).mono ?_
    rintro e w1 ⟨v1,rfl,hr1,g1⟩
    obtain⟨gp,cp,rfl,hcl⟩:=RowS.two hr1
    have HCl:Hid (∀w',w1.grownBy w' none→w'.cell? ⟨gp,0,none⟩=some (.string sa)∧w'.cell? ⟨gp,1,none⟩=some (.string sb)):=hcl
    have G1:Hid (w.grownBy w1 none):=Za (grow1 _ _) g1
    have H1:Hid (w1.heap[w.heap.size]?=some agZ):=(g1.block _ (by simp) (by simp)).trans (heap_alloc_new _ _)
    obtain⟨l0,l1⟩:=hcl w1 (grow0 _)
    clear hr1 g1 hcl
    go_wp2_with fail
    refine(hra _).mono ?_
    rintro e w2 ⟨rfl,g2⟩
    have G2:Hid (w1.grownBy (w2.alloc (qObj n1 p1 d1 q1)) none):=Za g2 (grow1 _ _)
    have Q2:Hid (QBlk (w2.alloc (qObj n1 p1 d1 q1)) w2.heap.size (.bool n1) (.string p1) (.bool d1) (.string q1)):=heap_alloc_new _ _
    clear g2 l0 l1
    obtain⟨l0,l1⟩:=HCl.out _ G2.out
    go_wp2_with fail
    refine(hrb _).mono ?_
    rintro e w3 ⟨rfl,g3⟩
    have G3:Hid (w1.grownBy (w3.alloc (qObj n2 p2 d2 q2)) none):=Za G2.out (Za g3 (grow1 _ _))
    have Q3:Hid (QBlk (w3.alloc (qObj n2 p2 d2 q2)) w3.heap.size (.bool n2) (.string p2) (.bool d2) (.string q2)):=heap_alloc_new _ _
    have Q2':Hid (QBlk (w3.alloc (qObj n2 p2 d2 q2)) w2.heap.size (.bool n1) (.string p1) (.bool d1) (.string q1)):=Q2.out.kept (Za g3 (grow1 _ _)) (by simp)
    clear g3 l0 l1
    go_upto_region 15 with fail
    generalize w3.alloc (qObj n2 p2 d2 q2)=w4 at *
    have G:Hid (w.grownBy w4 none):=Za G1.out G3.out
    have H4:=(G3.out.block _ (Zg H1.out) (by simp)).trans H1.out
    have x0:=Q2'.out.c0
    have x1:=Q2'.out.c1
    have x2:=Q2'.out.c2
    have x3:=Q2'.out.c3
    have y0:=Q3.out.c0
    have y1:=Q3.out.c1
    have y2:=Q3.out.c2
    have y3:=Q3.out.c3
    have dd0:w4.cell? ⟨w.heap.size,0,none⟩=some (.int .i64 0):=by simp [World.cell?,H4,Gz.zero]
    have ff0:w4.frozen? ⟨w.heap.size,0,none⟩=false:=by simp [World.frozen?,H4]
    have dd1:w4.cell? ⟨w.heap.size,1,none⟩=some (.string eS):=by simp [World.cell?,H4,Gz.zero]
    have ff1:w4.frozen? ⟨w.heap.size,1,none⟩=false:=by simp [World.frozen?,H4]
    have dd2:w4.cell? ⟨w.heap.size,2,none⟩=some (.bool false):=by simp [World.cell?,H4,Gz.zero]
    have ff2:w4.frozen? ⟨w.heap.size,2,none⟩=false:=by simp [World.frozen?,H4]
    have dd3:w4.cell? ⟨w.heap.size,3,none⟩=some (.string eS):=by simp [World.cell?,H4,Gz.zero]
    have ff3:w4.frozen? ⟨w.heap.size,3,none⟩=false:=by simp [World.frozen?,H4]
    have dd4:w4.cell? ⟨w.heap.size,4,none⟩=some (.bool false):=by simp [World.cell?,H4,Gz.zero]
    have ff4:w4.frozen? ⟨w.heap.size,4,none⟩=false:=by simp [World.frozen?,H4]
    have dd5:w4.cell? ⟨w.heap.size,5,none⟩=some (.string eS):=by simp [World.cell?,H4,Gz.zero]
    have ff5:w4.frozen? ⟨w.heap.size,5,none⟩=false:=by simp [World.frozen?,H4]
    have dd6:w4.cell? ⟨w.heap.size,6,none⟩=some (.bool false):=by simp [World.cell?,H4,Gz.zero]
    have ff6:w4.frozen? ⟨w.heap.size,6,none⟩=false:=by simp [World.frozen?,H4]
    have dd7:w4.cell? ⟨w.heap.size,7,none⟩=some (.string eS):=by simp [World.cell?,H4,Gz.zero]
    have ff7:w4.frozen? ⟨w.heap.size,7,none⟩=false:=by simp [World.frozen?,H4]
    have dd8:w4.cell? ⟨w.heap.size,8,none⟩=some (.bool false):=by simp [World.cell?,H4,Gz.zero]
    have ff8:w4.frozen? ⟨w.heap.size,8,none⟩=false:=by simp [World.frozen?,H4]
    have dd9:w4.cell? ⟨w.heap.size,9,none⟩=some (.string eS):=by simp [World.cell?,H4,Gz.zero]
    have ff9:w4.frozen? ⟨w.heap.size,9,none⟩=false:=by simp [World.frozen?,H4]
    have dd10:w4.cell? ⟨w.heap.size,10,none⟩=some (.slice none 0 0):=by simp [World.cell?,H4,Gz.zero]
    have ff10:w4.frozen? ⟨w.heap.size,10,none⟩=false:=by simp [World.frozen?,H4]
    have dd11:w4.cell? ⟨w.heap.size,11,none⟩=some (.int .i64 0):=by simp [World.cell?,H4,Gz.zero]
    have ff11:w4.frozen? ⟨w.heap.size,11,none⟩=false:=by simp [World.frozen?,H4]
    have H5:Hid (((((((((((((w4.setCell ⟨w.heap.size,0,none⟩ (.int .i64 2)).setCell ⟨w.heap.size,1,none⟩ (.string eS)).setCell ⟨w.heap.size,2,none⟩ (.bool n1)).setCell ⟨w.heap.size,3,none⟩ (.string p1)).setCell ⟨w.heap.size,4,none⟩ (.bool d1)).setCell ⟨w.heap.size,5,none⟩ (.string q1)).setCell ⟨w.heap.size,6,none⟩ (.bool n2)).setCell ⟨w.heap.size,7,none⟩ (.string p2)).setCell ⟨w.heap.size,8,none⟩ (.bool d2)).setCell ⟨w.heap.size,9,none⟩ (.string q2)).setCell ⟨w.heap.size,10,none⟩ (.slice none 0 0)).setCell ⟨w.heap.size,11,none⟩ (.int .i64 0)).heap[w.heap.size]?=some (.cells #[.int .i64 2,.string eS,.bool n1,.string p1,.bool d1,.string q1,.bool n2,.string p2,.bool d2,.string q2,.slice none 0 0,.int .i64 0] 45)):=by
     show _=_
     simp [World.setCell,Array.getElem?_modify,H4]
    have HG5:Hid (w.grownBy ((((((((((((w4.setCell ⟨w.heap.size,0,none⟩ (.int .i64 2)).setCell ⟨w.heap.size,1,none⟩ (.string eS)).setCell ⟨w.heap.size,2,none⟩ (.bool n1)).setCell ⟨w.heap.size,3,none⟩ (.string p1)).setCell ⟨w.heap.size,4,none⟩ (.bool d1)).setCell ⟨w.heap.size,5,none⟩ (.string q1)).setCell ⟨w.heap.size,6,none⟩ (.bool n2)).setCell ⟨w.heap.size,7,none⟩ (.string p2)).setCell ⟨w.heap.size,8,none⟩ (.bool d2)).setCell ⟨w.heap.size,9,none⟩ (.string q2)).setCell ⟨w.heap.size,10,none⟩ (.slice none 0 0)).setCell ⟨w.heap.size,11,none⟩ (.int .i64 0)) none):=(Zb (Zb (Zb (Zb (Zb (Zb (Zb (Zb (Zb (Zb (Zb (Zb G.out (Nat.le_refl _)) (Nat.le_refl _)) (Nat.le_refl _)) (Nat.le_refl _)) (Nat.le_refl _)) (Nat.le_refl _)) (Nat.le_refl _)) (Nat.le_refl _)) (Nat.le_refl _)) (Nat.le_refl _)) (Nat.le_refl _)) (Nat.le_refl _))
    clear H4
    go_wp2_with fail
    refine bodyPost_ret (Zz rfl _ _ w.heap.size _ ⟨2,eS,⟨n1,p1,d1,q1,n2,p2,d2,q2⟩,[],0⟩ _ _ rfl H5.out) rfl ?_
    exact⟨HN.out _ _,HG5.out⟩
   ·generalize bA a=sa at *
    generalize bA b=sb at *
    have HN:Hid (∀w' base,R w' base (.returned (agv ⟨0,eS,Gz.zero,[],0⟩ (.slice none 0 0)))):=HNz.out (by rw [HG.out,ea,eb])
    clear ea eb HG HNs HNz
    go_enter Tryz.func48,Tryz.ntmps48
    go_wp2_with fail
    refine(HCu.out _).mono ?_
    rintro e w1 ⟨v1,rfl,hr1,g1⟩
    obtain⟨gp,cp,rfl,hcl⟩:=RowS.two hr1
    have HCl:Hid (∀w',w1.grownBy w' none→w'.cell? ⟨gp,0,none⟩=some (.string sa)∧w'.cell? ⟨gp,1,none⟩=some (.string sb)):=hcl
    have G1:Hid (w.grownBy w1 none):=Za (grow1 _ _) g1
    have H1:Hid (w1.heap[w.heap.size]?=some agZ):=(g1.block _ (by simp) (by simp)).trans (heap_alloc_new _ _)
    obtain⟨l0,l1⟩:=hcl w1 (grow0 _)
    clear hr1 g1 hcl
    go_wp2_with fail
    refine(hra _).mono ?_
    rintro e w2 ⟨rfl,g2⟩
    have G2:Hid (w1.grownBy (w2.alloc (qObj n1 p1 d1 q1)) none):=Za g2 (grow1 _ _)
    have Q2:Hid (QBlk (w2.alloc (qObj n1 p1 d1 q1)) w2.heap.size (.bool n1) (.string p1) (.bool d1) (.string q1)):=heap_alloc_new _ _
    clear g2 l0 l1
    obtain⟨l0,l1⟩:=HCl.out _ G2.out
    go_wp2_with fail
    refine(hrb _).mono ?_
    rintro e w3 ⟨rfl,g3⟩
    have G3:Hid (w1.grownBy (w3.alloc (qObj false eS false eS)) none):=Za G2.out (Za g3 (grow1 _ _))
    have Q3:Hid (QBlk (w3.alloc (qObj false eS false eS)) w3.heap.size (.bool false) (.string eS) (.bool false) (.string eS)):=heap_alloc_new _ _
    have Q2':Hid (QBlk (w3.alloc (qObj false eS false eS)) w2.heap.size (.bool n1) (.string p1) (.bool d1) (.string q1)):=Q2.out.kept (Za g3 (grow1 _ _)) (by simp)
    clear g3 l0 l1
    go_upto_region 14 with fail
    generalize w3.alloc (qObj false eS false eS)=w4 at *
    have G:Hid (w.grownBy w4 none):=Za G1.out G3.out
    have H4:=(G3.out.block _ (Zg H1.out) (by simp)).trans H1.out
    have x0:=Q2'.out.c0
    have x1:=Q2'.out.c1
    have x2:=Q2'.out.c2
    have x3:=Q2'.out.c3
    have y0:=Q3.out.c0
    have y1:=Q3.out.c1
    have y2:=Q3.out.c2
    have y3:=Q3.out.c3
    have dd0:w4.cell? ⟨w.heap.size,0,none⟩=some (.int .i64 0):=by simp [World.cell?,H4,Gz.zero]
    have ff0:w4.frozen? ⟨w.heap.size,0,none⟩=false:=by simp [World.frozen?,H4]
    have dd1:w4.cell? ⟨w.heap.size,1,none⟩=some (.string eS):=by simp [World.cell?,H4,Gz.zero]
    have ff1:w4.frozen? ⟨w.heap.size,1,none⟩=false:=by simp [World.frozen?,H4]
    have dd2:w4.cell? ⟨w.heap.size,2,none⟩=some (.bool false):=by simp [World.cell?,H4,Gz.zero]
    have ff2:w4.frozen? ⟨w.heap.size,2,none⟩=false:=by simp [World.frozen?,H4]
    have dd3:w4.cell? ⟨w.heap.size,3,none⟩=some (.string eS):=by simp [World.cell?,H4,Gz.zero]
    have ff3:w4.frozen? ⟨w.heap.size,3,none⟩=false:=by simp [World.frozen?,H4]
    have dd4:w4.cell? ⟨w.heap.size,4,none⟩=some (.bool false):=by simp [World.cell?,H4,Gz.zero]
    have ff4:w4.frozen? ⟨w.heap.size,4,none⟩=false:=by simp [World.frozen?,H4]
    have dd5:w4.cell? ⟨w.heap.size,5,none⟩=some (.string eS):=by simp [World.cell?,H4,Gz.zero]
    have ff5:w4.frozen? ⟨w.heap.size,5,none⟩=false:=by simp [World.frozen?,H4]
    have dd6:w4.cell? ⟨w.heap.size,6,none⟩=some (.bool false):=by simp [World.cell?,H4,Gz.zero]
    have ff6:w4.frozen? ⟨w.heap.size,6,none⟩=false:=by simp [World.frozen?,H4]
    have dd7:w4.cell? ⟨w.heap.size,7,none⟩=some (.string eS):=by simp [World.cell?,H4,Gz.zero]
    have ff7:w4.frozen? ⟨w.heap.size,7,none⟩=false:=by simp [World.frozen?,H4]
    have dd8:w4.cell? ⟨w.heap.size,8,none⟩=some (.bool false):=by simp [World.cell?,H4,Gz.zero]
    have ff8:w4.frozen? ⟨w.heap.size,8,none⟩=false:=by simp [World.frozen?,H4]
    have dd9:w4.cell? ⟨w.heap.size,9,none⟩=some (.string eS):=by simp [World.cell?,H4,Gz.zero]
    have ff9:w4.frozen? ⟨w.heap.size,9,none⟩=false:=by simp [World.frozen?,H4]
    have dd10:w4.cell? ⟨w.heap.size,10,none⟩=some (.slice none 0 0):=by simp [World.cell?,H4,Gz.zero]
    have ff10:w4.frozen? ⟨w.heap.size,10,none⟩=false:=by simp [World.frozen?,H4]
    have dd11:w4.cell? ⟨w.heap.size,11,none⟩=some (.int .i64 0):=by simp [World.cell?,H4,Gz.zero]
    have ff11:w4.frozen? ⟨w.heap.size,11,none⟩=false:=by simp [World.frozen?,H4]
    have H5:Hid (((((((((((((w4.setCell ⟨w.heap.size,0,none⟩ (.int .i64 0)).setCell ⟨w.heap.size,1,none⟩ (.string eS)).setCell ⟨w.heap.size,2,none⟩ (.bool false)).setCell ⟨w.heap.size,3,none⟩ (.string eS)).setCell ⟨w.heap.size,4,none⟩ (.bool false)).setCell ⟨w.heap.size,5,none⟩ (.string eS)).setCell ⟨w.heap.size,6,none⟩ (.bool false)).setCell ⟨w.heap.size,7,none⟩ (.string eS)).setCell ⟨w.heap.size,8,none⟩ (.bool false)).setCell ⟨w.heap.size,9,none⟩ (.string eS)).setCell ⟨w.heap.size,10,none⟩ (.slice none 0 0)).setCell ⟨w.heap.size,11,none⟩ (.int .i64 0)).heap[w.heap.size]?=some (.cells #[.int .i64 0,.string eS,.bool false,.string eS,.bool false,.string eS,.bool false,.string eS,.bool false,.string eS,.slice none 0 0,.int .i64 0] 45)):=by
     show _=_
     simp [World.setCell,Array.getElem?_modify,H4]
    have HG5:Hid (w.grownBy ((((((((((((w4.setCell ⟨w.heap.size,0,none⟩ (.int .i64 0)).setCell ⟨w.heap.size,1,none⟩ (.string eS)).setCell ⟨w.heap.size,2,none⟩ (.bool false)).setCell ⟨w.heap.size,3,none⟩ (.string eS)).setCell ⟨w.heap.size,4,none⟩ (.bool false)).setCell ⟨w.heap.size,5,none⟩ (.string eS)).setCell ⟨w.heap.size,6,none⟩ (.bool false)).setCell ⟨w.heap.size,7,none⟩ (.string eS)).setCell ⟨w.heap.size,8,none⟩ (.bool false)).setCell ⟨w.heap.size,9,none⟩ (.string eS)).setCell ⟨w.heap.size,10,none⟩ (.slice none 0 0)).setCell ⟨w.heap.size,11,none⟩ (.int .i64 0)) none):=(Zb (Zb (Zb (Zb (Zb (Zb (Zb (Zb (Zb (Zb (Zb (Zb G.out (Nat.le_refl _)) (Nat.le_refl _)) (Nat.le_refl _)) (Nat.le_refl _)) (Nat.le_refl _)) (Nat.le_refl _)) (Nat.le_refl _)) (Nat.le_refl _)) (Nat.le_refl _)) (Nat.le_refl _)) (Nat.le_refl _)) (Nat.le_refl _))
    clear H4
    go_wp2_with fail
    refine bodyPost_ret (Zz rfl _ _ w.heap.size _ ⟨0,eS,Gz.zero,[],0⟩ _ _ rfl H5.out) rfl ?_
    exact⟨HN.out _ _,HG5.out⟩
  ·rcases hrb with ⟨n2,p2,d2,q2,eb,hrb⟩|⟨eb,hrb⟩
   ·generalize bA a=sa at *
    generalize bA b=sb at *
    have HN:Hid (∀w' base,R w' base (.returned (agv ⟨0,eS,Gz.zero,[],0⟩ (.slice none 0 0)))):=HNz.out (by rw [HG.out,ea])
    clear ea eb HG HNs HNz
    go_enter Tryz.func48,Tryz.ntmps48
    go_wp2_with fail
    refine(HCu.out _).mono ?_
    rintro e w1 ⟨v1,rfl,hr1,g1⟩
    obtain⟨gp,cp,rfl,hcl⟩:=RowS.two hr1
    have HCl:Hid (∀w',w1.grownBy w' none→w'.cell? ⟨gp,0,none⟩=some (.string sa)∧w'.cell? ⟨gp,1,none⟩=some (.string sb)):=hcl
    have G1:Hid (w.grownBy w1 none):=Za (grow1 _ _) g1
    have H1:Hid (w1.heap[w.heap.size]?=some agZ):=(g1.block _ (by simp) (by simp)).trans (heap_alloc_new _ _)
    obtain⟨l0,l1⟩:=hcl w1 (grow0 _)
    clear hr1 g1 hcl
    go_wp2_with fail
    refine(hra _).mono ?_
    rintro e w2 ⟨rfl,g2⟩
    have G2:Hid (w1.grownBy (w2.alloc (qObj false eS false eS)) none):=Za g2 (grow1 _ _)
    have Q2:Hid (QBlk (w2.alloc (qObj false eS false eS)) w2.heap.size (.bool false) (.string eS) (.bool false) (.string eS)):=heap_alloc_new _ _
    clear g2 l0 l1
    obtain⟨l0,l1⟩:=HCl.out _ G2.out
    go_wp2_with fail
    refine(hrb _).mono ?_
    rintro e w3 ⟨rfl,g3⟩
    have G3:Hid (w1.grownBy (w3.alloc (qObj n2 p2 d2 q2)) none):=Za G2.out (Za g3 (grow1 _ _))
    have Q3:Hid (QBlk (w3.alloc (qObj n2 p2 d2 q2)) w3.heap.size (.bool n2) (.string p2) (.bool d2) (.string q2)):=heap_alloc_new _ _
    have Q2':Hid (QBlk (w3.alloc (qObj n2 p2 d2 q2)) w2.heap.size (.bool false) (.string eS) (.bool false) (.string eS)):=Q2.out.kept (Za g3 (grow1 _ _)) (by simp)
    clear g3 l0 l1
    go_upto_region 14 with fail
    generalize w3.alloc (qObj n2 p2 d2 q2)=w4 at *
    have G:Hid (w.grownBy w4 none):=Za G1.out G3.out
    have H4:=(G3.out.block _ (Zg H1.out) (by simp)).trans H1.out
    have x0:=Q2'.out.c0
    have x1:=Q2'.out.c1
    have x2:=Q2'.out.c2
    have x3:=Q2'.out.c3
    have y0:=Q3.out.c0
    have y1:=Q3.out.c1
    have y2:=Q3.out.c2
    have y3:=Q3.out.c3
    have dd0:w4.cell? ⟨w.heap.size,0,none⟩=some (.int .i64 0):=by simp [World.cell?,H4,Gz.zero]
    have ff0:w4.frozen? ⟨w.heap.size,0,none⟩=false:=by simp [World.frozen?,H4]
    have dd1:w4.cell? ⟨w.heap.size,1,none⟩=some (.string eS):=by simp [World.cell?,H4,Gz.zero]
    have ff1:w4.frozen? ⟨w.heap.size,1,none⟩=false:=by simp [World.frozen?,H4]
    have dd2:w4.cell? ⟨w.heap.size,2,none⟩=some (.bool false):=by simp [World.cell?,H4,Gz.zero]
    have ff2:w4.frozen? ⟨w.heap.size,2,none⟩=false:=by simp [World.frozen?,H4]
    have dd3:w4.cell? ⟨w.heap.size,3,none⟩=some (.string eS):=by simp [World.cell?,H4,Gz.zero]
    have ff3:w4.frozen? ⟨w.heap.size,3,none⟩=false:=by simp [World.frozen?,H4]
    have dd4:w4.cell? ⟨w.heap.size,4,none⟩=some (.bool false):=by simp [World.cell?,H4,Gz.zero]
    have ff4:w4.frozen? ⟨w.heap.size,4,none⟩=false:=by simp [World.frozen?,H4]
    have dd5:w4.cell? ⟨w.heap.size,5,none⟩=some (.string eS):=by simp [World.cell?,H4,Gz.zero]
    have ff5:w4.frozen? ⟨w.heap.size,5,none⟩=false:=by simp [World.frozen?,H4]
    have dd6:w4.cell? ⟨w.heap.size,6,none⟩=some (.bool false):=by simp [World.cell?,H4,Gz.zero]
    have ff6:w4.frozen? ⟨w.heap.size,6,none⟩=false:=by simp [World.frozen?,H4]
    have dd7:w4.cell? ⟨w.heap.size,7,none⟩=some (.string eS):=by simp [World.cell?,H4,Gz.zero]
    have ff7:w4.frozen? ⟨w.heap.size,7,none⟩=false:=by simp [World.frozen?,H4]
    have dd8:w4.cell? ⟨w.heap.size,8,none⟩=some (.bool false):=by simp [World.cell?,H4,Gz.zero]
    have ff8:w4.frozen? ⟨w.heap.size,8,none⟩=false:=by simp [World.frozen?,H4]
    have dd9:w4.cell? ⟨w.heap.size,9,none⟩=some (.string eS):=by simp [World.cell?,H4,Gz.zero]
    have ff9:w4.frozen? ⟨w.heap.size,9,none⟩=false:=by simp [World.frozen?,H4]
    have dd10:w4.cell? ⟨w.heap.size,10,none⟩=some (.slice none 0 0):=by simp [World.cell?,H4,Gz.zero]
    have ff10:w4.frozen? ⟨w.heap.size,10,none⟩=false:=by simp [World.frozen?,H4]
    have dd11:w4.cell? ⟨w.heap.size,11,none⟩=some (.int .i64 0):=by simp [World.cell?,H4,Gz.zero]
    have ff11:w4.frozen? ⟨w.heap.size,11,none⟩=false:=by simp [World.frozen?,H4]
    have H5:Hid (((((((((((((w4.setCell ⟨w.heap.size,0,none⟩ (.int .i64 0)).setCell ⟨w.heap.size,1,none⟩ (.string eS)).setCell ⟨w.heap.size,2,none⟩ (.bool false)).setCell ⟨w.heap.size,3,none⟩ (.string eS)).setCell ⟨w.heap.size,4,none⟩ (.bool false)).setCell ⟨w.heap.size,5,none⟩ (.string eS)).setCell ⟨w.heap.size,6,none⟩ (.bool false)).setCell ⟨w.heap.size,7,none⟩ (.string eS)).setCell ⟨w.heap.size,8,none⟩ (.bool false)).setCell ⟨w.heap.size,9,none⟩ (.string eS)).setCell ⟨w.heap.size,10,none⟩ (.slice none 0 0)).setCell ⟨w.heap.size,11,none⟩ (.int .i64 0)).heap[w.heap.size]?=some (.cells #[.int .i64 0,.string eS,.bool false,.string eS,.bool false,.string eS,.bool false,.string eS,.bool false,.string eS,.slice none 0 0,.int .i64 0] 45)):=by
     show _=_
     simp [World.setCell,Array.getElem?_modify,H4]
    have HG5:Hid (w.grownBy ((((((((((((w4.setCell ⟨w.heap.size,0,none⟩ (.int .i64 0)).setCell ⟨w.heap.size,1,none⟩ (.string eS)).setCell ⟨w.heap.size,2,none⟩ (.bool false)).setCell ⟨w.heap.size,3,none⟩ (.string eS)).setCell ⟨w.heap.size,4,none⟩ (.bool false)).setCell ⟨w.heap.size,5,none⟩ (.string eS)).setCell ⟨w.heap.size,6,none⟩ (.bool false)).setCell ⟨w.heap.size,7,none⟩ (.string eS)).setCell ⟨w.heap.size,8,none⟩ (.bool false)).setCell ⟨w.heap.size,9,none⟩ (.string eS)).setCell ⟨w.heap.size,10,none⟩ (.slice none 0 0)).setCell ⟨w.heap.size,11,none⟩ (.int .i64 0)) none):=(Zb (Zb (Zb (Zb (Zb (Zb (Zb (Zb (Zb (Zb (Zb (Zb G.out (Nat.le_refl _)) (Nat.le_refl _)) (Nat.le_refl _)) (Nat.le_refl _)) (Nat.le_refl _)) (Nat.le_refl _)) (Nat.le_refl _)) (Nat.le_refl _)) (Nat.le_refl _)) (Nat.le_refl _)) (Nat.le_refl _)) (Nat.le_refl _))
    clear H4
    go_wp2_with fail
    refine bodyPost_ret (Zz rfl _ _ w.heap.size _ ⟨0,eS,Gz.zero,[],0⟩ _ _ rfl H5.out) rfl ?_
    exact⟨HN.out _ _,HG5.out⟩
   ·generalize bA a=sa at *
    generalize bA b=sb at *
    have HN:Hid (∀w' base,R w' base (.returned (agv ⟨0,eS,Gz.zero,[],0⟩ (.slice none 0 0)))):=HNz.out (by rw [HG.out,ea])
    clear ea eb HG HNs HNz
    go_enter Tryz.func48,Tryz.ntmps48
    go_wp2_with fail
    refine(HCu.out _).mono ?_
    rintro e w1 ⟨v1,rfl,hr1,g1⟩
    obtain⟨gp,cp,rfl,hcl⟩:=RowS.two hr1
    have HCl:Hid (∀w',w1.grownBy w' none→w'.cell? ⟨gp,0,none⟩=some (.string sa)∧w'.cell? ⟨gp,1,none⟩=some (.string sb)):=hcl
    have G1:Hid (w.grownBy w1 none):=Za (grow1 _ _) g1
    have H1:Hid (w1.heap[w.heap.size]?=some agZ):=(g1.block _ (by simp) (by simp)).trans (heap_alloc_new _ _)
    obtain⟨l0,l1⟩:=hcl w1 (grow0 _)
    clear hr1 g1 hcl
    go_wp2_with fail
    refine(hra _).mono ?_
    rintro e w2 ⟨rfl,g2⟩
    have G2:Hid (w1.grownBy (w2.alloc (qObj false eS false eS)) none):=Za g2 (grow1 _ _)
    have Q2:Hid (QBlk (w2.alloc (qObj false eS false eS)) w2.heap.size (.bool false) (.string eS) (.bool false) (.string eS)):=heap_alloc_new _ _
    clear g2 l0 l1
    obtain⟨l0,l1⟩:=HCl.out _ G2.out
    go_wp2_with fail
    refine(hrb _).mono ?_
    rintro e w3 ⟨rfl,g3⟩
    have G3:Hid (w1.grownBy (w3.alloc (qObj false eS false eS)) none):=Za G2.out (Za g3 (grow1 _ _))
    have Q3:Hid (QBlk (w3.alloc (qObj false eS false eS)) w3.heap.size (.bool false) (.string eS) (.bool false) (.string eS)):=heap_alloc_new _ _
    have Q2':Hid (QBlk (w3.alloc (qObj false eS false eS)) w2.heap.size (.bool false) (.string eS) (.bool false) (.string eS)):=Q2.out.kept (Za g3 (grow1 _ _)) (by simp)
    clear g3 l0 l1
    go_upto_region 14 with fail
    generalize w3.alloc (qObj false eS false eS)=w4 at *
    have G:Hid (w.grownBy w4 none):=Za G1.out G3.out
    have H4:=(G3.out.block _ (Zg H1.out) (by simp)).trans H1.out
    have x0:=Q2'.out.c0
    have x1:=Q2'.out.c1
    have x2:=Q2'.out.c2
    have x3:=Q2'.out.c3
    have y0:=Q3.out.c0
    have y1:=Q3.out.c1
    have y2:=Q3.out.c2
    have y3:=Q3.out.c3
    have dd0:w4.cell? ⟨w.heap.size,0,none⟩=some (.int .i64 0):=by simp [World.cell?,H4,Gz.zero]
    have ff0:w4.frozen? ⟨w.heap.size,0,none⟩=false:=by simp [World.frozen?,H4]
    have dd1:w4.cell? ⟨w.heap.size,1,none⟩=some (.string eS):=by simp [World.cell?,H4,Gz.zero]
    have ff1:w4.frozen? ⟨w.heap.size,1,none⟩=false:=by simp [World.frozen?,H4]
    have dd2:w4.cell? ⟨w.heap.size,2,none⟩=some (.bool false):=by simp [World.cell?,H4,Gz.zero]
    have ff2:w4.frozen? ⟨w.heap.size,2,none⟩=false:=by simp [World.frozen?,H4]
    have dd3:w4.cell? ⟨w.heap.size,3,none⟩=some (.string eS):=by simp [World.cell?,H4,Gz.zero]
    have ff3:w4.frozen? ⟨w.heap.size,3,none⟩=false:=by simp [World.frozen?,H4]
    have dd4:w4.cell? ⟨w.heap.size,4,none⟩=some (.bool false):=by simp [World.cell?,H4,Gz.zero]
    have ff4:w4.frozen? ⟨w.heap.size,4,none⟩=false:=by simp [World.frozen?,H4]
    have dd5:w4.cell? ⟨w.heap.size,5,none⟩=some (.string eS):=by simp [World.cell?,H4,Gz.zero]
    have ff5:w4.frozen? ⟨w.heap.size,5,none⟩=false:=by simp [World.frozen?,H4]
    have dd6:w4.cell? ⟨w.heap.size,6,none⟩=some (.bool false):=by simp [World.cell?,H4,Gz.zero]
    have ff6:w4.frozen? ⟨w.heap.size,6,none⟩=false:=by simp [World.frozen?,H4]
    have dd7:w4.cell? ⟨w.heap.size,7,none⟩=some (.string eS):=by simp [World.cell?,H4,Gz.zero]
    have ff7:w4.frozen? ⟨w.heap.size,7,none⟩=false:=by simp [World.frozen?,H4]
    have dd8:w4.cell? ⟨w.heap.size,8,none⟩=some (.bool false):=by simp [World.cell?,H4,Gz.zero]
    have ff8:w4.frozen? ⟨w.heap.size,8,none⟩=false:=by simp [World.frozen?,H4]
    have dd9:w4.cell? ⟨w.heap.size,9,none⟩=some (.string eS):=by simp [World.cell?,H4,Gz.zero]
    have ff9:w4.frozen? ⟨w.heap.size,9,none⟩=false:=by simp [World.frozen?,H4]
    have dd10:w4.cell? ⟨w.heap.size,10,none⟩=some (.slice none 0 0):=by simp [World.cell?,H4,Gz.zero]
    have ff10:w4.frozen? ⟨w.heap.size,10,none⟩=false:=by simp [World.frozen?,H4]
    have dd11:w4.cell? ⟨w.heap.size,11,none⟩=some (.int .i64 0):=by simp [World.cell?,H4,Gz.zero]
    have ff11:w4.frozen? ⟨w.heap.size,11,none⟩=false:=by simp [World.frozen?,H4]
    have H5:Hid (((((((((((((w4.setCell ⟨w.heap.size,0,none⟩ (.int .i64 0)).setCell ⟨w.heap.size,1,none⟩ (.string eS)).setCell ⟨w.heap.size,2,none⟩ (.bool false)).setCell ⟨w.heap.size,3,none⟩ (.string eS)).setCell ⟨w.heap.size,4,none⟩ (.bool false)).setCell ⟨w.heap.size,5,none⟩ (.string eS)).setCell ⟨w.heap.size,6,none⟩ (.bool false)).setCell ⟨w.heap.size,7,none⟩ (.string eS)).setCell ⟨w.heap.size,8,none⟩ (.bool false)).setCell ⟨w.heap.size,9,none⟩ (.string eS)).setCell ⟨w.heap.size,10,none⟩ (.slice none 0 0)).setCell ⟨w.heap.size,11,none⟩ (.int .i64 0)).heap[w.heap.size]?=some (.cells #[.int .i64 0,.string eS,.bool false,.string eS,.bool false,.string eS,.bool false,.string eS,.bool false,.string eS,.slice none 0 0,.int .i64 0] 45)):=by
     show _=_
     simp [World.setCell,Array.getElem?_modify,H4]
    have HG5:Hid (w.grownBy ((((((((((((w4.setCell ⟨w.heap.size,0,none⟩ (.int .i64 0)).setCell ⟨w.heap.size,1,none⟩ (.string eS)).setCell ⟨w.heap.size,2,none⟩ (.bool false)).setCell ⟨w.heap.size,3,none⟩ (.string eS)).setCell ⟨w.heap.size,4,none⟩ (.bool false)).setCell ⟨w.heap.size,5,none⟩ (.string eS)).setCell ⟨w.heap.size,6,none⟩ (.bool false)).setCell ⟨w.heap.size,7,none⟩ (.string eS)).setCell ⟨w.heap.size,8,none⟩ (.bool false)).setCell ⟨w.heap.size,9,none⟩ (.string eS)).setCell ⟨w.heap.size,10,none⟩ (.slice none 0 0)).setCell ⟨w.heap.size,11,none⟩ (.int .i64 0)) none):=(Zb (Zb (Zb (Zb (Zb (Zb (Zb (Zb (Zb (Zb (Zb (Zb G.out (Nat.le_refl _)) (Nat.le_refl _)) (Nat.le_refl _)) (Nat.le_refl _)) (Nat.le_refl _)) (Nat.le_refl _)) (Nat.le_refl _)) (Nat.le_refl _)) (Nat.le_refl _)) (Nat.le_refl _)) (Nat.le_refl _)) (Nat.le_refl _))
    clear H4
    go_wp2_with fail
    refine bodyPost_ret (Zz rfl _ _ w.heap.size _ ⟨0,eS,Gz.zero,[],0⟩ _ _ rfl H5.out) rfl ?_
    exact⟨HN.out _ _,HG5.out⟩
 ·skip
  have hgz:gzG (inB L)=none:=by
   unfold gzG
   split
   ·rename_i a b h
    exact absurd ⟨a,b,h⟩ h2
   ·rfl
  have HN:=HNz.out hgz
  have HN2:Hid (∀w' base,gsQ L w' base (.returned (agv ⟨0,eS,Gz.zero,[],0⟩ (.slice none 0 0)))):=HN
  obtain⟨P,hP⟩:∃P,(spl 44 (inB L)).map bA=P:=⟨_,rfl⟩
  have hPl:¬P.length=2:=by
   intro h
   rw [←hP,List.length_map]at h
   match hs:spl 44 (inB L),h with
   |[a,b],_=>exact h2 ⟨a,b,hs⟩
  simp only [hP]at HCu
  obtain⟨m,hm⟩:∃m,P.length=m:=⟨_,rfl⟩
  have hm2:¬((m:Int)=2):=by omega
  have HF:Hid (∀w1 base v,RowS w1 base v P→∃ao c,v=.slice ao m c):=fun w1 base v h=>by
   obtain⟨ao,c,h1⟩:=h.form
   exact⟨ao,c,by rw [h1,hm]⟩
  clear hP hPl hm hgz HN HNs HNz h2 hsl hil
  generalize bA (inB L)=si at *
  generalize gsQ L=R at *
  generalize bA L=s at *
  go_enter Tryz.func48,Tryz.ntmps48
  go_wp2_with fail
  refine(HCu.out _).mono ?_
  rintro e w1 ⟨v1,rfl,hr1,g1⟩
  obtain⟨ao,c1,rfl⟩:=HF.out _ _ _ hr1
  have G:Hid (w.grownBy w1 none):=Za (grow1 _ _) g1
  have H1:w1.heap[w.heap.size]?=some agZ:=(g1.block _ (by simp) (by simp)).trans (heap_alloc_new _ _)
  clear hr1 g1
  go_upto_region 10 with fail
  have dd0:w1.cell? ⟨w.heap.size,0,none⟩=some (.int .i64 0):=by simp [World.cell?,H1,Gz.zero]
  have ff0:w1.frozen? ⟨w.heap.size,0,none⟩=false:=by simp [World.frozen?,H1]
  have dd1:w1.cell? ⟨w.heap.size,1,none⟩=some (.string eS):=by simp [World.cell?,H1,Gz.zero]
  have ff1:w1.frozen? ⟨w.heap.size,1,none⟩=false:=by simp [World.frozen?,H1]
  have dd2:w1.cell? ⟨w.heap.size,2,none⟩=some (.bool false):=by simp [World.cell?,H1,Gz.zero]
  have ff2:w1.frozen? ⟨w.heap.size,2,none⟩=false:=by simp [World.frozen?,H1]
  have dd3:w1.cell? ⟨w.heap.size,3,none⟩=some (.string eS):=by simp [World.cell?,H1,Gz.zero]
  have ff3:w1.frozen? ⟨w.heap.size,3,none⟩=false:=by simp [World.frozen?,H1]
  have dd4:w1.cell? ⟨w.heap.size,4,none⟩=some (.bool false):=by simp [World.cell?,H1,Gz.zero]
  have ff4:w1.frozen? ⟨w.heap.size,4,none⟩=false:=by simp [World.frozen?,H1]
  have dd5:w1.cell? ⟨w.heap.size,5,none⟩=some (.string eS):=by simp [World.cell?,H1,Gz.zero]
  have ff5:w1.frozen? ⟨w.heap.size,5,none⟩=false:=by simp [World.frozen?,H1]
  have dd6:w1.cell? ⟨w.heap.size,6,none⟩=some (.bool false):=by simp [World.cell?,H1,Gz.zero]
  have ff6:w1.frozen? ⟨w.heap.size,6,none⟩=false:=by simp [World.frozen?,H1]
  have dd7:w1.cell? ⟨w.heap.size,7,none⟩=some (.string eS):=by simp [World.cell?,H1,Gz.zero]
  have ff7:w1.frozen? ⟨w.heap.size,7,none⟩=false:=by simp [World.frozen?,H1]
  have dd8:w1.cell? ⟨w.heap.size,8,none⟩=some (.bool false):=by simp [World.cell?,H1,Gz.zero]
  have ff8:w1.frozen? ⟨w.heap.size,8,none⟩=false:=by simp [World.frozen?,H1]
  have dd9:w1.cell? ⟨w.heap.size,9,none⟩=some (.string eS):=by simp [World.cell?,H1,Gz.zero]
  have ff9:w1.frozen? ⟨w.heap.size,9,none⟩=false:=by simp [World.frozen?,H1]
  have dd10:w1.cell? ⟨w.heap.size,10,none⟩=some (.slice none 0 0):=by simp [World.cell?,H1,Gz.zero]
  have ff10:w1.frozen? ⟨w.heap.size,10,none⟩=false:=by simp [World.frozen?,H1]
  have dd11:w1.cell? ⟨w.heap.size,11,none⟩=some (.int .i64 0):=by simp [World.cell?,H1,Gz.zero]
  have ff11:w1.frozen? ⟨w.heap.size,11,none⟩=false:=by simp [World.frozen?,H1]
  have H5:Hid (((((((((((((w1.setCell ⟨w.heap.size,0,none⟩ (.int .i64 0)).setCell ⟨w.heap.size,1,none⟩ (.string eS)).setCell ⟨w.heap.size,2,none⟩ (.bool false)).setCell ⟨w.heap.size,3,none⟩ (.string eS)).setCell ⟨w.heap.size,4,none⟩ (.bool false)).setCell ⟨w.heap.size,5,none⟩ (.string eS)).setCell ⟨w.heap.size,6,none⟩ (.bool false)).setCell ⟨w.heap.size,7,none⟩ (.string eS)).setCell ⟨w.heap.size,8,none⟩ (.bool false)).setCell ⟨w.heap.size,9,none⟩ (.string eS)).setCell ⟨w.heap.size,10,none⟩ (.slice none 0 0)).setCell ⟨w.heap.size,11,none⟩ (.int .i64 0)).heap[w.heap.size]?=some (.cells #[.int .i64 0,.string eS,.bool false,.string eS,.bool false,.string eS,.bool false,.string eS,.bool false,.string eS,.slice none 0 0,.int .i64 0] 45)):=by
   show _=_
   simp [World.setCell,Array.getElem?_modify,H1]
  have HG5:Hid (w.grownBy ((((((((((((w1.setCell ⟨w.heap.size,0,none⟩ (.int .i64 0)).setCell ⟨w.heap.size,1,none⟩ (.string eS)).setCell ⟨w.heap.size,2,none⟩ (.bool false)).setCell ⟨w.heap.size,3,none⟩ (.string eS)).setCell ⟨w.heap.size,4,none⟩ (.bool false)).setCell ⟨w.heap.size,5,none⟩ (.string eS)).setCell ⟨w.heap.size,6,none⟩ (.bool false)).setCell ⟨w.heap.size,7,none⟩ (.string eS)).setCell ⟨w.heap.size,8,none⟩ (.bool false)).setCell ⟨w.heap.size,9,none⟩ (.string eS)).setCell ⟨w.heap.size,10,none⟩ (.slice none 0 0)).setCell ⟨w.heap.size,11,none⟩ (.int .i64 0)) none):=(Zb (Zb (Zb (Zb (Zb (Zb (Zb (Zb (Zb (Zb (Zb (Zb G.out (Nat.le_refl _)) (Nat.le_refl _)) (Nat.le_refl _)) (Nat.le_refl _)) (Nat.le_refl _)) (Nat.le_refl _)) (Nat.le_refl _)) (Nat.le_refl _)) (Nat.le_refl _)) (Nat.le_refl _)) (Nat.le_refl _)) (Nat.le_refl _))
  clear H1
  go_wp2_with fail
  refine bodyPost_ret (Zz rfl _ _ w.heap.size _ ⟨0,eS,Gz.zero,[],0⟩ _ _ rfl H5.out) rfl ?_
  exact⟨HN2.out _ _,HG5.out⟩
theorem Ve {ops:Array Oper} {o:Oper} {a:Act} {w:World} {K:Act→World→Prop} {Q:Exit→Act→World→Prop} {E:Prop}
    (hgd:o.guard=none) (s x:Operand)
    (ho:o.op=.call { callee:=.builtin .append,args:=#[s,x],argTypes:=#[43,43] })
    (base:Nat) (v:Value) (A:List Int) (hs:a.eval s=v) (hR:OwI w base v A) (u:Value) (L:List Int) (hx:a.eval x=u) (hu:Ints w u L) (hl:A.length+L.length≤1000000000000) (hb:base≤w.heap.size)
    (h:∀v' w',OwI w' base v' (A++L)→w.grownBy w' v.ownBlock→K (a.put o.dst v') w') :
    if Region.wanted o (yielded ops a.tmps)=true then Oper.wp Tryz.prog o a w K Q else E:=by
 have hw2:Region.wanted o (yielded ops a.tmps)=true:=by simp [Region.wanted,hgd]
 rw [if_pos hw2]
 obtain⟨v',w',hr,h2,h3⟩:=YU w base o.type v A hR u L hu hl hb
 unfold Oper.wp
 simp [execOp,ho,resolve,invoke,builtin,hs,hx,hr,Result.andThen]
 exact h v' w' h2 h3
theorem Xy {m:UInt8}:∀ {L:List UInt8} {n:Nat},L.length≤n→(spl m L).length≤n+1
 |[],n,_=>by simp [spl]
 |b::l,0,h=>by simp at h
 |b::l,n+1,h=>by
  have ih:=Xy (m:=m) (L:=l) (n:=n) (by simp at h;exact h)
  unfold spl
  split
  ·simp
   omega
  ·split
   ·rename_i p ps e
    rw [e]at ih
    simp at ih ⊢
    omega
   ·simp
abbrev wdO (u:Value):Obj:=.cells (agc ⟨4,eS,Gz.zero,[],0⟩ u) 45
theorem RowS.some1 {w:World} {base:Nat} {v:Value} {P:List ByteArray} (h:RowS w base v P) (h0:P≠[]):∃g c,v=.slice (some ⟨g,0,none⟩) P.length c∧base≤g:=by
 rcases h.2 with ⟨_,h1⟩|⟨g,c,cur,rfl,hb,_⟩
 ·exact absurd (List.length_eq_zero_iff.1 h1) h0
 ·exact⟨g,c,rfl,hb⟩
theorem OwI.ne_str {w:World} {b b' g n c:Nat} {v:Value} {L:List Int} {P:List ByteArray} (hO:OwI w b v L) (hR:RowS w b' (.slice (some ⟨g,0,none⟩) n c) P):v.ownBlock≠some g:=by
 rcases hO.2 with ⟨e,_⟩|⟨g1,cap,cur,e,hb,hg,_⟩
 ·rw [e]
  simp [Value.ownBlock]
 ·rcases hR.2 with ⟨e2,_⟩|⟨g2,cap2,cur2,e2,hb2,hg2,_⟩
  ·cases e2
  ·intro h
   rw [e]at h
   have h1:g1=g:=Option.some.inj h
   injection e2 with h3
   have h4:=Option.some.inj h3
   injection h4 with h5
   rw [h1,h5,hg2]at hg
   injection hg with hg
   injection hg with _ h6
   revert h6
   decide
theorem JZ {a w w':World} {base:Nat} {v:Value} {L:List Int} (h:a.grownBy w none) (ho:OwI w base v L) (hb:a.heap.size≤base) (k:w.grownBy w' v.ownBlock):a.grownBy w' none:=by
 cases hv:v.ownBlock with
 |none=>rw [hv]at k;exact Za h k
 |some g=>rw [hv]at k;exact Zq h (Nat.le_trans hb (World.ownsRow.lt ho g hv).1) k
theorem OwI.ge {w:World} {b g:Nat} {v:Value} {L:List Int} (h:OwI w b v L) (hv:v.ownBlock=some g):b≤g:=(World.ownsRow.lt h g hv).1
theorem ZcE (L:List UInt8) (hL:L.length≤6000) (hq:¬L=[40,105,110,102,41]) (h91:L.head?=some 91) (w:World) :
    Calls Tryz.prog 48 #[.string (bA L)] w fun e w'=>gsQ L w' w.heap.size e∧w.grownBy w' none:=by
 have hn:L≠[]:=by
  rintro rfl
  cases h91
 have n40:¬L.head?=some 40:=by rw [h91];decide
 have HN:Hid (∀w' ab n c,OwI w' w.heap.size (.slice ab n c) (wdG (inB L))→gsQ L w' w.heap.size (.returned (agv ⟨4,eS,Gz.zero,wdG (inB L),0⟩ (.slice ab n c)))):=fun w' ab n c h=>VK (by unfold gsA;rw [if_neg hq,if_neg hn,if_neg n40,if_pos h91]) _ _ _ _ _ h
 have hE:=YB hq
 have hE0:=YB (L:=L) (M:=[]) hn
 have hsz:=Zo L
 have hs1:0<(bA L).size:=by
  rw [hsz]
  exact List.length_pos_iff.2 hn
 have hx:=bA_at hs1
 have hc:(bA L)[0]=91:=by
  rw [List.head?_eq_getElem?,hx]at h91
  exact Option.some.inj h91
 have hil:(inB L).length≤6000:=by
  unfold inB
  simp
  omega
 have hin:(bA L).extract 1 (max 1 ((L.length:Int)-1)).toNat=bA (inB L):=by
  rw [←inB_bA hn]
  congr 1
  omega
 have HCu:Hid (∀W,Calls Tryz.prog 47 #[.string (bA (inB L)),.int .u8 46] W fun e w'=>∃v,e=.returned v∧RowS w' W.heap.size v ((spl 46 (inB L)).map bA)∧W.grownBy w' none):=fun W=>U2 (inB L) (by omega) 46 46 (by decide) W
 obtain⟨k,hk⟩:∃k,L.length=k:=⟨_,rfl⟩
 rw [hk]at hsz hL hin
 have hkI:(k:Int)≤6000:=by omega
 have hk1:(1:Int)≤k:=by omega
 have hs1I:(0:Int)<(bA L).size:=by omega
 clear hq hn n40 h91 hx hk
 have hsl:∀p∈spl 46 (inB L),p.length≤(inB L).length:=XS _
 have HNb:Hid (∀p∈spl 46 (inB L),∀W,Calls Tryz.prog 75 #[.string (bA p)] W fun e w'=>e=.returned (.int .i64 (nbG p))∧w'=W):=fun p hp W=>VL p (by have:=hsl p hp;omega) W
 have HPn:Hid (spl 46 (inB L)≠[]):=X3 _ _
 have HWd:Hid (wdG (inB L)=if inB L=[]then []else(spl 46 (inB L)).map nbG):=rfl
 have HB46:Hid ((spl 46 (inB L)).length≤6001):=Xy hil
 have H0:Hid (((w.alloc agZ).alloc (wdO (.slice none 0 0))).heap[w.heap.size]?=some agZ):=Zx _ _ _
 have H9:Hid (((w.alloc agZ).alloc (wdO (.slice none 0 0))).heap[w.heap.size+1]?=some (wdO (.slice none 0 0))):=by
  have h:=heap_alloc_new (w.alloc agZ) (wdO (.slice none 0 0))
  have e:(w.alloc agZ).heap.size=w.heap.size+1:=by simp
  rw [e]at h
  exact h
 have G2:Hid (w.grownBy ((w.alloc agZ).alloc (wdO (.slice none 0 0))) none):=grow2 _ _ _
 by_cases hemp:inB L=[]
 ·skip
  have HWd0:Hid (wdG (inB L)=[]):=by
   show _=_
   rw [HWd.out,if_pos hemp]
  have hsi:bA (inB L)=eS:=by
   rw [hemp]
   rfl
  have hPL:spl 46 (inB L)=[[]]:=by
   rw [hemp]
   rfl
  simp only [hPL,List.map_cons,List.map_nil,hsi]at HCu
  rw [hsi]at hin
  clear HWd hemp hsl hil HNb HPn HB46 hPL hsi
  generalize wdG (inB L)=WD at *
  generalize gsQ L=R at *
  generalize bA L=s at *
  go_enter Tryz.func48,Tryz.ntmps48
  go_upto_region 18 with fail
  change Code.wp _ _ _ _ ((w.alloc agZ).alloc (wdO (.slice none 0 0)))
  generalize(w.alloc agZ).alloc (wdO (.slice none 0 0))=w2 at *
  go_wp2_with fail
  refine(HCu.out _).mono ?_
  rintro e w3 ⟨v3,rfl,hr3,g3⟩
  obtain⟨g,cp,rfl,hbg⟩:=RowS.some1 hr3 (by simp)
  have h0:=(g3.block _ (Zg H0.out) (by simp)).trans H0.out
  have h9:=(g3.block _ (Zg H9.out) (by simp)).trans H9.out
  have G3:Hid (w.grownBy w3 none):=Za G2.out g3
  clear hr3 g3 hbg H0 H9 G2
  have kk0:w3.cell? ⟨w.heap.size+1,0,none⟩=some (.int .i64 4):=by simp [World.cell?,h9,Gz.zero]
  have kk1:w3.cell? ⟨w.heap.size+1,1,none⟩=some (.string eS):=by simp [World.cell?,h9,Gz.zero]
  have kk2:w3.cell? ⟨w.heap.size+1,2,none⟩=some (.bool false):=by simp [World.cell?,h9,Gz.zero]
  have kk3:w3.cell? ⟨w.heap.size+1,3,none⟩=some (.string eS):=by simp [World.cell?,h9,Gz.zero]
  have kk4:w3.cell? ⟨w.heap.size+1,4,none⟩=some (.bool false):=by simp [World.cell?,h9,Gz.zero]
  have kk5:w3.cell? ⟨w.heap.size+1,5,none⟩=some (.string eS):=by simp [World.cell?,h9,Gz.zero]
  have kk6:w3.cell? ⟨w.heap.size+1,6,none⟩=some (.bool false):=by simp [World.cell?,h9,Gz.zero]
  have kk7:w3.cell? ⟨w.heap.size+1,7,none⟩=some (.string eS):=by simp [World.cell?,h9,Gz.zero]
  have kk8:w3.cell? ⟨w.heap.size+1,8,none⟩=some (.bool false):=by simp [World.cell?,h9,Gz.zero]
  have kk9:w3.cell? ⟨w.heap.size+1,9,none⟩=some (.string eS):=by simp [World.cell?,h9,Gz.zero]
  have kk10:w3.cell? ⟨w.heap.size+1,10,none⟩=some (.slice none 0 0):=by simp [World.cell?,h9,Gz.zero]
  have kk11:w3.cell? ⟨w.heap.size+1,11,none⟩=some (.int .i64 0):=by simp [World.cell?,h9,Gz.zero]
  have dd0:w3.cell? ⟨w.heap.size,0,none⟩=some (.int .i64 0):=by simp [World.cell?,h0,Gz.zero]
  have ff0:w3.frozen? ⟨w.heap.size,0,none⟩=false:=by simp [World.frozen?,h0]
  have dd1:w3.cell? ⟨w.heap.size,1,none⟩=some (.string eS):=by simp [World.cell?,h0,Gz.zero]
  have ff1:w3.frozen? ⟨w.heap.size,1,none⟩=false:=by simp [World.frozen?,h0]
  have dd2:w3.cell? ⟨w.heap.size,2,none⟩=some (.bool false):=by simp [World.cell?,h0,Gz.zero]
  have ff2:w3.frozen? ⟨w.heap.size,2,none⟩=false:=by simp [World.frozen?,h0]
  have dd3:w3.cell? ⟨w.heap.size,3,none⟩=some (.string eS):=by simp [World.cell?,h0,Gz.zero]
  have ff3:w3.frozen? ⟨w.heap.size,3,none⟩=false:=by simp [World.frozen?,h0]
  have dd4:w3.cell? ⟨w.heap.size,4,none⟩=some (.bool false):=by simp [World.cell?,h0,Gz.zero]
  have ff4:w3.frozen? ⟨w.heap.size,4,none⟩=false:=by simp [World.frozen?,h0]
  have dd5:w3.cell? ⟨w.heap.size,5,none⟩=some (.string eS):=by simp [World.cell?,h0,Gz.zero]
  have ff5:w3.frozen? ⟨w.heap.size,5,none⟩=false:=by simp [World.frozen?,h0]
  have dd6:w3.cell? ⟨w.heap.size,6,none⟩=some (.bool false):=by simp [World.cell?,h0,Gz.zero]
  have ff6:w3.frozen? ⟨w.heap.size,6,none⟩=false:=by simp [World.frozen?,h0]
  have dd7:w3.cell? ⟨w.heap.size,7,none⟩=some (.string eS):=by simp [World.cell?,h0,Gz.zero]
  have ff7:w3.frozen? ⟨w.heap.size,7,none⟩=false:=by simp [World.frozen?,h0]
  have dd8:w3.cell? ⟨w.heap.size,8,none⟩=some (.bool false):=by simp [World.cell?,h0,Gz.zero]
  have ff8:w3.frozen? ⟨w.heap.size,8,none⟩=false:=by simp [World.frozen?,h0]
  have dd9:w3.cell? ⟨w.heap.size,9,none⟩=some (.string eS):=by simp [World.cell?,h0,Gz.zero]
  have ff9:w3.frozen? ⟨w.heap.size,9,none⟩=false:=by simp [World.frozen?,h0]
  have dd10:w3.cell? ⟨w.heap.size,10,none⟩=some (.slice none 0 0):=by simp [World.cell?,h0,Gz.zero]
  have ff10:w3.frozen? ⟨w.heap.size,10,none⟩=false:=by simp [World.frozen?,h0]
  have dd11:w3.cell? ⟨w.heap.size,11,none⟩=some (.int .i64 0):=by simp [World.cell?,h0,Gz.zero]
  have ff11:w3.frozen? ⟨w.heap.size,11,none⟩=false:=by simp [World.frozen?,h0]
  have H5:Hid (((((((((((((w3.setCell ⟨w.heap.size,0,none⟩ (.int .i64 4)).setCell ⟨w.heap.size,1,none⟩ (.string eS)).setCell ⟨w.heap.size,2,none⟩ (.bool false)).setCell ⟨w.heap.size,3,none⟩ (.string eS)).setCell ⟨w.heap.size,4,none⟩ (.bool false)).setCell ⟨w.heap.size,5,none⟩ (.string eS)).setCell ⟨w.heap.size,6,none⟩ (.bool false)).setCell ⟨w.heap.size,7,none⟩ (.string eS)).setCell ⟨w.heap.size,8,none⟩ (.bool false)).setCell ⟨w.heap.size,9,none⟩ (.string eS)).setCell ⟨w.heap.size,10,none⟩ (.slice none 0 0)).setCell ⟨w.heap.size,11,none⟩ (.int .i64 0)).heap[w.heap.size]?=some (.cells #[.int .i64 4,.string eS,.bool false,.string eS,.bool false,.string eS,.bool false,.string eS,.bool false,.string eS,.slice none 0 0,.int .i64 0] 45)):=by
   show _=_
   simp [World.setCell,Array.getElem?_modify,h0]
  have HG5:Hid (w.grownBy ((((((((((((w3.setCell ⟨w.heap.size,0,none⟩ (.int .i64 4)).setCell ⟨w.heap.size,1,none⟩ (.string eS)).setCell ⟨w.heap.size,2,none⟩ (.bool false)).setCell ⟨w.heap.size,3,none⟩ (.string eS)).setCell ⟨w.heap.size,4,none⟩ (.bool false)).setCell ⟨w.heap.size,5,none⟩ (.string eS)).setCell ⟨w.heap.size,6,none⟩ (.bool false)).setCell ⟨w.heap.size,7,none⟩ (.string eS)).setCell ⟨w.heap.size,8,none⟩ (.bool false)).setCell ⟨w.heap.size,9,none⟩ (.string eS)).setCell ⟨w.heap.size,10,none⟩ (.slice none 0 0)).setCell ⟨w.heap.size,11,none⟩ (.int .i64 0)) none):=(Zb (Zb (Zb (Zb (Zb (Zb (Zb (Zb (Zb (Zb (Zb (Zb G3.out (Nat.le_refl _)) (Nat.le_refl _)) (Nat.le_refl _)) (Nat.le_refl _)) (Nat.le_refl _)) (Nat.le_refl _)) (Nat.le_refl _)) (Nat.le_refl _)) (Nat.le_refl _)) (Nat.le_refl _)) (Nat.le_refl _)) (Nat.le_refl _))
  clear h0 h9
  simp only [List.length_singleton]
  go_wp2_with fail
  go_loopw [11] (fun s11 wr=>s11=.int .i64 0∧wr=w3) (fun _ _=>0)
  case atStart=>exact⟨rfl,rfl⟩
  case round =>
   obtain⟨rfl,rfl⟩:=hrel
   go_upto_region 23 with fail
   go_wp2_with fail
   refine bodyPost_ret (Zz rfl _ _ w.heap.size _ ⟨4,eS,Gz.zero,[],0⟩ _ _ rfl H5.out) rfl ?_
   rw [HWd0.out]at HN
   exact⟨HN.out _ _ _ _ (OwI.nil _ _),HG5.out⟩
 ·have hEi:=YB (L:=inB L) (M:=[]) hemp
  have HWd2:Hid (wdG (inB L)=(spl 46 (inB L)).map nbG):=by
   show _=_
   rw [HWd.out,if_neg hemp]
  clear HWd hemp hsl hil
  generalize wdG (inB L)=WD at *
  generalize bA (inB L)=si at *
  generalize spl 46 (inB L)=PL at *
  generalize gsQ L=R at *
  generalize bA L=s at *
  go_enter Tryz.func48,Tryz.ntmps48
  go_upto_region 18 with fail
  change Code.wp _ _ _ _ ((w.alloc agZ).alloc (wdO (.slice none 0 0)))
  generalize(w.alloc agZ).alloc (wdO (.slice none 0 0))=w2 at *
  go_wp2_with fail
  refine(HCu.out _).mono ?_
  rintro e w3 ⟨v3,rfl,hr3,g3⟩
  obtain⟨g,cp,rfl,hbg⟩:=RowS.some1 hr3 (by
   intro h
   exact HPn.out (List.map_eq_nil_iff.1 h))
  have H0':Hid (w3.heap[w.heap.size]?=some agZ):=(g3.block _ (Zg H0.out) (by simp)).trans H0.out
  have H9':Hid (w3.heap[w.heap.size+1]?=some (wdO (.slice none 0 0))):=(g3.block _ (Zg H9.out) (by simp)).trans H9.out
  have G3:Hid (w.grownBy w3 none):=Za G2.out g3
  have HB9:Hid (w.heap.size+1<w2.heap.size):=Zg H9.out
  have HBg:Hid (w2.heap.size≤g):=hbg
  obtain⟨n,hn⟩:∃n,PL.length=n:=⟨_,rfl⟩
  have HLn:Unit→PL.length=n:=fun _=>hn
  have hnI:(n:Int)≤6001:=by
   have:=HB46.out
   omega
  have hml:(PL.map bA).length=n:=by rw [List.length_map];exact hn
  rw [hml]at hr3 ⊢
  have HR3:Hid (RowS w3 w2.heap.size (.slice (some ⟨g,0,none⟩) n cp) (PL.map bA)):=hr3
  have HO3:Hid (OwI w3 w2.heap.size (.slice none 0 0) []):=OwI.nil _ _
  clear hr3 g3 hbg hn hml H0 H9 G2 HPn
  go_wp2_with fail
  obtain⟨wz,hwz⟩:∃wz,wz=w3:=⟨_,rfl⟩
  have HZ:Hid (wz=w3):=hwz
  rw [←hwz]
  clear hwz
  go_loopw [11] (fun s11 wr=>∃(i:Nat) (ab:Option Addr) (c:Nat),i≤n∧s11=.int .i64 i∧wr.heap[w.heap.size+1]?=some (wdO (.slice ab i c))∧wr.heap[w.heap.size]?=some agZ∧OwI wr w2.heap.size (.slice ab i c) ((PL.take i).map nbG)∧RowS wr w2.heap.size (.slice (some ⟨g,0,none⟩) n cp) (PL.map bA)∧w.grownBy wr none) (fun s11 _=>match s11 with|.int _ i=>n-i.toNat|_=>0)
  case atStart=>exact⟨0,none,0,by omega,rfl,by rw [HZ.out];exact H9'.out,by rw [HZ.out];exact H0'.out,by rw [HZ.out];exact HO3.out,by rw [HZ.out];exact HR3.out,by rw [HZ.out];exact G3.out⟩
  case round =>
   obtain⟨i,ab,c,hi,rfl,h9,h0,hO,hR,hg⟩:=hrel
   have HN9:Hid (wr.heap[w.heap.size+1]?=some (wdO (.slice ab i c))):=h9
   have HN0:Hid (wr.heap[w.heap.size]?=some agZ):=h0
   have HO:Hid (OwI wr w2.heap.size (.slice ab i c) ((PL.take i).map nbG)):=hO
   have HR:Hid (RowS wr w2.heap.size (.slice (some ⟨g,0,none⟩) n cp) (PL.map bA)):=hR
   have HNB:Hid ((Value.slice ab i c).ownBlock≠some g):=hO.ne_str hR
   have HG:Hid (w.grownBy wr none):=hg
   clear h9 h0 hO hR hg H0' H9' HO3 HR3 HZ
   by_cases hlt:i<n
   ·obtain⟨p,hp⟩:∃p,PL[i]?=some p:=⟨_,List.getElem?_eq_getElem (by rw [HLn ()];exact hlt)⟩
    have HC:=HNb.out p (List.mem_of_getElem? hp)
    have k0:=RowS.cell HR.out i (bA p) (by rw [List.getElem?_map,hp];rfl)
    have k9:wr.cell? ⟨w.heap.size+1,10,none⟩=some (.slice ab i c):=by simp [World.cell?,HN9.out]
    have HNx:Hid ((PL.take i).map nbG++[nbG p]=(PL.take (i+1)).map nbG):=by
     show _=_
     rw [List.take_add_one,hp]
     simp
    have HTl:Hid (((PL.take i).map nbG).length=i):=by
     show _=_
     rw [List.length_map,List.length_take,HLn ()]
     omega
    have hltI:(i:Int)<n:=by omega
    generalize bA p=sp at *
    generalize nbG p=z at *
    have HT1:Hid (((PL.take i).map nbG++[z]).length=i+1):=by
     show _=_
     rw [List.length_append,HTl.out]
     rfl
    go_wp2_with fail
    go_region_law (first
     |(refine Ve rfl _ _ rfl w2.heap.size (.slice ab i c) ((PL.take i).map nbG) rfl (OA.out.kept0 (grow1 _ _)) (.slice (some ⟨wA.heap.size,0,none⟩) 1 1) [z] rfl (Zb1 wA z) (by rw [HTl.out];simp;omega) (by have:=NA.out;simp;omega) ?_
       intro v7 w7 hO7 hg7
       obtain⟨ab3,c3,rfl⟩:=hO7.form
       rw [HT1.out]at hO7 ⊢
       have O7:Hid (OwI w7 w2.heap.size (.slice ab3 (i+1) c3) ((PL.take i).map nbG++[z])):=hO7
       have N7:Hid (w7.heap[w.heap.size+1]?=some (wdO (.slice ab i c))):=(hg7.block _ (by have:=Zg A9.out;simp;omega) (fun e=>by have:=OwI.ge HO.out e.symm;have:=HB9.out;omega)).trans (((grow1 wA _).block _ (Zg A9.out) (by simp)).trans A9.out)
       have M7:Hid (w7.heap[w.heap.size]?=some agZ):=(hg7.block _ (by have:=Zg A0.out;simp;omega) (fun e=>by have:=OwI.ge HO.out e.symm;have:=HB9.out;omega)).trans (((grow1 wA _).block _ (Zg A0.out) (by simp)).trans A0.out)
       have R7:Hid (RowS w7 w2.heap.size (.slice (some ⟨g,0,none⟩) n cp) (PL.map bA)):=World.ownsRow.kept (AR.out.kept (grow1 _ _)) hg7 (.inr (fun e=>HNB.out (by rw [←e];rfl)))
       have G7:Hid (w.grownBy w7 none):=JZ (Za AG.out (grow1 _ _)) (OA.out.kept0 (grow1 _ _)) (by have:=HB9.out;omega) hg7
       have k8:w7.cell? ⟨w.heap.size+1,10,none⟩=some (.slice ab i c):=by simp [World.cell?,N7.out]
       have y8:w7.frozen? ⟨w.heap.size+1,10,none⟩=false:=by simp [World.frozen?,N7.out]
       clear hO7 hg7)
     |(go_simp
       go_at_call 75
       refine(HC _).mono ?_
       rintro e wA ⟨rfl,hwA⟩
       have GA:wr.grownBy wA none:=by
        rw [hwA]
        first|exact grow0 _|exact Zf (grow0 _)|exact ZC (grow0 _) _
       have OA:Hid (OwI wA w2.heap.size (.slice ab i c) ((PL.take i).map nbG)):=HO.out.kept0 GA
       have AR:Hid (RowS wA w2.heap.size (.slice (some ⟨g,0,none⟩) n cp) (PL.map bA)):=HR.out.kept GA
       have A9:Hid (wA.heap[w.heap.size+1]?=some (wdO (.slice ab i c))):=(GA.block _ (Zg HN9.out) (by simp)).trans HN9.out
       have A0:Hid (wA.heap[w.heap.size]?=some agZ):=(GA.block _ (Zg HN0.out) (by simp)).trans HN0.out
       have AG:Hid (w.grownBy wA none):=Za HG.out GA
       have NA:Hid (w2.heap.size≤wA.heap.size):=by
        have h1:=HBg.out
        have h2:=(World.ownsRow.lt AR.out g rfl).2
        show _≤_
        omega
       have kA:wA.cell? ⟨w.heap.size+1,10,none⟩=some (.slice ab i c):=by simp [World.cell?,A9.out]
       have kA2:(wA.alloc (.cells #[.int .i64 z] 3)).cell? ⟨w.heap.size+1,10,none⟩=some (.slice ab i c):=Zd (grow1 _ _) kA (by simp)
       have lA:wA.cell? ⟨g,0+i,none⟩=some (.string sp):=by rw [Nat.zero_add];exact Zd GA k0 (by simp)
       clear hwA GA
       dsimp only))
    all_goals (
     have S9:Hid ((w7.setCell ⟨w.heap.size+1,10,none⟩ (.slice ab3 (i+1) c3)).heap[w.heap.size+1]?=some (wdO (.slice ab3 (i+1) c3))):=by
      show _=_
      simp [World.setCell,Array.getElem?_modify,N7.out]
     have S0:Hid ((w7.setCell ⟨w.heap.size+1,10,none⟩ (.slice ab3 (i+1) c3)).heap[w.heap.size]?=some agZ):=by
      show _=_
      simp [World.setCell,Array.getElem?_modify,M7.out]
     have SO:Hid (OwI (w7.setCell ⟨w.heap.size+1,10,none⟩ (.slice ab3 (i+1) c3)) w2.heap.size (.slice ab3 (i+1) c3) ((PL.take i).map nbG++[z])):=O7.out.kept (Zc _ _ _ _) (.inr (fun e=>by have:=OwI.ge O7.out e;have:=HB9.out;omega))
     have SR:Hid (RowS (w7.setCell ⟨w.heap.size+1,10,none⟩ (.slice ab3 (i+1) c3)) w2.heap.size (.slice (some ⟨g,0,none⟩) n cp) (PL.map bA)):=World.ownsRow.kept R7.out (Zc _ _ _ _) (.inr (fun e=>by
      have h1:g=w.heap.size+1:=Option.some.inj e
      have:=HBg.out
      have:=HB9.out
      omega))
     have SG:Hid (w.grownBy (w7.setCell ⟨w.heap.size+1,10,none⟩ (.slice ab3 (i+1) c3)) none):=Zb G7.out (by omega)
     generalize w7.setCell ⟨w.heap.size+1,10,none⟩ (.slice ab3 (i+1) c3)=w8 at *
     go_wp2_with fail
     go_roundw
     case rel=>exact⟨i+1,ab3,c3,by omega,Zl (by omega),S9.out,S0.out,by rw [←HNx.out];exact SO.out,SR.out,SG.out⟩
     case measure=>simp<;>omega)
   ·skip
    obtain rfl:i=n:=by omega
    have hltI:decide ((i:Int)<(i:Int))=false:=decide_eq_false (by omega)
    have HOn:Hid (OwI wr w2.heap.size (.slice ab i c) WD):=by
     have h:OwI _ _ _ _:=HO.out
     rw [←HLn (),List.take_length]at h
     show OwI _ _ _ _
     rw [HWd2.out]
     rw [HLn ()]at h
     exact h
    have h0:=HN0.out
    have h9:=HN9.out
    have kk0:wr.cell? ⟨w.heap.size+1,0,none⟩=some (.int .i64 4):=by simp [World.cell?,h9,Gz.zero]
    have kk1:wr.cell? ⟨w.heap.size+1,1,none⟩=some (.string eS):=by simp [World.cell?,h9,Gz.zero]
    have kk2:wr.cell? ⟨w.heap.size+1,2,none⟩=some (.bool false):=by simp [World.cell?,h9,Gz.zero]
    have kk3:wr.cell? ⟨w.heap.size+1,3,none⟩=some (.string eS):=by simp [World.cell?,h9,Gz.zero]
    have kk4:wr.cell? ⟨w.heap.size+1,4,none⟩=some (.bool false):=by simp [World.cell?,h9,Gz.zero]
    have kk5:wr.cell? ⟨w.heap.size+1,5,none⟩=some (.string eS):=by simp [World.cell?,h9,Gz.zero]
    have kk6:wr.cell? ⟨w.heap.size+1,6,none⟩=some (.bool false):=by simp [World.cell?,h9,Gz.zero]
    have kk7:wr.cell? ⟨w.heap.size+1,7,none⟩=some (.string eS):=by simp [World.cell?,h9,Gz.zero]
    have kk8:wr.cell? ⟨w.heap.size+1,8,none⟩=some (.bool false):=by simp [World.cell?,h9,Gz.zero]
    have kk9:wr.cell? ⟨w.heap.size+1,9,none⟩=some (.string eS):=by simp [World.cell?,h9,Gz.zero]
    have kk10:wr.cell? ⟨w.heap.size+1,10,none⟩=some (.slice ab i c):=by simp [World.cell?,h9,Gz.zero]
    have kk11:wr.cell? ⟨w.heap.size+1,11,none⟩=some (.int .i64 0):=by simp [World.cell?,h9,Gz.zero]
    have dd0:wr.cell? ⟨w.heap.size,0,none⟩=some (.int .i64 0):=by simp [World.cell?,h0,Gz.zero]
    have ff0:wr.frozen? ⟨w.heap.size,0,none⟩=false:=by simp [World.frozen?,h0]
    have dd1:wr.cell? ⟨w.heap.size,1,none⟩=some (.string eS):=by simp [World.cell?,h0,Gz.zero]
    have ff1:wr.frozen? ⟨w.heap.size,1,none⟩=false:=by simp [World.frozen?,h0]
    have dd2:wr.cell? ⟨w.heap.size,2,none⟩=some (.bool false):=by simp [World.cell?,h0,Gz.zero]
    have ff2:wr.frozen? ⟨w.heap.size,2,none⟩=false:=by simp [World.frozen?,h0]
    have dd3:wr.cell? ⟨w.heap.size,3,none⟩=some (.string eS):=by simp [World.cell?,h0,Gz.zero]
    have ff3:wr.frozen? ⟨w.heap.size,3,none⟩=false:=by simp [World.frozen?,h0]
    have dd4:wr.cell? ⟨w.heap.size,4,none⟩=some (.bool false):=by simp [World.cell?,h0,Gz.zero]
    have ff4:wr.frozen? ⟨w.heap.size,4,none⟩=false:=by simp [World.frozen?,h0]
    have dd5:wr.cell? ⟨w.heap.size,5,none⟩=some (.string eS):=by simp [World.cell?,h0,Gz.zero]
    have ff5:wr.frozen? ⟨w.heap.size,5,none⟩=false:=by simp [World.frozen?,h0]
    have dd6:wr.cell? ⟨w.heap.size,6,none⟩=some (.bool false):=by simp [World.cell?,h0,Gz.zero]
    have ff6:wr.frozen? ⟨w.heap.size,6,none⟩=false:=by simp [World.frozen?,h0]
    have dd7:wr.cell? ⟨w.heap.size,7,none⟩=some (.string eS):=by simp [World.cell?,h0,Gz.zero]
    have ff7:wr.frozen? ⟨w.heap.size,7,none⟩=false:=by simp [World.frozen?,h0]
    have dd8:wr.cell? ⟨w.heap.size,8,none⟩=some (.bool false):=by simp [World.cell?,h0,Gz.zero]
    have ff8:wr.frozen? ⟨w.heap.size,8,none⟩=false:=by simp [World.frozen?,h0]
    have dd9:wr.cell? ⟨w.heap.size,9,none⟩=some (.string eS):=by simp [World.cell?,h0,Gz.zero]
    have ff9:wr.frozen? ⟨w.heap.size,9,none⟩=false:=by simp [World.frozen?,h0]
    have dd10:wr.cell? ⟨w.heap.size,10,none⟩=some (.slice none 0 0):=by simp [World.cell?,h0,Gz.zero]
    have ff10:wr.frozen? ⟨w.heap.size,10,none⟩=false:=by simp [World.frozen?,h0]
    have dd11:wr.cell? ⟨w.heap.size,11,none⟩=some (.int .i64 0):=by simp [World.cell?,h0,Gz.zero]
    have ff11:wr.frozen? ⟨w.heap.size,11,none⟩=false:=by simp [World.frozen?,h0]
    have H5:Hid (((((((((((((wr.setCell ⟨w.heap.size,0,none⟩ (.int .i64 4)).setCell ⟨w.heap.size,1,none⟩ (.string eS)).setCell ⟨w.heap.size,2,none⟩ (.bool false)).setCell ⟨w.heap.size,3,none⟩ (.string eS)).setCell ⟨w.heap.size,4,none⟩ (.bool false)).setCell ⟨w.heap.size,5,none⟩ (.string eS)).setCell ⟨w.heap.size,6,none⟩ (.bool false)).setCell ⟨w.heap.size,7,none⟩ (.string eS)).setCell ⟨w.heap.size,8,none⟩ (.bool false)).setCell ⟨w.heap.size,9,none⟩ (.string eS)).setCell ⟨w.heap.size,10,none⟩ (.slice ab i c)).setCell ⟨w.heap.size,11,none⟩ (.int .i64 0)).heap[w.heap.size]?=some (.cells #[.int .i64 4,.string eS,.bool false,.string eS,.bool false,.string eS,.bool false,.string eS,.bool false,.string eS,.slice ab i c,.int .i64 0] 45)):=by
     show _=_
     simp [World.setCell,Array.getElem?_modify,h0]
    have HG5:Hid (w.grownBy ((((((((((((wr.setCell ⟨w.heap.size,0,none⟩ (.int .i64 4)).setCell ⟨w.heap.size,1,none⟩ (.string eS)).setCell ⟨w.heap.size,2,none⟩ (.bool false)).setCell ⟨w.heap.size,3,none⟩ (.string eS)).setCell ⟨w.heap.size,4,none⟩ (.bool false)).setCell ⟨w.heap.size,5,none⟩ (.string eS)).setCell ⟨w.heap.size,6,none⟩ (.bool false)).setCell ⟨w.heap.size,7,none⟩ (.string eS)).setCell ⟨w.heap.size,8,none⟩ (.bool false)).setCell ⟨w.heap.size,9,none⟩ (.string eS)).setCell ⟨w.heap.size,10,none⟩ (.slice ab i c)).setCell ⟨w.heap.size,11,none⟩ (.int .i64 0)) none):=(Zb (Zb (Zb (Zb (Zb (Zb (Zb (Zb (Zb (Zb (Zb (Zb HG.out (Nat.le_refl _)) (Nat.le_refl _)) (Nat.le_refl _)) (Nat.le_refl _)) (Nat.le_refl _)) (Nat.le_refl _)) (Nat.le_refl _)) (Nat.le_refl _)) (Nat.le_refl _)) (Nat.le_refl _)) (Nat.le_refl _)) (Nat.le_refl _))
    have HG6:Hid (wr.grownBy ((((((((((((wr.setCell ⟨w.heap.size,0,none⟩ (.int .i64 4)).setCell ⟨w.heap.size,1,none⟩ (.string eS)).setCell ⟨w.heap.size,2,none⟩ (.bool false)).setCell ⟨w.heap.size,3,none⟩ (.string eS)).setCell ⟨w.heap.size,4,none⟩ (.bool false)).setCell ⟨w.heap.size,5,none⟩ (.string eS)).setCell ⟨w.heap.size,6,none⟩ (.bool false)).setCell ⟨w.heap.size,7,none⟩ (.string eS)).setCell ⟨w.heap.size,8,none⟩ (.bool false)).setCell ⟨w.heap.size,9,none⟩ (.string eS)).setCell ⟨w.heap.size,10,none⟩ (.slice ab i c)).setCell ⟨w.heap.size,11,none⟩ (.int .i64 0)) (some w.heap.size)):=Za (Za (Za (Za (Za (Za (Za (Za (Za (Za (Za (Zc _ _ _ _) (Zc _ _ _ _)) (Zc _ _ _ _)) (Zc _ _ _ _)) (Zc _ _ _ _)) (Zc _ _ _ _)) (Zc _ _ _ _)) (Zc _ _ _ _)) (Zc _ _ _ _)) (Zc _ _ _ _)) (Zc _ _ _ _)) (Zc _ _ _ _)
    clear h0 h9
    go_upto_region 23 with fail
    go_wp2_with fail
    refine bodyPost_ret (Zz rfl _ _ w.heap.size _ ⟨4,eS,Gz.zero,WD,0⟩ _ _ rfl H5.out) rfl ?_
    exact⟨HN.out _ _ _ _ ((HOn.out.kept HG6.out (.inr (fun e=>by have:=OwI.ge HOn.out e;have:=HB9.out;omega))).mono (by have:=HB9.out;omega)),HG5.out⟩
end Go.Proofs.YtdcadiaeaclpgaaGreatDoor
