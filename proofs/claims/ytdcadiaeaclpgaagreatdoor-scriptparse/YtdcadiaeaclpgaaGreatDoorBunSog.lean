/- The document's guess of an argument. -/
import Derived.Test.YtdcadiaeaclpgaaGreatDoorBunSoc
import Derived.Test.YtdcadiaeaclpgaaGreatDoorBunSon
import Derived.Deep.RegionLaw
import Derived.Deep.RegionHeld3
namespace Go.Proofs.YtdcadiaeaclpgaaGreatDoor
open Go Go.RowKit Go.Lib Go.Sort
set_option linter.unusedVariables false
set_option linter.unusedSimpArgs false
set_option maxHeartbeats 3200000
set_option maxRecDepth 1000000
def gsQ (L:List UInt8) (w:World) (base:Nat) (e:Ending):Prop:=∃ab n c,e=.returned (agv (gsA L) (.slice ab n c))∧OwI w base (.slice ab n c) (gsA L).wd
theorem VK {L:List UInt8} {a:Ag} (h:gsA L=a) (w:World) (base:Nat) (ab:Option Addr) (n c:Nat) (hO:OwI w base (.slice ab n c) a.wd):gsQ L w base (.returned (agv a (.slice ab n c))):=by
 unfold gsQ
 rw [h]
 exact⟨ab,n,c,rfl,hO⟩
theorem ZdJ (w:World) :
    Calls Tryz.prog 48 #[.string (bA [40,105,110,102,41])] w fun e w'=>gsQ [40,105,110,102,41] w' w.heap.size e∧w.grownBy w' none:=by
 have HN:Hid (∀w' base,gsQ [40,105,110,102,41] w' base (.returned (agv ⟨3,eS,Gz.zero,[],0⟩ (.slice none 0 0)))):=fun w' base=>VK (by unfold gsA;rw [if_pos rfl]) _ _ _ _ _ (OwI.nil _ _)
 have e:bA [40,105,110,102,41]=⟨#[40,105,110,102,41]⟩:=rfl
 rw [e]
 generalize gsQ [40,105,110,102,41]=R at *
 clear e
 go_enter Tryz.func48,Tryz.ntmps48
 go_wp2_with fail
 refine bodyPost_ret (Zz rfl _ _ w.heap.size _ ⟨3,eS,Gz.zero,[],0⟩ _ _ rfl (heap_alloc_new _ _)) rfl ?_
 exact⟨HN.out _ _,grow1 _ _⟩
theorem Zdd (w:World) :
    Calls Tryz.prog 48 #[.string (bA [])] w fun e w'=>gsQ [] w' w.heap.size e∧w.grownBy w' none:=by
 have HN:Hid (∀w' base,gsQ [] w' base (.returned (agv ⟨0,eS,Gz.zero,[],0⟩ (.slice none 0 0)))):=fun w' base=>VK (by unfold gsA;rw [if_neg (by simp),if_pos rfl]) _ _ _ _ _ (OwI.nil _ _)
 have e:bA []=⟨#[]⟩:=rfl
 rw [e]
 generalize gsQ []=R at *
 clear e
 go_enter Tryz.func48,Tryz.ntmps48
 go_wp2_with fail
 refine bodyPost_ret (Zz rfl _ _ w.heap.size _ ⟨0,eS,Gz.zero,[],0⟩ _ _ rfl (heap_alloc_new _ _)) rfl ?_
 exact⟨HN.out _ _,grow1 _ _⟩
theorem inB_bA {L:List UInt8} (h:L≠[]):(bA L).extract 1 (max 1 (L.length-1))=bA (inB L):=by
 rw [ZeD]
 congr 1
 unfold inB
 cases L with
 |nil=>exact absurd rfl h
 |cons c t =>
  simp only [List.drop_succ_cons,List.drop_zero,List.tail_cons,List.length_cons]
  rw [List.dropLast_eq_take]
  congr 1
  omega
theorem ZcK (L:List UInt8) (hL:L.length≤20000) (hq:¬L=[40,105,110,102,41]) (hn:L≠[]) (n40:¬L.head?=some 40) (n91:¬L.head?=some 91) (n35:¬L.head?=some 35) (w:World) :
    Calls Tryz.prog 48 #[.string (bA L)] w fun e w'=>gsQ L w' w.heap.size e∧w.grownBy w' none:=by
 have HN:Hid (∀w' base,gsQ L w' base (.returned (agv ⟨1,bA L,Gz.zero,[],0⟩ (.slice none 0 0)))):=fun w' base=>VK (by unfold gsA;rw [if_neg hq,if_neg hn,if_neg n40,if_neg n91,if_neg n35]) _ _ _ _ _ (OwI.nil _ _)
 have hE:=YB hq
 have hE0:=YB (L:=L) (M:=[]) hn
 have hsz:=Zo L
 have hs1:0<(bA L).size:=by
  rw [hsz]
  exact List.length_pos_iff.2 hn
 have hx:=bA_at hs1
 have hne:∀c:UInt8,¬L.head?=some c→¬((bA L)[0].toNat:Int)=c.toNat:=fun c hc h=>by
  apply hc
  rw [List.head?_eq_getElem?,hx]
  congr 1
  apply UInt8.toNat_inj.1
  omega
 have h40:¬((bA L)[0].toNat:Int)=40:=hne 40 n40
 have h91:¬((bA L)[0].toNat:Int)=91:=hne 91 n91
 have h35:¬((bA L)[0].toNat:Int)=35:=hne 35 n35
 obtain⟨k,hk⟩:∃k,L.length=k:=⟨_,rfl⟩
 rw [hk]at hsz hL
 have hkI:(k:Int)≤20000:=by omega
 have hk1:(1:Int)≤k:=by omega
 have hs1I:(0:Int)<(bA L).size:=by omega
 clear hq hn n40 n91 n35 hx hne hk
 generalize gsQ L=R at *
 generalize bA L=s at *
 go_enter Tryz.func48,Tryz.ntmps48
 go_wp2_with fail
 refine bodyPost_ret (Zz rfl _ _ w.heap.size _ ⟨1,s,Gz.zero,[],0⟩ _ _ rfl (heap_alloc_new _ _)) rfl ?_
 exact⟨HN.out _ _,grow1 _ _⟩
theorem Zar (L:List UInt8) (hL:L.length≤20000) (hq:¬L=[40,105,110,102,41]) (h35:L.head?=some 35) (w:World) :
    Calls Tryz.prog 48 #[.string (bA L)] w fun e w'=>gsQ L w' w.heap.size e∧w.grownBy w' none:=by
 have hn:L≠[]:=by
  rintro rfl
  cases h35
 have n40:¬L.head?=some 40:=by rw [h35];decide
 have n91:¬L.head?=some 91:=by rw [h35];decide
 have HN:Hid (∀w' base,gsQ L w' base (.returned (agv ⟨5,eS,Gz.zero,[],nbG L.tail⟩ (.slice none 0 0)))):=fun w' base=>VK (by unfold gsA;rw [if_neg hq,if_neg hn,if_neg n40,if_neg n91,if_pos h35]) _ _ _ _ _ (OwI.nil _ _)
 have hE:=YB hq
 have hE0:=YB (L:=L) (M:=[]) hn
 have hsz:=Zo L
 have hs1:0<(bA L).size:=by
  rw [hsz]
  exact List.length_pos_iff.2 hn
 have hx:=bA_at hs1
 have hc:(bA L)[0]=35:=by
  rw [List.head?_eq_getElem?,hx]at h35
  exact Option.some.inj h35
 have HC:Hid (∀W,Calls Tryz.prog 75 #[.string ((bA L).extract 1 L.length)] W fun e w'=>e=.returned (.int .i64 (nbG L.tail))∧w'=W):=fun W=>by
  have h:=VL L.tail (by rw [List.length_tail];omega) W
  have e:(bA L).extract 1 L.length=bA L.tail:=by
   have:=Xq L 1
   rw [hsz]at this
   rw [this,List.drop_one]
  rw [e]
  exact h
 obtain⟨k,hk⟩:∃k,L.length=k:=⟨_,rfl⟩
 rw [hk]at hsz hL HC
 have hkI:(k:Int)≤20000:=by omega
 have hk1:(1:Int)≤k:=by omega
 have hs1I:(0:Int)<(bA L).size:=by omega
 clear hq hn n40 n91 h35 hx hk
 generalize nbG L.tail=z at *
 generalize gsQ L=R at *
 generalize bA L=s at *
 go_enter Tryz.func48,Tryz.ntmps48
 go_wp2_with fail
 refine(HC.out _).mono ?_
 rintro e w1 ⟨rfl,hw1⟩
 obtain rfl:=hw1.symm
 clear hw1
 go_wp2_with fail
 refine bodyPost_ret (Zz rfl _ _ w.heap.size _ ⟨5,eS,Gz.zero,[],z⟩ _ _ rfl (heap_alloc_new _ _)) rfl ?_
 exact⟨HN.out _ _,grow1 _ _⟩
theorem RowS.two {w:World} {base:Nat} {v:Value} {a b:ByteArray} (h:RowS w base v [a,b]):∃g c,v=.slice (some ⟨g,0,none⟩) 2 c∧∀w',w.grownBy w' none→w'.cell? ⟨g,0,none⟩=some (.string a)∧w'.cell? ⟨g,1,none⟩=some (.string b):=by
 rcases h.2 with ⟨_,h0⟩|⟨g,c,cur,rfl,_⟩
 ·cases h0
 ·exact⟨g,c,rfl,fun w' hg=>⟨RowS.cell (h.kept hg) 0 a rfl,RowS.cell (h.kept hg) 1 b rfl⟩⟩
theorem ZbT (s:ByteArray) (hs:s.size≤6000):(∃n p d q,rdF s=some ⟨n,p,d,q⟩∧∀W,Calls Tryz.prog 74 #[.string s] W fun e w'=>e=.returned (.tuple #[frac n p d q,.int .i64 0])∧W.grownBy w' none) ∨
    (rdF s=none∧∀W,Calls Tryz.prog 74 #[.string s] W fun e w'=>e=.returned (.tuple #[frac false eS false eS,.int .i64 130])∧W.grownBy w' none):=by
 by_cases hx:∃y:Fq,FrRes s y.n y.p y.d y.q 0
 ·obtain⟨⟨n,p,d,q⟩,hq⟩:=hx
  refine .inl ⟨n,p,d,q,VQ hq,fun W=>(Uz s hs W).mono ?_⟩
  rintro e w' ⟨n',p',d',q',er,rfl,h,hg⟩
  obtain⟨rfl,rfl,rfl,rfl,rfl⟩:=hq.one h
  exact⟨rfl,hg⟩
 ·refine .inr ⟨?_,fun W=>(Uz s hs W).mono ?_⟩
  ·unfold rdF
   rw [dif_neg hx]
  ·rintro e w' ⟨n',p',d',q',er,rfl,h,hg⟩
   rcases h with ⟨rfl,x,y,h1,h2⟩|⟨rfl,rfl,rfl,rfl,rfl,_⟩
   ·exact absurd ⟨⟨n',p',d',q'⟩,.inl ⟨rfl,x,y,h1,h2⟩⟩ hx
   ·exact⟨rfl,hg⟩
theorem JN (L:List UInt8) (hL:L.length≤6000) (hq:¬L=[40,105,110,102,41]) (h40:L.head?=some 40) (w:World) :
    Calls Tryz.prog 48 #[.string (bA L)] w fun e w'=>gsQ L w' w.heap.size e∧w.grownBy w' none:=by
 have hn:L≠[]:=by
  rintro rfl
  cases h40
 have HNz:Hid (gzG (inB L)=none→∀w' base,gsQ L w' base (.returned (agv ⟨0,eS,Gz.zero,[],0⟩ (.slice none 0 0)))):=fun hz w' base=>VK (by unfold gsA;rw [if_neg hq,if_neg hn,if_pos h40,hz]) _ _ _ _ _ (OwI.nil _ _)
 have HNs:Hid (∀z,gzG (inB L)=some z→∀w' base,gsQ L w' base (.returned (agv ⟨2,eS,z,[],0⟩ (.slice none 0 0)))):=fun z hz w' base=>VK (by unfold gsA;rw [if_neg hq,if_neg hn,if_pos h40,hz]) _ _ _ _ _ (OwI.nil _ _)
 have hE:=YB hq
 have hE0:=YB (L:=L) (M:=[]) hn
 have hsz:=Zo L
 have hs1:0<(bA L).size:=by
  rw [hsz]
  exact List.length_pos_iff.2 hn
 have hx:=bA_at hs1
 have hc:(bA L)[0]=40:=by
  rw [List.head?_eq_getElem?,hx]at h40
  exact Option.some.inj h40
 have hil:(inB L).length≤6000:=by
  unfold inB
  simp
  omega
 have hin:(bA L).extract 1 (max 1 ((L.length:Int)-1)).toNat=bA (inB L):=by
  rw [←inB_bA hn]
  congr 1
  omega
 have HCu:Hid (∀W,Calls Tryz.prog 47 #[.string (bA (inB L)),.int .u8 44] W fun e w'=>∃v,e=.returned v∧RowS w' W.heap.size v ((spl 44 (inB L)).map bA)∧W.grownBy w' none):=fun W=>U2 (inB L) (by omega) 44 44 (by decide) W
 obtain⟨k,hk⟩:∃k,L.length=k:=⟨_,rfl⟩
 rw [hk]at hsz hL hin
 have hkI:(k:Int)≤6000:=by omega
 have hk1:(1:Int)≤k:=by omega
 have hs1I:(0:Int)<(bA L).size:=by omega
 clear hq hn h40 hx hk
 have hsl:∀p∈spl 44 (inB L),p.length≤(inB L).length:=XS _
 by_cases h2:∃a b,spl 44 (inB L)=[a,b]
 ·obtain⟨a,b,hab⟩:=h2
  have ha:=hsl a (by rw [hab];simp)
  have hb:=hsl b (by rw [hab];simp)
  have HG:Hid (gzG (inB L)=match rdF (bA a)with
   |none=>none
   |some x=>match rdF (bA b)with
    |none=>none
    |some y=>some ⟨x.n,x.p,x.d,x.q,y.n,y.p,y.d,y.q⟩):=by
   show _=_
   unfold gzG
   rw [hab]
   rfl
  have hra:=ZbT (bA a) (by rw [Zo];omega)
  have hrb:=ZbT (bA b) (by rw [Zo];omega)
  simp only [hab,List.map_cons,List.map_nil]at HCu
  clear hsl hab ha hb hil
  generalize gzG (inB L)=gz at *
  generalize bA (inB L)=si at *
  generalize gsQ L=R at *
  generalize bA L=s at *
  rcases hra with ⟨n1,p1,d1,q1,ea,hra⟩|⟨ea,hra⟩
  ·rcases hrb with ⟨n2,p2,d2,q2,eb,hrb⟩|⟨eb,hrb⟩
   ·generalize bA a=sa at *
    generalize bA b=sb at *
    have HN:Hid (∀w' base,R w' base (.returned (agv ⟨2,eS,⟨n1,p1,d1,q1,n2,p2,d2,q2⟩,[],0⟩ (.slice none 0 0)))):=HNs.out _ (by rw [HG.out,ea,eb])
    clear ea eb HG HNs HNz
    go_enter Tryz.func48,Tryz.ntmps48
    go_wp2_with fail
    refine(HCu.out _).mono ?_
    rintro e w1 ⟨v1,rfl,hr1,g1⟩
    obtain⟨gp,cp,rfl,hcl⟩:=RowS.two hr1
    have HCl:Hid (∀w',w1.grownBy w' none→w'.cell? ⟨gp,0,none⟩=some (.string sa)∧w'.cell? ⟨gp,1,none⟩=some (.string sb)):=hcl
    have G1:Hid (w.grownBy w1 none):=Za (grow1 _ _) g1
    have H1:Hid (w1.heap[w.heap.size]?=some agZ):=(g1.block _ (by simp) (by simp)).trans (heap_alloc_new _ _)
    obtain⟨l0,l1⟩:=hcl w1 (grow0 _)
    clear hr1 g1 hcl
    go_wp2_with fail
    refine(hra _).mono ?_
    rintro e w2 ⟨rfl,g2⟩
    have G2:Hid (w1.grownBy (w2.alloc (qObj n1 p1 d1 q1)) none):=Za g2 (grow1 _ _)
    have Q2:Hid (QBlk (w2.alloc (qObj n1 p1 d1 q1)) w2.heap.size (.bool n1) (.string p1) (.bool d1) (.string q1)):=heap_alloc_new _ _
    clear g2 l0 l1
    obtain⟨l0,l1⟩:=HCl.out _ G2.out
    go_wp2_with fail
    refine(hrb _).mono ?_
    rintro e w3 ⟨rfl,g3⟩
    have G3:Hid (w1.grownBy (w3.alloc (qObj n2 p2 d2 q2)) none):=Za G2.out (Za g3 (grow1 _ _))
    have Q3:Hid (QBlk (w3.alloc (qObj n2 p2 d2 q2)) w3.heap.size (.bool n2) (.string p2) (.bool d2) (.string q2)):=heap_alloc_new _ _
    have Q2':Hid (QBlk (w3.alloc (qObj n2 p2 d2 q2)) w2.heap.size (.bool n1) (.string p1) (.bool d1) (.string q1)):=Q2.out.kept (Za g3 (grow1 _ _)) (by simp)
    clear g3 l0 l1
    go_upto_region 15 with fail
    generalize w3.alloc (qObj n2 p2 d2 q2)=w4 at *
    have G:Hid (w.grownBy w4 none):=Za G1.out G3.out
    have H4:=(G3.out.block _ (Zg H1.out) (by simp)).trans H1.out
    have x0:=Q2'.out.c0
    have x1:=Q2'.out.c1
    have x2:=Q2'.out.c2
    have x3:=Q2'.out.c3
    have y0:=Q3.out.c0
    have y1:=Q3.out.c1
    have y2:=Q3.out.c2
    have y3:=Q3.out.c3
    have dd0:w4.cell? ⟨w.heap.size,0,none⟩=some (.int .i64 0):=by simp [World.cell?,H4,Gz.zero]
    have ff0:w4.frozen? ⟨w.heap.size,0,none⟩=false:=by simp [World.frozen?,H4]
    have dd1:w4.cell? ⟨w.heap.size,1,none⟩=some (.string eS):=by simp [World.cell?,H4,Gz.zero]
    have ff1:w4.frozen? ⟨w.heap.size,1,none⟩=false:=by simp [World.frozen?,H4]
    have dd2:w4.cell? ⟨w.heap.size,2,none⟩=some (.bool false):=by simp [World.cell?,H4,Gz.zero]
    have ff2:w4.frozen? ⟨w.heap.size,2,none⟩=false:=by simp [World.frozen?,H4]
    have dd3:w4.cell? ⟨w.heap.size,3,none⟩=some (.string eS):=by simp [World.cell?,H4,Gz.zero]
    have ff3:w4.frozen? ⟨w.heap.size,3,none⟩=false:=by simp [World.frozen?,H4]
    have dd4:w4.cell? ⟨w.heap.size,4,none⟩=some (.bool false):=by simp [World.cell?,H4,Gz.zero]
    have ff4:w4.frozen? ⟨w.heap.size,4,none⟩=false:=by simp [World.frozen?,H4]
    have dd5:w4.cell? ⟨w.heap.size,5,none⟩=some (.string eS):=by simp [World.cell?,H4,Gz.zero]
    have ff5:w4.frozen? ⟨w.heap.size,5,none⟩=false:=by simp [World.frozen?,H4]
    have dd6:w4.cell? ⟨w.heap.size,6,none⟩=some (.bool false):=by simp [World.cell?,H4,Gz.zero]
    have ff6:w4.frozen? ⟨w.heap.size,6,none⟩=false:=by simp [World.frozen?,H4]
    have dd7:w4.cell? ⟨w.heap.size,7,none⟩=some (.string eS):=by simp [World.cell?,H4,Gz.zero]
    have ff7:w4.frozen? ⟨w.heap.size,7,none⟩=false:=by simp [World.frozen?,H4]
    have dd8:w4.cell? ⟨w.heap.size,8,none⟩=some (.bool false):=by simp [World.cell?,H4,Gz.zero]
    have ff8:w4.frozen? ⟨w.heap.size,8,none⟩=false:=by simp [World.frozen?,H4]
    have dd9:w4.cell? ⟨w.heap.size,9,none⟩=some (.string eS):=by simp [World.cell?,H4,Gz.zero]
    have ff9:w4.frozen? ⟨w.heap.size,9,none⟩=false:=by simp [World.frozen?,H4]
    have dd10:w4.cell? ⟨w.heap.size,10,none⟩=some (.slice none 0 0):=by simp [World.cell?,H4,Gz.zero]
    have ff10:w4.frozen? ⟨w.heap.size,10,none⟩=false:=by simp [World.frozen?,H4]
    have dd11:w4.cell? ⟨w.heap.size,11,none⟩=some (.int .i64 0):=by simp [World.cell?,H4,Gz.zero]
    have ff11:w4.frozen? ⟨w.heap.size,11,none⟩=false:=by simp [World.frozen?,H4]
    have H5:Hid (((((((((((((w4.setCell ⟨w.heap.size,0,none⟩ (.int .i64 2)).setCell ⟨w.heap.size,1,none⟩ (.string eS)).setCell ⟨w.heap.size,2,none⟩ (.bool n1)).setCell ⟨w.heap.size,3,none⟩ (.string p1)).setCell ⟨w.heap.size,4,none⟩ (.bool d1)).setCell ⟨w.heap.size,5,none⟩ (.string q1)).setCell ⟨w.heap.size,6,none⟩ (.bool n2)).setCell ⟨w.heap.size,7,none⟩ (.string p2)).setCell ⟨w.heap.size,8,none⟩ (.bool d2)).setCell ⟨w.heap.size,9,none⟩ (.string q2)).setCell ⟨w.heap.size,10,none⟩ (.slice none 0 0)).setCell ⟨w.heap.size,11,none⟩ (.int .i64 0)).heap[w.heap.size]?=some (.cells #[.int .i64 2,.string eS,.bool n1,.string p1,.bool d1,.string q1,.bool n2,.string p2,.bool d2,.string q2,.slice none 0 0,.int .i64 0] 45)):=by
     show _=_
     simp [World.setCell,Array.getElem?_modify,H4]
    have HG5:Hid (w.grownBy ((((((((((((w4.setCell ⟨w.heap.size,0,none⟩ (.int .i64 2)).setCell ⟨w.heap.size,1,none⟩ (.string eS)).setCell ⟨w.heap.size,2,none⟩ (.bool n1)).setCell ⟨w.heap.size,3,none⟩ (.string p1)).setCell ⟨w.heap.size,4,none⟩ (.bool d1)).setCell ⟨w.heap.size,5,none⟩ (.string q1)).setCell ⟨w.heap.size,6,none⟩ (.bool n2)).setCell ⟨w.heap.size,7,none⟩ (.string p2)).setCell ⟨w.heap.size,8,none⟩ (.bool d2)).setCell ⟨w.heap.size,9,none⟩ (.string q2)).setCell ⟨w.heap.size,10,none⟩ (.slice none 0 0)).setCell ⟨w.heap.size,11,none⟩ (.int .i64 0)) none):=(Zb (Zb (Zb (Zb (Zb (Zb (Zb (Zb (Zb (Zb (Zb (Zb G.out (Nat.le_refl _)) (Nat.le_refl _)) (Nat.le_refl _)) (Nat.le_refl _)) (Nat.le_refl _)) (Nat.le_refl _)) (Nat.le_refl _)) (Nat.le_refl _)) (Nat.le_refl _)) (Nat.le_refl _)) (Nat.le_refl _)) (Nat.le_refl _))
    clear H4
    go_wp2_with fail
    refine bodyPost_ret (Zz rfl _ _ w.heap.size _ ⟨2,eS,⟨n1,p1,d1,q1,n2,p2,d2,q2⟩,[],0⟩ _ _ rfl H5.out) rfl ?_
    exact⟨HN.out _ _,HG5.out⟩
   ·generalize bA a=sa at *
    generalize bA b=sb at *
    have HN:Hid (∀w' base,R w' base (.returned (agv ⟨0,eS,Gz.zero,[],0⟩ (.slice none 0 0)))):=HNz.out (by rw [HG.out,ea,eb])
    clear ea eb HG HNs HNz
    go_enter Tryz.func48,Tryz.ntmps48
    go_wp2_with fail
    refine(HCu.out _).mono ?_
    rintro e w1 ⟨v1,rfl,hr1,g1⟩
    obtain⟨gp,cp,rfl,hcl⟩:=RowS.two hr1
    have HCl:Hid (∀w',w1.grownBy w' none→w'.cell? ⟨gp,0,none⟩=some (.string sa)∧w'.cell? ⟨gp,1,none⟩=some (.string sb)):=hcl
    have G1:Hid (w.grownBy w1 none):=Za (grow1 _ _) g1
    have H1:Hid (w1.heap[w.heap.size]?=some agZ):=(g1.block _ (by simp) (by simp)).trans (heap_alloc_new _ _)
    obtain⟨l0,l1⟩:=hcl w1 (grow0 _)
    clear hr1 g1 hcl
    go_wp2_with fail
    refine(hra _).mono ?_
    rintro e w2 ⟨rfl,g2⟩
    have G2:Hid (w1.grownBy (w2.alloc (qObj n1 p1 d1 q1)) none):=Za g2 (grow1 _ _)
    have Q2:Hid (QBlk (w2.alloc (qObj n1 p1 d1 q1)) w2.heap.size (.bool n1) (.string p1) (.bool d1) (.string q1)):=heap_alloc_new _ _
    clear g2 l0 l1
    obtain⟨l0,l1⟩:=HCl.out _ G2.out
    go_wp2_with fail
    refine(hrb _).mono ?_
    rintro e w3 ⟨rfl,g3⟩
    have G3:Hid (w1.grownBy (w3.alloc (qObj false eS false eS)) none):=Za G2.out (Za g3 (grow1 _ _))
    have Q3:Hid (QBlk (w3.alloc (qObj false eS false eS)) w3.heap.size (.bool false) (.string eS) (.bool false) (.string eS)):=heap_alloc_new _ _
    have Q2':Hid (QBlk (w3.alloc (qObj false eS false eS)) w2.heap.size (.bool n1) (.string p1) (.bool d1) (.string q1)):=Q2.out.kept (Za g3 (grow1 _ _)) (by simp)
    clear g3 l0 l1
    go_upto_region 14 with fail
    generalize w3.alloc (qObj false eS false eS)=w4 at *
    have G:Hid (w.grownBy w4 none):=Za G1.out G3.out
    have H4:=(G3.out.block _ (Zg H1.out) (by simp)).trans H1.out
    have x0:=Q2'.out.c0
    have x1:=Q2'.out.c1
    have x2:=Q2'.out.c2
    have x3:=Q2'.out.c3
    have y0:=Q3.out.c0
    have y1:=Q3.out.c1
    have y2:=Q3.out.c2
    have y3:=Q3.out.c3
    have dd0:w4.cell? ⟨w.heap.size,0,none⟩=some (.int .i64 0):=by simp [World.cell?,H4,Gz.zero]
    have ff0:w4.frozen? ⟨w.heap.size,0,none⟩=false:=by simp [World.frozen?,H4]
    have dd1:w4.cell? ⟨w.heap.size,1,none⟩=some (.string eS):=by simp [World.cell?,H4,Gz.zero]
    have ff1:w4.frozen? ⟨w.heap.size,1,none⟩=false:=by simp [World.frozen?,H4]
    have dd2:w4.cell? ⟨w.heap.size,2,none⟩=some (.bool false):=by simp [World.cell?,H4,Gz.zero]
    have ff2:w4.frozen? ⟨w.heap.size,2,none⟩=false:=by simp [World.frozen?,H4]
    have dd3:w4.cell? ⟨w.heap.size,3,none⟩=some (.string eS):=by simp [World.cell?,H4,Gz.zero]
    have ff3:w4.frozen? ⟨w.heap.size,3,none⟩=false:=by simp [World.frozen?,H4]
    have dd4:w4.cell? ⟨w.heap.size,4,none⟩=some (.bool false):=by simp [World.cell?,H4,Gz.zero]
    have ff4:w4.frozen? ⟨w.heap.size,4,none⟩=false:=by simp [World.frozen?,H4]
    have dd5:w4.cell? ⟨w.heap.size,5,none⟩=some (.string eS):=by simp [World.cell?,H4,Gz.zero]
    have ff5:w4.frozen? ⟨w.heap.size,5,none⟩=false:=by simp [World.frozen?,H4]
    have dd6:w4.cell? ⟨w.heap.size,6,none⟩=some (.bool false):=by simp [World.cell?,H4,Gz.zero]
    have ff6:w4.frozen? ⟨w.heap.size,6,none⟩=false:=by simp [World.frozen?,H4]
    have dd7:w4.cell? ⟨w.heap.size,7,none⟩=some (.string eS):=by simp [World.cell?,H4,Gz.zero]
    have ff7:w4.frozen? ⟨w.heap.size,7,none⟩=false:=by simp [World.frozen?,H4]
    have dd8:w4.cell? ⟨w.heap.size,8,none⟩=some (.bool false):=by simp [World.cell?,H4,Gz.zero]
    have ff8:w4.frozen? ⟨w.heap.size,8,none⟩=false:=by simp [World.frozen?,H4]
    have dd9:w4.cell? ⟨w.heap.size,9,none⟩=some (.string eS):=by simp [World.cell?,H4,Gz.zero]
    have ff9:w4.frozen? ⟨w.heap.size,9,none⟩=false:=by simp [World.frozen?,H4]
    have dd10:w4.cell? ⟨w.heap.size,10,none⟩=some (.slice none 0 0):=by simp [World.cell?,H4,Gz.zero]
    have ff10:w4.frozen? ⟨w.heap.size,10,none⟩=false:=by simp [World.frozen?,H4]
    have dd11:w4.cell? ⟨w.heap.size,11,none⟩=some (.int .i64 0):=by simp [World.cell?,H4,Gz.zero]
    have ff11:w4.frozen? ⟨w.heap.size,11,none⟩=false:=by simp [World.frozen?,H4]
    have H5:Hid (((((((((((((w4.setCell ⟨w.heap.size,0,none⟩ (.int .i64 0)).setCell ⟨w.heap.size,1,none⟩ (.string eS)).setCell ⟨w.heap.size,2,none⟩ (.bool false)).setCell ⟨w.heap.size,3,none⟩ (.string eS)).setCell ⟨w.heap.size,4,none⟩ (.bool false)).setCell ⟨w.heap.size,5,none⟩ (.string eS)).setCell ⟨w.heap.size,6,none⟩ (.bool false)).setCell ⟨w.heap.size,7,none⟩ (.string eS)).setCell ⟨w.heap.size,8,none⟩ (.bool false)).setCell ⟨w.heap.size,9,none⟩ (.string eS)).setCell ⟨w.heap.size,10,none⟩ (.slice none 0 0)).setCell ⟨w.heap.size,11,none⟩ (.int .i64 0)).heap[w.heap.size]?=some (.cells #[.int .i64 0,.string eS,.bool false,.string eS,.bool false,.string eS,.bool false,.string eS,.bool false,.string eS,.slice none 0 0,.int .i64 0] 45)):=by
     show _=_
     simp [World.setCell,Array.getElem?_modify,H4]
    have HG5:Hid (w.grownBy ((((((((((((w4.setCell ⟨w.heap.size,0,none⟩ (.int .i64 0)).setCell ⟨w.heap.size,1,none⟩ (.string eS)).setCell ⟨w.heap.size,2,none⟩ (.bool false)).setCell ⟨w.heap.size,3,none⟩ (.string eS)).setCell ⟨w.heap.size,4,none⟩ (.bool false)).setCell ⟨w.heap.size,5,none⟩ (.string eS)).setCell ⟨w.heap.size,6,none⟩ (.bool false)).setCell ⟨w.heap.size,7,none⟩ (.string eS)).setCell ⟨w.heap.size,8,none⟩ (.bool false)).setCell ⟨w.heap.size,9,none⟩ (.string eS)).setCell ⟨w.heap.size,10,none⟩ (.slice none 0 0)).setCell ⟨w.heap.size,11,none⟩ (.int .i64 0)) none):=(Zb (Zb (Zb (Zb (Zb (Zb (Zb (Zb (Zb (Zb (Zb (Zb G.out (Nat.le_refl _)) (Nat.le_refl _)) (Nat.le_refl _)) (Nat.le_refl _)) (Nat.le_refl _)) (Nat.le_refl _)) (Nat.le_refl _)) (Nat.le_refl _)) (Nat.le_refl _)) (Nat.le_refl _)) (Nat.le_refl _)) (Nat.le_refl _))
    clear H4
    go_wp2_with fail
    refine bodyPost_ret (Zz rfl _ _ w.heap.size _ ⟨0,eS,Gz.zero,[],0⟩ _ _ rfl H5.out) rfl ?_
    exact⟨HN.out _ _,HG5.out⟩
  ·rcases hrb with ⟨n2,p2,d2,q2,eb,hrb⟩|⟨eb,hrb⟩
   ·generalize bA a=sa at *
    generalize bA b=sb at *
    have HN:Hid (∀w' base,R w' base (.returned (agv ⟨0,eS,Gz.zero,[],0⟩ (.slice none 0 0)))):=HNz.out (by rw [HG.out,ea])
    clear ea eb HG HNs HNz
    go_enter Tryz.func48,Tryz.ntmps48
    go_wp2_with fail
    refine(HCu.out _).mono ?_
    rintro e w1 ⟨v1,rfl,hr1,g1⟩
    obtain⟨gp,cp,rfl,hcl⟩:=RowS.two hr1
    have HCl:Hid (∀w',w1.grownBy w' none→w'.cell? ⟨gp,0,none⟩=some (.string sa)∧w'.cell? ⟨gp,1,none⟩=some (.string sb)):=hcl
    have G1:Hid (w.grownBy w1 none):=Za (grow1 _ _) g1
    have H1:Hid (w1.heap[w.heap.size]?=some agZ):=(g1.block _ (by simp) (by simp)).trans (heap_alloc_new _ _)
    obtain⟨l0,l1⟩:=hcl w1 (grow0 _)
    clear hr1 g1 hcl
    go_wp2_with fail
    refine(hra _).mono ?_
    rintro e w2 ⟨rfl,g2⟩
    have G2:Hid (w1.grownBy (w2.alloc (qObj false eS false eS)) none):=Za g2 (grow1 _ _)
    have Q2:Hid (QBlk (w2.alloc (qObj false eS false eS)) w2.heap.size (.bool false) (.string eS) (.bool false) (.string eS)):=heap_alloc_new _ _
    clear g2 l0 l1
    obtain⟨l0,l1⟩:=HCl.out _ G2.out
    go_wp2_with fail
    refine(hrb _).mono ?_
    rintro e w3 ⟨rfl,g3⟩
    have G3:Hid (w1.grownBy (w3.alloc (qObj n2 p2 d2 q2)) none):=Za G2.out (Za g3 (grow1 _ _))
    have Q3:Hid (QBlk (w3.alloc (qObj n2 p2 d2 q2)) w3.heap.size (.bool n2) (.string p2) (.bool d2) (.string q2)):=heap_alloc_new _ _
    have Q2':Hid (QBlk (w3.alloc (qObj n2 p2 d2 q2)) w2.heap.size (.bool false) (.string eS) (.bool false) (.string eS)):=Q2.out.kept (Za g3 (grow1 _ _)) (by simp)
    clear g3 l0 l1
    go_upto_region 14 with fail
    generalize w3.alloc (qObj n2 p2 d2 q2)=w4 at *
    have G:Hid (w.grownBy w4 none):=Za G1.out G3.out
    have H4:=(G3.out.block _ (Zg H1.out) (by simp)).trans H1.out
    have x0:=Q2'.out.c0
    have x1:=Q2'.out.c1
    have x2:=Q2'.out.c2
    have x3:=Q2'.out.c3
    have y0:=Q3.out.c0
    have y1:=Q3.out.c1
    have y2:=Q3.out.c2
    have y3:=Q3.out.c3
    have dd0:w4.cell? ⟨w.heap.size,0,none⟩=some (.int .i64 0):=by simp [World.cell?,H4,Gz.zero]
    have ff0:w4.frozen? ⟨w.heap.size,0,none⟩=false:=by simp [World.frozen?,H4]
    have dd1:w4.cell? ⟨w.heap.size,1,none⟩=some (.string eS):=by simp [World.cell?,H4,Gz.zero]
    have ff1:w4.frozen? ⟨w.heap.size,1,none⟩=false:=by simp [World.frozen?,H4]
    have dd2:w4.cell? ⟨w.heap.size,2,none⟩=some (.bool false):=by simp [World.cell?,H4,Gz.zero]
    have ff2:w4.frozen? ⟨w.heap.size,2,none⟩=false:=by simp [World.frozen?,H4]
    have dd3:w4.cell? ⟨w.heap.size,3,none⟩=some (.string eS):=by simp [World.cell?,H4,Gz.zero]
    have ff3:w4.frozen? ⟨w.heap.size,3,none⟩=false:=by simp [World.frozen?,H4]
    have dd4:w4.cell? ⟨w.heap.size,4,none⟩=some (.bool false):=by simp [World.cell?,H4,Gz.zero]
    have ff4:w4.frozen? ⟨w.heap.size,4,none⟩=false:=by simp [World.frozen?,H4]
    have dd5:w4.cell? ⟨w.heap.size,5,none⟩=some (.string eS):=by simp [World.cell?,H4,Gz.zero]
    have ff5:w4.frozen? ⟨w.heap.size,5,none⟩=false:=by simp [World.frozen?,H4]
    have dd6:w4.cell? ⟨w.heap.size,6,none⟩=some (.bool false):=by simp [World.cell?,H4,Gz.zero]
    have ff6:w4.frozen? ⟨w.heap.size,6,none⟩=false:=by simp [World.frozen?,H4]
    have dd7:w4.cell? ⟨w.heap.size,7,none⟩=some (.string eS):=by simp [World.cell?,H4,Gz.zero]
    have ff7:w4.frozen? ⟨w.heap.size,7,none⟩=false:=by simp [World.frozen?,H4]
    have dd8:w4.cell? ⟨w.heap.size,8,none⟩=some (.bool false):=by simp [World.cell?,H4,Gz.zero]
    have ff8:w4.frozen? ⟨w.heap.size,8,none⟩=false:=by simp [World.frozen?,H4]
    have dd9:w4.cell? ⟨w.heap.size,9,none⟩=some (.string eS):=by simp [World.cell?,H4,Gz.zero]
    have ff9:w4.frozen? ⟨w.heap.size,9,none⟩=false:=by simp [World.frozen?,H4]
    have dd10:w4.cell? ⟨w.heap.size,10,none⟩=some (.slice none 0 0):=by simp [World.cell?,H4,Gz.zero]
    have ff10:w4.frozen? ⟨w.heap.size,10,none⟩=false:=by simp [World.frozen?,H4]
    have dd11:w4.cell? ⟨w.heap.size,11,none⟩=some (.int .i64 0):=by simp [World.cell?,H4,Gz.zero]
    have ff11:w4.frozen? ⟨w.heap.size,11,none⟩=false:=by simp [World.frozen?,H4]
    have H5:Hid (((((((((((((w4.setCell ⟨w.heap.size,0,none⟩ (.int .i64 0)).setCell ⟨w.heap.size,1,none⟩ (.string eS)).setCell ⟨w.heap.size,2,none⟩ (.bool false)).setCell ⟨w.heap.size,3,none⟩ (.string eS)).setCell ⟨w.heap.size,4,none⟩ (.bool false)).setCell ⟨w.heap.size,5,none⟩ (.string eS)).setCell ⟨w.heap.size,6,none⟩ (.bool false)).setCell ⟨w.heap.size,7,none⟩ (.string eS)).setCell ⟨w.heap.size,8,none⟩ (.bool false)).setCell ⟨w.heap.size,9,none⟩ (.string eS)).setCell ⟨w.heap.size,10,none⟩ (.slice none 0 0)).setCell ⟨w.heap.size,11,none⟩ (.int .i64 0)).heap[w.heap.size]?=some (.cells #[.int .i64 0,.string eS,.bool false,.string eS,.bool false,.string eS,.bool false,.string eS,.bool false,.string eS,.slice none 0 0,.int .i64 0] 45)):=by
     show _=_
     simp [World.setCell,Array.getElem?_modify,H4]
    have HG5:Hid (w.grownBy ((((((((((((w4.setCell ⟨w.heap.size,0,none⟩ (.int .i64 0)).setCell ⟨w.heap.size,1,none⟩ (.string eS)).setCell ⟨w.heap.size,2,none⟩ (.bool false)).setCell ⟨w.heap.size,3,none⟩ (.string eS)).setCell ⟨w.heap.size,4,none⟩ (.bool false)).setCell ⟨w.heap.size,5,none⟩ (.string eS)).setCell ⟨w.heap.size,6,none⟩ (.bool false)).setCell ⟨w.heap.size,7,none⟩ (.string eS)).setCell ⟨w.heap.size,8,none⟩ (.bool false)).setCell ⟨w.heap.size,9,none⟩ (.string eS)).setCell ⟨w.heap.size,10,none⟩ (.slice none 0 0)).setCell ⟨w.heap.size,11,none⟩ (.int .i64 0)) none):=(Zb (Zb (Zb (Zb (Zb (Zb (Zb (Zb (Zb (Zb (Zb (Zb G.out (Nat.le_refl _)) (Nat.le_refl _)) (Nat.le_refl _)) (Nat.le_refl _)) (Nat.le_refl _)) (Nat.le_refl _)) (Nat.le_refl _)) (Nat.le_refl _)) (Nat.le_refl _)) (Nat.le_refl _)) (Nat.le_refl _)) (Nat.le_refl _))
    clear H4
    go_wp2_with fail
    refine bodyPost_ret (Zz rfl _ _ w.heap.size _ ⟨0,eS,Gz.zero,[],0⟩ _ _ rfl H5.out) rfl ?_
    exact⟨HN.out _ _,HG5.out⟩
   ·generalize bA a=sa at *
    generalize bA b=sb at *
    have HN:Hid (∀w' base,R w' base (.returned (agv ⟨0,eS,Gz.zero,[],0⟩ (.slice none 0 0)))):=HNz.out (by rw [HG.out,ea])
    clear ea eb HG HNs HNz
    go_enter Tryz.func48,Tryz.ntmps48
    go_wp2_with fail
    refine(HCu.out _).mono ?_
    rintro e w1 ⟨v1,rfl,hr1,g1⟩
    obtain⟨gp,cp,rfl,hcl⟩:=RowS.two hr1
    have HCl:Hid (∀w',w1.grownBy w' none→w'.cell? ⟨gp,0,none⟩=some (.string sa)∧w'.cell? ⟨gp,1,none⟩=some (.string sb)):=hcl
    have G1:Hid (w.grownBy w1 none):=Za (grow1 _ _) g1
    have H1:Hid (w1.heap[w.heap.size]?=some agZ):=(g1.block _ (by simp) (by simp)).trans (heap_alloc_new _ _)
    obtain⟨l0,l1⟩:=hcl w1 (grow0 _)
    clear hr1 g1 hcl
    go_wp2_with fail
    refine(hra _).mono ?_
    rintro e w2 ⟨rfl,g2⟩
    have G2:Hid (w1.grownBy (w2.alloc (qObj false eS false eS)) none):=Za g2 (grow1 _ _)
    have Q2:Hid (QBlk (w2.alloc (qObj false eS false eS)) w2.heap.size (.bool false) (.string eS) (.bool false) (.string eS)):=heap_alloc_new _ _
    clear g2 l0 l1
    obtain⟨l0,l1⟩:=HCl.out _ G2.out
    go_wp2_with fail
    refine(hrb _).mono ?_
    rintro e w3 ⟨rfl,g3⟩
    have G3:Hid (w1.grownBy (w3.alloc (qObj false eS false eS)) none):=Za G2.out (Za g3 (grow1 _ _))
    have Q3:Hid (QBlk (w3.alloc (qObj false eS false eS)) w3.heap.size (.bool false) (.string eS) (.bool false) (.string eS)):=heap_alloc_new _ _
    have Q2':Hid (QBlk (w3.alloc (qObj false eS false eS)) w2.heap.size (.bool false) (.string eS) (.bool false) (.string eS)):=Q2.out.kept (Za g3 (grow1 _ _)) (by simp)
    clear g3 l0 l1
    go_upto_region 14 with fail
    generalize w3.alloc (qObj false eS false eS)=w4 at *
    have G:Hid (w.grownBy w4 none):=Za G1.out G3.out
    have H4:=(G3.out.block _ (Zg H1.out) (by simp)).trans H1.out
    have x0:=Q2'.out.c0
    have x1:=Q2'.out.c1
    have x2:=Q2'.out.c2
    have x3:=Q2'.out.c3
    have y0:=Q3.out.c0
    have y1:=Q3.out.c1
    have y2:=Q3.out.c2
    have y3:=Q3.out.c3
    have dd0:w4.cell? ⟨w.heap.size,0,none⟩=some (.int .i64 0):=by simp [World.cell?,H4,Gz.zero]
    have ff0:w4.frozen? ⟨w.heap.size,0,none⟩=false:=by simp [World.frozen?,H4]
    have dd1:w4.cell? ⟨w.heap.size,1,none⟩=some (.string eS):=by simp [World.cell?,H4,Gz.zero]
    have ff1:w4.frozen? ⟨w.heap.size,1,none⟩=false:=by simp [World.frozen?,H4]
    have dd2:w4.cell? ⟨w.heap.size,2,none⟩=some (.bool false):=by simp [World.cell?,H4,Gz.zero]
    have ff2:w4.frozen? ⟨w.heap.size,2,none⟩=false:=by simp [World.frozen?,H4]
    have dd3:w4.cell? ⟨w.heap.size,3,none⟩=some (.string eS):=by simp [World.cell?,H4,Gz.zero]
    have ff3:w4.frozen? ⟨w.heap.size,3,none⟩=false:=by simp [World.frozen?,H4]
    have dd4:w4.cell? ⟨w.heap.size,4,none⟩=some (.bool false):=by simp [World.cell?,H4,Gz.zero]
    have ff4:w4.frozen? ⟨w.heap.size,4,none⟩=false:=by simp [World.frozen?,H4]
    have dd5:w4.cell? ⟨w.heap.size,5,none⟩=some (.string eS):=by simp [World.cell?,H4,Gz.zero]
    have ff5:w4.frozen? ⟨w.heap.size,5,none⟩=false:=by simp [World.frozen?,H4]
    have dd6:w4.cell? ⟨w.heap.size,6,none⟩=some (.bool false):=by simp [World.cell?,H4,Gz.zero]
    have ff6:w4.frozen? ⟨w.heap.size,6,none⟩=false:=by simp [World.frozen?,H4]
    have dd7:w4.cell? ⟨w.heap.size,7,none⟩=some (.string eS):=by simp [World.cell?,H4,Gz.zero]
    have ff7:w4.frozen? ⟨w.heap.size,7,none⟩=false:=by simp [World.frozen?,H4]
    have dd8:w4.cell? ⟨w.heap.size,8,none⟩=some (.bool false):=by simp [World.cell?,H4,Gz.zero]
    have ff8:w4.frozen? ⟨w.heap.size,8,none⟩=false:=by simp [World.frozen?,H4]
    have dd9:w4.cell? ⟨w.heap.size,9,none⟩=some (.string eS):=by simp [World.cell?,H4,Gz.zero]
    have ff9:w4.frozen? ⟨w.heap.size,9,none⟩=false:=by simp [World.frozen?,H4]
    have dd10:w4.cell? ⟨w.heap.size,10,none⟩=some (.slice none 0 0):=by simp [World.cell?,H4,Gz.zero]
    have ff10:w4.frozen? ⟨w.heap.size,10,none⟩=false:=by simp [World.frozen?,H4]
    have dd11:w4.cell? ⟨w.heap.size,11,none⟩=some (.int .i64 0):=by simp [World.cell?,H4,Gz.zero]
    have ff11:w4.frozen? ⟨w.heap.size,11,none⟩=false:=by simp [World.frozen?,H4]
    have H5:Hid (((((((((((((w4.setCell ⟨w.heap.size,0,none⟩ (.int .i64 0)).setCell ⟨w.heap.size,1,none⟩ (.string eS)).setCell ⟨w.heap.size,2,none⟩ (.bool false)).setCell ⟨w.heap.size,3,none⟩ (.string eS)).setCell ⟨w.heap.size,4,none⟩ (.bool false)).setCell ⟨w.heap.size,5,none⟩ (.string eS)).setCell ⟨w.heap.size,6,none⟩ (.bool false)).setCell ⟨w.heap.size,7,none⟩ (.string eS)).setCell ⟨w.heap.size,8,none⟩ (.bool false)).setCell ⟨w.heap.size,9,none⟩ (.string eS)).setCell ⟨w.heap.size,10,none⟩ (.slice none 0 0)).setCell ⟨w.heap.size,11,none⟩ (.int .i64 0)).heap[w.heap.size]?=some (.cells #[.int .i64 0,.string eS,.bool false,.string eS,.bool false,.string eS,.bool false,.string eS,.bool false,.string eS,.slice none 0 0,.int .i64 0] 45)):=by
     show _=_
     simp [World.setCell,Array.getElem?_modify,H4]
    have HG5:Hid (w.grownBy ((((((((((((w4.setCell ⟨w.heap.size,0,none⟩ (.int .i64 0)).setCell ⟨w.heap.size,1,none⟩ (.string eS)).setCell ⟨w.heap.size,2,none⟩ (.bool false)).setCell ⟨w.heap.size,3,none⟩ (.string eS)).setCell ⟨w.heap.size,4,none⟩ (.bool false)).setCell ⟨w.heap.size,5,none⟩ (.string eS)).setCell ⟨w.heap.size,6,none⟩ (.bool false)).setCell ⟨w.heap.size,7,none⟩ (.string eS)).setCell ⟨w.heap.size,8,none⟩ (.bool false)).setCell ⟨w.heap.size,9,none⟩ (.string eS)).setCell ⟨w.heap.size,10,none⟩ (.slice none 0 0)).setCell ⟨w.heap.size,11,none⟩ (.int .i64 0)) none):=(Zb (Zb (Zb (Zb (Zb (Zb (Zb (Zb (Zb (Zb (Zb (Zb G.out (Nat.le_refl _)) (Nat.le_refl _)) (Nat.le_refl _)) (Nat.le_refl _)) (Nat.le_refl _)) (Nat.le_refl _)) (Nat.le_refl _)) (Nat.le_refl _)) (Nat.le_refl _)) (Nat.le_refl _)) (Nat.le_refl _)) (Nat.le_refl _))
    clear H4
    go_wp2_with fail
    refine bodyPost_ret (Zz rfl _ _ w.heap.size _ ⟨0,eS,Gz.zero,[],0⟩ _ _ rfl H5.out) rfl ?_
    exact⟨HN.out _ _,HG5.out⟩
 ·skip
  have hgz:gzG (inB L)=none:=by
   unfold gzG
   split
   ·rename_i a b h
    exact absurd ⟨a,b,h⟩ h2
   ·rfl
  have HN:=HNz.out hgz
  have HN2:Hid (∀w' base,gsQ L w' base (.returned (agv ⟨0,eS,Gz.zero,[],0⟩ (.slice none 0 0)))):=HN
  obtain⟨P,hP⟩:∃P,(spl 44 (inB L)).map bA=P:=⟨_,rfl⟩
  have hPl:¬P.length=2:=by
   intro h
   rw [←hP,List.length_map]at h
   match hs:spl 44 (inB L),h with
   |[a,b],_=>exact h2 ⟨a,b,hs⟩
  simp only [hP]at HCu
  obtain⟨m,hm⟩:∃m,P.length=m:=⟨_,rfl⟩
  have hm2:¬((m:Int)=2):=by omega
  have HF:Hid (∀w1 base v,RowS w1 base v P→∃ao c,v=.slice ao m c):=fun w1 base v h=>by
   obtain⟨ao,c,h1⟩:=h.form
   exact⟨ao,c,by rw [h1,hm]⟩
  clear hP hPl hm hgz HN HNs HNz h2 hsl hil
  generalize bA (inB L)=si at *
  generalize gsQ L=R at *
  generalize bA L=s at *
  go_enter Tryz.func48,Tryz.ntmps48
  go_wp2_with fail
  refine(HCu.out _).mono ?_
  rintro e w1 ⟨v1,rfl,hr1,g1⟩
  obtain⟨ao,c1,rfl⟩:=HF.out _ _ _ hr1
  have G:Hid (w.grownBy w1 none):=Za (grow1 _ _) g1
  have H1:w1.heap[w.heap.size]?=some agZ:=(g1.block _ (by simp) (by simp)).trans (heap_alloc_new _ _)
  clear hr1 g1
  go_upto_region 10 with fail
  have dd0:w1.cell? ⟨w.heap.size,0,none⟩=some (.int .i64 0):=by simp [World.cell?,H1,Gz.zero]
  have ff0:w1.frozen? ⟨w.heap.size,0,none⟩=false:=by simp [World.frozen?,H1]
  have dd1:w1.cell? ⟨w.heap.size,1,none⟩=some (.string eS):=by simp [World.cell?,H1,Gz.zero]
  have ff1:w1.frozen? ⟨w.heap.size,1,none⟩=false:=by simp [World.frozen?,H1]
  have dd2:w1.cell? ⟨w.heap.size,2,none⟩=some (.bool false):=by simp [World.cell?,H1,Gz.zero]
  have ff2:w1.frozen? ⟨w.heap.size,2,none⟩=false:=by simp [World.frozen?,H1]
  have dd3:w1.cell? ⟨w.heap.size,3,none⟩=some (.string eS):=by simp [World.cell?,H1,Gz.zero]
  have ff3:w1.frozen? ⟨w.heap.size,3,none⟩=false:=by simp [World.frozen?,H1]
  have dd4:w1.cell? ⟨w.heap.size,4,none⟩=some (.bool false):=by simp [World.cell?,H1,Gz.zero]
  have ff4:w1.frozen? ⟨w.heap.size,4,none⟩=false:=by simp [World.frozen?,H1]
  have dd5:w1.cell? ⟨w.heap.size,5,none⟩=some (.string eS):=by simp [World.cell?,H1,Gz.zero]
  have ff5:w1.frozen? ⟨w.heap.size,5,none⟩=false:=by simp [World.frozen?,H1]
  have dd6:w1.cell? ⟨w.heap.size,6,none⟩=some (.bool false):=by simp [World.cell?,H1,Gz.zero]
  have ff6:w1.frozen? ⟨w.heap.size,6,none⟩=false:=by simp [World.frozen?,H1]
  have dd7:w1.cell? ⟨w.heap.size,7,none⟩=some (.string eS):=by simp [World.cell?,H1,Gz.zero]
  have ff7:w1.frozen? ⟨w.heap.size,7,none⟩=false:=by simp [World.frozen?,H1]
  have dd8:w1.cell? ⟨w.heap.size,8,none⟩=some (.bool false):=by simp [World.cell?,H1,Gz.zero]
  have ff8:w1.frozen? ⟨w.heap.size,8,none⟩=false:=by simp [World.frozen?,H1]
  have dd9:w1.cell? ⟨w.heap.size,9,none⟩=some (.string eS):=by simp [World.cell?,H1,Gz.zero]
  have ff9:w1.frozen? ⟨w.heap.size,9,none⟩=false:=by simp [World.frozen?,H1]
  have dd10:w1.cell? ⟨w.heap.size,10,none⟩=some (.slice none 0 0):=by simp [World.cell?,H1,Gz.zero]
  have ff10:w1.frozen? ⟨w.heap.size,10,none⟩=false:=by simp [World.frozen?,H1]
  have dd11:w1.cell? ⟨w.heap.size,11,none⟩=some (.int .i64 0):=by simp [World.cell?,H1,Gz.zero]
  have ff11:w1.frozen? ⟨w.heap.size,11,none⟩=false:=by simp [World.frozen?,H1]
  have H5:Hid (((((((((((((w1.setCell ⟨w.heap.size,0,none⟩ (.int .i64 0)).setCell ⟨w.heap.size,1,none⟩ (.string eS)).setCell ⟨w.heap.size,2,none⟩ (.bool false)).setCell ⟨w.heap.size,3,none⟩ (.string eS)).setCell ⟨w.heap.size,4,none⟩ (.bool false)).setCell ⟨w.heap.size,5,none⟩ (.string eS)).setCell ⟨w.heap.size,6,none⟩ (.bool false)).setCell ⟨w.heap.size,7,none⟩ (.string eS)).setCell ⟨w.heap.size,8,none⟩ (.bool false)).setCell ⟨w.heap.size,9,none⟩ (.string eS)).setCell ⟨w.heap.size,10,none⟩ (.slice none 0 0)).setCell ⟨w.heap.size,11,none⟩ (.int .i64 0)).heap[w.heap.size]?=some (.cells #[.int .i64 0,.string eS,.bool false,.string eS,.bool false,.string eS,.bool false,.string eS,.bool false,.string eS,.slice none 0 0,.int .i64 0] 45)):=by
   show _=_
   simp [World.setCell,Array.getElem?_modify,H1]
  have HG5:Hid (w.grownBy ((((((((((((w1.setCell ⟨w.heap.size,0,none⟩ (.int .i64 0)).setCell ⟨w.heap.size,1,none⟩ (.string eS)).setCell ⟨w.heap.size,2,none⟩ (.bool false)).setCell ⟨w.heap.size,3,none⟩ (.string eS)).setCell ⟨w.heap.size,4,none⟩ (.bool false)).setCell ⟨w.heap.size,5,none⟩ (.string eS)).setCell ⟨w.heap.size,6,none⟩ (.bool false)).setCell ⟨w.heap.size,7,none⟩ (.string eS)).setCell ⟨w.heap.size,8,none⟩ (.bool false)).setCell ⟨w.heap.size,9,none⟩ (.string eS)).setCell ⟨w.heap.size,10,none⟩ (.slice none 0 0)).setCell ⟨w.heap.size,11,none⟩ (.int .i64 0)) none):=(Zb (Zb (Zb (Zb (Zb (Zb (Zb (Zb (Zb (Zb (Zb (Zb G.out (Nat.le_refl _)) (Nat.le_refl _)) (Nat.le_refl _)) (Nat.le_refl _)) (Nat.le_refl _)) (Nat.le_refl _)) (Nat.le_refl _)) (Nat.le_refl _)) (Nat.le_refl _)) (Nat.le_refl _)) (Nat.le_refl _)) (Nat.le_refl _))
  clear H1
  go_wp2_with fail
  refine bodyPost_ret (Zz rfl _ _ w.heap.size _ ⟨0,eS,Gz.zero,[],0⟩ _ _ rfl H5.out) rfl ?_
  exact⟨HN2.out _ _,HG5.out⟩
end Go.Proofs.YtdcadiaeaclpgaaGreatDoor
