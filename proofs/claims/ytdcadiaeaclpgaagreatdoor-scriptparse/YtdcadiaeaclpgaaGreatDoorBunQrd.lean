/- frac's Read. -/
import Derived.Test.YtdcadiaeaclpgaaGreatDoorBunCut
import Derived.Deep.CutRange
import Derived.Test.YtdcadiaeaclpgaaGreatDoorBunTex
import Derived.Test.YtdcadiaeaclpgaaGreatDoorBunRed
import Derived.Test.YtdcadiaeaclpgaaGreatDoorOna
import Derived.Deep.CutBlock
namespace Go.Proofs.YtdcadiaeaclpgaaGreatDoor
open Go.RowKit Go.Lib Go.Sort
set_option linter.unusedVariables false
set_option maxHeartbeats 6400000
set_option maxRecDepth 1000000
def ABlk (w:World) (B:Nat) (a b c d:Value):Prop:=w.heap[B]?=some (.cells #[a,b,c,d] 195 (0,0))
theorem ABlk.lt {w:World} {B:Nat} {a b c d:Value} (h:ABlk w B a b c d):B<w.heap.size:=(Array.getElem?_eq_some_iff.1 h).1
theorem ABlk.c0 {w:World} {B:Nat} {a b c d:Value} (h:ABlk w B a b c d):w.cell? ⟨B,0,none⟩=some a:=by
 unfold ABlk at h;simp [World.cell?,h]
theorem ABlk.c1 {w:World} {B:Nat} {a b c d:Value} (h:ABlk w B a b c d):w.cell? ⟨B,1,none⟩=some b:=by
 unfold ABlk at h;simp [World.cell?,h]
theorem ABlk.c2 {w:World} {B:Nat} {a b c d:Value} (h:ABlk w B a b c d):w.cell? ⟨B,2,none⟩=some c:=by
 unfold ABlk at h;simp [World.cell?,h]
theorem ABlk.c3 {w:World} {B:Nat} {a b c d:Value} (h:ABlk w B a b c d):w.cell? ⟨B,3,none⟩=some d:=by
 unfold ABlk at h;simp [World.cell?,h]
theorem ABlk.fr {w:World} {B:Nat} {a b c d:Value} (h:ABlk w B a b c d) (i:Nat):w.frozen? ⟨B,i,none⟩=false:=by
 unfold ABlk at h;simp [World.frozen?,h]
theorem ABlk.put01 {w:World} {B:Nat} {a b c d:Value} (h:ABlk w B a b c d) (x y:Value):ABlk ((w.setCell ⟨B,0,none⟩ x).setCell ⟨B,1,none⟩ y) B x y c d:=by
 unfold ABlk at *
 simp [World.setCell,Array.getElem?_modify,h]
theorem ABlk.put23 {w:World} {B:Nat} {a b c d:Value} (h:ABlk w B a b c d) (x y:Value):ABlk ((w.setCell ⟨B,2,none⟩ x).setCell ⟨B,3,none⟩ y) B a b x y:=by
 unfold ABlk at *
 simp [World.setCell,Array.getElem?_modify,h]
theorem ABlk.kept {w w':World} {row:Option Nat} {B:Nat} {a b c d:Value} (h:ABlk w B a b c d) (hg:w.grownBy w' row) (hn:row≠some B):ABlk w' B a b c d :=
 (hg.block B h.lt (fun e=>hn e.symm)).trans h
theorem RowS.cell {w:World} {base g c n:Nat} {L:List ByteArray} (h:RowS w base (.slice (some ⟨g,0,none⟩) n c) L) (i:Nat) (p:ByteArray) (hp:L[i]?=some p):w.cell? ⟨g,i,none⟩=some (.string p):=by
 have:=World.ownsRow.cells h (g:=g) rfl i (.string p) (by simp [cellsS,hp])
 rwa [Addr.add_lit,Nat.zero_add]at this
theorem RowS.kept {w w':World} {base:Nat} {v:Value} {L:List ByteArray} (h:RowS w base v L) (hg:w.grownBy w' none):RowS w' base v L:=by
 refine World.ownsRow.kept h (row:=none) hg ?_
 cases v.ownBlock<;>simp
def RdN (L:List ByteArray) (i:Nat) (n:Bool) (s:ByteArray) (d:Bool) (t:ByteArray):Prop :=
 (i=0∧n=false∧s=eS∧d=false∧t=oneS)∨(i=1∧d=false∧t=oneS∧∃p,L[0]?=some p∧ReadP p n s 0)∨(i=2∧∃p q,L[0]?=some p∧L[1]?=some q∧ReadP p n s 0∧ReadP q d t 0∧¬(d=false∧t=oneS))
theorem fr_yes {s:ByteArray} {L:List ByteArray} {n d:Bool} {p q:ByteArray} (hc:CutR s L) (h0:L.length≠0) (h:RdN L L.length n p d q):(mayQ n p d q=true→FrRes s n p d q 0)∧(mayQ n p d q=false→FrRes s false eS false eS 130):=by
 rcases hc with ⟨rfl,hc⟩|⟨a,b,rfl,rfl,ha,hb⟩|⟨rfl,_⟩
 ·rcases h with ⟨h,_⟩|⟨_,rfl,rfl,u,hu,hp⟩|⟨h,_⟩
  ·simp at h
  ·simp at hu;subst hu
   rcases hp with ⟨_,h1,h2,_⟩|⟨h1,_⟩
   ·exact⟨fr_one (no47 hc) h1 h2,J3 (no47 hc) (fun _=>h2)⟩
   ·simp at h1
  ·simp at h
 ·rcases h with ⟨h,_⟩|⟨h,_⟩|⟨_,u,v,hu,hv,hp,hq,h1⟩
  ·simp at h
  ·simp at h
  ·simp at hu hv;subst hu;subst hv
   rcases hp with ⟨_,a1,a2,_⟩|⟨a1,_⟩
   ·rcases hq with ⟨_,b1,b2,_⟩|⟨b1,_⟩
    ·exact⟨fr_two (no47 ha) a1 b1 a2 b2 h1,Js (no47 ha) (fun _=>a2) (fun _=>b2)⟩
    ·simp at b1
   ·simp at a1
 ·simp at h0
theorem fr_bad {s p t:ByteArray} {L:List ByteArray} {i:Nat} {n:Bool} {er:Int} (hc:CutR s L) (hp:L[i]?=some p) (h:ReadP p n t er) (he:¬er=0):FrRes s false eS false eS 130:=by
 have hb:∀k x m q,k≤1024→TextOf x p→¬Sz k x m q:=by
  rcases h with ⟨h,_⟩|⟨_,_,_,h⟩
  ·exact absurd h he
  ·exact h
 rcases hc with ⟨rfl,hc⟩|⟨a,b,rfl,rfl,ha,_⟩|⟨rfl,_⟩
 ·match i,hp with
  |0,hp=>simp at hp;subst hp;exact Uo (no47 hc) hb
 ·match i,hp with
  |0,hp=>simp at hp;subst hp;exact VC (no47 ha) hb
  |1,hp=>simp at hp;subst hp;exact VX (no47 ha) hb
 ·simp at hp
theorem fr_unit {s p:ByteArray} {L:List ByteArray} (hc:CutR s L) (hp:L[1]?=some p) (h:ReadP p false oneS 0):FrRes s false eS false eS 130:=by
 rcases hc with ⟨rfl,hc⟩|⟨a,b,rfl,rfl,ha,_⟩|⟨rfl,_⟩
 ·simp at hp
 ·simp at hp;subst hp
  rcases h with ⟨_,h1,h2,_⟩|⟨h1,_⟩
  ·exact Uj (no47 ha) (fun _=>h2)
  ·simp at h1
 ·simp at hp
theorem fr_nil {s:ByteArray} {L:List ByteArray} (hc:CutR s L) (h0:L.length=0):FrRes s false eS false eS 130:=by
 rcases hc with ⟨rfl,hc⟩|⟨a,b,rfl,_⟩|⟨_,h1,h2⟩
 ·simp at h0
 ·simp at h0
 ·exact fr_none h1 h2
theorem CutR.len {s:ByteArray} {L:List ByteArray} (hc:CutR s L):L.length≤2∧∀p∈L,p.size≤s.size:=by
 rcases hc with ⟨rfl,hc⟩|⟨a,b,rfl,rfl,_⟩|⟨rfl,_⟩
 ·simp
 ·simp
  omega
 ·simp
def FrE (s:ByteArray) (w:World) (e:Ending) (w':World):Prop:=∃n p d q er,e=.returned (.tuple #[frac n p d q,.int .i64 er])∧FrRes s n p d q er∧w.grownBy w' none
theorem ReadP.size {p t:ByteArray} {n:Bool} (h:ReadP p n t 0):t.size≤maxLen:=by
 rcases h with ⟨_,_,_,h⟩|⟨h,_⟩
 ·have:=ZH h
  unfold maxLen;omega
 ·simp at h
theorem RdN.size {L:List ByteArray} {i:Nat} {n d:Bool} {p q:ByteArray} (h:RdN L i n p d q):p.size≤maxLen∧q.size≤maxLen:=by
 have h0:eS.size≤maxLen:=by unfold maxLen;decide
 have h1:oneS.size≤maxLen:=by unfold maxLen;decide
 rcases h with ⟨_,_,rfl,_,rfl⟩|⟨_,_,rfl,u,_,hp⟩|⟨_,u,v,_,_,hp,hq,_⟩
 ·exact⟨h0,h1⟩
 ·exact⟨hp.size,h1⟩
 ·exact⟨hp.size,hq.size⟩
theorem RdN.next0 {L:List ByteArray} {n d m:Bool} {p q u t:ByteArray} (h:RdN L 0 n p d q) (hu:L[0]?=some u) (hr:ReadP u m t 0):RdN L 1 m t d q:=by
 rcases h with ⟨_,_,rfl,rfl,rfl⟩|⟨h,_⟩|⟨h,_⟩
 ·exact .inr (.inl ⟨rfl,rfl,rfl,u,hu,hr⟩)
 ·simp at h
 ·simp at h
theorem RdN.next1 {L:List ByteArray} {n d m:Bool} {p q u t:ByteArray} (h:RdN L 1 n p d q) (hu:L[1]?=some u) (hr:ReadP u m t 0) (h1:¬(m=false∧t=oneS)):RdN L 2 n p m t:=by
 rcases h with ⟨h,_⟩|⟨_,_,_,v,hv,hp⟩|⟨h,_⟩
 ·simp at h
 ·exact .inr (.inr ⟨rfl,v,u,hv,hu,hp,hr,h1⟩)
 ·simp at h
def FdI (w wx:World) (NB:Nat) (v:Value) (L:List ByteArray) (n d:Bool) (p q:ByteArray):Prop :=
 QBlk wx w.heap.size (.bool false) (.string eS) (.bool false) (.string eS)∧RowS wx (w.heap.size+1) v L∧ABlk wx NB (.bool n) (.string p) (.bool d) (.string q)∧w.grownBy wx none
theorem FdI.kept {w wx wy:World} {NB:Nat} {v:Value} {L:List ByteArray} {n d:Bool} {p q:ByteArray} (h:FdI w wx NB v L n d p q) (hg:wx.grownBy wy none):FdI w wy NB v L n d p q :=
 ⟨h.1.kept hg (by simp),h.2.1.kept hg,h.2.2.1.kept hg (by simp),Za h.2.2.2 hg⟩
theorem Yw (a:World) (g i j:Nat) (u v:Value):a.grownBy ((a.setCell ⟨g,i,none⟩ u).setCell ⟨g,j,none⟩ v) (some g):=Za (Zc _ _ _ _) (Zc _ _ _ _)
theorem FdI.put01 {w wx:World} {NB:Nat} {v:Value} {L:List ByteArray} {n d:Bool} {p q:ByteArray} (h:FdI w wx NB v L n d p q) (hB:w.heap.size<NB) (ho:v.ownBlock≠some NB) (m:Bool) (t:ByteArray):FdI w ((wx.setCell ⟨NB,0,none⟩ (.bool m)).setCell ⟨NB,1,none⟩ (.string t)) NB v L m d t q:=by
 have hg:wx.grownBy ((wx.setCell ⟨NB,0,none⟩ (.bool m)).setCell ⟨NB,1,none⟩ (.string t)) (some NB):=Yw _ _ _ _ _ _
 exact⟨h.1.kept hg (by intro e;injection e with e;omega),World.ownsRow.kept h.2.1 hg (.inr ho),h.2.2.1.put01 _ _,Zb (Zb h.2.2.2 (by omega)) (by omega)⟩
theorem FdI.put23 {w wx:World} {NB:Nat} {v:Value} {L:List ByteArray} {n d:Bool} {p q:ByteArray} (h:FdI w wx NB v L n d p q) (hB:w.heap.size<NB) (ho:v.ownBlock≠some NB) (m:Bool) (t:ByteArray):FdI w ((wx.setCell ⟨NB,2,none⟩ (.bool m)).setCell ⟨NB,3,none⟩ (.string t)) NB v L n m p t:=by
 have hg:wx.grownBy ((wx.setCell ⟨NB,2,none⟩ (.bool m)).setCell ⟨NB,3,none⟩ (.string t)) (some NB):=Yw _ _ _ _ _ _
 exact⟨h.1.kept hg (by intro e;injection e with e;omega),World.ownsRow.kept h.2.1 hg (.inr ho),h.2.2.1.put23 _ _,Zb (Zb h.2.2.2 (by omega)) (by omega)⟩
theorem ZdA (s:ByteArray) (h9:s.size≤maxLen) (w:World):Calls Tryz.prog 150 #[.string s] w (FrE s w):=by
 have HC:Hid (∀w,Calls Tryz.prog 167 #[.string s] w fun e w'=>∃v L,e=.returned v∧CutR s L∧RowS w' w.heap.size v L∧w.grownBy w' none):=fun w=>ZeV s h9 w
 have HM:Hid (∀n p d q w,p.size≤maxLen→q.size≤maxLen→Calls Tryz.prog 89 #[frac n p d q] w fun e w'=>e=.returned (.bool (mayQ n p d q))∧w.grownBy w' none):=fun n p d q w h1 h2=>Vr n d p q h1 h2 w
 have HRd:Hid (∀p w,p.size≤s.size→Calls Tryz.prog 168 #[.string p] w fun e w'=>∃n t er,e=.returned (.tuple #[whole n t,.int .i64 er])∧ReadP p n t er∧w.grownBy w' none):=fun p w h=>read_q p (Nat.le_trans h h9) w
 clear h9
 go_enter Tryz.func150,Tryz.ntmps150
 go_wp2_with fail
 refine(HC.out _).mono ?_
 rintro e w1 ⟨v,L,rfl,hC,hR,g1⟩
 obtain⟨ao,cp,rfl⟩:=hR.form
 have hB:QBlk w1 w.heap.size (.bool false) (.string eS) (.bool false) (.string eS):=QBlk.kept (w:=w.alloc (qObj false eS false eS)) (heap_alloc_new _ _) g1 (by simp)
 have HB:Hid (QBlk w1 w.heap.size (.bool false) (.string eS) (.bool false) (.string eS)):=hB
 have HG:Hid (w.grownBy w1 none):=Za (grow1 _ _) g1
 have HCt:Hid (CutR s L):=hC
 have HR:Hid (RowS w1 (w.alloc (qObj false eS false eS)).heap.size (.slice ao L.length cp) L):=hR
 clear hC hR g1 hB HC
 go_wp2_with fail
 refine(YD _).mono ?_
 rintro e w2 ⟨rfl,g2⟩
 have HB2:Hid (QBlk w2 w.heap.size (.bool false) (.string eS) (.bool false) (.string eS)):=HB.out.kept g2 (by simp)
 have HG2:Hid (w.grownBy w2 none):=Za HG.out g2
 have HR2:Hid (RowS w2 (w.alloc (qObj false eS false eS)).heap.size (.slice ao L.length cp) L):=HR.out.kept g2
 have HN0:Hid (RdN L 0 false eS false oneS):=.inl ⟨rfl,rfl,rfl,rfl,rfl⟩
 obtain⟨N,hN⟩:∃N,L.length=N:=⟨_,rfl⟩
 have HN:Unit→L.length=N:=fun _=>hN
 have hN2:N≤2:=by rw [←hN];exact HCt.out.len.1
 rw [hN]at HR2 ⊢
 have HW:Hid (w.heap.size<w2.heap.size):=HB2.out.lt
 have HOB:Hid ((Value.slice ao N cp).ownBlock≠some w2.heap.size):=(by
  rcases HR2.out.2 with ⟨e,_⟩|⟨g,cap,cur,e,hb,hg,_⟩
  ·rw [e];intro h;cases h
  ·rw [e];intro h
   have h2:g=w2.heap.size:=Option.some.inj h
   have:=(Array.getElem?_eq_some_iff.1 hg).1
   omega)
 have HF0:Hid (FdI w (w2.alloc (.cells #[.bool false,.string eS,.bool false,.string oneS] 195)) w2.heap.size (.slice ao N cp) L false false eS oneS):=(by
  refine⟨Zn _ _ HB2.out,?_,heap_alloc_new _ _,Za HG2.out (grow1 _ _)⟩
  have:=HR2.out.alloc (.cells #[.bool false,.string eS,.bool false,.string oneS] 195)
  simpa using this)
 obtain⟨NB,hNB⟩:∃NB,w2.heap.size=NB:=⟨_,rfl⟩
 rw [hNB]at HF0 HOB HW
 clear HB HG HR g2 hN HB2 HG2 HR2
 go_wp2_with fail
 go_loopg [17] N (fun g s17 wx=>∃(i:Nat) (n d:Bool) (p q:ByteArray),s17=.int .i64 (i:Int)∧i+g=N∧RdN L i n p d q∧FdI w wx NB (.slice ao N cp) L n d p q)
 case atStart=>exact⟨0,false,false,eS,oneS,rfl,by omega,HN0.out,HF0.out⟩
 case round =>
  obtain⟨i,n,d,p,q,rfl,hig,hN,hF⟩:=hrel
  have HF:Hid (FdI w wr NB (.slice ao N cp) L n d p q):=hF
  have HRN:Hid (RdN L i n p d q):=hN
  clear hN hF HF0 HN0
  cases gk with
  |zero =>
   obtain rfl:i=N:=by omega
   have hc:=HF.out.2.2.1
   have a0:=hc.c0
   have a1:=hc.c1
   have a2:=hc.c2
   have a3:=hc.c3
   clear hc hig
   rcases Nat.eq_zero_or_pos i with rfl|hpos
   ·have HE:Hid (FrRes s false eS false eS 130):=fr_nil HCt.out (HN ())
    have HF1:Hid (FdI w (wr.alloc (qObj n p d q)) NB (.slice ao 0 cp) L n d p q):=HF.out.kept (grow1 _ _)
    clear HF
    go_upto_region 12 with fail
    have hQ:=HF1.out.1
    have HG3:Hid (w.grownBy (wr.alloc (qObj n p d q)) none):=HF1.out.2.2.2
    clear a0 a1 a2 a3 HF1
    generalize wr.alloc (qObj n p d q)=V at *
    have HQ:Hid (QBlk V w.heap.size (.bool false) (.string eS) (.bool false) (.string eS)):=hQ
    have q0:=hQ.c0
    have q1:=hQ.c1
    have q2:=hQ.c2
    have q3:=hQ.c3
    have f0:=hQ.fr 0
    have f1:=hQ.fr 1
    have f2:=hQ.fr 2
    have f3:=hQ.fr 3
    clear hQ
    go_wp2_with fail
    refine bodyPost_ret (Zs rfl _ _ w.heap.size _ _ _ _ _ _ rfl (HQ.out.put _ _ _ _)) rfl ?_
    exact⟨_,_,_,_,_,rfl,HE.out,Zy HG3.out (Nat.le_refl _)⟩
   ·have hz:((i:Int) == 0)=false:=by rw [beq_eq_false_iff_ne];omega
    obtain⟨hy1,hy2⟩:=fr_yes HCt.out (by rw [HN ()];omega) (by rw [HN ()];exact HRN.out)
    have HY1:Hid (mayQ n p d q=true→FrRes s n p d q 0):=hy1
    have HY2:Hid (mayQ n p d q=false→FrRes s false eS false eS 130):=hy2
    have HF1:Hid (FdI w (wr.alloc (qObj n p d q)) NB (.slice ao i cp) L n d p q):=HF.out.kept (grow1 _ _)
    have HX:Hid (QBlk (wr.alloc (qObj n p d q)) wr.heap.size (.bool n) (.string p) (.bool d) (.string q)):=heap_alloc_new _ _
    have HMy:=HM.out n p d q
    have hsz:=HRN.out.size
    have HMz:Hid (∀w,Calls Tryz.prog 89 #[frac n p d q] w fun e w'=>e=.returned (.bool (mayQ n p d q))∧w.grownBy w' none):=fun w=>HM.out n p d q w hsz.1 hsz.2
    clear HF hy1 hy2 hsz HMy
    go_upto_region 12 with fail
    clear a0 a1 a2 a3
    generalize wr.alloc (qObj n p d q)=V at *
    have x0:=HX.out.c0
    have x1:=HX.out.c1
    have x2:=HX.out.c2
    have x3:=HX.out.c3
    go_wp2_with fail
    refine(HMz.out _).mono ?_
    rintro e w3 ⟨rfl,g3⟩
    have HX3:Hid (QBlk w3 wr.heap.size (.bool n) (.string p) (.bool d) (.string q)):=HX.out.kept g3 (by simp)
    have HF3:Hid (FdI w w3 NB (.slice ao i cp) L n d p q):=HF1.out.kept g3
    clear x0 x1 x2 x3 HX HF1 g3
    have HQ:Hid (QBlk w3 w.heap.size (.bool false) (.string eS) (.bool false) (.string eS)):=HF3.out.1
    have q0:=HQ.out.c0
    have q1:=HQ.out.c1
    have q2:=HQ.out.c2
    have q3:=HQ.out.c3
    have f0:=HQ.out.fr 0
    have f1:=HQ.out.fr 1
    have f2:=HQ.out.fr 2
    have f3:=HQ.out.fr 3
    have x0:=HX3.out.c0
    have x1:=HX3.out.c1
    have x2:=HX3.out.c2
    have x3:=HX3.out.c3
    have HMM:Unit→mayQ n p d q=mayQ n p d q:=fun _=>rfl
    cases hm:mayQ n p d q
    ·have HE:=HY2.out hm
     clear HMz HM HMM
     go_wp2_with fail
     refine bodyPost_ret (Zs rfl _ _ w.heap.size _ _ _ _ _ _ rfl (HQ.out.put _ _ _ _)) rfl ?_
     exact⟨_,_,_,_,_,rfl,HE,Zy HF3.out.2.2.2 (Nat.le_refl _)⟩
    ·have HE:=HY1.out hm
     clear HMz HM HMM
     go_wp2_with fail
     refine bodyPost_ret (Zs rfl _ _ w.heap.size _ _ _ _ _ _ rfl (HQ.out.put _ _ _ _)) rfl ?_
     exact⟨_,_,_,_,_,rfl,HE,Zy HF3.out.2.2.2 (Nat.le_refl _)⟩
  |succ g =>
   have hiN:i<N:=by omega
   obtain⟨gB,rfl,hcp⟩:∃gB,ao=some ⟨gB,0,none⟩∧N≤cp:=by
    rcases HF.out.2.1.2 with ⟨e,h0⟩|⟨gB,cap,cur,e,_,_,hc,_⟩
    ·have:=HN ();omega
    ·have:=HN ()
     cases e
     exact⟨gB,rfl,by omega⟩
   obtain⟨u,hu⟩:∃u,L[i]?=some u:=⟨L[i]'(by rw [HN ()];exact hiN),List.getElem?_eq_getElem _⟩
   have hcu:=HF.out.2.1.cell i u hu
   have HU:Hid (L[i]?=some u):=hu
   have HUs:Hid (u.size≤s.size):=HCt.out.len.2 u (List.mem_of_getElem? hu)
   have HIG:Hid (i+(g+1)=N):=hig
   have hiI:(i:Int)<(N:Int):=by omega
   have hcpI:(N:Int)≤(cp:Int):=by omega
   clear hu hig
   have hi01:i=0∨i=1:=by omega
   have hi0:(0:Int)≤(i:Int):=by omega
   go_wp2_with fail
   refine(HRd.out u _ HUs.out).mono ?_
   rintro e w3 ⟨m,t,er,rfl,hP,g3⟩
   have HP:Hid (ReadP u m t er):=hP
   have HF3:Hid (FdI w w3 NB (.slice (some ⟨gB,0,none⟩) N cp) L n d p q):=HF.out.kept g3
   clear hP g3 hcu HF
   by_cases he:er=0
   ·subst he
    have HX:Hid (WBlk (w3.alloc (wObj m t)) w3.heap.size (.bool m) (.string t)):=heap_alloc_new _ _
    have HF4:Hid (FdI w (w3.alloc (wObj m t)) NB (.slice (some ⟨gB,0,none⟩) N cp) L n d p q):=HF3.out.kept (grow1 _ _)
    have HNB:Hid (NB<w3.heap.size):=HF3.out.2.2.1.lt
    go_upto_region 7 with fail
    generalize w3.alloc (wObj m t)=V at *
    generalize w3.heap.size=X at *
    clear HF3
    have ne1:¬NB=X:=by have:=HNB.out;omega
    have ne2:¬X=NB:=by have:=HNB.out;omega
    rcases hi01 with rfl|rfl
    ·have HN1:Hid (RdN L 1 m t d q):=HRN.out.next0 HU.out HP.out
     have x0:=HX.out.c0
     have x1:=HX.out.c1
     have hA:=HF4.out.2.2.1
     have a0:=hA.c0
     have a1:=hA.c1
     have f0:=hA.fr 0
     have f1:=hA.fr 1
     clear hA
     go_region_with (first|fail)
     all_goals (
      go_wp2_with fail
      go_roundg g
      case measure=>omega
      case rel=>exact⟨1,m,d,t,q,rfl,by have:=HIG.out;omega,HN1.out,(HF4.out.put01 HW.out HOB.out m t).kept (Zf (World.grownBy.refl _ _))⟩)
    ·have HXX:Hid (∀w',V.grownBy w' none→w'.cell? ⟨X,0,none⟩=some (Value.bool m)∧w'.cell? ⟨X,1,none⟩=some (Value.string t)):=fun w' h=>⟨(HX.out.kept h (by simp)).c0,(HX.out.kept h (by simp)).c1⟩
     obtain⟨x0,x1⟩:=HXX.out _ (World.grownBy.refl _ _)
     by_cases h1:m=false∧t=oneS
     ·obtain⟨rfl,rfl⟩:=h1
      have HE:Hid (FrRes s false eS false eS 130):=fr_unit HCt.out HU.out HP.out
      go_region_held3 (fun w'=>w'.cell? ⟨X,0,none⟩=some (Value.bool false)∧w'.cell? ⟨X,1,none⟩=some (Value.string oneS))
       (first|(go_keep;done)|with_reducible exact HXX.out _ (by assumption)|with_reducible exact HXX.out _ (Zf (World.grownBy.refl _ _))|fail)
       (first|(go_at_call 120;refine(YD _).mono ?_;rintro e w4 ⟨rfl,g4⟩;have G4:V.grownBy w4 none:=(by first|exact g4|exact Zj g4))|fail)
      all_goals (
       have HF5:Hid (FdI w w4 NB (.slice (some ⟨gB,0,none⟩) N cp) L n d p q):=HF4.out.kept G4
       have HQ:Hid (QBlk w4 w.heap.size (.bool false) (.string eS) (.bool false) (.string eS)):=HF5.out.1
       have q0:=HQ.out.c0
       have q1:=HQ.out.c1
       have q2:=HQ.out.c2
       have q3:=HQ.out.c3
       have f0:=HQ.out.fr 0
       have f1:=HQ.out.fr 1
       have f2:=HQ.out.fr 2
       have f3:=HQ.out.fr 3
       go_wp2_with fail
       refine bodyPost_ret (Zs rfl _ _ w.heap.size _ _ _ _ _ _ rfl (HQ.out.put _ _ _ _)) rfl ?_
       exact⟨_,_,_,_,_,rfl,HE.out,Zy HF5.out.2.2.2 (Nat.le_refl _)⟩)
     ·have HN1:Hid (RdN L 2 n p m t):=HRN.out.next1 HU.out HP.out h1
      have HNE:Hid (m=false→¬t.toList=[1]):=(by
       intro hm e
       exact h1 ⟨hm,Yx (by rw [←YZ,e];rfl)⟩)
      clear h1
      cases m
      ·skip
       have hne:=HNE.out rfl
       go_region_held3 (fun w'=>w'.cell? ⟨X,0,none⟩=some (Value.bool false)∧w'.cell? ⟨X,1,none⟩=some (Value.string t))
        (first|(go_keep;done)|with_reducible exact HXX.out _ (by assumption)|with_reducible exact HXX.out _ (Zf (World.grownBy.refl _ _))|fail)
        (first|(go_at_call 120;refine(YD _).mono ?_;rintro e w4 ⟨rfl,g4⟩;have G4:V.grownBy w4 none:=(by first|exact g4|exact Zj g4))|fail)
       have HF5:Hid (FdI w w4 NB (.slice (some ⟨gB,0,none⟩) N cp) L n d p q):=HF4.out.kept G4
       have HX5:=HX.out.kept G4 (by simp)
       have x0:=HX5.c0
       have x1:=HX5.c1
       have hA:=HF5.out.2.2.1
       have a2:=hA.c2
       have a3:=hA.c3
       have f2:=hA.fr 2
       have f3:=hA.fr 3
       clear hA HX5
       go_wp2_with fail
       go_roundg g
       case measure=>omega
       case rel=>exact⟨2,n,false,p,t,rfl,by have:=HIG.out;omega,HN1.out,HF5.out.put23 HW.out HOB.out _ _⟩
      ·skip
       go_region_held3 (fun w'=>w'.cell? ⟨X,0,none⟩=some (Value.bool true)∧w'.cell? ⟨X,1,none⟩=some (Value.string t))
        (first|(go_keep;done)|with_reducible exact HXX.out _ (by assumption)|with_reducible exact HXX.out _ (Zf (World.grownBy.refl _ _))|fail)
        (first|(go_at_call 120;refine(YD _).mono ?_;rintro e w4 ⟨rfl,g4⟩;have G4:V.grownBy w4 none:=(by first|exact g4|exact Zj g4))|fail)
       have HF5:Hid (FdI w w4 NB (.slice (some ⟨gB,0,none⟩) N cp) L n d p q):=HF4.out.kept G4
       have HX5:=HX.out.kept G4 (by simp)
       have x0:=HX5.c0
       have x1:=HX5.c1
       have hA:=HF5.out.2.2.1
       have a2:=hA.c2
       have a3:=hA.c3
       have f2:=hA.fr 2
       have f3:=hA.fr 3
       clear hA HX5
       go_wp2_with fail
       go_roundg g
       case measure=>omega
       case rel=>exact⟨2,n,true,p,t,rfl,by have:=HIG.out;omega,HN1.out,HF5.out.put23 HW.out HOB.out _ _⟩
   ·have HE:Hid (FrRes s false eS false eS 130):=fr_bad HCt.out HU.out HP.out he
    have her:er=3∨er=4∨er=120:=by
     rcases HP.out with ⟨h,_⟩|⟨h,_⟩
     ·exact absurd h he
     ·exact h
    have HF4:Hid (FdI w (w3.alloc (wObj m t)) NB (.slice (some ⟨gB,0,none⟩) N cp) L n d p q):=HF3.out.kept (grow1 _ _)
    clear he HP
    go_upto_region 7 with fail
    generalize w3.alloc (wObj m t)=V at *
    have HQ:Hid (QBlk V.drew w.heap.size (.bool false) (.string eS) (.bool false) (.string eS)):=HF4.out.1.kept (row:=none) (Zf (World.grownBy.refl _ _)) (by simp)
    have HG5:Hid (w.grownBy V.drew none):=Zf HF4.out.2.2.2
    refine wp_region_held_drew (S:=fun _=>True) (by kernel_rfl) trivial (fun hHeld=>?_)
    rcases her with rfl|rfl|rfl
    all_goals (
        refine wpAnyH_take (i:=0) (v:=?_) rfl (by kernel_rfl) (by kernel_rfl) (by kernel_rfl) (fun _ _ _ h=>h) (Or.inl ⟨by kernel_rfl,?_⟩) (by assumption) ?_
        rotate_left
        ·(intro w hSw;(try dsimp only at hSw);go_simp;try(with_reducible rfl))
        refine wpAnyH_take (i:=1) (v:=?_) rfl (by kernel_rfl) (by kernel_rfl) (by kernel_rfl) (fun _ _ _ h=>h) (Or.inl ⟨by kernel_rfl,?_⟩) (by assumption) ?_
        rotate_left
        ·(intro w hSw;(try dsimp only at hSw);go_simp;try(with_reducible rfl))
        refine wpAnyH_take (i:=2) (v:=?_) rfl (by kernel_rfl) (by kernel_rfl) (by kernel_rfl) (fun _ _ _ h=>h) (Or.inl ⟨by kernel_rfl,?_⟩) (by assumption) ?_
        rotate_left
        ·(intro w hSw;(try dsimp only at hSw);go_simp;try(with_reducible rfl))
        refine wpAnyH_take (i:=3) (v:=undef) rfl (by kernel_rfl) (by kernel_rfl) (by kernel_rfl) (fun _ _ _ h=>h) (Or.inr ⟨by kernel_rfl,rfl⟩) (by assumption) ?_
        refine wpAnyH_take (i:=4) (v:=undef) rfl (by kernel_rfl) (by kernel_rfl) (by kernel_rfl) (fun _ _ _ h=>h) (Or.inr ⟨by kernel_rfl,rfl⟩) (by assumption) ?_
        refine wpAnyH_take (i:=5) (v:=undef) rfl (by kernel_rfl) (by kernel_rfl) (by kernel_rfl) (fun _ _ _ h=>h) (Or.inr ⟨by kernel_rfl,rfl⟩) (by assumption) ?_
        refine wpAnyH_take (i:=6) (v:=undef) rfl (by kernel_rfl) (by kernel_rfl) (by kernel_rfl) (fun _ _ _ h=>h) (Or.inr ⟨by kernel_rfl,rfl⟩) (by assumption) ?_
        refine wpAnyH_take (i:=7) (v:=undef) rfl (by kernel_rfl) (by kernel_rfl) (by kernel_rfl) (fun _ _ _ h=>h) (Or.inr ⟨by kernel_rfl,rfl⟩) (by assumption) ?_
        refine wpAnyH_take (i:=8) (v:=undef) rfl (by kernel_rfl) (by kernel_rfl) (by kernel_rfl) (fun _ _ _ h=>h) (Or.inr ⟨by kernel_rfl,rfl⟩) (by assumption) ?_
        refine wpAnyH_take (i:=9) (v:=undef) rfl (by kernel_rfl) (by kernel_rfl) (by kernel_rfl) (fun _ _ _ h=>h) (Or.inr ⟨by kernel_rfl,rfl⟩) (by assumption) ?_
        refine wpAnyH_take (i:=10) (v:=?_) rfl (by kernel_rfl) (by kernel_rfl) (by kernel_rfl) (fun _ _ _ h=>h) (Or.inl ⟨by kernel_rfl,?_⟩) (by assumption) ?_
        rotate_left
        ·(intro w hSw;(try dsimp only at hSw);go_simp;try(with_reducible rfl))
        refine wpAnyH_done (by kernel_rfl) ?_ _
        simp only [Act.put,List.getElem_toArray,List.getElem_cons_succ,List.getElem_cons_zero,List.setIfInBounds_toArray,List.set_cons_zero,List.set_cons_succ]
        generalize V.drew=V' at *
        have q0:=HQ.out.c0
        have q1:=HQ.out.c1
        have q2:=HQ.out.c2
        have q3:=HQ.out.c3
        have f0:=HQ.out.fr 0
        have f1:=HQ.out.fr 1
        have f2:=HQ.out.fr 2
        have f3:=HQ.out.fr 3
        go_wp2_with fail
        refine bodyPost_ret (Zs rfl _ _ w.heap.size _ _ _ _ _ _ rfl (HQ.out.put _ _ _ _)) rfl ?_
        exact⟨_,_,_,_,_,rfl,HE.out,Zy HG5.out (Nat.le_refl _)⟩)
def RsI (s:ByteArray) (a:Nat):Prop:=(a=s.size∧47 ∉ bN s)∨(a<s.size∧(bN s)[a]?=some 47∧47 ∉ (bN s).take a)
def RlI (s:ByteArray) (i a:Nat):Prop:=(a=s.size∧47 ∉ (bN s).take i)∨(a<s.size∧i=a+1∧(bN s)[a]?=some 47∧47 ∉ (bN s).take a)
theorem RsI.two {s:ByteArray} {a:Nat} (h:RsI s a) (ha:a<s.size):s=s.extract 0 a++⟨#[47]⟩++s.extract (a+1) s.size∧47 ∉ bN (s.extract 0 a):=by
 rcases h with ⟨h,_⟩|⟨_,h1,h2⟩
 ·omega
 ·refine⟨ZbU ?_,by rw [ZI];exact h2⟩
  rw [ZI,Yc]
  have hd:(bN s).drop a=47::(bN s).drop (a+1):=by
   rw [List.drop_eq_getElem_cons (by rw [Ze];exact ha)]
   congr 1
   exact(List.getElem?_eq_some_iff.1 h1).2
  rw [←hd,List.take_append_drop]
theorem RsI.one {s:ByteArray} {a:Nat} (h:RsI s a) (ha:¬a<s.size):s.extract 0 a=s∧a=s.size∧47 ∉ bN s:=by
 rcases h with ⟨rfl,h⟩|⟨h,_⟩
 ·exact⟨Yx (by rw [ZI,List.take_of_length_le (by rw [Ze];omega)]),rfl,h⟩
 ·omega
def RqI (w wx:World) (XB:Nat) (n d:Bool) (p q:ByteArray):Prop :=
 QBlk wx w.heap.size (.bool false) (.string eS) (.bool false) (.string eS)∧QBlk wx XB (.bool n) (.string p) (.bool d) (.string q)∧w.heap.size<XB∧w.grownBy wx none
theorem RqI.put01 {w wx:World} {XB:Nat} {n d:Bool} {p q:ByteArray} (h:RqI w wx XB n d p q) (m:Bool) (t:ByteArray):RqI w ((wx.setCell ⟨XB,0,none⟩ (.bool m)).setCell ⟨XB,1,none⟩ (.string t)) XB m d t q:=by
 have hg:wx.grownBy ((wx.setCell ⟨XB,0,none⟩ (.bool m)).setCell ⟨XB,1,none⟩ (.string t)) (some XB):=Yw _ _ _ _ _ _
 have hl:=h.2.2.1
 refine⟨h.1.kept hg (by intro e;injection e with e;omega),?_,hl,Zb (Zb h.2.2.2 (by omega)) (by omega)⟩
 have:=h.2.1
 unfold QBlk at *
 simp [World.setCell,Array.getElem?_modify,this]
theorem RqI.put23 {w wx:World} {XB:Nat} {n d:Bool} {p q:ByteArray} (h:RqI w wx XB n d p q) (m:Bool) (t:ByteArray):RqI w ((wx.setCell ⟨XB,2,none⟩ (.bool m)).setCell ⟨XB,3,none⟩ (.string t)) XB n m p t:=by
 have hg:wx.grownBy ((wx.setCell ⟨XB,2,none⟩ (.bool m)).setCell ⟨XB,3,none⟩ (.string t)) (some XB):=Yw _ _ _ _ _ _
 have hl:=h.2.2.1
 refine⟨h.1.kept hg (by intro e;injection e with e;omega),?_,hl,Zb (Zb h.2.2.2 (by omega)) (by omega)⟩
 have:=h.2.1
 unfold QBlk at *
 simp [World.setCell,Array.getElem?_modify,this]
theorem RqI.kept {w wx wy:World} {XB:Nat} {n d:Bool} {p q:ByteArray} (h:RqI w wx XB n d p q) (hg:wx.grownBy wy none):RqI w wy XB n d p q :=
 ⟨h.1.kept hg (by simp),h.2.1.kept hg (by simp),h.2.2.1,Za h.2.2.2 hg⟩
end Go.Proofs.YtdcadiaeaclpgaaGreatDoor
