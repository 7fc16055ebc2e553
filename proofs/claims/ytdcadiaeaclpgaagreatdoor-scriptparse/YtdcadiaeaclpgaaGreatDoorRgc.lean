/- The document's Gcd of two numbers. -/
import Derived.Test.YtdcadiaeaclpgaaGreatDoorBunRdv
import Derived.Test.YtdcadiaeaclpgaaGreatDoorBunAll
namespace Go.Proofs.YtdcadiaeaclpgaaGreatDoor
open Go.RowKit Go.Lib Go.Sort
set_option linter.unusedVariables false
set_option maxHeartbeats 3200000
set_option maxRecDepth 1000000
structure RgQ (w wr:World) (g:Nat) (vx vy:Value) (X Y:List Nat):Prop where
 dx:D4 wr vx X
 dy:D4 wr vy Y
 rx:∀x∈X,x<B32
 ry:∀x∈Y,x<B32
 tx:Trim X
 ty:Trim Y
 lx:X.length≤4096
 ly:Y.length≤4096
 gc:Nat.gcd (nv B32 X) (nv B32 Y)=g
 gr:w.grownBy wr none
theorem ZfN {K:List Nat} {m:Nat} (t:Trim K) (h:nv B32 K<B32 ^ m):K.length≤m:=by
 refine Nat.le_of_not_lt fun hlt=>?_
 have:=ZK t m hlt
 omega
theorem RgQ.next {w wr w':World} {g:Nat} {vx vy vr:Value} {X Y K:List Nat} (h:RgQ w wr g vx vy X Y) (h0:0<nv B32 Y) (dr:D4 w' vr K) (rr:∀x∈K,x<B32) (tr:Trim K) (nr:nv B32 K=nv B32 X % nv B32 Y) (gw:wr.grownBy w' none) :
    RgQ w w' g vy vr Y K∧nv B32 K<nv B32 Y:=by
 have hlt:nv B32 K<nv B32 Y:=by rw [nr];exact Nat.mod_lt _ h0
 refine⟨⟨h.dy.kept gw,dr,h.ry,rr,h.ty,tr,h.ly,?_,?_,Za h.gr gw⟩,hlt⟩
 ·exact Nat.le_trans (ZfN tr (Nat.lt_trans hlt (nv_lt B32 Y h.ry))) h.ly
 ·rw [nr,←h.gc,Nat.gcd_comm (nv B32 X),Nat.gcd_rec (nv B32 Y) (nv B32 X),Nat.gcd_comm]
theorem ZfD (n1 n2:Bool) (m1 m2:ByteArray) (h1:may n1 m1=true) (h2:may n2 m2=true) (w:World) :
    Calls Tryz.prog 145 #[whole n1 m1,whole n2 m2] w fun e w'=>∃s,e=.returned (whole false s)∧bN s=magN (Nat.gcd (val (bN m1)) (val (bN m2)))∧w.grownBy w' none:=by
 have W1:=JK n1 m1 h1
 have W2:=JK n2 m2 h2
 have HWW:Hid (∀m w,m=m1∨m=m2→Calls Tryz.prog 111 #[.string m] w fun e w'=>∃v,e=.returned v∧WdT w w' v m):=(by
  intro m w hm
  rcases hm with rfl|rfl
  ·exact W1 w
  ·exact W2 w)
 obtain⟨g,hg⟩:∃g,Nat.gcd (val (bN m1)) (val (bN m2))=g:=⟨_,rfl⟩
 rw [hg]
 have HGV:Hid (Nat.gcd (val (bN m1)) (val (bN m2))=g):=hg
 clear W1 W2 h1 h2 hg
 go_enter Tryz.func145,Tryz.ntmps145
 go_wp2_with fail
 have HKK:Hid (∀w',((w.alloc (wObj n1 m1)).alloc (wObj n2 m2)).grownBy w' none→w'.cell? ⟨w.heap.size,1,none⟩=some (Value.string m1)∧w'.cell? ⟨w.heap.size+1,1,none⟩=some (Value.string m2)) :=
  fun w' hg=>⟨Zd hg (WBlk.c1 (a:=.bool n1) (Zn _ _ (heap_alloc_new _ _))) (by simp),Zd hg (WBlk.c1 (a:=.bool n2) (heap_alloc2_new _ _ _)) (by simp)⟩
 go_region_held3 (fun w'=>w'.cell? ⟨w.heap.size,1,none⟩=some (Value.string m1)∧w'.cell? ⟨w.heap.size+1,1,none⟩=some (Value.string m2))
  (first|(go_keep;done)|exact HKK.out _ (Za (grow1 _ _) (by assumption))|exact HKK.out _ (Zf (grow1 _ _))|fail)
  (first
   |(go_at_call 111;refine(HWW.out _ _ (by first|exact .inl rfl|exact .inr rfl)).mono ?_;rintro e wA ⟨vA,rfl,hWA⟩;(first|(have GB:(((w.alloc (wObj n1 m1)).alloc (wObj n2 m2)).alloc (wObj false eS)).grownBy wA none:=Za G1 hWA.grown;have hAB:=And.intro hW1 hWA)|(have G1:(((w.alloc (wObj n1 m1)).alloc (wObj n2 m2)).alloc (wObj false eS)).grownBy wA none:=Zj hWA.grown;have hW1:=hWA)|fail))
   |fail)
 obtain⟨X,dx,rx,lx,tx,nx,gx⟩:=hAB.1
 obtain⟨Y,dy,ry,ly,ty,ny,gy⟩:=hAB.2
 have HI:Hid (RgQ (((w.alloc (wObj n1 m1)).alloc (wObj n2 m2)).alloc (wObj false eS)) _ g _ _ X Y):=⟨dx.kept gy,dy,rx,ry,tx,ty,lx,ly,by rw [nx,ny];exact HGV.out,GB⟩
 clear dx rx lx tx nx gx dy ry ly ty ny gy hAB hW1 G1 GB hWA HWW HKK HGV
 go_wp2_with fail
 go_loopg [5,6] (nv B32 Y) (fun q s0 s1 wx=>∃MA MB,RgQ (((w.alloc (wObj n1 m1)).alloc (wObj n2 m2)).alloc (wObj false eS)) wx g s0 s1 MA MB∧nv B32 MB=q)
 case atStart=>exact⟨X,Y,HI.out,rfl⟩
 case round =>
  obtain⟨MA,MB,hG,hq⟩:=hrel
  have HQ:=fun(_:Unit)=>hq
  have HI:Hid (RgQ (((w.alloc (wObj n1 m1)).alloc (wObj n2 m2)).alloc (wObj false eS)) wr g u5 u6 MA MB):=hG
  by_cases hz:MB.length=0
  ·have hM:=Xd false wr u5 MA hG.dx hG.rx (by have:=hG.lx;omega)
   have hgv:nv B32 MA=g:=by
    have:=hG.gc
    rw [List.length_eq_zero_iff.1 hz]at this
    simpa [nv]using this
   rw [hgv]at hM
   have HM:Hid (Calls Tryz.prog 110 #[.bool false,u5] wr fun e w'=>∃s,e=.returned (whole (false && decide (g≠0)) s)∧bN s=magN g∧wr.grownBy w' none):=hM
   have HGR:Hid ((((w.alloc (wObj n1 m1)).alloc (wObj n2 m2)).alloc (wObj false eS)).grownBy wr none):=hG.gr
   obtain⟨ay,cy,hy⟩:=hG.dy.slice
   rw [hz]at hy
   obtain⟨ax,cx,hx⟩:=hG.dx.slice
   generalize MA.length=nx at *
   subst hy hx
   clear hG hM hgv hz hq HQ HI
   go_wp2_with fail
   refine HM.out.mono ?_
   rintro e wM ⟨s,rfl,hs,gM⟩
   have hW:WBlk wM (w.heap.size+2) (.bool false) (.string eS):=WBlk.kept (w:=(((w.alloc (wObj n1 m1)).alloc (wObj n2 m2)).alloc (wObj false eS))) (Yp _ _ _ _) (Za HGR.out gM) (by simp)
   have hc0:=hW.c0
   have hc1:=hW.c1
   have hf0:=hW.fr 0
   have hf1:=hW.fr 1
   have HGM:Hid ((((w.alloc (wObj n1 m1)).alloc (wObj n2 m2)).alloc (wObj false eS)).grownBy wM none):=Za HGR.out gM
   clear gM
   go_wp2_with fail
   refine bodyPost_ret (ZV rfl _ _ (w.heap.size+2) _ _ _ _ rfl (hW.put _ _)) rfl ?_
   exact⟨s,rfl,hs,Zb (Zb (Za (grow3 _ _ _ _) HGM.out) (by omega)) (by omega)⟩
  ·have hD:=Zau wr u5 u6 MA MB hG.dx hG.dy hG.rx hG.ry hG.tx hG.ty (by have:=hG.lx;omega) (by have:=hG.ly;omega) hz
   have HD:Hid (Calls Tryz.prog 164 #[u5,u6] wr (DvM wr (nv B32 MA) (nv B32 MB) (MA.length+2))):=hD
   have HP:Hid (0<nv B32 MB):=by
    have:=ZK hG.ty 0 (by omega)
    rw [Nat.pow_zero]at this
    exact this
   obtain⟨ay,cy,hy⟩:=hG.dy.slice
   obtain⟨ax,cx,hx⟩:=hG.dx.slice
   obtain⟨ny,hny⟩:∃ny,MB.length=ny:=⟨_,rfl⟩
   rw [hny]at hy hz
   have hyI:(1:Int)≤(ny:Int):=by omega
   generalize MA.length=nx at *
   subst hy hx
   clear hG hD hny hz hq
   go_wp2_with fail
   refine HD.out.mono ?_
   rintro e wD ⟨vq,vr,Kq,Kr,rfl,dq,dr,rq,rr,tq,tr,nq,nr,lq,lr,gD⟩
   have HN:Hid (RgQ (((w.alloc (wObj n1 m1)).alloc (wObj n2 m2)).alloc (wObj false eS)) wD g (.slice ay ny cy) vr MB Kr∧nv B32 Kr<nv B32 MB):=HI.out.next HP.out dr rr tr nr gD
   clear dq dr rq rr tq tr nq nr lq lr gD HD HI
   go_wp2_with fail
   go_roundg (nv B32 Kr)
   case measure=>rw [←HQ ()];exact HN.out.2
   case rel=>exact⟨MB,Kr,HN.out.1,rfl⟩
end Go.Proofs.YtdcadiaeaclpgaaGreatDoor
