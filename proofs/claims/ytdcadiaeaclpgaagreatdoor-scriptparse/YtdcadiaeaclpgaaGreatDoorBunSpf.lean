/- What the library's Lines hands over. -/
import Derived.Test.YtdcadiaeaclpgaaGreatDoorBunSra
import Derived.Test.YtdcadiaeaclpgaaGreatDoorBunSoe
namespace Go.Proofs.YtdcadiaeaclpgaaGreatDoor
open Go Go.RowKit Go.Lib Go.Sort Go.Shelf
set_option linter.unusedVariables false
set_option linter.unusedSimpArgs false
attribute [local go_sem] Oper.semAt_some
set_option maxHeartbeats 8000000
set_option maxRecDepth 100000
def wlN:Nat→List UInt8→List (List UInt8)
 |0,_=>[]
 |n+1,R=>if R.isEmpty then []else if ndP R then(lnP R++[10])::wlN n (rsP R)else [R]
theorem Zaq (n:Nat):wlN n []=[]:=by cases n<;>rfl
theorem Za6 {n:Nat} {R:List UInt8} (h:ndP R=true):wlN (n+1) R=(lnP R++[10])::wlN n (rsP R):=by
 rw [wlN,if_neg (by simpa using nd_ne h),if_pos h]
theorem Zbs {n:Nat} {R:List UInt8} (h0:R≠[]) (h:ndP R=false):wlN (n+1) R=[R]:=by
 rw [wlN,if_neg (by simpa using h0),if_neg (by rw [h];simp)]
def LnIt (wl:List (List UInt8)) (t:Nat) (_:World) (_:Nat) (vs:Array Value):Prop:=∃l,wl[t]?=some l∧vs=#[.string (bA l)]
def LnI (wl:List (List UInt8)) (T:Nat) (b:Bool) (B bs:Nat) (J:Nat→(Nat→Prop)→World→Prop) (k:Nat) (wr:World):Prop :=
 ∃(t:Nat) (o:Nat→Prop) (R:List UInt8) (dn:List (List UInt8)),(wl=dn++wlN k R∧dn.length=t∧R.length≤k∧k≤6000)∧(t≤T∧(b=false→t<T))∧J t o wr∧(∀r,o r→r<wr.heap.size∧r≠bs)∧B≤wr.heap.size∧wr.heap[bs]?=some (.cells #[.string (bA R)] 9 (0,0))
theorem Zap (L:List UInt8) (hL:L.length≤6000) (T:Nat) (b:Bool) (hT:T≤(wlN L.length L).length) (hb1:b=true→T=(wlN L.length L).length) (hb0:b=false→0<T) (m B bs:Nat) :
    HandsG Fence.wide m Tryz.prog 79 #[.pointer (some ⟨bs,0,none⟩)] (LnIt (wlN L.length L)) (fun r=>r=bs) T b B (fun W=>W.heap[bs]?=some (.cells #[.string (bA L)] 9 (0,0))) (fun _=>True):=by
 intro lo J _ hJg hJr hY o W hB ho hJ0 hNd
 have HI0:Hid (LnI (wlN L.length L) T b B bs J L.length W):=⟨0,o,L,[],⟨rfl,rfl,Nat.le_refl _,hL⟩,⟨Nat.zero_le _,hb0⟩,hJ0,ho,hB,hNd⟩
 obtain⟨f0,hf0⟩:∃f0,L.length=f0:=⟨_,rfl⟩
 generalize hwl:wlN L.length L=wl at *
 rw [hf0]at HI0
 have HT:Hid (T≤wl.length∧(b=true→T=wl.length)):=⟨hT,hb1⟩
 have HY:Hid (YieldG Fence.wide (m-1) Tryz.prog lo (LnIt wl) (fun r=>r=bs) T b B J):=hY
 have HJR:Hid (∀t o W W' r,J t o W→W.grownBy W' (some r)→(B≤r∨r=bs)→¬o r→J t o W'):=hJr
 have HJG:Hid (∀t o W W',J t o W→W.grownBy W' none→J t o W'):=hJg
 clear hf0 hwl hL hT hb1 hb0 hJg hJr hY hB ho hJ0 hNd
 refine callsIn_wide.2 ?_
 go_enter Tryz.func79,Tryz.ntmps79
 go_wp2_with fail
 go_loopg [3] f0 (fun k s wr=>LnI wl T b B bs J k wr)
 case atStart=>exact HI0.out
 case round =>
  obtain⟨t,o1,R,dn,⟨hwl,hdn,hRk,hk6⟩,⟨htT,htb⟩,hJ,ho1,hB1,hbs⟩:=hrel
  have c0:wr.cell? ⟨bs,0,none⟩=some (.string (bA R)):=by simp [World.cell?,hbs]
  have f0':wr.frozen? ⟨bs,0,none⟩=false:=by simp [World.frozen?,hbs]
  have hsz:=Zo R
  by_cases h0:R=[]
  ·subst h0
   have hs0:(bA ([]:List UInt8)).size=0:=rfl
   have htl:t=wl.length:=by
    rw [hwl,Zaq,List.append_nil]
    exact hdn.symm
   have hTt:t=T:=by
    have:=HT.out.1
    omega
   have HE:Hid (J T o1 wr∧∀r,o1 r→r<wr.heap.size):=by
    rw [←hTt]
    exact⟨hJ,fun r e=>(ho1 r e).1⟩
   generalize bA ([]:List UInt8)=sv at *
   have hsI:(sv.size:Int)=0:=by omega
   clear hTt htl hs0 hsz hwl hdn hRk hk6 htT htb hJ ho1 hB1 hbs f0'
   go_wp2_with fail
   go_end0
   exact⟨⟨_,rfl⟩,o1,HE.out⟩
  ·have hpos:0<R.length:=List.length_pos_iff.2 h0
   obtain⟨k,rfl⟩:∃k,gk=k+1:=⟨gk-1,by omega⟩
   have hzI:(0:Int)<(bA R).size:=by omega
   have hz6:(bA R).size≤6000:=by omega
   have hz6I:((bA R).size:Int)≤6000:=by omega
   have HW:Hid (wr.heap[bs]?=some (.cells #[.string (bA R)] 9 (0,0))):=hbs
   have hbl:=Zg hbs
   have htlt:t<T:=by
    cases hb:b with
    |false=>exact htb hb
    |true =>
     have h1:=HT.out.2 hb
     have h2:wl.length=t+(wlN (k+1) R).length:=by rw [hwl,List.length_append,hdn]
     have h3:0<(wlN (k+1) R).length:=by
      cases hnd:ndP R with
      |true=>rw [Za6 hnd];simp
      |false=>rw [Zbs h0 hnd];simp
     omega
   cases hnd:ndP R with
   |true =>
    have HIx:Hid (∀W,Calls Tryz.prog 80 #[.string (bA R),.int .u8 10] W fun e w'=>e=.returned (.int .i64 ((lnP R).length:Nat))∧w'=W):=fun W=>(Tryz.strings_IndexByte (bA R) 10 W).mono fun e w' h=>by
     rw [ZD]at h
     have e2:Lib.indexByte R (10:Int).toNat.toUInt8=((lnP R).length:Int):=ix_yes hnd
     rw [e2]at h
     exact h
    have hlen:=Jf hnd
    have hx:(bA R).extract 0 ((lnP R).length+1)=bA (lnP R++[10]):=by
     have e:R.take ((lnP R).length+1)=lnP R++[10]:=by
      have e2:(lnP R++10::rsP R).take ((lnP R).length+1)=lnP R++[10]:=by
       rw [List.take_append,List.take_of_length_le (by omega)]
       simp
      rw [←YC hnd]at e2
      exact e2
     rw [Zav,e]
    have hy:(bA R).extract ((lnP R).length+1) (bA R).size=bA (rsP R):=by
     rw [Xq,Zc9 hnd]
    obtain⟨j,hj⟩:∃j,(lnP R).length=j:=⟨_,rfl⟩
    rw [hj]at hx hy hlen
    simp only [hj]at HIx
    have hjI:(j:Int)+1≤(bA R).size:=by omega
    have hj2:j+1≤(bA R).size:=by omega
    have hj0:(0:Int)≤j:=by omega
    have hjw:IntKind.i64.wrap ((j:Int)+1)=((j+1:Nat):Int):=by rw [IntKind.wrap_i64];omega
    have hj01:(0:Int)≤(j:Int)+1:=by omega
    have hjl:((j+1:Nat):Int)≤((bA R).size:Int):=by omega
    have hjz:(0:Int)≤((j+1:Nat):Int):=by omega
    have hjt:(((j+1:Nat):Int)).toNat=j+1:=by omega
    have HN:Hid (wl=(dn++[lnP R++[10]])++wlN k (rsP R)∧(dn++[lnP R++[10]]).length=t+1∧(rsP R).length≤k∧k≤6000):=by
     refine⟨?_,by rw [List.length_append,hdn];rfl,by omega,by omega⟩
     rw [hwl,Za6 hnd,List.append_assoc]
     rfl
    have HIt:Hid (LnIt wl t wr 0 #[.string (bA (lnP R++[10]))]):=⟨_,by rw [hwl,Za6 hnd,List.getElem?_append_right (by omega),hdn,Nat.sub_self];rfl,rfl⟩
    have HXY:Hid ((bA R).extract 0 (j+1)=bA (lnP R++[10])∧(bA R).extract (j+1) (bA R).size=bA (rsP R)):=⟨hx,hy⟩
    have HF:Hid (J t o1 wr∧(∀r,o1 r→r<wr.heap.size∧r≠bs)∧B≤wr.heap.size∧bs<wr.heap.size∧t<T):=⟨hJ,ho1,hB1,hbl,htlt⟩
    clear hx hy hj hlen hwl hdn hRk hk6 htT htb hJ ho1 hB1 hbs hbl htlt hnd h0 hpos hsz
    generalize h4:Code.region 4 _ _=c4
    go_wp2_with fail
    refine(HIx.out _).mono ?_
    rintro e w1 ⟨rfl,rfl⟩
    clear HIx
    go_wp2_with fail
    subst h4
    go_region_law (fail)
    all_goals (
     rw [HXY.out.1,HXY.out.2]
     have G2:w1.grownBy (w1.setCell ⟨bs,0,none⟩ (.string (bA (rsP R)))).drew (some bs):=Zf (Zc _ _ _ _)
     have hb2:(w1.setCell ⟨bs,0,none⟩ (.string (bA (rsP R)))).drew.heap[bs]?=some (.cells #[.string (bA (rsP R))] 9 (0,0)):=by
      show(w1.setCell ⟨bs,0,none⟩ (.string (bA (rsP R)))).heap[bs]?=_
      simp [World.setCell,Array.getElem?_modify,HW.out]
     generalize(w1.setCell ⟨bs,0,none⟩ (.string (bA (rsP R)))).drew=w2 at *
     obtain⟨hJ,ho1,hB1,hbl,htlt⟩:=HF.out
     have hJ2:J t o1 w2:=HJR.out _ _ _ _ _ hJ G2 (.inr rfl) (fun e=>(ho1 bs e).2 rfl)
     have hs2:=G2.size
     have HY2:Hid (YieldAt Fence.wide (m-1) Tryz.prog lo #[.string (bA (lnP R++[10]))] w2 fun e W'=>e=.returned (.bool (b || decide (t+1<T)))∧∃o',J (t+1) o' W'∧w2.heap.size≤W'.heap.size∧(∀i,(B≤i∨i=bs)→i<w2.heap.size→¬o1 i→W'.heap[i]?=w2.heap[i]?)∧(∀r,o' r→o1 r∨(w2.heap.size≤r∧r<W'.heap.size))) :=
      HY.out t o1 w2 w2.heap.size _ htlt hJ2 (by omega) (Nat.le_refl _) (fun r e=>by have:=(ho1 r e).1;omega) HIt.out
     have HF2:Hid ((∀r,o1 r→r<w2.heap.size∧r≠bs)∧B≤w2.heap.size∧bs<w2.heap.size∧t<T∧w2.heap[bs]?=some (.cells #[.string (bA (rsP R))] 9 (0,0))):=⟨fun r e=>⟨by have:=(ho1 r e).1;omega,(ho1 r e).2⟩,by omega,by omega,htlt,hb2⟩
     clear hJ ho1 hB1 hbl htlt hJ2 hs2 G2 hb2 HF HIt HXY HW c0 f0' hzI hz6 hz6I hjI hj2 hj0 hjw hj01 hjl hjz hjt
     go_upto_region 6 with fail
     obtain⟨fn,tmps,assign,body,hy,hR⟩:=HY2.out
     clear HY2
     refine(wpIn_wide (n:=m)).1 ?_
     gi_wp2
     refine⟨fun h=>by simp [Fence.wide]at h,hR.mono ?_⟩
     rintro e w3 ⟨rfl,o2,hJ3,hs3,hf3,hfr⟩
     have HJ3:Hid (J (t+1) o2 w3∧(∀r,o2 r→r<w3.heap.size∧r≠bs)∧B≤w3.heap.size∧w3.heap[bs]?=some (.cells #[.string (bA (rsP R))] 9 (0,0))):=by
      obtain⟨k1,k2,k3,k4,k5⟩:=HF2.out
      refine⟨hJ3,?_,by omega,(hf3 bs (.inr rfl) k3 (fun e=>(k1 bs e).2 rfl)).trans k5⟩
      intro r e
      rcases hfr r e with h|h
      ·exact⟨by have:=(k1 r h).1;omega,(k1 r h).2⟩
      ·exact⟨h.2,by omega⟩
     clear hJ3 hs3 hf3 hfr hR hy
     obtain⟨bv,hbv⟩:∃bv,(b || decide (t+1<T))=bv:=⟨_,rfl⟩
     have HBV:Unit→(b || decide (t+1<T))=bv:=fun _=>hbv
     rw [hbv]
     clear hbv
     cases bv
     ·have HTe:Hid (t+1=T):=by
        have h1:=HBV ()
        have h2:=HF2.out.2.2.2.1
        rw [Bool.or_eq_false_iff]at h1
        have:=of_decide_eq_false h1.2
        show _=_
        omega
      gi_wp2
      go_wp2_with fail
      refine bodyPost_ret (results_none rfl _ _ _) rfl ?_
      exact⟨⟨_,rfl⟩,o2,by rw [←HTe.out];exact HJ3.out.1,fun r e=>(HJ3.out.2.1 r e).1⟩
     ·have HTl:Hid (t+1≤T∧(b=false→t+1<T)):=⟨by have:=HF2.out.2.2.2.1;omega,fun hb=>by
        have h1:=HBV ()
        rw [hb,Bool.false_or]at h1
        exact of_decide_eq_true h1⟩
      gi_wp2
      go_wp2_with fail
      go_roundg k
      case measure=>omega
      case rel=>exact⟨t+1,o2,rsP R,_,HN.out,HTl.out,HJ3.out.1,HJ3.out.2.1,HJ3.out.2.2.1,HJ3.out.2.2.2⟩)
   |false =>
    have HIx:Hid (∀W,Calls Tryz.prog 80 #[.string (bA R),.int .u8 10] W fun e w'=>e=.returned (.int .i64 (-1))∧w'=W):=fun W=>(Tryz.strings_IndexByte (bA R) 10 W).mono fun e w' h=>by
     rw [ZD]at h
     have e2:Lib.indexByte R (10:Int).toNat.toUInt8=-1:=ix_no hnd
     rw [e2]at h
     exact h
    have HN:Hid (wl=(dn++[R])++wlN k []∧(dn++[R]).length=t+1∧([]:List UInt8).length≤k∧k≤6000):=by
     refine⟨?_,by rw [List.length_append,hdn];rfl,Nat.zero_le _,by omega⟩
     rw [hwl,Zbs h0 hnd,Zaq,List.append_nil]
    have HIt:Hid (LnIt wl t wr 0 #[.string (bA R)]):=⟨_,by rw [hwl,Zbs h0 hnd,List.getElem?_append_right (by omega),hdn,Nat.sub_self];rfl,rfl⟩
    have HF:Hid (J t o1 wr∧(∀r,o1 r→r<wr.heap.size∧r≠bs)∧B≤wr.heap.size∧bs<wr.heap.size∧t<T):=⟨hJ,ho1,hB1,hbl,htlt⟩
    clear hwl hdn hRk hk6 htT htb hJ ho1 hB1 hbs hbl htlt hnd h0 hpos hsz
    go_wp2_with fail
    refine(HIx.out _).mono ?_
    rintro e w1 ⟨rfl,rfl⟩
    clear HIx
    go_upto_region 6 with fail
    change Code.wp _ _ _ _ (w1.setCell ⟨bs,0,none⟩ (.string ⟨#[]⟩))
    have G2:w1.grownBy (w1.setCell ⟨bs,0,none⟩ (.string ⟨#[]⟩)) (some bs):=Zc _ _ _ _
    have hb2:(w1.setCell ⟨bs,0,none⟩ (.string ⟨#[]⟩)).heap[bs]?=some (.cells #[.string (bA [])] 9 (0,0)):=by
     show(w1.setCell ⟨bs,0,none⟩ (.string ⟨#[]⟩)).heap[bs]?=_
     simp [World.setCell,Array.getElem?_modify,HW.out]
     rfl
    generalize(w1.setCell ⟨bs,0,none⟩ (.string ⟨#[]⟩))=w2 at *
    obtain⟨hJ,ho1,hB1,hbl,htlt⟩:=HF.out
    have hJ2:J t o1 w2:=HJR.out _ _ _ _ _ hJ G2 (.inr rfl) (fun e=>(ho1 bs e).2 rfl)
    have hs2:=G2.size
    have HY2:Hid (YieldAt Fence.wide (m-1) Tryz.prog lo #[.string (bA (R))] w2 fun e W'=>e=.returned (.bool (b || decide (t+1<T)))∧∃o',J (t+1) o' W'∧w2.heap.size≤W'.heap.size∧(∀i,(B≤i∨i=bs)→i<w2.heap.size→¬o1 i→W'.heap[i]?=w2.heap[i]?)∧(∀r,o' r→o1 r∨(w2.heap.size≤r∧r<W'.heap.size))) :=
     HY.out t o1 w2 w2.heap.size _ htlt hJ2 (by omega) (Nat.le_refl _) (fun r e=>by have:=(ho1 r e).1;omega) HIt.out
    have HF2:Hid ((∀r,o1 r→r<w2.heap.size∧r≠bs)∧B≤w2.heap.size∧bs<w2.heap.size∧t<T∧w2.heap[bs]?=some (.cells #[.string (bA [])] 9 (0,0))):=⟨fun r e=>⟨by have:=(ho1 r e).1;omega,(ho1 r e).2⟩,by omega,by omega,htlt,hb2⟩
    clear hJ ho1 hB1 hbl htlt hJ2 hs2 G2 hb2 HF HIt HW c0 f0' hzI hz6 hz6I
    obtain⟨fn,tmps,assign,body,hy,hR⟩:=HY2.out
    clear HY2
    refine(wpIn_wide (n:=m)).1 ?_
    gi_wp2
    refine⟨fun h=>by simp [Fence.wide]at h,hR.mono ?_⟩
    rintro e w3 ⟨rfl,o2,hJ3,hs3,hf3,hfr⟩
    have HJ3:Hid (J (t+1) o2 w3∧(∀r,o2 r→r<w3.heap.size∧r≠bs)∧B≤w3.heap.size∧w3.heap[bs]?=some (.cells #[.string (bA [])] 9 (0,0))):=by
     obtain⟨k1,k2,k3,k4,k5⟩:=HF2.out
     refine⟨hJ3,?_,by omega,(hf3 bs (.inr rfl) k3 (fun e=>(k1 bs e).2 rfl)).trans k5⟩
     intro r e
     rcases hfr r e with h|h
     ·exact⟨by have:=(k1 r h).1;omega,(k1 r h).2⟩
     ·exact⟨h.2,by omega⟩
    clear hJ3 hs3 hf3 hfr hR hy
    obtain⟨bv,hbv⟩:∃bv,(b || decide (t+1<T))=bv:=⟨_,rfl⟩
    have HBV:Unit→(b || decide (t+1<T))=bv:=fun _=>hbv
    rw [hbv]
    clear hbv
    cases bv
    ·have HTe:Hid (t+1=T):=by
       have h1:=HBV ()
       have h2:=HF2.out.2.2.2.1
       rw [Bool.or_eq_false_iff]at h1
       have:=of_decide_eq_false h1.2
       show _=_
       omega
     gi_wp2
     go_wp2_with fail
     refine bodyPost_ret (results_none rfl _ _ _) rfl ?_
     exact⟨⟨_,rfl⟩,o2,by rw [←HTe.out];exact HJ3.out.1,fun r e=>(HJ3.out.2.1 r e).1⟩
    ·have HTl:Hid (t+1≤T∧(b=false→t+1<T)):=⟨by have:=HF2.out.2.2.2.1;omega,fun hb=>by
       have h1:=HBV ()
       rw [hb,Bool.false_or]at h1
       exact of_decide_eq_true h1⟩
     gi_wp2
     go_wp2_with fail
     go_roundg k
     case measure=>omega
     case rel=>exact⟨t+1,o2,[],_,HN.out,HTl.out,HJ3.out.1,HJ3.out.2.1,HJ3.out.2.2.1,HJ3.out.2.2.2⟩
end Go.Proofs.YtdcadiaeaclpgaaGreatDoor
namespace Go.Proofs.YtdcadiaeaclpgaaGreatDoor
open Go Go.RowKit Go.Lib Go.Sort Go.Shelf
set_option linter.unusedVariables false
set_option linter.unusedSimpArgs false
attribute [local go_sem] Oper.semAt_some
set_option maxHeartbeats 8000000
set_option maxRecDepth 100000
def mk (D:Nat):Deferred:={ target:=.collected D,args:=#[] }
theorem ZY {F:Fence} {n:Nat} {P:Program} {fn:Func} {tmps:Array Value} {R:Ending→World→Prop} (v:Value) (B:Nat) (o:Nat→Prop) (Inv:World→Prop) (hres:∀W,Inv W→(results fn tmps).run P W=.ok v W)
    (hInv:∀W D,Inv W→B≤D→¬o D→Inv (W.putObj D (.deferred none))) (hR:∀W,Inv W→R (.returned v) W) :
    ∀(Ds:List Nat) (W:World),Ds.Nodup→(∀D∈Ds,B≤D∧W.heap[D]?=some (.deferred (some []))∧¬o D)→Inv W→LeavesInM F n P fn tmps R (Ds.map mk) .returning W
 |[],W,_,_,hi=>⟨v,hres W hi,hR W hi⟩
 |D::Ds,W,hnd,hD,hi=>by
  obtain⟨h1,h2,h3⟩:=hD D (by simp)
  refine⟨by simp,.inl ⟨D,_,rfl,run_takeDeferred h2,?_⟩⟩
  rw [List.nodup_cons]at hnd
  refine ZY v B o Inv hres hInv hR Ds _ hnd.2 (fun D' hD'=>?_) (hInv W D hi h1 h3)
  obtain⟨k1,k2,k3⟩:=hD D' (by simp [hD'])
  refine⟨k1,?_,k3⟩
  have hne:D'≠D:=fun e=>hnd.1 (e ▸ hD')
  exact(World.putObj_heap_other hne).trans k2
theorem al_wl:∀(n:Nat) (R:List UInt8),R.length≤n→(∀(t:Nat) (s:St),(alN n R).1[t]?=some s→∃l:List UInt8,(wlN n R)[t]?=some (l++[10])∧stU l=some s∧l.length≤R.length)∧(∀l:List UInt8,(wlN n R)[(alN n R).1.length]?=some l→l.length≤R.length∧(ndP l=false∨∃q:List UInt8,l=q++[10]∧stU q=none))∧(alN n R).1.length≤(wlN n R).length:=by
 intro n
 induction n with
 |zero =>
  intro R hn
  obtain rfl:=List.length_eq_zero_iff.1 (show R.length=0 by omega)
  exact⟨fun t s h=>by simp [alN]at h,fun l h=>by simp [wlN]at h,Nat.le_refl _⟩
 |succ n ih =>
  intro R hn
  by_cases h0:R=[]
  ·subst h0
   rw [U4,Zaq]
   exact⟨fun t s h=>by simp at h,fun l h=>by simp at h,Nat.le_refl _⟩
  cases h:ndP R with
  |false =>
   rw [Jd hn h0 h,Zbs h0 h]
   refine⟨fun t s h=>by simp at h,fun l hl=>?_,Nat.zero_le _⟩
   obtain rfl:R=l:=by simpa using hl
   exact⟨Nat.le_refl _,.inl h⟩
  |true =>
   have hlen:=Jf h
   rw [Za6 h]
   cases hs:stU (lnP R)with
   |none =>
    rw [Za0 hn h hs]
    refine⟨fun t s h=>by simp at h,fun l hl=>?_,Nat.zero_le _⟩
    obtain rfl:lnP R++[10]=l:=by simpa using hl
    exact⟨by rw [List.length_append,List.length_singleton];omega,.inr ⟨_,rfl,hs⟩⟩
   |some s =>
    obtain⟨m,hm,hl,e⟩:=U3 hn h hs
    obtain rfl:m=n:=by omega
    obtain⟨h1,h2,h3⟩:=ih (rsP R) hl
    rw [e]
    refine⟨fun t s' ht=>?_,fun l hl=>?_,by simp only [List.length_cons];omega⟩
    ·cases t with
     |zero =>
      obtain rfl:s=s':=by simpa using ht
      exact⟨_,rfl,hs,ln_len R⟩
     |succ t =>
      obtain⟨l,k1,k2,k3⟩:=h1 t s' (by simpa using ht)
      exact⟨l,by simpa using k1,k2,by omega⟩
    ·obtain⟨k1,k2⟩:=h2 l (by simpa using hl)
     exact⟨by omega,k2⟩
theorem Zcb (s:ByteArray) (w:World):Calls Tryz.prog 56 #[.string s] w fun e w'=>e=.returned (.func (.func 79) #[] #[.pointer (some ⟨w.heap.size,0,none⟩)])∧w'=w.alloc (.cells #[.string s] 9):=by
 go_enter Tryz.func56,Tryz.ntmps56
 go_wp2
 go_ret
 exact⟨rfl,rfl⟩
theorem Zbi (s:ByteArray) (w:World):Calls Tryz.prog 33 #[.string s] w fun e w'=>e=.returned (.func (.func 55) #[] #[.pointer (some ⟨w.heap.size,0,none⟩)])∧w'=w.alloc (.cells #[.string s] 9):=by
 go_enter Tryz.func33,Tryz.ntmps33
 go_wp2
 go_ret
 exact⟨rfl,rfl⟩
def StIt (S:List St) (t:Nat) (W:World) (base:Nat) (vs:Array Value):Prop:=∃s u,S[t]?=some s∧vs=#[.int .i64 (t:Nat),.agg #[.string s.vb,.string s.nm,u]]∧AgsF W base u s.ags
theorem StIt.kept {S:List St} {t:Nat} {W W':World} {row:Option Nat} {base:Nat} {vs:Array Value} (h:StIt S t W base vs) (hg:W.grownBy W' row) (hr:∀r,row=some r→r<base):StIt S t W' base vs:=by
 obtain⟨s,u,h1,h2,h3⟩:=h
 refine⟨s,u,h1,h2,h3.past fun B cur t f hB h4 _=>(hg.block B (Zg h4) (fun e=>?_)).trans h4⟩
 have:=hr B e.symm
 omega
end Go.Proofs.YtdcadiaeaclpgaaGreatDoor
namespace Go.Proofs.YtdcadiaeaclpgaaGreatDoor
open Go Go.RowKit Go.Lib Go.Sort Go.Shelf
set_option linter.unusedVariables false
set_option linter.unusedSimpArgs false
attribute [local go_sem] Oper.semAt_some
set_option maxHeartbeats 8000000
set_option maxRecDepth 100000
def AlJ (T T' B yb nb bs lo:Nat) (J:Nat→(Nat→Prop)→World→Prop) (q:Nat × (Nat→Prop)) (W:World):Prop :=
 J (min q.1 T) q.2 W∧W.heap[yb]?=some (.cells #[.func (.yield lo) #[] #[]] 106 (0,0))∧(∃x:Int,W.heap[nb]?=some (.cells #[.int .i64 x] 3 (0,0))∧(q.1<T'→x=(q.1:Nat)))∧¬q.2 yb∧¬q.2 nb
theorem AlJ.kept {T T' B yb nb bs lo:Nat} {J:Nat→(Nat→Prop)→World→Prop} {q:Nat × (Nat→Prop)} {W W':World} {row:Option Nat} (h:AlJ T T' B yb nb bs lo J q W) (hg:W.grownBy W' row) (hJ:J (min q.1 T) q.2 W') (hr:∀r,row=some r→r≠yb∧r≠nb):AlJ T T' B yb nb bs lo J q W':=by
 obtain⟨_,h2,⟨x,h3,h4⟩,h5,h6⟩:=h
 exact⟨hJ,(hg.block _ (Zg h2) (fun e=>(hr yb e.symm).1 rfl)).trans h2,⟨x,(hg.block _ (Zg h3) (fun e=>(hr nb e.symm).2 rfl)).trans h3,h4⟩,h5,h6⟩
theorem ZcC (p:Tmp) (v:Value) (tmps:Array Value):putAll #[p] #[v] tmps=tmps.setIfInBounds p v:=by
 simp [putAll]
theorem Uy (p q:Tmp) (u v:Value) (tmps:Array Value):putAll #[p,q] #[u,v] tmps=(tmps.setIfInBounds p u).setIfInBounds q v:=by
 simp [putAll]
theorem JO (L:List UInt8) (hL:L.length≤6000) (T:Nat) (b:Bool) (hT:T≤(alN L.length L).1.length) (hb1:b=true→T=(alN L.length L).1.length) (hb0:b=false→0<T) (m B bt:Nat) :
    HandsG Fence.wide m Tryz.prog 55 #[.pointer (some ⟨bt,0,none⟩)] (StIt (alN L.length L).1) (fun _=>False) T b B (fun W=>W.heap[bt]?=some (.cells #[.string (bA L)] 9 (0,0))) Errs:=by
 intro lo J hJE hJg hJr hY o W hB ho hJ0 hNd
 obtain⟨hW1,hW2,hW3⟩:=al_wl L.length L (Nat.le_refl _)
 have HSl:Hid ((alN L.length L).1.length≤6000):=Nat.le_trans (Zdp _ _) hL
 have EG:Hid (∀args w,(callFunc 79 args).run Tryz.prog w=.ok (.enter 79 args) w):=enters_of Tryz.func79 (by kernel_rfl) rfl
 have HLh:Hid (∀T' b',T'≤(wlN L.length L).length→(b'=true→T'=(wlN L.length L).length)→(b'=false→0<T')→∀m B bs,HandsG Fence.wide m Tryz.prog 79 #[.pointer (some ⟨bs,0,none⟩)] (LnIt (wlN L.length L)) (fun r=>r=bs) T' b' B (fun W=>W.heap[bs]?=some (.cells #[.string (bA L)] 9 (0,0))) (fun _=>True)):=fun T' b' k1 k2 k3 m B bs=>Zap L hL T' b' k1 k2 k3 m B bs
 generalize(alN L.length L).1=S at *
 generalize wlN L.length L=wl at *
 obtain⟨T',b',hT'⟩:∃T' b',(T'≤wl.length∧(b'=true→T'=wl.length)∧(b'=false→0<T'))∧(b=false→T'=T∧b'=false)∧(b=true→(b'=true∧T'=T)∨(b'=false∧T'=T+1)):=by
  cases hb:b with
  |false=>exact⟨T,false,⟨by omega,by simp,fun _=>hb0 hb⟩,fun _=>⟨rfl,rfl⟩,by simp⟩
  |true =>
   by_cases hk:T=wl.length
   ·exact⟨T,true,⟨by omega,fun _=>hk,by simp⟩,by simp,fun _=>.inl ⟨rfl,rfl⟩⟩
   ·have:=hb1 hb
    exact⟨T+1,false,⟨by omega,by simp,fun _=>by omega⟩,by simp,fun _=>.inr ⟨rfl,rfl⟩⟩
 have HW:Hid ((∀(t:Nat) (s:St),S[t]?=some s→∃l:List UInt8,wl[t]?=some (l++[10])∧stU l=some s∧l.length≤L.length)∧(∀l:List UInt8,wl[S.length]?=some l→l.length≤L.length∧(ndP l=false∨∃q:List UInt8,l=q++[10]∧stU q=none))∧L.length≤6000):=⟨hW1,hW2,hL⟩
 have HT:Hid (T≤S.length∧(b=true→T=S.length)∧(b=false→0<T)):=⟨hT,hb1,hb0⟩
 have HT':Hid ((T'≤wl.length∧(b'=true→T'=wl.length)∧(b'=false→0<T'))∧(b=false→T'=T∧b'=false)∧(b=true→(b'=true∧T'=T)∨(b'=false∧T'=T+1))):=hT'
 have HY:Hid (YieldG Fence.wide (m-1) Tryz.prog lo (StIt S) (fun _=>False) T b B J):=hY
 have HJR:Hid (∀t o W W' r,J t o W→W.grownBy W' (some r)→(B≤r∨False)→¬o r→J t o W'):=hJr
 have HJG:Hid (∀t o W W',J t o W→W.grownBy W' none→J t o W'):=hJg
 have HJE:Hid (∀t o W,J t o W→Errs W):=hJE
 have HO:Hid ((∀r,o r→r<W.heap.size)∧B≤W.heap.size∧J 0 o W):=⟨fun r e=>(ho r e).1,hB,hJ0⟩
 have ct:W.cell? ⟨bt,0,none⟩=some (.string (bA L)):=by simp [World.cell?,hNd]
 have HNd:Hid (bt<W.heap.size):=Zg hNd
 have hsz:=Zo L
 clear hT' hW1 hW2 hW3 hT hb1 hb0 hJE hJg hJr hY hB ho hJ0 hNd
 refine callsIn_of_wp_marks Tryz.func55 rfl trivial (wpIn_wide.2 ?_) rfl
 simp only [Tryz.ntmps55,List.size_toArray,List.length_cons,List.length_nil,Nat.reduceAdd,Nat.reduceSub,Array.replicate_succ,Array.replicate_zero,List.push_toArray,List.append_toArray,List.nil_append,List.cons_append]
 have ct2:((W.alloc (.cells #[.func (.yield lo) #[] #[]] 106)).alloc (.cells #[.int .i64 0] 3)).cell? ⟨bt,0,none⟩=some (.string (bA L)):=Zd (grow2 _ _ _) ct (by simp)
 go_wp2_with fail
 refine(Zcb _ _).mono ?_
 rintro e w3 ⟨rfl,hw3⟩
 have hyz:((W.alloc (.cells #[.func (.yield lo) #[] #[]] 106)).alloc (.cells #[.int .i64 0] 3)).heap.size=W.heap.size+2:=by simp
 rw [hyz]
 have hG3:W.grownBy w3 none:=by rw [hw3];exact Za (grow2 _ _ _) (grow1 _ _)
 have hs3:w3.heap.size=W.heap.size+3:=by rw [hw3];simp
 have hy3:w3.heap[W.heap.size]?=some (.cells #[.func (.yield lo) #[] #[]] 106 (0,0)):=by
  have h0:(W.alloc (.cells #[.func (.yield lo) #[] #[]] 106)).heap[W.heap.size]?=some (.cells #[.func (.yield lo) #[] #[]] 106 (0,0)):=heap_alloc_new _ _
  rw [hw3]
  exact((grow2 _ _ _).block _ (Zg h0) (by simp)).trans h0
 have hn3:w3.heap[W.heap.size+1]?=some (.cells #[.int .i64 0] 3 (0,0)):=by
  have h0:=heap_alloc2_new W (.cells #[.func (.yield lo) #[] #[]] 106) (.cells #[.int .i64 0] 3)
  rw [hw3]
  exact((grow1 _ _).block _ (Zg h0) (by simp)).trans h0
 have hb3:w3.heap[W.heap.size+2]?=some (.cells #[.string (bA L)] 9 (0,0)):=by
  have h0:=heap_alloc_new ((W.alloc (.cells #[.func (.yield lo) #[] #[]] 106)).alloc (.cells #[.int .i64 0] 3)) (.cells #[.string (bA L)] 9)
  rw [hyz]at h0
  rw [hw3]
  exact h0
 clear ct ct2 hw3 hyz
 go_wp2_with fail
 obtain⟨z,hz⟩:∃z,W.heap.size=z:=⟨_,rfl⟩
 have hO:=HO.out
 rw [hz]at hs3 hy3 hn3 hb3 hO ⊢
 have hI3:AlJ T T' B z (z+1) (z+2) lo J (0,o) w3:=⟨by rw [Nat.zero_min];exact HJG.out _ _ _ _ hO.2.2 hG3,hy3,⟨0,hn3,fun _=>rfl⟩,fun e=>by have:=hO.1 _ e;omega,fun e=>by have:=hO.1 _ e;omega⟩
 have hT:=HT'.out
 have hmin:min T' T=T:=by
  cases hb:b with
  |false=>have:=hT.2.1 hb;omega
  |true=>rcases hT.2.2 hb with h|h<;>omega
 refine(wpIn_wide (n:=m+2)).1 ?_
 refine XW (ps:=#[11]) rfl (by omega) rfl trivial EG.out (LnIt wl) (fun t W W' row base vs h _ _=>h) (fun t W base vs h=>by obtain⟨l,_,rfl⟩:=h;rfl) (fun r=>r=z+2) (fun r e=>by omega) T' b' none (by cases hb':b' with|true=>rfl|false=>simpa using hT.1.2.2 hb') (AlJ T T' B z (z+1) (z+2) lo J)
  (fun q W W' h hg=>h.kept hg (HJG.out _ _ _ _ h.1 hg) (fun r e=>by cases e))
  (fun q W W' r h hg hr hne=>h.kept hg (HJR.out _ _ _ _ _ h.1 hg (.inl (by omega)) hne) (fun r' e=>by injection e with e;omega))
  o (fun r e=>by have:=hO.1 r e;exact⟨by omega,by omega⟩) hI3 (fun W=>W.heap[z+2]?=some (.cells #[.string (bA L)] 9 (0,0))) (fun _=>True) (fun W' hg=>(hg.block _ (Zg hb3) (by simp)).trans hb3) (fun _ _ _=>trivial)
  (HLh.out T' b' hT.1.1 hT.1.2.1 hT.1.2.2 (m+2-1) (w3.heap.size+2) (z+2))
  (fun vs a1 _=>∃l,vs=#[.string (bA l)]∧a1={ tmps:=#[.func (.yield lo) #[] #[],.pointer (some ⟨bt,0,none⟩),.pointer (some ⟨z,0,none⟩),.pointer (some ⟨z+1,0,none⟩),.string (bA l),undef,undef,undef,undef,.string (bA L),.func (.func 79) #[] #[.pointer (some ⟨z+2,0,none⟩)],.string (bA l),undef,undef,undef,undef,undef,undef,undef,undef,undef,undef,undef,undef,undef,undef,undef,undef,undef,undef,undef,undef,undef,undef,undef],defers:=[] })
  (fun vs a1 W1 W2 h _=>h) ?_ ?_ ?_
 ·intro l2 t base vs Wx K hIt hb1 hb2 hK
  obtain⟨l,hl,rfl⟩:=hIt
  rw [ZcC]
  gi_wp2
  exact hK _ _ (grow0 _) ⟨l,rfl,rfl⟩
 ·intro l2 t o2 base vs a1 Wx ht hI2 hb1 hb2 hob hIt hAs
  obtain⟨l,hl,rfl⟩:=hIt
  obtain⟨l',e,rfl⟩:=hAs
  obtain rfl:l=l':=by
   apply bA_inj
   simpa using e
  have HI2:Hid (AlJ T T' B z (z+1) (z+2) lo J (t,o2) Wx):=hI2
  have HB:Hid (w3.heap.size=z+3∧B≤z∧w3.heap.size+2≤base∧base≤Wx.heap.size∧(∀r,o2 r→r<base)∧t<T'):=⟨hs3,hO.2.1,hb1,hb2,hob,ht⟩
  obtain⟨go,hgo⟩:∃go,(b' || decide (t+1<T'))=go:=⟨_,rfl⟩
  have HGo:Hid ((b' || decide (t+1<T'))=go):=hgo
  rw [hgo]
  have hl6:l.length≤6001:=by
   rcases Nat.lt_or_ge t S.length with h|h
   ·obtain⟨s,hs⟩:∃s,S[t]?=some s:=⟨_,List.getElem?_eq_getElem h⟩
    obtain⟨q,hq,_,h3⟩:=HW.out.1 t s hs
    rw [hl]at hq
    obtain rfl:=Option.some.inj hq
    have:=HW.out.2.2
    rw [List.length_append,List.length_singleton]
    omega
   ·have h1:t=S.length:=by
      have h2:=HT.out
      cases hb:b with
      |false =>
       have:=hT.2.1 hb
       omega
      |true =>
       have:=h2.2.1 hb
       rcases hT.2.2 hb with k|k<;>omega
    have h3:=(HW.out.2.1 l (by rw [←h1];exact hl)).1
    have:=HW.out.2.2
    omega
  have HCs:Hid (∀(q:List UInt8) (v:Bool),Lib.trimSuffix l [10]=q→Lib.hasSuffix l [10]=v→∀d:Nat,CallsIn (Fence.wide.inRound l2) d Tryz.prog 57 #[.string (bA l),.string ⟨#[10]⟩] Wx fun e w'=>e=.returned (.tuple #[.string (bA q),.bool v])∧w'=Wx):=fun q v h1 h2 d=>callsIn_wide.2 ((Tryz.strings_CutSuffix (bA l) ⟨#[10]⟩ Wx (by rw [Zo];omega)).mono fun e w' h=>by
   have e1:Lib.trimSuffix (bA l).data.toList (⟨#[10]⟩:ByteArray).data.toList=q:=by rw [ZD];exact h1
   have e2:Lib.hasSuffix (bA l).data.toList (⟨#[10]⟩:ByteArray).data.toList=v:=by rw [ZD];exact h2
   rw [e1,e2]at h
   exact h)
  have HRd:Hid (∀q:List UInt8,q.length≤6001→∀d:Nat,CallsIn (Fence.wide.inRound l2) d Tryz.prog 18 #[.string (bA q)] Wx fun e w'=>rdA q w' (Wx.heap.size+2) e∧Wx.grownBy w' none):=fun q hq d=>callsIn_wide.2 (Xi q (by omega) Wx (HJE.out _ _ _ hI2.1))
  have HHl:Hid (wl[t]?=some l):=hl
  have HL6:Hid (l.length≤6001):=hl6
  have HTt:Hid (T≤S.length):=HT.out.1
  have HMin:Hid (min t T=t∨min t T=T):=by
   show _∨_
   omega
  by_cases htT:t<T
  ·obtain⟨s,hs⟩:∃s,S[t]?=some s:=⟨_,List.getElem?_eq_getElem (by have:=HTt.out;omega)⟩
   obtain⟨q,hq,hqs,-⟩:=HW.out.1 t s hs
   rw [HHl.out]at hq
   obtain rfl:=Option.some.inj hq
   have HC:=HCs.out q true (Zbc q) (Zam q)
   have HR:=HRd.out q (by rw [List.length_append]at hl6;omega)
   have HQ:Hid (∀w' base e,rdA q w' base e→∃ab c,e=.returned (.tuple #[.agg #[.string s.vb,.string s.nm,.slice ab s.ags.length c],.int .i64 0])∧AgsF w' base (.slice ab s.ags.length c) s.ags):=fun w' base e h=>by
    unfold rdA at h
    rw [hqs]at h
    exact h
   generalize rdA q=Qr at *
   have HSs:Hid (S[t]?=some s):=hs
   have HtT:Hid (t<T):=htT
   clear hs hqs hq hl hl6 HCs HRd HHl HL6 hI2 hb1 hb2 hob hgo e hI3 hO hT hs3 hy3 hn3 hb3 hG3 HNd HMin ht htT HO
   gi_wp2
   refine⟨trivial,fun h=>by simp [Fence.wide]at h,(HC _).mono ?_⟩
   rintro e w1 ⟨rfl,rfl⟩
   clear HC
   gi_wp2
   refine⟨trivial,fun h=>by simp [Fence.wide]at h,(HR _).mono ?_⟩
   rintro e w2 ⟨hq,hg⟩
   obtain⟨ab,c,rfl,hAg⟩:=HQ.out _ _ _ hq
   have G2:Hid (w1.grownBy (w2.alloc (.cells #[.string s.vb,.string s.nm,.slice ab s.ags.length c] 24)) none):=Za hg (grow1 _ _)
   obtain⟨k1,k2,⟨x,k3,k4⟩,k5,k6⟩:=HI2.out
   simp only at k1 k3 k4 k5 k6
   obtain rfl:x=(t:Nat):=k4 HB.out.2.2.2.2.2
   rw [Nat.min_eq_left (Nat.le_of_lt HtT.out)]at k1
   have hz1:=Zg k2
   have hz2:=Zg k3
   have cy:(w2.alloc (.cells #[.string s.vb,.string s.nm,.slice ab s.ags.length c] 24)).cell? ⟨z,0,none⟩=some (.func (.yield lo) #[] #[]):=by
    have h:=(G2.out.block z hz1 (by simp)).trans k2
    simp [World.cell?,h]
   have cn:(w2.alloc (.cells #[.string s.vb,.string s.nm,.slice ab s.ags.length c] 24)).cell? ⟨z+1,0,none⟩=some (.int .i64 (t:Nat)):=by
    have h:=(G2.out.block (z+1) hz2 (by simp)).trans k3
    simp [World.cell?,h]
   have hs2:=G2.out.size
   obtain⟨fn,tmps,assign,body,hy,hR⟩:=HY.out t o2 _ w1.heap.size #[.int .i64 (t:Nat),.agg #[.string s.vb,.string s.nm,.slice ab s.ags.length c]] HtT.out (HJG.out _ _ _ _ k1 G2.out) (by have:=HB.out;omega) hs2 (fun r e=>by have:=HB.out;have:=this.2.2.2.2.1 r e;omega) ⟨s,_,HSs.out,rfl,(hAg.mono (by omega)).kept (grow1 _ _)⟩
   have HK:Hid ((w2.alloc (.cells #[.string s.vb,.string s.nm,.slice ab s.ags.length c] 24)).heap[z]?=some (.cells #[.func (.yield lo) #[] #[]] 106 (0,0))∧(w2.alloc (.cells #[.string s.vb,.string s.nm,.slice ab s.ags.length c] 24)).heap[z+1]?=some (.cells #[.int .i64 (t:Nat)] 3 (0,0))∧¬o2 z∧¬o2 (z+1)∧z+1<w1.heap.size):=⟨(G2.out.block z hz1 (by simp)).trans k2,(G2.out.block (z+1) hz2 (by simp)).trans k3,k5,k6,hz2⟩
   clear k1 k2 k3 k4 k5 k6 hz1 hz2 hq hg hAg HR HQ hs2
   gi_wp2
   refine⟨fun h=>by simp [Fence.wide]at h,RoundIn.mono (F:=Fence.wide.inRound l2) hR ?_⟩
   rintro e w4 ⟨rfl,o3,hJ3,hs4,hf4,hfr⟩
   have hgo2:go=(b || decide (t+1<T)):=by
    have h1:=HGo.out
    have h2:=HtT.out
    rw [←h1]
    cases hb:b with
    |false =>
     obtain⟨k1,k2⟩:=HT'.out.2.1 hb
     rw [k1,k2]
    |true =>
     rcases HT'.out.2.2 hb with ⟨k1,k2⟩|⟨k1,k2⟩
     ·rw [k1]
      rfl
     ·rw [k1,k2]
      simp
      omega
   obtain⟨j1,j2,j3,j4,j5⟩:=HK.out
   have hBB:=HB.out
   have hs2:=G2.out.size
   have y4:w4.heap[z]?=some (.cells #[.func (.yield lo) #[] #[]] 106 (0,0)):=(hf4 z (.inl hBB.2.1) (by omega) j3).trans j1
   have n4:w4.heap[z+1]?=some (.cells #[.int .i64 (t:Nat)] 3 (0,0)):=(hf4 (z+1) (.inl (by omega)) (by omega) j4).trans j2
   have ho3:¬o3 z∧¬o3 (z+1):=by
    constructor
    ·intro e
     rcases hfr _ e with h|h
     ·exact j3 h
     ·omega
    ·intro e
     rcases hfr _ e with h|h
     ·exact j4 h
     ·omega
   have hsame:∀i,(w3.heap.size≤i∨i=z+2)→i<base→¬o2 i→w4.heap[i]?=w1.heap[i]?:=fun i hi hib hne=>by
    rw [hf4 i (.inl (by omega)) (by omega) hne,G2.out.block i (by omega) (by simp)]
   have hfr2:∀r,o3 r→o2 r∨(base≤r∧r<w4.heap.size):=fun r e=>(hfr r e).imp id (fun h=>⟨by omega,h.2⟩)
   have hj3:J (min (t+1) T) o3 w4:=by
    rw [Nat.min_eq_left (by have:=HtT.out;omega)]
    exact hJ3
   obtain⟨ob,hob⟩:∃ob,(b || decide (t+1<T))=ob:=⟨_,rfl⟩
   rw [hob]at hgo2 ⊢
   subst hgo2
   cases go with
   |false =>
    have FIN:Hid (∀act,roundG false none w3.heap.size base (fun r=>r=z+2) (AlJ T T' B z (z+1) (z+2) lo J) (t+1) o2 w1 .ret act w4):=by
     intro act
     refine⟨rfl,o3,⟨hj3,y4,⟨_,n4,fun h=>?_⟩,ho3⟩,by omega,hsame,hfr2⟩
     exfalso
     have h1:=HGo.out
     rw [Bool.or_eq_false_iff]at h1
     exact of_decide_eq_false h1.2 h
    clear hf4 hfr hfr2 hj3 hsame ho3 y4 n4 j1 j2 j3 j4 j5 hJ3 hR hy cy cn hs2 hs4 hBB hob
    gi_wp2
    exact FIN.out _
   |true =>
    have c4:w4.cell? ⟨z+1,0,none⟩=some (.int .i64 (t:Nat)):=by simp [World.cell?,n4]
    have f4:w4.frozen? ⟨z+1,0,none⟩=false:=by simp [World.frozen?,n4]
    have g5:w4.grownBy (w4.setCell ⟨z+1,0,none⟩ (.int .i64 ((t:Int)+1))) (some (z+1)):=Zc _ _ _ _
    have n5:(w4.setCell ⟨z+1,0,none⟩ (.int .i64 ((t:Int)+1))).heap[z+1]?=some (.cells #[.int .i64 ((t:Int)+1)] 3 (0,0)):=by
     simp [World.setCell,Array.getElem?_modify,n4]
    have FIN:Hid (∀act,roundG true none w3.heap.size base (fun r=>r=z+2) (AlJ T T' B z (z+1) (z+2) lo J) (t+1) o2 w1 .normal act (w4.setCell ⟨z+1,0,none⟩ (.int .i64 ((t:Int)+1)))):=by
     intro act
     have hs5:=g5.size
     refine⟨rfl,o3,⟨HJR.out _ _ _ _ _ hj3 g5 (.inl (by omega)) ho3.2,(g5.block z (Zg y4) (fun e=>by injection e with e;omega)).trans y4,⟨_,n5,fun _=>by show(t:Int)+1=((t+1:Nat):Int);omega⟩,ho3⟩,by omega,fun i hi hib hne=>?_,fun r e=>(hfr2 r e).imp id (fun h=>⟨h.1,by omega⟩)⟩
     rw [g5.block i (by omega) (fun e=>by injection e with e;omega),hsame i hi hib hne]
    have htI:(t:Int)≤6001:=by
     have h1:=HSl.out
     have h2:=HTt.out
     have h3:=HtT.out
     omega
    clear hf4 hfr hfr2 hj3 hsame ho3 y4 n4 j1 j2 j3 j4 j5 hJ3 hR hy cy cn hs2 hs4 hBB hob g5 n5
    gi_wp2
    exact FIN.out _
  ·have htT2:t=S.length∧T'=T+1∧b'=false∧t=T:=by
     have h2:=HT.out
     have h3:=HB.out.2.2.2.2.2
     cases hb:b with
     |false =>
      have:=HT'.out.2.1 hb
      omega
     |true =>
      have:=h2.2.1 hb
      rcases HT'.out.2.2 hb with k|k
      ·omega
      ·exact⟨by omega,k.2,k.1,by omega⟩
   obtain⟨e1,e2,e3,e4⟩:=htT2
   have hgf:go=false:=by
    rw [←hgo,e3,e2,Bool.false_or]
    exact decide_eq_false (by omega)
   subst hgf
   obtain⟨k1,k2⟩:=HW.out.2.1 l (by rw [←e1];exact hl)
   have hj1:J (min (t+1) T) o2 Wx:=by
    have h:=hI2.1
    simp only at h
    rw [Nat.min_eq_right (by omega)]at h ⊢
    exact h
   have FIN0:Hid (∀act W',Wx.grownBy W' none→roundG false none w3.heap.size base (fun r=>r=z+2) (AlJ T T' B z (z+1) (z+2) lo J) (t+1) o2 Wx .ret act W'):=by
    intro act W' hg
    obtain⟨_,j2,⟨x,j3,_⟩,j5⟩:=hI2
    refine⟨rfl,o2,⟨HJG.out _ _ _ _ hj1 hg,(hg.block z (Zg j2) (by simp)).trans j2,⟨x,(hg.block _ (Zg j3) (by simp)).trans j3,fun h=>?_⟩,j5⟩,hg.size,fun i hi hib hne=>hg.block i (by omega) (by simp),fun r e=>.inl e⟩
    simp only at h
    omega
   rcases k2 with hnd|⟨q,rfl,hq⟩
   ·have HC:=HCs.out l false (trim_no hnd) (suf_no hnd)
    clear hl hl6 HCs HRd HHl HL6 hI2 hb1 hb2 hob hgo e hI3 hO hT hs3 hy3 hn3 hb3 hG3 HNd HMin ht htT HO e1 e2 e3 e4 k1 hnd hj1 HGo
    gi_wp2
    refine⟨trivial,fun h=>by simp [Fence.wide]at h,(HC _).mono ?_⟩
    rintro e w1 ⟨rfl,rfl⟩
    clear HC
    gi_wp2
    exact FIN0.out _ _ (grow0 _)
   ·have HC:=HCs.out q true (Zbc q) (Zam q)
    have HR:=HRd.out q (by rw [List.length_append]at hl6;omega)
    have HQ:Hid (∀w' base e,rdA q w' base e→e=.returned (.tuple #[.agg #[.string eS,.string eS,.slice none 0 0],.int .i64 400])):=fun w' base e h=>by
     unfold rdA at h
     rw [hq]at h
     exact h
    generalize rdA q=Qr at *
    clear hl hl6 HCs HRd HHl HL6 hI2 hb1 hb2 hob hgo e hI3 hO hT hs3 hy3 hn3 hb3 hG3 HNd HMin ht htT HO e1 e2 e3 e4 k1 hq hj1 HGo
    gi_wp2
    refine⟨trivial,fun h=>by simp [Fence.wide]at h,(HC _).mono ?_⟩
    rintro e w1 ⟨rfl,rfl⟩
    clear HC
    gi_wp2
    refine⟨trivial,fun h=>by simp [Fence.wide]at h,(HR _).mono ?_⟩
    rintro e w2 ⟨hq,hg⟩
    obtain rfl:=HQ.out _ _ _ hq
    have G2:Hid (∀o:Obj,w1.grownBy (w2.alloc o) none):=fun o=>Za hg (grow1 _ _)
    clear hq hg HR HQ
    gi_wp2
    refine⟨(fun f h=>by cases h),?_⟩
    gi_wp2
    exact FIN0.out _ _ (G2.out _)
 ·intro D o2 Wx hD hI2 hob2 hDd hoD
  have hJT:J T o2 Wx:=by
   have h:=hI2.1
   simp only at h
   rw [hmin]at h
   exact h
  have HD:Hid (B≤D∧Wx.heap[D]?=some (.deferred (some []))∧¬o2 D):=⟨by omega,hDd,hoD⟩
  have HF:Hid (J T o2 Wx∧∀r,o2 r→r<Wx.heap.size):=⟨hJT,hob2⟩
  clear hJT hD hI2 hob2 hDd hoD hI3 hO hs3 hy3 hn3 hb3 hG3 hmin hT
  cases b' with
  |true =>
   rw [if_pos rfl]
   go_wp2_with fail
   refine ZY _ B o2 (fun W=>J T o2 W∧∀r,o2 r→r<W.heap.size) (fun W _=>results_none rfl _ _ W) ?_ ?_ [D] Wx (by simp) ?_ HF.out
   ·exact fun W D hi hD hne=>⟨HJR.out _ _ _ _ _ hi.1 (grownBy_putObj' W D _) (.inl hD) hne,fun r e=>Nat.lt_of_lt_of_le (hi.2 r e) (grownBy_putObj' W D _).size⟩
   ·exact fun W hi=>⟨⟨_,rfl⟩,o2,hi⟩
   ·intro D' hD'
    obtain rfl:D'=D:=by simpa using hD'
    exact HD.out
  |false =>
   rw [if_neg (by simp)]
   show Code.wpIn _ _ _ Code.ret _ _ _
   gi_wp2
   refine ZY _ B o2 (fun W=>J T o2 W∧∀r,o2 r→r<W.heap.size) (fun W _=>results_none rfl _ _ W) ?_ ?_ [D] Wx (by simp) ?_ HF.out
   ·exact fun W D hi hD hne=>⟨HJR.out _ _ _ _ _ hi.1 (grownBy_putObj' W D _) (.inl hD) hne,fun r e=>Nat.lt_of_lt_of_le (hi.2 r e) (grownBy_putObj' W D _).size⟩
   ·exact fun W hi=>⟨⟨_,rfl⟩,o2,hi⟩
   ·intro D' hD'
    obtain rfl:D'=D:=by simpa using hD'
    exact HD.out
end Go.Proofs.YtdcadiaeaclpgaaGreatDoor
