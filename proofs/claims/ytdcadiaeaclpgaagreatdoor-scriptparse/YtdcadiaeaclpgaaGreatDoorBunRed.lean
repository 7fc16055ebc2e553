/- The program's Read. -/
import Derived.Test.YtdcadiaeaclpgaaGreatDoorBunPrd
import Derived.Test.YtdcadiaeaclpgaaGreatDoorBunAll
import Derived.Test.YtdcadiaeaclpgaaGreatDoorBunMor
namespace Go.Proofs.YtdcadiaeaclpgaaGreatDoor
open Go.RowKit Go.Lib Go.Sort
set_option maxHeartbeats 8000000
set_option maxRecDepth 1000000
def isText (s:ByteArray):Prop:=plain (bare s)∧bN s≠[45,48]
instance (s:ByteArray):Decidable (isText s):=by unfold isText;exact inferInstance
def textZ (s:ByteArray):Int:=if(bN s).head?=some 45 then -(dec (bN (bare s)):Int)else dec (bN (bare s))
theorem YT (s:ByteArray):(bare s).size≤s.size:=by
 unfold bare
 split
 ·rw [←Ze,ZW,List.length_take,List.length_drop,Ze];omega
 ·exact Nat.le_refl _
def RdI (w wr:World) (t:List Nat) (v:Value) (u:ByteArray):Prop :=
 ∃L k,k≤t.length∧bN u=t.drop k∧(k=0∨(t.length-k) % 9=0)∧Row wr w.heap.size v L∧(∀x∈L,x<B32)∧L.length≤k∧nv B32 L=dec (t.take k)∧w.grownBy wr none
theorem ZI (u:ByteArray) (n:Nat):bN (u.extract 0 n)=(bN u).take n:=by rw [ZW];simp
theorem Yc (u:ByteArray) (n:Nat):bN (u.extract n u.size)=(bN u).drop n:=by
 rw [ZW,List.take_of_length_le (by rw [List.length_drop,Ze];exact Nat.le_refl _)]
theorem Ye {w wr w':World} {v:Value} {L:List Nat} (hg:w.grownBy wr none) (hR:Row wr w.heap.size v L) (k:wr.grownBy w' v.ownBlock):w.grownBy w' none:=by
 cases hob:v.ownBlock with
 |none=>rw [hob]at k;exact Za hg k
 |some g=>rw [hob]at k;exact Zq hg (hR.lt hob).1 k
theorem Zfn (s:ByteArray) (h9:s.size≤40000) (ht:isText s) (w:World) :
    Calls Tryz.prog 168 #[.string s] w fun e w'=>ZRes (textZ s) e∧w.grownBy w' none:=by
 have h9I:(s.size:Int)≤40000:=by omega
 have hbs:=YT s
 have HC:Hid (∀w,Calls Tryz.prog 95 #[.string s,.string ⟨#[45]⟩] w fun e w'=>e=.returned (.tuple #[.string (bare s),.bool (decide ((bN s).head?=some 45))])∧w'=w):=fun w=>XE s (by omega) w
 have HPd:Hid (∀w,Calls Tryz.prog 184 #[.string (bare s)] w fun e w'=>e=.returned (.bool true)∧w'=w):=fun w=>by
  have:=Y3 (bare s) (by omega) w
  rw [decide_eq_true ht.1]at this
  exact this
 have hz:(s.toList == [45,48])=false:=by
  rw [YV]
  exact decide_eq_false ht.2
 have HDg:Hid (∀b∈bN (bare s),isDig b):=ht.1.1
 have HZ:Hid (∀e,Made (decide ((bN s).head?=some 45)) (dec (bN (bare s))) e→ZRes (textZ s) e):=fun e h=>made_z h (by unfold textZ;by_cases h:(bN s).head?=some 45<;>simp [h])
 have hbl:=Ze (bare s)
 have HL:Hid ((bN (bare s)).length≤40000):=(by show(bN (bare s)).length≤40000;omega)
 have HI0:Hid (RdI (w.alloc (wObj false eS)) (w.alloc (wObj false eS)) (bN (bare s)) (.slice none 0 0) (bare s)):=⟨[],0,by omega,rfl,.inl rfl,Row.nil _ _,by simp,by simp,by simp [nv,dec],World.grownBy.refl _ _⟩
 generalize textZ s=z at *
 generalize decide ((bN s).head?=some 45)=neg at *
 generalize bare s=u at *
 generalize bN u=t at *
 clear ht hbs hbl
 go_enter Tryz.func168,Tryz.ntmps168
 go_wp2_with fail
 refine(HC.out _).mono ?_
 rintro e w' ⟨rfl,rfl⟩
 go_wp2_with fail
 refine(HPd.out _).mono ?_
 rintro e w' ⟨rfl,rfl⟩
 go_wp2_with fail
 go_loopw [4,6] (fun x v wr=>∃q:ByteArray,x=.string q∧RdI (w.alloc (wObj false eS)) wr t v q) (fun x _ _=>match x with|.string q=>q.size|_=>0)
 case atStart=>exact⟨u,rfl,HI0.out⟩
 case round =>
  obtain⟨q,rfl,hI⟩:=hrel
  obtain⟨L,k,hk,hq,h9k,hR,hr,hl,hv,hg⟩:=hI
  have hql:q.size=t.length-k:=by rw [←Ze,hq,List.length_drop]
  by_cases h0:q.size=0
  ·obtain rfl:=Zi h0
   have hkt:k=t.length:=by omega
   rw [List.take_of_length_le (by omega)]at hv
   have hM:=ZcW neg wr u6 L hR.d4 hr (by have:=HL.out;omega)
   rw [hv]at hM
   have HM:Hid (Calls Tryz.prog 187 #[.bool neg,u6] wr fun e w'=>Made neg (dec t) e∧wr.grownBy w' none):=hM
   have HG:Hid ((w.alloc (wObj false eS)).grownBy wr none):=hg
   obtain⟨ao,cp,hu6⟩:=hR.d4.slice
   subst hu6
   clear hM hR hr hv hq hg h9k hql
   go_wp2_with fail
   refine HM.out.mono ?_
   rintro e w2 ⟨hMd,g2⟩
   have hZ:=HZ.out _ hMd
   have HG2:Hid ((w.alloc (wObj false eS)).grownBy w2 none):=Za HG.out g2
   obtain⟨n',s',er,rfl⟩:∃n s er,e=.returned (.tuple #[whole n s,.int .i64 er]):=by
    rcases hZ with ⟨_,n,s,rfl,_⟩|⟨_,rfl⟩<;>exact⟨_,_,_,rfl⟩
   have HZ2:Hid (ZRes z (.returned (.tuple #[whole n' s',.int .i64 er]))):=hZ
   have hb:WBlk w2 w.heap.size (.bool false) (.string eS):=WBlk.kept (w:=w.alloc (wObj false eS)) (heap_alloc_new _ _) HG2.out (by simp)
   have hc0:=hb.c0
   have hc1:=hb.c1
   have hf0:=hb.fr 0
   have hf1:=hb.fr 1
   clear hMd g2 hZ HM
   go_wp2_with fail
   refine bodyPost_ret (Zm rfl _ _ w.heap.size _ _ _ _ rfl (hb.put _ _)) rfl ?_
   exact⟨HZ2.out,Zb (Zb (Za (grow1 _ _) HG2.out) (Nat.le_refl _)) (Nat.le_refl _)⟩
  ·have he:=Zu h0
   obtain⟨n,hn⟩:∃n,(q.size-1) % 9+1=n:=⟨_,rfl⟩
   have hn9:n≤9:=by omega
   have hnq:n≤q.size:=by omega
   have htL:=HL.out
   have hkn:k=0∨n=9:=by omega
   have hgd:∀b∈bN (q.extract 0 n),isDig b:=fun b hb=>by
    rw [ZI,hq]at hb
    exact HDg.out b (List.mem_of_mem_drop (List.mem_of_mem_take hb))
   have hgs:(q.extract 0 n).size≤9:=by rw [←Ze,ZI,List.length_take];omega
   have hgl:(bN (q.extract 0 n)).length=n:=by rw [ZI,List.length_take,Ze];omega
   have HGV:Hid (∀w,Calls Tryz.prog 186 #[.string (q.extract 0 n)] w fun e w'=>e=.returned (.int .u32 ((dec (bN (q.extract 0 n)):Nat):Int))∧w'=w):=fun w=>V9 _ hgs hgd w
   have hgv:dec (bN (q.extract 0 n))<4294967296:=by
    have h1:=Xh _ hgd
    rw [hgl]at h1
    have h2:10 ^ n≤10 ^ 9:=Nat.pow_le_pow_right (by decide) hn9
    have h3:10 ^ 9=1000000000:=by decide
    omega
   have hdd:dec (t.take (k+n))=dec (t.take k)*1000000000+dec (bN (q.extract 0 n)):=by
    rw [List.take_add,Z8,ZI,hq]
    rcases hkn with rfl|rfl
    ·simp [dec]
    ·rw [List.length_take,List.length_drop,Nat.min_eq_left (by omega)]
   have hRR:=fun wz (hz:wr.grownBy wz none)=>Zee wz (w.alloc (wObj false eS)).heap.size 1000000000 (dec (bN (q.extract 0 n))) u6 L (hR.kept hz (by cases u6.ownBlock<;>simp)) hr (by decide) hgv (by omega) (Nat.le_trans hg.size hz.size)
   have HRR:Hid (∀wz,wr.grownBy wz none→Calls Tryz.prog 185 #[u6,.int .u32 1000000000,.int .u32 ((dec (bN (q.extract 0 n)):Nat):Int)] wz fun e w''=>∃v',e=.returned v'∧(∃ao m cp,v'=.slice ao m cp)∧RdI (w.alloc (wObj false eS)) w'' t v' (q.extract n q.size)):=(by
    intro wz hz
    refine(hRR wz hz).mono ?_
    rintro e w'' ⟨v',K,rfl,hK,rK,vK,lK,_,gK⟩
    refine⟨v',rfl,?_,K,k+n,by omega,?_,?_,hK,rK,by omega,?_,?_⟩
    ·obtain⟨ao,cp,e⟩:=hK.d4.slice
     exact⟨_,_,_,e⟩
    ·rw [Yc,hq,List.drop_drop]
    ·right
     rcases hkn with rfl|rfl
     ·omega
     ·omega
    ·rw [vK,hv,hdd]
    ·exact Ye (Za hg hz) (hR.kept hz (by cases u6.ownBlock<;>simp)) gK)
   have hm1:(q.extract n q.size).size<q.size:=by rw [←Ze,Yc,List.length_drop,Ze];omega
   have hqI:(q.size:Int)≤40000:=by omega
   have hq1:(1:Int)≤q.size:=by omega
   have hnI:(n:Int)≤q.size:=by omega
   have hni:((q.size:Int)-1) % 9+1=(n:Int):=by omega
   obtain⟨ao,cp,hu6⟩:=hR.d4.slice
   subst hu6
   clear hR hr hv hq hg h9k hql hgd hgs hgl hgv hdd hRR hkn hn
   generalize((dec (bN (q.extract 0 n)):Nat):Int)=gv at *
   go_wp2_with fail
   refine(HGV.out _).mono ?_
   rintro e w1 ⟨rfl,hw1⟩
   subst hw1
   go_wp2_with fail
   refine(HRR.out _ (World.grownBy.refl _ _)).mono ?_
   rintro e w2 ⟨v',rfl,⟨ao2,m2,cp2,rfl⟩,hI2⟩
   have HI2:Hid (RdI (w.alloc (wObj false eS)) w2 t (.slice ao2 m2 cp2) (q.extract n q.size)):=hI2
   clear hI2 HRR HGV
   go_wp2_with fail
   go_roundw
   case rel=>exact⟨_,rfl,HI2.out⟩
   case measure=>exact hm1
theorem Zd1 (s:ByteArray) (hs:s.size≤maxLen) (h9:40000<s.size) (w:World) :
    Calls Tryz.prog 168 #[.string s] w fun e w'=>e=.returned (.tuple #[whole false eS,.int .i64 3])∧w.grownBy w' none:=by
 have h9I:(40001:Int)≤s.size:=by omega
 unfold maxLen at hs
 have hsI:(s.size:Int)≤9223372036854775807:=by omega
 clear hs h9
 go_enter Tryz.func168,Tryz.ntmps168
 go_wp2_with (go_at_call 140;refine(Z0 _).mono ?_;rintro e w' ⟨rfl,rfl⟩)
 refine bodyPost_ret (Zm rfl _ _ w.heap.size _ _ _ _ rfl (Zn _ _ (heap_alloc_new _ _))) rfl ?_
 exact⟨rfl,grow2 _ _ _⟩
theorem ZeT (s:ByteArray) (h9:s.size≤40000) (ht:¬isText s) (w:World) :
    Calls Tryz.prog 168 #[.string s] w fun e w'=>e=.returned (.tuple #[whole false eS,.int .i64 120])∧w.grownBy w' none:=by
 have h9I:(s.size:Int)≤40000:=by omega
 have hbs:=YT s
 have HC:Hid (∀w,Calls Tryz.prog 95 #[.string s,.string ⟨#[45]⟩] w fun e w'=>e=.returned (.tuple #[.string (bare s),.bool (decide ((bN s).head?=some 45))])∧w'=w):=fun w=>XE s (by omega) w
 have hP:=fun w=>Y3 (bare s) (by omega) w
 generalize decide ((bN s).head?=some 45)=neg at *
 by_cases hp:plain (bare s)
 ·rw [decide_eq_true hp]at hP
  have HPd:Hid (∀w,Calls Tryz.prog 184 #[.string (bare s)] w fun e w'=>e=.returned (.bool true)∧w'=w):=hP
  have hz:(s.toList == [45,48])=true:=by
   rw [YV]
   exact decide_eq_true (Classical.byContradiction fun h=>ht ⟨hp,h⟩)
  clear hP hp ht hbs
  generalize bare s=u at *
  go_enter Tryz.func168,Tryz.ntmps168
  go_wp2_with fail
  refine(HC.out _).mono ?_
  rintro e w' ⟨rfl,rfl⟩
  go_wp2_with fail
  refine(HPd.out _).mono ?_
  rintro e w' ⟨rfl,rfl⟩
  go_wp2_with (go_at_call 140;refine(Z0 _).mono ?_;rintro e w' ⟨rfl,rfl⟩)
  refine bodyPost_ret (Zm rfl _ _ w.heap.size _ _ _ _ rfl (Zn _ _ (heap_alloc_new _ _))) rfl ?_
  exact⟨rfl,grow2 _ _ _⟩
 ·rw [decide_eq_false hp]at hP
  have HPd:Hid (∀w,Calls Tryz.prog 184 #[.string (bare s)] w fun e w'=>e=.returned (.bool false)∧w'=w):=hP
  clear hP hp ht hbs
  generalize bare s=u at *
  go_enter Tryz.func168,Tryz.ntmps168
  go_wp2_with fail
  refine(HC.out _).mono ?_
  rintro e w' ⟨rfl,rfl⟩
  go_wp2_with fail
  refine(HPd.out _).mono ?_
  rintro e w' ⟨rfl,rfl⟩
  go_wp2_with (go_at_call 140;refine(Z0 _).mono ?_;rintro e w' ⟨rfl,rfl⟩)
  refine bodyPost_ret (Zm rfl _ _ w.heap.size _ _ _ _ rfl (Zn _ _ (heap_alloc_new _ _))) rfl ?_
  exact⟨rfl,grow2 _ _ _⟩
end Go.Proofs.YtdcadiaeaclpgaaGreatDoor
namespace Go.Proofs.YtdcadiaeaclpgaaGreatDoor
open Go.RowKit Go.Lib Go.Sort Go.Shelf
attribute [local go_sem] Oper.semAt_some
set_option maxHeartbeats 8000000
set_option maxRecDepth 1000000
def Hands (F:Fence) (n:Nat) (P:Program) (gf:Nat) (lb:Array Value) (encs:Nat→Array Value) (N:Nat) (I:Nat→World→Prop):Prop :=
 ∀(l:Nat) (J:Nat→World→Prop),(∀t W,J t W→I t W) →
  (∀t W,t<N→J t W→YieldAt F (n-1) P l (encs t) W fun e W'=>e=.returned (.bool true)∧J (t+1) W') →
  ∀W,J 0 W→CallsIn F n P gf (#[.func (.yield l) #[] #[]]++lb) W fun e W'=>(∃v,e=.returned v)∧J N W'
def roundTo (I:Nat→World→Prop) (t:Nat) (W:World):Exit→Act→World→Prop
 |.normal,_,W'=>KeepsOthers W W'∧I t W'
 |_,_,_=>False
theorem X6 {F:Fence} {n:Nat} {P:Program} {g:Operand} {ps:Array Tmp} {assign body:Code} {Q:Exit→Act→World→Prop} {a:Act} {w:World}
    (hro:F.round=none) (h1:1≤n) {gf:Nat} {lb:Array Value} (hg:a.eval g=.func (.func gf) #[] lb) (hFg:F.fn gf) (eg:∀args w,(callFunc gf args).run P w=.ok (.enter gf args) w)
    (encs:Nat→Array Value) (N:Nat) (hps:∀t,(encs t).size=ps.size) (I:Nat→World→Prop) (hI:OwnFrom w.heap.size I) (h0:I 0 w) (hit:Hands F (n-1) P gf lb encs N I) (a₁:Nat→Act)
    (hassign:∀(l t:Nat) (W:World) (K:Act→World→Prop),K (a₁ t) W →
     assign.wpIn (F.inRound l) (n-1-1) P (Exit.then K (fun _ _ _=>False)) { tmps:=(ps.zip (encs t)).foldl (fun t (p,v)=>t.setIfInBounds p v) a.tmps,defers:=[] } W)
    (hbody:∀(l t:Nat) (W:World),t<N→I t W→body.wpIn (F.inRound l) (n-1-1) P (roundTo I (t+1) W) (a₁ t) W)
    (hdone:∀(D:Nat) (W:World),w.heap.size≤D→I N W→W.heap[D]?=some (.deferred (some []))→Q .normal { a with defers:={ target:=.collected D,args:=#[] }::a.defers } W) :
    (Code.rangeFunc g ps assign body).wpIn F n P Q a w:=by
 refine wpIn_rangeFunc fun fn hfn=>?_
 rw [hro]
 obtain⟨r,hr⟩:∃r:Loop,r={ state:=.ready,pending:=none,fn,tmps:=a.tmps,params:=ps,assign,body,defers:=w.heap.size }:=⟨_,rfl⟩
 have hen:(Instr.enterLoop fn a.tmps ps assign body none).run P w=.ok (w.heap.size+1,[{ target:=.collected w.heap.size,args:=#[] }]) ((w.alloc (.deferred (some []))).alloc (.loop r)):=by
  rw [hr];exact run_enterLoop_outer _ _ _ _ _
 have rs:r.state=.ready:=by rw [hr]
 have rp:r.pending=none:=by rw [hr]
 have back:({ { r with state:=.busy } with state:=.ready,pending:=none }:Loop)=r:=by rw [hr]
 have hyl:∀(W:World) (t:Nat),W.heap[w.heap.size+1]?=some (.loop r)→(Instr.yield (w.heap.size+1) (encs t)).run P W=.ok (.round (w.heap.size+1) fn ((ps.zip (encs t)).foldl (fun t (p,v)=>t.setIfInBounds p v) a.tmps) assign body) W:=by
  intro W t hl
  have:=run_yield (P:=P) (args:=encs t) hl (by rw [hr];exact hps t)
  rw [hr]at this
  exact this
 clear hr
 have hl1:((w.alloc (.deferred (some []))).alloc (.loop r)).heap[w.heap.size+1]?=some (.loop r):=by
  have:=World.alloc_heap_new (w.alloc (.deferred (some []))) (.loop r)
  rwa [World.size_alloc]at this
 have hd1:((w.alloc (.deferred (some []))).alloc (.loop r)).heap[w.heap.size]?=some (.deferred (some [])):=(Below.heap_alloc _ _ _ (by simp)).trans (World.alloc_heap_new w _)
 have hi1:I 0 ((w.alloc (.deferred (some []))).alloc (.loop r)):=hI.alloc _ (hI.alloc _ h0)
 generalize hW1:(w.alloc (.deferred (some []))).alloc (.loop r)=W1 at *
 refine⟨w.heap.size+1,[{ target:=.collected w.heap.size,args:=#[] }],W1,{ target:=.fn (.func gf) lb,args:=#[.func (.yield (w.heap.size+1)) #[] #[]] },W1,gf,#[.func (.yield (w.heap.size+1)) #[] #[]]++lb,W1,hen,?_,?_,?_,fun _=>h1,?_⟩
 ·simp only [resolve,hg]
  simp [go_sem]
 ·intro f' hf'
  simp [Target.leads]at hf'
  subst hf'
  exact hFg
 ·simp [invoke,go_sem,eg]
 refine(hit (w.heap.size+1) (fun t W=>I t W∧W.heap[w.heap.size+1]?=some (.loop r)∧W.heap[w.heap.size]?=some (.deferred (some []))) (fun _ _ h=>h.1) ?_ _ ⟨hi1,hl1,hd1⟩).mono ?_
 ·rintro t W ht ⟨hi,hl,hd⟩
  have hlt:=(Array.getElem?_eq_some_iff.1 hl).1
  refine⟨_,_,_,_,hyl W t hl,roundIn_of_wpIn hfn (hassign _ t W _ ⟨_,run_beginRound hl rs,?_⟩)⟩
  have hlb:(W.putObj (w.heap.size+1) (.loop { r with state:=.busy })).heap[w.heap.size+1]?=some (.loop { r with state:=.busy }):=World.putObj_heap_same hlt
  have hdb:(W.putObj (w.heap.size+1) (.loop { r with state:=.busy })).heap[w.heap.size]?=some (.deferred (some [])):=(World.putObj_heap_other (by omega)).trans hd
  refine wpIn_mono (hbody _ t _ ht (hI.putObj _ hi (by omega) hl rfl)) ?_
  rintro e a3 W3 hp
  cases e with
  |normal =>
   obtain⟨hk,hi3⟩:=hp
   have hl3:=hk.same _ _ hlb rfl
   have hd3:=hk.same _ _ hdb rfl
   have hen3:=run_endRound (P:=P) none hl3
   simp only [Option.isNone_none,if_true]at hen3
   rw [back]at hen3
   exact⟨_,_,hen3,rfl,hI.putObj _ hi3 (by omega) hl3 rfl,World.putObj_heap_same (Array.getElem?_eq_some_iff.1 hl3).1,(World.putObj_heap_other (by omega)).trans hd3⟩
  |ret=>exact hp.elim
  |exit id=>exact hp.elim
  |goto t=>exact hp.elim
  |panic c=>exact hp.elim
  |outgrown=>exact hp.elim
 ·rintro e W2 ⟨⟨v,rfl⟩,hi,hl,hd⟩
  have hend:=run_endLoop (P:=P) hl (by rw [rs];simp)
  rw [rp]at hend
  exact⟨none,_,hend,hdone _ _ (Nat.le_refl _) (hI.putObj _ hi (by omega) hl rfl) ((World.putObj_heap_other (by omega)).trans hd)⟩
def encC (L:List Nat) (t:Nat):Array Value:=#[.int .i64 ((L.length-1-t:Nat):Int),.int .u32 ((L[L.length-1-t]?.getD 0:Nat):Int)]
theorem Ui (F:Fence) (n:Nat) (hf:F.fn 193) (hro:F.round=none) (hn:1≤n) (Bs:Nat) (L:List Nat) (cp:Nat) (ab:Option Addr) (hk9:(L.length:Int)≤1000000000) (I:Nat→World→Prop)
    (hI:∀t W,I t W→W.cell? ⟨Bs,0,none⟩=some (.slice ab L.length cp)∧∀q,q+t+1=L.length→∃B off,ab=some ⟨B,off,none⟩∧W.cell? ⟨B,off+q,none⟩=some (.int .u32 ((L[q]?.getD 0:Nat):Int))∧L.length≤cp) :
    Hands F n Tryz.prog 193 #[.pointer (some ⟨Bs,0,none⟩)] (encC L) L.length I:=by
 intro l J hJI hY W h0
 have HI:Hid (∀t W,J t W→W.cell? ⟨Bs,0,none⟩=some (.slice ab L.length cp)∧∀q,q+t+1=L.length→∃B off,ab=some ⟨B,off,none⟩∧W.cell? ⟨B,off+q,none⟩=some (.int .u32 ((L[q]?.getD 0:Nat):Int))∧L.length≤cp):=fun t W h=>hI t W (hJI t W h)
 have HY:Hid (∀q t W,q+t+1=L.length→J t W→YieldAt F (n-1) Tryz.prog l #[.int .i64 (q:Int),.int .u32 ((L[q]?.getD 0:Nat):Int)] W fun e W'=>e=.returned (.bool true)∧J (t+1) W'):=fun q t W hq hj=>by
  have h:=hY t W (by omega) hj
  unfold encC at h
  rw [show L.length-1-t=q by omega]at h
  exact h
 clear hI hJI hY
 obtain⟨k,hk⟩:∃k,L.length=k:=⟨_,rfl⟩
 rw [hk]at hk9 HI HY ⊢
 have hcs:=(HI.out 0 W h0).1
 have HJ0:Hid (J 0 W):=h0
 clear h0
 refine callsIn_of_wp Tryz.func193 rfl hf ?_ hro
 simp only [Tryz.ntmps193,List.size_toArray,List.length_cons,List.length_nil,Nat.reduceAdd,Nat.reduceSub,Array.replicate_succ,Array.replicate_zero,List.push_toArray,List.append_toArray,List.nil_append,List.cons_append]
 gi_wp2
 clear hcs
 gi_loopw [3] (fun i wr=>∃(m t:Nat),i=.int .i64 ((m:Int)-1)∧t+m=k∧J t wr) (fun i _=>(RowKit.intOf i+1).toNat)
 case atStart=>exact⟨k,0,rfl,by omega,HJ0.out⟩
 case round =>
  obtain⟨m,t,rfl,hm,hJ⟩:=hrel
  obtain⟨hcs,hdig⟩:=HI.out t wr hJ
  rcases Nat.eq_zero_or_pos m with rfl|hm0
  ·obtain rfl:t=k:=by omega
   gi_wp2
   go_end0
   exact⟨⟨_,rfl⟩,hJ⟩
  ·obtain⟨q,rfl⟩:∃q,m=q+1:=⟨m-1,by omega⟩
   obtain⟨B,off,rfl,hc,hcp⟩:=hdig q (by omega)
   have hY1:YieldAt F (n-1) Tryz.prog l #[.int .i64 (q:Int),.int .u32 ((L[q]?.getD 0:Nat):Int)] wr fun e W'=>e=.returned (.bool true)∧J (t+1) W':=HY.out q t wr (by omega) hJ
   rw [show(((q+1:Nat):Int)-1)=(q:Int)by omega]
   have hqk:(q:Int)<(k:Int):=by omega
   clear hdig
   obtain⟨fn,tmps,assign,body,hy,hR⟩:=hY1
   gi_wp2
   refine hR.mono ?_
   rintro e W3 ⟨rfl,hJ3⟩
   gi_wp2
   go_roundw
   case rel=>exact⟨q,t+1,rfl,by omega,hJ3⟩
   case measure=>simp [RowKit.intOf]
end Go.Proofs.YtdcadiaeaclpgaaGreatDoor
namespace Go.Proofs.YtdcadiaeaclpgaaGreatDoor
open Go.RowKit Go.Lib Go.Sort Go.Shelf
attribute [local go_sem] Oper.semAt_some
set_option maxHeartbeats 8000000
set_option maxRecDepth 1000000
theorem Yd (L:List Nat) (q:Nat) (h:q<L.length):nv B32 (L.drop q)=L[q]?.getD 0+B32*nv B32 (L.drop (q+1)):=by
 rw [List.drop_eq_getElem_cons h,nv,List.getElem?_eq_getElem h]
 rfl
theorem Zbk (X d b:Nat) (hb:0<b):(d+B32*X) / b=B32*(X / b)+(X % b*B32+d) / b∧(d+B32*X) % b=(X % b*B32+d) % b:=by
 have e:d+B32*X=(X % b*B32+d)+b*(B32*(X / b)):=by
  have h:=Nat.div_add_mod X b
  have:B32*X=B32*(b*(X / b))+B32*(X % b):=by rw [←Nat.mul_add,h]
  rw [this,Nat.mul_left_comm B32 b,Nat.mul_comm B32 (X % b)]
  omega
 rw [e]
 exact⟨by rw [Nat.add_mul_div_left _ _ hb,Nat.add_comm],Nat.add_mul_mod_self_left _ _ _⟩
theorem UP (r d b:Nat) (hr:r<b) (hd:d<4294967296):(r*4294967296+d) / b<4294967296:=by
 rw [Nat.div_lt_iff_lt_mul (by omega)]
 have:(r+1)*4294967296≤b*4294967296:=Nat.mul_le_mul_right _ hr
 rw [Nat.mul_comm 4294967296]
 omega
def CbI (w:World) (base b:Nat) (v:Value) (L:List Nat) (t:Nat) (W:World):Prop :=
 ∃M:List Nat,M.length=L.length∧(∀j,j+t<L.length→M[j]?.getD 0=L[j]?.getD 0)∧(∀x∈M,x<B32)∧nv B32 (M.drop (L.length-t))=nv B32 (L.drop (L.length-t)) / b∧Row W base v M ∧
  W.heap[w.heap.size]?=some (.cells #[v] 146 (0,0))∧W.heap[w.heap.size+1]?=some (.cells #[.int .u32 (b:Int)] 145 (0,0)) ∧
  W.heap[w.heap.size+2]?=some (.cells #[.int .u64 ((nv B32 (L.drop (L.length-t)) % b:Nat):Int)] 143 (0,0))∧W.heap[w.heap.size+3]?=some (.cells #[v] 146 (0,0))∧w.grownBy W v.ownBlock
theorem Zc4 {w:World} {base g:Nat} {v:Value} {L:List Nat} (h:Row w base v L) (hg:v.ownBlock=some g):∃o:Obj,w.heap[g]?=some o∧o.isCells=true:=by
 rcases h.2 with ⟨rfl,_⟩|⟨g',cap,cur,rfl,hb,hgg,_⟩
 ·cases hg
 ·cases hg
  exact⟨_,hgg,rfl⟩
theorem CbI_own (w:World) (base b:Nat) (v:Value) (L:List Nat) (B:Nat) (hB:w.heap.size≤B):OwnFrom B (CbI w base b v L):=by
 rintro t W W' row ⟨M,hM,h0,hr,hv,hR,h1,h2,h3,h4,hg⟩ hgr hrow
 have hne:v.ownBlock=none∨v.ownBlock≠row:=by
  cases hvb:v.ownBlock with
  |none=>exact .inl rfl
  |some g =>
   right
   intro e
   obtain⟨_,o,ho,hc⟩:=hrow g e.symm
   obtain⟨o',ho',hc'⟩:=Zc4 hR hvb
   rw [ho]at ho'
   cases ho'
   rw [hc]at hc'
   exact absurd hc' (by simp)
 refine⟨M,hM,h0,hr,hv,hR.kept hgr hne,ZR hgr hrow h1 rfl,ZR hgr hrow h2 rfl,ZR hgr hrow h3 rfl,ZR hgr hrow h4 rfl,hgr.os.trans hg.os,hgr.tape.trans hg.tape,hgr.output.trans hg.output,Nat.le_trans hg.size hgr.size,fun i hi hn=>?_⟩
 exact(hgr.block i (Nat.lt_of_lt_of_le hi hg.size) (fun e=>by have:=(hrow i e.symm).1;omega)).trans (hg.block i hi hn)
theorem CbI.step {w W W2:World} {base b g n cp t q:Nat} {L:List Nat} (hb:0<b) (hrL:∀x∈L,x<B32) (h:CbI w base b (.slice (some ⟨g,0,none⟩) n cp) L t W) (hq:q+t+1=L.length) (hgw:g<w.heap.size) (R:Nat) (hR:R=nv B32 (L.drop (L.length-t)) % b)
    (hW2:W2=((W.setCell ⟨g,q,none⟩ (.int .u32 (((R*4294967296+L[q]?.getD 0) / b:Nat):Int))).setCell ⟨w.heap.size+2,0,none⟩ (.int .u64 (((R*4294967296+L[q]?.getD 0) % b:Nat):Int)))) :
    CbI w base b (.slice (some ⟨g,0,none⟩) n cp) L (t+1) W2:=by
 obtain⟨M,hM,h0,hr,hv,hRow,h1,h2,h3,h4,hg⟩:=h
 have hd:L[q]?.getD 0<4294967296:=Zt hrL q
 have e1:L.length-(t+1)=q:=by omega
 have e2:L.length-t=q+1:=by omega
 have hRb:R<b:=by rw [hR];exact Nat.mod_lt _ hb
 have hlt:=UP R (L[q]?.getD 0) b hRb hd
 have hst:=Zbk (nv B32 (L.drop (q+1))) (L[q]?.getD 0) b hb
 rw [e2]at hv hR
 rw [←hR]at hst
 have hB:(B32:Nat)=4294967296:=rfl
 have l1:=(Array.getElem?_eq_some_iff.1 h1).1
 have l2:=(Array.getElem?_eq_some_iff.1 h2).1
 have l3:=(Array.getElem?_eq_some_iff.1 h3).1
 have l4:=(Array.getElem?_eq_some_iff.1 h4).1
 have k1:=Zc W g q (.int .u32 (((R*4294967296+L[q]?.getD 0) / b:Nat):Int))
 have k2:=Zc (W.setCell ⟨g,q,none⟩ (.int .u32 (((R*4294967296+L[q]?.getD 0) / b:Nat):Int))) (w.heap.size+2) 0 (.int .u64 (((R*4294967296+L[q]?.getD 0) % b:Nat):Int))
 have hR1:=hRow.set q ((R*4294967296+L[q]?.getD 0) / b)
 have b3:(W.setCell ⟨g,q,none⟩ (.int .u32 (((R*4294967296+L[q]?.getD 0) / b:Nat):Int))).heap[w.heap.size+2]?=_:=(k1.block _ l3 (by intro e;injection e with e;omega)).trans h3
 have keep:∀i,i<W.heap.size→i≠g→i≠w.heap.size+2→W2.heap[i]?=W.heap[i]?:=fun i hi n1 n2=>by
  rw [hW2]
  exact(k2.block i (Nat.lt_of_lt_of_le hi k1.size) (by intro e;injection e with e;exact n2 e)).trans (k1.block i hi (by intro e;injection e with e;exact n1 e))
 refine⟨M.set q ((R*4294967296+L[q]?.getD 0) / b),by simp [hM],fun j hj=>?_,ZM hr hlt,?_,?_,(keep _ l1 (by omega) (by omega)).trans h1,(keep _ l2 (by omega) (by omega)).trans h2,?_,(keep _ l4 (by omega) (by omega)).trans h4,?_⟩
 ·rw [List.getElem?_set_ne (by omega)]
  exact h0 j (by omega)
 ·rw [e1,Yd L q (by omega),Yd _ q (by simp;omega),hst.1,List.getElem?_set_self (by omega),List.drop_set_of_lt (by omega),hv]
  simp only [Option.getD_some,hB]
  omega
 ·rw [hW2]
  exact hR1.kept k2 (.inr (by simp [Value.ownBlock];omega))
 ·rw [hW2,e1,Yd L q (by omega),hst.2]
  generalize W.setCell ⟨g,q,none⟩ (.int .u32 (((R*4294967296+L[q]?.getD 0) / b:Nat):Int))=W3 at *
  simp [World.setCell,Array.getElem?_modify,b3,hB]
 ·rw [hW2]
  have hgg:w.grownBy W (some g):=hg
  show w.grownBy _ (some g)
  exact⟨(k2.os.trans k1.os).trans hgg.os,(k2.tape.trans k1.tape).trans hgg.tape,(k2.output.trans k1.output).trans hgg.output,Nat.le_trans hgg.size (Nat.le_trans k1.size k2.size),fun i hi hn =>
   (k2.block i (Nat.lt_of_lt_of_le hi (Nat.le_trans hgg.size k1.size)) (by intro e;injection e with e;omega)).trans ((k1.block i (Nat.lt_of_lt_of_le hi hgg.size) hn).trans (hgg.block i hi hn))⟩
theorem CbI.drew {w W:World} {base b:Nat} {v:Value} {L:List Nat} {t:Nat} (h:CbI w base b v L t W):CbI w base b v L t W.drew:=by
 obtain⟨M,hM,h0,hr,hv,hRow,h1,h2,h3,h4,hg⟩:=h
 exact⟨M,hM,h0,hr,hv,hRow,h1,h2,h3,h4,Zf hg⟩
theorem Zfc {W:World} {d:Nat} {v x y:Value} {t:TypeId} (h:W.heap[d]?=some (.cells #[v] t (0,0))) (g q:Nat) (hne:g≠d) (u z:Value) :
    (((W.setCell ⟨d,0,none⟩ x).setCell ⟨d,0,none⟩ y).setCell ⟨g,q,none⟩ u).setCell ⟨d,0,none⟩ z=(W.setCell ⟨g,q,none⟩ u).setCell ⟨d,0,none⟩ z:=by
 unfold World.setCell
 congr 1
 apply Array.ext_getElem?
 intro i
 simp only [Array.getElem?_modify]
 by_cases hi:d=i
 ·subst hi
  simp [h,hne]
 ·simp [hi]
theorem or32 (x y:Int) (h₀:0≤x) (h₁:x≤4294967295) (h2:0≤y) (h3:y≤4294967295):bits .or .u64 (x*4294967296) y=x*4294967296+y :=
 bits_join .u64 64 (by decide) wraps_u64 32 (x*4294967296) y (by omega) (by omega) (by omega) h2 (by omega) (by omega)
theorem Zai (w:World) (base b:Nat) (v:Value) (L:List Nat) (h:Row w base v L) (hrL:∀x∈L,x<B32) (hb0:0<b) (hb1:b<4294967296) (hl:L.length≤1000000000) :
    Calls Tryz.prog 155 #[v,.int .u32 (b:Int)] w fun e w'=>∃K,e=.returned (.int .u32 ((nv B32 L % b:Nat):Int))∧K.length=L.length∧(∀x∈K,x<B32)∧nv B32 K=nv B32 L / b∧Row w' base v K∧w.grownBy w' v.ownBlock:=by
 have hR0:∀W,w.grownBy W none→Row W base v L:=fun W hg=>h.kept hg (by cases v.ownBlock<;>simp)
 have hlt:∀g,v.ownBlock=some g→g<w.heap.size:=fun g hg=>by
  obtain⟨o,ho,_⟩:=Zc4 h hg
  exact(Array.getElem?_eq_some_iff.1 ho).1
 have HRL:Hid (∀x∈L,x<B32):=hrL
 have HLT:Hid (∀g,v.ownBlock=some g→g<w.heap.size):=hlt
 obtain⟨ab,cp,rfl⟩:=h.d4.slice
 have hlI:(L.length:Int)≤1000000000:=by omega
 clear h hrL hlt
 refine(callsIn_wide (n:=5)).1 ?_
 refine callsIn_of_wp_marks Tryz.func155 rfl trivial ?_ rfl
 simp only [Tryz.ntmps155,List.size_toArray,List.length_cons,List.length_nil,Nat.reduceAdd,Nat.reduceSub,Array.replicate_succ,Array.replicate_zero,List.push_toArray,List.append_toArray,List.nil_append,List.cons_append]
 gi_wp2
 refine⟨trivial,?_⟩
 refine(callsIn_wide.2 (Yt _ _ _ _)).mono ?_
 rintro e w' ⟨rfl,rfl⟩
 gi_wp2
 refine X6 rfl (by omega) (gf:=193) (lb:=#[.pointer (some ⟨w.heap.size+1+1+1,0,none⟩)]) rfl trivial (enters_of Tryz.func193 (by kernel_rfl) rfl)
  (encC L) L.length (fun _=>rfl) (CbI w base b (.slice ab L.length cp) L) (CbI_own w base b _ L _ (by simp;omega))
  ⟨L,rfl,fun _ _=>rfl,HRL.out,by simp [nv],hR0 _ (grow4 _ _ _ _ _),Zn _ _ (Zn _ _ (Zn _ _ (heap_alloc_new _ _))),Zn _ _ (Zn _ _ (heap_alloc2_new _ _ _)),by have:=Zn _ (Obj.cells #[Value.slice ab L.length cp] 146) (Yp w (Obj.cells #[Value.slice ab L.length cp] 146) (Obj.cells #[Value.int IntKind.u32 (b:Int)] 145) (Obj.cells #[Value.int IntKind.u64 0] 143));simpa [nv]using this,by have:=heap_alloc_new (((w.alloc (Obj.cells #[Value.slice ab L.length cp] 146)).alloc (Obj.cells #[Value.int IntKind.u32 (b:Int)] 145)).alloc (Obj.cells #[Value.int IntKind.u64 0] 143)) (Obj.cells #[Value.slice ab L.length cp] 146);simpa using this,Xk (grow4 _ _ _ _ _)⟩
  (Ui Fence.wide (5-1) trivial rfl (by omega) (w.heap.size+1+1+1) L cp ab hlI _ ?reads)
  (fun t=>{ tmps:=#[.slice ab L.length cp,.int .u32 (b:Int),.pointer (some ⟨w.heap.size,0,none⟩),.pointer (some ⟨w.heap.size+1,0,none⟩),.int .u32 0,.pointer (some ⟨w.heap.size+1+1,0,none⟩),.int .i64 ((L.length-1-t:Nat):Int),.int .u32 ((L[L.length-1-t]?.getD 0:Nat):Int),.slice ab L.length cp,.func (.func 193) #[] #[.pointer (some ⟨w.heap.size+1+1+1,0,none⟩)],.int .i64 ((L.length-1-t:Nat):Int),.int .u32 ((L[L.length-1-t]?.getD 0:Nat):Int),undef,undef,undef,undef,undef,undef,undef,undef,undef,undef,undef,undef,undef,undef,undef,undef,undef,undef,undef,undef],defers:=[] }) ?assign ?body ?done
 case reads =>
  rintro t W ⟨M,hM,h0,hr,hv,hRow,h1,h2,h3,h4,hg⟩
  refine⟨by simp [World.cell?,h4],fun q hq=>?_⟩
  rcases hRow.cases with ⟨_,e⟩|⟨g,c,e,_,hc⟩
  ·rw [e]at hM;simp at hM;omega
  ·obtain⟨rfl,e2,rfl⟩:=Value.slice.inj e
   rw [hM]at hc
   refine⟨g,0,rfl,?_,hc⟩
   have:=Row.cell (by rw [←e2];exact hRow) q (by omega)
   rw [h0 q (by omega)]at this
   rw [Nat.zero_add]
   exact this
 case assign =>
  intro l t W K hK
  simp only [encC]
  generalize((L.length-1-t:Nat):Int)=q at hK ⊢
  generalize((L[L.length-1-t]?.getD 0:Nat):Int)=d at hK ⊢
  gi_wp2
  exact hK
 case body =>
  intro l t W ht hI
  have HI:Hid (CbI w base b (.slice ab L.length cp) L t W):=hI
  obtain⟨M,hM,h0,hr,hv,hRow,h1,h2,h3,h4,hg⟩:=hI
  obtain⟨q,hq⟩:∃q,q+t+1=L.length:=⟨L.length-1-t,by omega⟩
  obtain⟨g,rfl,hgw⟩:∃g,ab=some ⟨g,0,none⟩∧g<w.heap.size:=by
   rcases hRow.cases with ⟨_,e⟩|⟨g,c,e,_,hc⟩
   ·rw [e]at hM;simp at hM;omega
   ·obtain⟨rfl,e2,rfl⟩:=Value.slice.inj e
    exact⟨g,rfl,HLT.out g rfl⟩
  have hce:=Row.cell (by rw [hM];exact hRow) q (by omega)
  have hfe:=hRow.frozen q
  have hLc:L.length≤cp:=by
   rcases hRow.cases with ⟨e,_⟩|⟨g',c,e,_,hc⟩
   ·cases e
   ·obtain⟨_,_,rfl⟩:=Value.slice.inj e
    omega
  have ST:=fun W2 h=>CbI.step (W2:=W2) hb0 HRL.out HI.out hq hgw _ rfl h
  have hRb:nv B32 (L.drop (L.length-t)) % b<b:=Nat.mod_lt _ hb0
  have hd:L[q]?.getD 0<4294967296:=Zt HRL.out q
  have c1:W.cell? ⟨w.heap.size,0,none⟩=some (.slice (some ⟨g,0,none⟩) L.length cp):=by simp [World.cell?,h1]
  have c2:W.cell? ⟨w.heap.size+1,0,none⟩=some (.int .u32 (b:Int)):=by simp [World.cell?,h2]
  have c3:W.cell? ⟨w.heap.size+1+1,0,none⟩=some (.int .u64 ((nv B32 (L.drop (L.length-t)) % b:Nat):Int)):=by simp [World.cell?,h3]
  have f3:W.frozen? ⟨w.heap.size+1+1,0,none⟩=false:=by simp [World.frozen?,h3]
  rw [show L.length-1-t=q by omega]
  generalize nv B32 (L.drop (L.length-t)) % b=R at *
  generalize L[q]?.getD 0=d at *
  obtain⟨k,hk⟩:∃k,L.length=k:=⟨_,rfl⟩
  have hor:=or32 (R:Int) (d:Int) (by omega) (by omega) (by omega) (by omega)
  have HOV:=fun u z=>Zfc (x:=.int .u64 ((R:Int)*4294967296)) (y:=.int .u64 ((R:Int)*4294967296+d)) h3 g q (by omega) u z
  have ST2:Hid (CbI w base b (.slice (some ⟨g,0,none⟩) L.length cp) L (t+1) (((((W.setCell ⟨w.heap.size+2,0,none⟩ (.int .u64 ((R:Int)*4294967296))).setCell ⟨w.heap.size+2,0,none⟩ (.int .u64 ((R:Int)*4294967296+d))).setCell ⟨g,q,none⟩ (.int .u32 (((R*4294967296+d) / b:Nat):Int))).setCell ⟨w.heap.size+2,0,none⟩ (.int .u64 (((R*4294967296+d) % b:Nat):Int))).drew)):=(by
   refine CbI.drew ?_
   rw [HOV]
   exact ST _ rfl)
  have KO2:Hid (∀u z,KeepsOthers W (((((W.setCell ⟨w.heap.size+2,0,none⟩ (.int .u64 ((R:Int)*4294967296))).setCell ⟨w.heap.size+2,0,none⟩ (.int .u64 ((R:Int)*4294967296+d))).setCell ⟨g,q,none⟩ u).setCell ⟨w.heap.size+2,0,none⟩ z).drew)):=fun u z =>
   ((((KeepsOthers.setCell _ _ _).trans (KeepsOthers.setCell _ _ _)).trans (KeepsOthers.setCell _ _ _)).trans (KeepsOthers.setCell _ _ _)).trans (KeepsOthers.drew _)
  have k1:W.grownBy ((W.setCell ⟨w.heap.size+1+1,0,none⟩ (.int .u64 ((R:Int)*4294967296))).setCell ⟨w.heap.size+1+1,0,none⟩ (.int .u64 ((R:Int)*4294967296+d))) (some (w.heap.size+1+1)):=Za (Zc _ _ _ _) (Zc _ _ _ _)
  have d1:=Zd k1 c1 (by intro e;injection e with e;omega)
  have d2:=Zd k1 c2 (by intro e;injection e with e;omega)
  have d3:((W.setCell ⟨w.heap.size+1+1,0,none⟩ (.int .u64 ((R:Int)*4294967296))).setCell ⟨w.heap.size+1+1,0,none⟩ (.int .u64 ((R:Int)*4294967296+d))).cell? ⟨w.heap.size+1+1,0,none⟩=some (.int .u64 ((R:Int)*4294967296+d)):=by
   have e:W.heap[w.heap.size+1+1]?=some (.cells #[.int .u64 (R:Int)] 143 (0,0)):=h3
   simp [World.cell?,World.setCell,Array.getElem?_modify,e]
  have g3:((W.setCell ⟨w.heap.size+1+1,0,none⟩ (.int .u64 ((R:Int)*4294967296))).setCell ⟨w.heap.size+1+1,0,none⟩ (.int .u64 ((R:Int)*4294967296+d))).frozen? ⟨w.heap.size+1+1,0,none⟩=false:=by
   have e:W.heap[w.heap.size+1+1]?=some (.cells #[.int .u64 (R:Int)] 143 (0,0)):=h3
   simp [World.frozen?,World.setCell,Array.getElem?_modify,e]
  have hRW:=hRow.kept k1 (.inr (by simp [Value.ownBlock];omega))
  have d4:=Row.cell (by rw [hM];exact hRW) q (by omega)
  have g4:=hRW.frozen q
  clear hRW hRow hr hv h0 h1 h2 h3 h4 hg hce hfe ST HOV k1 HI
  have hw0:((b:Int) == 0)=false:=by rw [beq_eq_false_iff_ne];omega
  have hw1:(0:Int)<b:=by omega
  have hw2:(b:Int)≤4294967295:=by omega
  have hw3:(R:Int)≤4294967295:=by omega
  have hw4:(d:Int)≤4294967295:=by omega
  have hw5:¬(b:Int)=0:=by omega
  have hw6:IntKind.u64.wrap (b:Int)=(b:Int):=by rw [IntKind.wrap_u64];omega
  have hw7:IntKind.u64.wrap (((R:Int)*4294967296+d).tdiv b)=(((R*4294967296+d) / b:Nat):Int):=by
   rw [IntWalk.u64_quo _ _ (by omega)]
   simp
  clear hb1
  gi_wp2
  clear c1 c2 c3 f3
  generalize(W.setCell ⟨w.heap.size+1+1,0,none⟩ (.int .u64 ((R:Int)*4294967296))).setCell ⟨w.heap.size+1+1,0,none⟩ (.int .u64 ((R:Int)*4294967296+d))=W2 at *
  have hmx:Tryz.prog.follows .mixedOrders=true:=by kernel_rfl
  have FIN:Hid (∀act,roundTo (CbI w base b (.slice (some ⟨g,0,none⟩) L.length cp) L) (t+1) W Exit.normal act (((W2.setCell ⟨g,q,none⟩ (.int .u32 (((R:Int)*4294967296+d) / b % 4294967296))).setCell ⟨w.heap.size+1+1,0,none⟩ (.int .u64 (((R:Int)*4294967296+d) % b))).drew)):=(by
   intro act
   have hq32:=UP R d b hRb hd
   have e1:((R:Int)*4294967296+d) / b=(((R*4294967296+d) / b:Nat):Int):=by simp
   have e2:((R:Int)*4294967296+d) % b=(((R*4294967296+d) % b:Nat):Int):=by simp
   have hS2:=ST2.out
   rw [e1,e2]
   generalize(R*4294967296+d) / b=Y at hq32 hS2 ⊢
   rw [show(Y:Int) % 4294967296=(Y:Int)by omega]
   exact⟨KO2.out _ _,hS2⟩)
  clear ST2 KO2
  gi_region
  all_goals gi_wp2
  all_goals exact FIN.out _
 case done =>
  rintro D W hD' ⟨M,hM,h0,hr,hv,hRow,h1,h2,h3,h4,hg⟩ hK
  rw [Nat.sub_self,List.drop_zero,List.drop_zero]at hv
  rw [Nat.sub_self,List.drop_zero]at h3
  have hRb:nv B32 L % b<b:=Nat.mod_lt _ hb0
  have HF:Hid (M.length=L.length∧(∀x∈M,x<B32)∧nv B32 M=nv B32 L / b∧Row W base (.slice ab L.length cp) M∧w.grownBy W (Value.slice ab L.length cp).ownBlock):=⟨hM,hr,hv,hRow,hg⟩
  have c3:W.cell? ⟨w.heap.size+1+1,0,none⟩=some (.int .u64 ((nv B32 L % b:Nat):Int)):=by simp [World.cell?,h3]
  generalize hRR:nv B32 L % b=R at *
  have hRI:(R:Int)≤4294967295:=by omega
  clear hM h0 hr hv hRow h1 h2 h3 h4 hg hRb
  gi_wp2
  refine⟨by simp,.inl ⟨_,_,rfl,run_takeDeferred hK,?_⟩⟩
  have kD:=grownBy_putObj' W D (.deferred none)
  have hDs:w.heap.size≤D:=by simp at hD';omega
  obtain⟨hM,hr,hv,hRow,hg⟩:=HF.out
  have hne:(Value.slice ab L.length cp).ownBlock=none∨(Value.slice ab L.length cp).ownBlock≠some D:=by
   cases hvb:(Value.slice ab L.length cp).ownBlock with
   |none=>exact .inl rfl
   |some g =>
    right
    intro e
    injection e with e
    have:=HLT.out g hvb
    omega
  refine⟨_,results_tmp rfl _ _ _,M,?_,hM,hr,hv,hRow.kept kD hne,?_⟩
  ·exact Zv (by rw [hRR])
  ·exact⟨kD.os.trans hg.os,kD.tape.trans hg.tape,kD.output.trans hg.output,Nat.le_trans hg.size kD.size,fun i hi hn=>(kD.block i (Nat.lt_of_lt_of_le hi hg.size) (by intro e;injection e with e;omega)).trans (hg.block i hi hn)⟩
end Go.Proofs.YtdcadiaeaclpgaaGreatDoor
namespace Go.Proofs.YtdcadiaeaclpgaaGreatDoor
open Go.RowKit Go.Lib Go.Sort
set_option maxHeartbeats 8000000
set_option maxRecDepth 1000000
theorem cut_own (w:World) (v:Value) (L:List Nat) (h:D4 w v L) (hr:∀x∈L,x<B32) (hl:L.length≤1000000000) :
    Calls Tryz.prog 130 #[v] w fun e w'=>∃v' k,e=.returned v'∧k≤L.length∧D4 w v' (L.take k)∧nv B32 (L.take k)=nv B32 L∧(k=0∨(L.take k)[k-1]?.getD 0≠0)∧v'.ownBlock=v.ownBlock∧w'=w:=by
 rcases h with ⟨rfl,rfl⟩|⟨B,off,c,rfl,hc,h⟩
 ·go_enter Tryz.func130,Tryz.ntmps130
  go_wp2
  go_loopw [3] (fun s wr=>s=.int .i64 0∧wr=w) (fun _ _=>0)
  case atStart=>exact⟨rfl,rfl⟩
  case round =>
   obtain⟨rfl,rfl⟩:=hrel
   go_wp2
   go_ret
   exact⟨_,0,rfl,by simp,.inl ⟨rfl,rfl⟩,rfl,.inl rfl,rfl,rfl⟩
 ·have HC:Hid (∀j,j<L.length→w.cell? ⟨B,off+j,none⟩=some (.int .u32 ((L[j]?.getD 0:Nat):Int))):=h
  have HR:Hid (∀x∈L,x<B32):=hr
  have hlI:(L.length:Int)≤1000000000:=by omega
  obtain⟨n,hn⟩:∃n,L.length=n:=⟨_,rfl⟩
  have HN:Hid (L.length=n):=hn
  rw [hn]at hc hlI ⊢
  clear h hr hl hn
  go_enter Tryz.func130,Tryz.ntmps130
  go_wp2
  go_loopw [3] (fun s wr=>∃k,k≤n∧s=.int .i64 k∧nv B32 (L.take k)=nv B32 L∧wr=w) (fun s _=>(RowKit.intOf s).toNat)
  case atStart=>exact⟨n,Nat.le_refl _,rfl,by rw [←HN.out,List.take_length],rfl⟩
  case round =>
   obtain⟨k,hk,rfl,hv,rfl⟩:=hrel
   have HV:Hid (nv B32 (L.take k)=nv B32 L):=hv
   clear hv
   by_cases hk0:k=0
   ·subst hk0
    go_wp2
    go_ret
    exact⟨_,0,rfl,by omega,.inr ⟨B,off,c,by simp,by simp,fun j hj=>by simp at hj⟩,HV.out,.inl rfl,rfl,rfl⟩
   ·obtain⟨q,rfl⟩:∃q,k=q+1:=⟨k-1,by omega⟩
    have hx:=HC.out q (by have:=HN.out;omega)
    by_cases hz:L[q]?.getD 0=0
    ·rw [hz]at hx
     go_wp2
     go_roundw
     case rel=>exact⟨q,by omega,Zl (by omega),by rw [←HV.out,Yu B32 L q (by have:=HN.out;omega) hz],trivial⟩
     case measure=>simp [RowKit.intOf]
    ·have hz1:(((L[q]?.getD 0:Nat):Int) == 0)=false:=by
       rw [beq_eq_false_iff_ne];omega
     have HZ:Hid (L[q]?.getD 0≠0):=hz
     clear hz
     generalize((L[q]?.getD 0:Nat):Int)=x at *
     go_wp2
     go_ret
     refine⟨_,q+1,rfl,by have:=HN.out;omega,.inr ⟨B,off,c,?_,?_,fun j hj=>?_⟩,HV.out,.inr ?_,rfl,rfl⟩
     ·rw [List.length_take,HN.out,Nat.min_eq_left hk];rfl
     ·rw [List.length_take,HN.out,Nat.min_eq_left hk];omega
     ·rw [List.length_take,HN.out,Nat.min_eq_left hk]at hj
      rw [HC.out j (by have:=HN.out;omega),List.getElem?_take,if_pos hj]
     ·rw [List.getElem?_take,if_pos (by omega)];exact HZ.out
theorem Jl (w:World) (va:Value) (A:List Nat) (d:Nat) (hA:D4 w va A) (ra:∀x∈A,x<B32) (la:A.length≤100000000) (hd0:0<d) (hd1:d<4294967296) :
    Calls Tryz.prog 112 #[va,.int .u64 (d:Int)] w fun e w'=>∃v K,e=.returned (.tuple #[v,.int .u64 ((nv B32 A % d:Nat):Int)])∧D4 w' v K∧(∀x∈K,x<B32)∧nv B32 K=nv B32 A / d∧K.length≤A.length∧Trim K∧(∃g,v.ownBlock=some g∧w.heap.size≤g∧g<w'.heap.size)∧w.grownBy w' none:=by
 obtain⟨aa,ca,rfl⟩:=hA.slice
 have HA:Hid (D4 w (.slice aa A.length ca) A):=hA
 have HRa:Hid (∀x∈A,x<B32):=ra
 obtain⟨p,hp⟩:∃p,A.length=p:=⟨_,rfl⟩
 have HP:Unit→A.length=p:=fun _=>hp
 have hp9:(p:Int)≤100000000:=by omega
 have hdI:(d:Int)≤4294967295:=by omega
 have hdI0:(0:Int)<d:=by omega
 have hw0:((d:Int) == 0)=false:=by rw [beq_eq_false_iff_ne];omega
 have hmk:=make4 w p (by omega)
 rw [hp]at HA ⊢
 clear hA ra hp la
 go_enter Tryz.func112,Tryz.ntmps112
 go_wp2_with fail
 clear hmk
 go_loopw [7,8] (fun s t wr=>∃(m:Nat) (L:List Nat),s=.int .u64 ((nv B32 (A.drop m) % d:Nat):Int)∧t=.int .i64 ((m:Int)-1)∧m≤p∧L.length=p∧(∀x∈L,x<B32)∧nv B32 (L.drop m)=nv B32 (A.drop m) / d ∧
  BlkL wr w.heap.size 145 enc4 (ints L)∧w.grownBy wr none) (fun _ t _=>(RowKit.intOf t+1).toNat)
 case atStart =>
  refine⟨p,List.replicate p 0,?_,rfl,Nat.le_refl _,by simp,fun x hx=>by rw [List.eq_of_mem_replicate hx];decide,?_,heap_alloc_new _ _,grow1 _ _⟩
  ·rw [show A.drop p=[]from List.drop_of_length_le (by rw [HP ()];exact Nat.le_refl _)];simp [nv]
  ·rw [show A.drop p=[]from List.drop_of_length_le (by rw [HP ()];exact Nat.le_refl _),show(List.replicate p 0).drop p=[]by simp];simp [nv]
 case round =>
  obtain⟨m,L,rfl,rfl,hm,hL,hr,hv,hBk,hg⟩:=hrel
  have HR:Hid (∀x∈L,x<B32):=hr
  have HV:Hid (nv B32 (L.drop m)=nv B32 (A.drop m) / d):=hv
  have HBk:Hid (BlkL wr w.heap.size 145 enc4 (ints L)):=hBk
  have HG:Hid (w.grownBy wr none):=hg
  rcases Nat.eq_zero_or_pos m with rfl|hm0
  ·have hct:=cut_own wr _ L hBk.d4 hr (by omega)
   rw [hL]at hct
   have HCT:Hid (Calls Tryz.prog 130 #[.slice (some ⟨w.heap.size,0,none⟩) p p] wr fun e w'=>∃v' k,e=.returned v'∧k≤p∧D4 wr v' (L.take k)∧nv B32 (L.take k)=nv B32 L∧(k=0∨(L.take k)[k-1]?.getD 0≠0)∧v'.ownBlock=some w.heap.size∧w'=wr):=hct
   have HVV:Unit→nv B32 L=nv B32 A / d:=fun _=>by have:=HV.out;rwa [List.drop_zero,List.drop_zero]at this
   rw [List.drop_zero]
   clear hct hr hv hBk hg
   go_wp2_with fail
   refine HCT.out.mono ?_
   rintro e w1 ⟨v',k,rfl,hk,hD,hnk,hlast,hob,hw1⟩
   subst hw1
   have hlen:(L.take k).length=k:=by rw [List.length_take,hL,Nat.min_eq_left hk]
   have HD:Hid (D4 w1 v' (L.take k)):=hD
   have HNK:Unit→nv B32 (L.take k)=nv B32 L:=fun _=>hnk
   have HLT:Hid (Trim (L.take k)):=(by show Trim _;unfold Trim;rw [hlen];exact hlast)
   have HOB:Hid (∃g,v'.ownBlock=some g∧w.heap.size≤g∧g<w1.heap.size):=⟨_,hob,Nat.le_refl _,HBk.out.lt⟩
   clear hD hnk hlast HCT hob
   go_wp2_with fail
   go_ret2
   exact⟨v',L.take k,rfl,HD.out,fun x hx=>HR.out x (List.mem_of_mem_take hx),by rw [HNK (),HVV ()],by omega,HLT.out,HOB.out,HG.out⟩
  ·obtain⟨q,rfl⟩:∃q,m=q+1:=⟨m-1,by omega⟩
   rcases HA.out with ⟨_,hnil⟩|⟨Ba,oa,ca',hve,hpc,hcA⟩
   ·exfalso
    have:=HP ()
    rw [hnil]at this
    simp at this
    omega
   ·obtain⟨haa,hpp,hcc⟩:=Value.slice.inj hve
    rw [HP ()]at hpc
    clear hpp hve
    subst haa
    subst hcc
    have hx:=Zd hg (hcA q (by rw [HP ()];omega)) (by simp)
    have hfr:=hBk.frozen q
    have hzc:=hBk.cell q (by rw [Zk];omega)
    have rx:A[q]?.getD 0<4294967296:=Zt HRa.out q
    have hst:=Zbk (nv B32 (A.drop (q+1))) (A[q]?.getD 0) d hd0
    have hdA:nv B32 (A.drop q)=A[q]?.getD 0+B32*nv B32 (A.drop (q+1)):=Yd A q (by rw [HP ()];omega)
    have hRb:nv B32 (A.drop (q+1)) % d<d:=Nat.mod_lt _ hd0
    have HST:Hid (nv B32 (A.drop q) / d=B32*(nv B32 (A.drop (q+1)) / d)+(nv B32 (A.drop (q+1)) % d*B32+A[q]?.getD 0) / d∧nv B32 (A.drop q) % d=(nv B32 (A.drop (q+1)) % d*B32+A[q]?.getD 0) % d):=(by rw [hdA];exact hst)
    clear hst hdA hcA hr hv hBk hg
    generalize nv B32 (A.drop (q+1)) % d=R at *
    generalize A[q]?.getD 0=x at *
    have hxI:(x:Int)≤4294967295:=by omega
    have hRI:(R:Int)≤4294967295:=by omega
    have hq32:=UP R x d hRb rx
    have e1:((R:Int)*4294967296+x) / d=(((R*4294967296+x) / d:Nat):Int):=by simp
    have e2:((R:Int)*4294967296+x) % d=(((R*4294967296+x) % d:Nat):Int):=by simp
    have hqp:(q:Int)<p:=by omega
    obtain⟨Y,hY⟩:∃Y,(R*4294967296+x) / d=Y:=⟨_,rfl⟩
    have HY:Unit→(R*4294967296+x) / d=Y:=fun _=>hY
    rw [hY]at hq32 e1
    have hYI:(Y:Int)≤4294967295:=by omega
    have hw8:IntKind.u32.wrap (Y:Int)=(Y:Int):=by rw [IntKind.wrap_u32];omega
    have hw9:IntKind.u32.wrap (((R:Int)*4294967296+x) / d)=(Y:Int):=by rw [e1];exact hw8
    clear hY e2
    rw [show(((q+1:Nat):Int)-1)=(q:Int)by omega]
    clear rx hRb
    go_wp2_with fail
    go_roundw
    case rel =>
     refine⟨q,L.set q Y,Zl ?_,rfl,by omega,by simp [hL],ZM HR.out hq32,?_,?_,Zb HG.out (Nat.le_refl _)⟩
     ·rw [HST.out.2]
      simp
     ·rw [Yd _ q (by simp;omega),List.getElem?_set_self (by omega),List.drop_set_of_lt (by omega),HV.out,HST.out.1,show R*B32+x=R*4294967296+x from rfl,HY ()]
      simp only [Option.getD_some]
      omega
     ·have e:=HBk.out.set q (Y:Int)
      rw [ZF]at e
      exact e
    case measure=>simp [RowKit.intOf]
theorem Ul (s:ByteArray):isText s ↔ (∀b∈bN (bare s),isDig b)∧(bare s).size≠0∧((bN (bare s)).head?.getD 0≠48∨((bN s).head?≠some 45∧(bare s).size=1)):=by
 have hl:=Ze (bare s)
 have hneg:(bN s).head?=some 45→bN s=45::bN (bare s):=fun h=>by
  rw [YF h]
  cases hb:bN s with
  |nil=>rw [hb]at h;simp at h
  |cons a l=>rw [hb]at h;simp at h;simp [h]
 constructor
 ·rintro⟨⟨hd,h0,hh⟩,hne⟩
  refine⟨hd,h0,?_⟩
  by_cases hx:(bN (bare s)).head?.getD 0=48
  ·right
   have h1:(bare s).size=1:=by
    rcases hh with h|h
    ·exact h
    ·exact absurd hx h
   refine⟨fun h45=>hne ?_,h1⟩
   rw [hneg h45]
   cases hb:bN (bare s)with
   |nil=>rw [hb]at hl;simp at hl;omega
   |cons a l =>
    rw [hb]at hl hx
    have:l=[]:=List.length_eq_zero_iff.1 (by simp at hl;omega)
    simp at hx
    rw [this,hx]
  ·exact .inl hx
 ·rintro⟨hd,h0,hh⟩
  refine⟨⟨hd,h0,?_⟩,fun e=>?_⟩
  ·rcases hh with h|h
   ·exact .inr h
   ·exact .inl h.2
  ·have h45:(bN s).head?=some 45:=by rw [e];rfl
   have:=hneg h45
   rw [e]at this
   have hb:bN (bare s)=[48]:=by injection this with _ h;exact h.symm
   rcases hh with h|h
   ·rw [hb]at h;simp at h
   ·exact h.1 h45
def RdRes (s:ByteArray) (e:Ending):Prop :=
 (isText s∧∃n' s',e=.returned (.tuple #[whole n' s',.int .i64 0])∧IsZ (textZ s) n' s')∨(¬isText s∧e=.returned (.tuple #[whole false eS,.int .i64 120]))
theorem ZcQ (w:World) :
    Calls Tryz.prog 100 #[.string eS] w fun e w'=>RdRes eS e∧w.grownBy w' none:=by
 have HF:Hid (¬isText eS):=(by show ¬isText eS;decide)
 go_enter Tryz.func100,Tryz.ntmps100
 go_wp2_with fail
 refine bodyPost_ret (Zm rfl _ _ w.heap.size _ _ _ _ rfl (heap_alloc_new _ _)) rfl ?_
 exact⟨.inr ⟨HF.out,rfl⟩,grow1 _ _⟩
theorem ZbV {b:Bool} {d:Nat} {z:Int} {s:ByteArray} (hz:z=if b then -(d:Int)else d) (hs:bN s=magN d):IsZ z (b && decide (d≠0)) s:=by
 subst hz
 cases b
 ·exact⟨by simp,by simpa using hs⟩
 ·refine⟨?_,by simpa using hs⟩
  rw [Bool.true_and,if_pos rfl]
  exact decide_eq_decide.2 (by omega)
theorem X1 (w:World) (x:Nat):D4 (w.alloc (.cells #[.int .u32 (x:Int)] 145)) (.slice (some ⟨w.heap.size,0,none⟩) 1 1) [x]:=by
 have h:BlkL (w.alloc (.cells #[.int .u32 (x:Int)] 145)) w.heap.size 145 enc4 (ints [x]):=heap_alloc_new _ _
 exact h.d4
def RrI (w wr:World) (t:List Nat) (v:Value) (i:Nat):Prop :=
 ∃L,i≤t.length∧(∀b∈t.take i,isDig b)∧D4 wr v L∧(∀x∈L,x<B32)∧L.length≤2*i∧nv B32 L=dec (t.take i)∧w.grownBy wr none
theorem Zc0 (s:ByteArray) (h9:s.size≤40000) (h0:s.size≠0) (h45:(bN s).head?=some 45) (w:World) :
    Calls Tryz.prog 100 #[.string s] w fun e w'=>RdRes s e∧w.grownBy w' none:=by
 have h9I:(s.size:Int)≤40000:=by omega
 have h1I:(1:Int)≤s.size:=by omega
 have hs0:s[0].toNat=45:=by
  have:=bN_at s 0 (by omega)
  rw [List.head?_eq_getElem?,this]at h45
  exact Option.some.inj h45
 have hs0I:((s[0].toNat:Nat):Int)=45:=by omega
 have hu:s.extract 1 s.size=bare s:=by unfold bare;rw [if_pos h45]
 have hus:(bare s).size≤40000:=Nat.le_trans (YT s) h9
 have HTI:=Ul s
 have hZ:textZ s=if true then -(dec (bN (bare s)):Int)else dec (bN (bare s)):=by unfold textZ;rw [if_pos h45];rfl
 have HF:Hid (¬isText s→RdRes s (.returned (.tuple #[whole false eS,.int .i64 120]))):=fun h=>.inr ⟨h,rfl⟩
 have HT:Hid (isText s→∀s',bN s'=magN (dec (bN (bare s)))→RdRes s (.returned (.tuple #[whole (true && decide (dec (bN (bare s))≠0)) s',.int .i64 0]))):=fun h s' hs'=>.inl ⟨h,_,s',rfl,ZbV hZ hs'⟩
 have h45':((bN s).head?≠some 45)=(true=false):=by simp [h45]
 rw [h45']at HTI
 generalize RdRes s=R at *
 generalize isText s=tx at *
 clear hZ h45'
 generalize bare s=u at *
 have hubl:=Ze u
 by_cases hu0:u.size=0
 ·obtain rfl:=Zi hu0
  have hno:¬tx:=fun h=>(HTI.1 h).2.1 rfl
  have HFF:=HF.out hno
  have HF2:Hid (R (.returned (.tuple #[whole false eS,.int .i64 120]))):=HFF
  clear HFF HTI HT HF
  go_enter Tryz.func100,Tryz.ntmps100
  go_wp2_with fail
  refine bodyPost_ret (Zm rfl _ _ w.heap.size _ _ _ _ rfl (heap_alloc_new _ _)) rfl ?_
  exact⟨HF2.out,grow1 _ _⟩
 ·have he:=Zu hu0
  have hml:¬u.toList=[]:=by rw [←List.isEmpty_iff,he];simp
  have hup:0<u.size:=by omega
  have hhd:=Yl u hup
  have huI:(u.size:Int)≤40000:=by omega
  rw [hhd]at HTI
  by_cases hu48:u[0].toNat=48
  ·have hno:¬tx:=fun h=>by
     rcases(HTI.1 h).2.2 with h|h
     ·exact h hu48
     ·simp at h
   have HFF:=HF.out hno
   have HF2:Hid (R (.returned (.tuple #[whole false eS,.int .i64 120]))):=HFF
   have hu48I:((u[0].toNat:Nat):Int)=48:=by omega
   clear HFF HTI HT HF
   go_enter Tryz.func100,Tryz.ntmps100
   go_wp2_with fail
   refine bodyPost_ret (Zm rfl _ _ w.heap.size _ _ _ _ rfl (heap_alloc_new _ _)) rfl ?_
   exact⟨HF2.out,grow1 _ _⟩
  have hu48I:¬((u[0].toNat:Nat):Int)=48:=by omega
  have hu48b:(((u[0].toNat:Nat):Int) == 48)=false:=by rw [beq_eq_false_iff_ne];exact hu48I
  have HDG:Hid ((∀b∈bN u,isDig b)→tx):=fun h=>HTI.2 ⟨h,hu0,.inl hu48⟩
  have HND:Hid (∀b∈bN u,¬isDig b→¬tx):=fun b hb hn h=>hn ((HTI.1 h).1 b hb)
  clear HTI hhd
  go_enter Tryz.func100,Tryz.ntmps100
  go_wp2_with fail
  go_loopw [6,7] (fun l t wr=>(∃a m c,l=.slice a m c)∧∃i:Nat,t=.int .i64 i∧RrI (w.alloc (wObj false eS)) wr (bN u) l i) (fun _ t _=>u.size-(RowKit.intOf t).toNat)
  case atStart=>exact⟨⟨_,_,_,rfl⟩,0,rfl,[],by omega,by simp,.inl ⟨rfl,rfl⟩,by simp,by simp,by simp [nv,dec],World.grownBy.refl _ _⟩
  case round =>
   obtain⟨⟨la,lm,lc,rfl⟩,i,rfl,hI⟩:=hrel
   have HI:Hid (RrI (w.alloc (wObj false eS)) wr (bN u) (.slice la lm lc) i):=hI
   obtain⟨L,hi,hd,hD,rL,lL,vL,hg⟩:=hI
   rw [hubl]at hi
   by_cases hie:i<u.size
   ·have hieI:(i:Int)<u.size:=by omega
    have HDd:Hid (∀b∈(bN u).take i,isDig b):=hd
    have HLL:Hid (D4 wr (.slice la lm lc) L∧(∀x∈L,x<B32)∧L.length≤2*i∧nv B32 L=dec ((bN u).take i)∧(w.alloc (wObj false eS)).grownBy wr none):=⟨hD,rL,lL,vL,hg⟩
    clear hd hD rL lL vL hg
    generalize wr=wo at *
    go_wp2_with fail
    go_loopw [7,8,9,10] (fun p q r t wz=>∃k:Nat,p=.int .i64 ((i+k:Nat):Int)∧q=.int .u64 ((10 ^ k:Nat):Int)∧r=.int .u64 ((dec (((bN u).drop i).take k):Nat):Int)∧t=.int .i64 k∧k≤9∧i+k≤u.size∧(∀b∈(bN u).take (i+k),isDig b)∧wz=wo) (fun _ _ _ t _=>9-(RowKit.intOf t).toNat)
    case atStart=>exact⟨0,rfl,rfl,rfl,rfl,by omega,by omega,HDd.out,rfl⟩
    case round =>
     obtain⟨k,rfl,rfl,rfl,rfl,hk9,hiu,hdk,hwz⟩:=hrel
     subst hwz
     have HDk:Hid (∀b∈(bN u).take (i+k),isDig b):=hdk
     have htk:((bN u).drop i).take k=((bN u).take (i+k)).drop i:=by rw [List.take_drop]
     have hdg:∀b∈((bN u).drop i).take k,isDig b:=fun b hb=>hdk b (by rw [htk]at hb;exact List.mem_of_mem_drop hb)
     have hdl:=Xh _ hdg
     have hlk:(((bN u).drop i).take k).length=k:=by rw [List.length_take,List.length_drop,hubl];omega
     rw [hlk]at hdl
     have hpk:10 ^ k≤10 ^ 9:=Nat.pow_le_pow_right (by decide) hk9
     have e9:10 ^ 9=1000000000:=by decide
     have hdec:dec ((bN u).take (i+k))=dec ((bN u).take i)*10 ^ k+dec (((bN u).drop i).take k):=by rw [List.take_add,Z8,hlk]
     have HDEC:Hid (dec ((bN u).take (i+k))=dec ((bN u).take i)*10 ^ k+dec (((bN u).drop i).take k)):=hdec
     by_cases hgo:k<9∧i+k<u.size
     ·have hb:=bN_at u (i+k) hgo.2
      have hsn:dec (((bN u).drop i).take (k+1))=dec (((bN u).drop i).take k)*10+(u[i+k].toNat-48):=by
       have:((bN u).drop i)[k]?=some u[i+k].toNat:=by rw [List.getElem?_drop,hb]
       rw [Zw this,YK]
      have HSN:Hid (dec (((bN u).drop i).take (k+1))=dec (((bN u).drop i).take k)*10+(u[i+k].toNat-48)):=hsn
      have HB:Hid ((bN u)[i+k]?=some u[i+k].toNat):=hb
      have hp2:10 ^ (k+1)=10 ^ k*10:=Nat.pow_succ 10 k
      have hk8:(k:Int)≤8:=by omega
      have hiuI:((i+k:Nat):Int)<u.size:=by omega
      clear hb hsn hdk hdg htk hdec
      generalize dec (((bN u).drop i).take k)=X at *
      generalize 10 ^ k=T at *
      have hTI:(T:Int)≤1000000000:=by omega
      have hXI:(X:Int)≤999999999:=by omega
      by_cases hc1:u[i+k].toNat<48
      ·have hno:¬tx:=HND.out u[i+k].toNat (by rw [List.mem_iff_getElem?];exact⟨_,HB.out⟩) (by unfold isDig;omega)
       have HF2:Hid (R (.returned (.tuple #[whole false eS,.int .i64 120]))):=HF.out hno
       have hc1I:((u[i+k].toNat:Nat):Int)≤47:=by omega
       have hGG:=HLL.out.2.2.2.2
       have hb2:WBlk wr w.heap.size (.bool false) (.string eS):=WBlk.kept (w:=w.alloc (wObj false eS)) (heap_alloc_new _ _) hGG (by simp)
       have hc0:=hb2.c0
       have hcc1:=hb2.c1
       have hf0:=hb2.fr 0
       have hf1:=hb2.fr 1
       have HGG:Hid ((w.alloc (wObj false eS)).grownBy wr none):=hGG
       clear hGG
       go_wp2_with fail
       refine bodyPost_ret (Zm rfl _ _ w.heap.size _ _ _ _ rfl (hb2.put _ _)) rfl ?_
       exact⟨HF2.out,Zb (Zb (Za (grow1 _ _) HGG.out) (Nat.le_refl _)) (Nat.le_refl _)⟩
      ·have hc1I:(48:Int)≤((u[i+k].toNat:Nat):Int):=by omega
       by_cases hc2:57<u[i+k].toNat
       ·have hno:¬tx:=HND.out u[i+k].toNat (by rw [List.mem_iff_getElem?];exact⟨_,HB.out⟩) (by unfold isDig;omega)
        have HF2:Hid (R (.returned (.tuple #[whole false eS,.int .i64 120]))):=HF.out hno
        have hc2I:(58:Int)≤((u[i+k].toNat:Nat):Int):=by omega
        have hGG:=HLL.out.2.2.2.2
        have hb2:WBlk wr w.heap.size (.bool false) (.string eS):=WBlk.kept (w:=w.alloc (wObj false eS)) (heap_alloc_new _ _) hGG (by simp)
        have hc0:=hb2.c0
        have hcc1:=hb2.c1
        have hf0:=hb2.fr 0
        have hf1:=hb2.fr 1
        have HGG:Hid ((w.alloc (wObj false eS)).grownBy wr none):=hGG
        clear hGG
        go_wp2_with fail
        refine bodyPost_ret (Zm rfl _ _ w.heap.size _ _ _ _ rfl (hb2.put _ _)) rfl ?_
        exact⟨HF2.out,Zb (Zb (Za (grow1 _ _) HGG.out) (Nat.le_refl _)) (Nat.le_refl _)⟩
       ·have hc2I:((u[i+k].toNat:Nat):Int)≤57:=by omega
        go_wp2_with fail
        go_roundw
        case rel =>
         refine⟨k+1,Zl (by omega),Zl (by rw [hp2];omega),Zl (by rw [HSN.out];omega),rfl,by omega,by omega,fun b hb=>?_,trivial⟩
         rw [←Nat.add_assoc,Zw HB.out]at hb
         rcases List.mem_append.1 hb with h|h
         ·exact HDk.out b h
         ·simp at h;subst h;unfold isDig;omega
        case measure=>simp [RowKit.intOf];omega
     ·have hend:k=9∨i+k=u.size:=by omega
      have hk1:1≤k:=by omega
      clear hdg htk hlk hdec hdk
      generalize dec (((bN u).drop i).take k)=X at *
      generalize hTT:10 ^ k=T at *
      have hT0:0<T:=by rw [←hTT];exact Nat.pow_pos (by decide)
      have hTI:(T:Int)≤1000000000:=by omega
      have hXI:(X:Int)≤999999999:=by omega
      have hwT:IntKind.u32.wrap (T:Int)=(T:Int):=by rw [IntKind.wrap_u32];omega
      have hwX:IntKind.u32.wrap (X:Int)=(X:Int):=by rw [IntKind.wrap_u32];omega
      clear hTT
      have HPR:Hid (Calls Tryz.prog 129 #[.slice la lm lc,.slice (some ⟨wr.heap.size,0,none⟩) 1 1] (wr.alloc (.cells #[.int .u32 (T:Int)] 145)) fun e w'=>∃v K,e=.returned v∧D4 w' v K∧(∀x∈K,x<B32)∧nv B32 K=nv B32 L*nv B32 [T]∧K.length≤L.length+[T].length∧Trim K∧(wr.alloc (.cells #[.int .u32 (T:Int)] 145)).grownBy w' none):=YP _ _ _ L [T] (HLL.out.1.kept (grow1 _ _)) (X1 wr T) HLL.out.2.1 (by intro x hx;simp at hx;subst hx;simp only [B32];omega) (by have:=HLL.out.2.2.1;omega) (by simp)
      by_cases hk9':k<9
      ·have hik:i+k=u.size:=by omega
       have hikI:((i+k:Nat):Int)=u.size:=by omega
       have hk8:(k:Int)≤8:=by omega
       go_wp2_with fail
       refine HPR.out.mono ?_
       rintro e w2 ⟨v2,K,rfl,dK,rK,vK,lK,tK,g2⟩
       obtain⟨a2,c2,hv2⟩:=dK.slice
       have hcut:=Z2 _ _ [X] (X1 w2 X) (by intro x hx;simp at hx;subst hx;simp only [B32];omega) (by simp)
       have HCU:Hid (Calls Tryz.prog 130 #[.slice (some ⟨w2.heap.size,0,none⟩) 1 1] (w2.alloc (.cells #[.int .u32 (X:Int)] 145)) fun e w'=>∃v' k,e=.returned v'∧k≤1∧D4 (w2.alloc (.cells #[.int .u32 (X:Int)] 145)) v' ([X].take k)∧nv B32 ([X].take k)=nv B32 [X]∧(k=0∨([X].take k)[k-1]?.getD 0≠0)∧w'=w2.alloc (.cells #[.int .u32 (X:Int)] 145)):=hcut
       have HK:Hid (D4 w2 v2 K∧(∀x∈K,x<B32)∧nv B32 K=nv B32 L*nv B32 [T]∧K.length≤L.length+[T].length∧(wr.alloc (.cells #[.int .u32 (T:Int)] 145)).grownBy w2 none):=⟨dK,rK,vK,lK,g2⟩
       have hKsz:K.length≤100000:=by have:=HLL.out.2.2.1;simp at lK;omega
       generalize K.length=km at hv2
       subst hv2
       clear dK rK vK lK tK g2 hcut HPR
       go_wp2_with fail
       refine HCU.out.mono ?_
       rintro e w3 ⟨v3,k3,rfl,hk3,dX,vX,_,hw3⟩
       subst hw3
       obtain⟨a3,c3,hv3⟩:=dX.slice
       have hmo:=XG _ _ v3 K _ (HK.out.1.kept (grow1 _ _)) dX HK.out.2.1 (by intro x hx;have:=List.mem_of_mem_take hx;simp at this;subst this;simp only [B32];omega) (by omega) (by simp;omega)
       have HMO:Hid (Calls Tryz.prog 128 #[.slice a2 km c2,v3] (w2.alloc (.cells #[.int .u32 (X:Int)] 145)) fun e w'=>∃v' M,e=.returned v'∧(∃a m c,v'=.slice a m c)∧RrI (w.alloc (wObj false eS)) w' (bN u) v' (i+k)):=(by
        refine hmo.mono ?_
        rintro e w4 ⟨v4,M,rfl,dM,rM,vM,lM,_,g4⟩
        obtain⟨a4,c4,hv4⟩:=dM.slice
        obtain⟨b1,b2,b3,b4,b5⟩:=HLL.out
        obtain⟨d1,d2,d3,d4,d5⟩:=HK.out
        refine⟨v4,M,rfl,⟨_,_,_,hv4⟩,M,by rw [hubl];exact hiu,HDk.out,dM,rM,?_,?_,Za (Za b5 (Za (grow1 _ _) d5)) (Za (grow1 _ _) g4)⟩
        ·have:([X].take k3).length≤1:=by simp;omega
         simp at d4
         omega
        ·rw [vM,vX,d3,HDEC.out,b4]
         simp [nv])
       generalize([X].take k3).length=xm at hv3
       subst hv3
       clear hmo dX vX HCU HK
       go_wp2_with fail
       refine HMO.out.mono ?_
       rintro e w4 ⟨v4,M,rfl,⟨a4,m4,c4,rfl⟩,hI4⟩
       have HI4:Hid (RrI (w.alloc (wObj false eS)) w4 (bN u) (.slice a4 m4 c4) (i+k)):=hI4
       clear hI4 HMO
       go_wp2_with fail
       go_roundw
       case rel=>exact⟨⟨_,_,_,rfl⟩,i+k,Zl (by omega),HI4.out⟩
       case measure=>simp [RowKit.intOf];omega
      ·obtain rfl:k=9:=by omega
       have hiuI:((i+9:Nat):Int)≤u.size:=by omega
       go_wp2_with fail
       refine HPR.out.mono ?_
       rintro e w2 ⟨v2,K,rfl,dK,rK,vK,lK,tK,g2⟩
       obtain⟨a2,c2,hv2⟩:=dK.slice
       have hcut:=Z2 _ _ [X] (X1 w2 X) (by intro x hx;simp at hx;subst hx;simp only [B32];omega) (by simp)
       have HCU:Hid (Calls Tryz.prog 130 #[.slice (some ⟨w2.heap.size,0,none⟩) 1 1] (w2.alloc (.cells #[.int .u32 (X:Int)] 145)) fun e w'=>∃v' k,e=.returned v'∧k≤1∧D4 (w2.alloc (.cells #[.int .u32 (X:Int)] 145)) v' ([X].take k)∧nv B32 ([X].take k)=nv B32 [X]∧(k=0∨([X].take k)[k-1]?.getD 0≠0)∧w'=w2.alloc (.cells #[.int .u32 (X:Int)] 145)):=hcut
       have HK:Hid (D4 w2 v2 K∧(∀x∈K,x<B32)∧nv B32 K=nv B32 L*nv B32 [T]∧K.length≤L.length+[T].length∧(wr.alloc (.cells #[.int .u32 (T:Int)] 145)).grownBy w2 none):=⟨dK,rK,vK,lK,g2⟩
       have hKsz:K.length≤100000:=by have:=HLL.out.2.2.1;simp at lK;omega
       generalize K.length=km at hv2
       subst hv2
       clear dK rK vK lK tK g2 hcut HPR
       go_wp2_with fail
       refine HCU.out.mono ?_
       rintro e w3 ⟨v3,k3,rfl,hk3,dX,vX,_,hw3⟩
       subst hw3
       obtain⟨a3,c3,hv3⟩:=dX.slice
       have hmo:=XG _ _ v3 K _ (HK.out.1.kept (grow1 _ _)) dX HK.out.2.1 (by intro x hx;have:=List.mem_of_mem_take hx;simp at this;subst this;simp only [B32];omega) (by omega) (by simp;omega)
       have HMO:Hid (Calls Tryz.prog 128 #[.slice a2 km c2,v3] (w2.alloc (.cells #[.int .u32 (X:Int)] 145)) fun e w'=>∃v' M,e=.returned v'∧(∃a m c,v'=.slice a m c)∧RrI (w.alloc (wObj false eS)) w' (bN u) v' (i+9)):=(by
        refine hmo.mono ?_
        rintro e w4 ⟨v4,M,rfl,dM,rM,vM,lM,_,g4⟩
        obtain⟨a4,c4,hv4⟩:=dM.slice
        obtain⟨b1,b2,b3,b4,b5⟩:=HLL.out
        obtain⟨d1,d2,d3,d4,d5⟩:=HK.out
        refine⟨v4,M,rfl,⟨_,_,_,hv4⟩,M,by rw [hubl];exact hiu,HDk.out,dM,rM,?_,?_,Za (Za b5 (Za (grow1 _ _) d5)) (Za (grow1 _ _) g4)⟩
        ·have:([X].take k3).length≤1:=by simp;omega
         simp at d4
         omega
        ·rw [vM,vX,d3,HDEC.out,b4]
         simp [nv])
       generalize([X].take k3).length=xm at hv3
       subst hv3
       clear hmo dX vX HCU HK
       go_wp2_with fail
       refine HMO.out.mono ?_
       rintro e w4 ⟨v4,M,rfl,⟨a4,m4,c4,rfl⟩,hI4⟩
       have HI4:Hid (RrI (w.alloc (wObj false eS)) w4 (bN u) (.slice a4 m4 c4) (i+9)):=hI4
       clear hI4 HMO
       go_wp2_with fail
       go_roundw
       case rel=>exact⟨⟨_,_,_,rfl⟩,i+9,Zl (by omega),HI4.out⟩
       case measure=>simp [RowKit.intOf];omega
   ·obtain rfl:i=u.size:=by omega
    rw [List.take_of_length_le (by omega)]at hd vL
    have htx:tx:=HDG.out hd
    have hM:=Xd true wr _ L hD rL (by omega)
    rw [vL]at hM
    have HM:Hid (Calls Tryz.prog 110 #[.bool true,.slice la lm lc] wr fun e w'=>∃s,e=.returned (whole (true && decide (dec (bN u)≠0)) s)∧bN s=magN (dec (bN u))∧wr.grownBy w' none):=hM
    have HTT:Hid (∀s',bN s'=magN (dec (bN u))→R (.returned (.tuple #[whole (true && decide (dec (bN u)≠0)) s',.int .i64 0]))):=HT.out htx
    have HGG:Hid ((w.alloc (wObj false eS)).grownBy wr none):=hg
    clear hM hd vL hD rL lL hg htx
    generalize(true && decide (dec (bN u)≠0))=nn at *
    go_wp2_with fail
    refine HM.out.mono ?_
    rintro e w2 ⟨s',rfl,hs',g2⟩
    have HRR:Hid (R (.returned (.tuple #[whole nn s',.int .i64 0]))):=HTT.out s' hs'
    have HG2:Hid ((w.alloc (wObj false eS)).grownBy w2 none):=Za HGG.out g2
    have hb2:WBlk w2 w.heap.size (.bool false) (.string eS):=WBlk.kept (w:=w.alloc (wObj false eS)) (heap_alloc_new _ _) HG2.out (by simp)
    have hc0:=hb2.c0
    have hcc1:=hb2.c1
    have hf0:=hb2.fr 0
    have hf1:=hb2.fr 1
    clear hs' g2 HM HTT
    go_wp2_with fail
    refine bodyPost_ret (Zm rfl _ _ w.heap.size _ _ _ _ rfl (hb2.put _ _)) rfl ?_
    exact⟨HRR.out,Zb (Zb (Za (grow1 _ _) HG2.out) (Nat.le_refl _)) (Nat.le_refl _)⟩
theorem ZeC (s:ByteArray) (h9:s.size≤40000) (h0:s.size≠0) (h45:¬(bN s).head?=some 45) (w:World) :
    Calls Tryz.prog 100 #[.string s] w fun e w'=>RdRes s e∧w.grownBy w' none:=by
 have h9I:(s.size:Int)≤40000:=by omega
 have h1I:(1:Int)≤s.size:=by omega
 have hs0:¬s[0].toNat=45:=by
  intro e
  apply h45
  rw [List.head?_eq_getElem?,bN_at s 0 (by omega),e]
 have hs0I:(((s[0].toNat:Nat):Int) == 45)=false:=by rw [beq_eq_false_iff_ne];omega
 have hu:bare s=s:=by unfold bare;rw [if_neg h45]
 have hus:(bare s).size≤40000:=Nat.le_trans (YT s) h9
 have HTI:=Ul s
 have hZ:textZ s=if false then -(dec (bN (bare s)):Int)else dec (bN (bare s)):=by unfold textZ;rw [if_neg h45];rfl
 have HF:Hid (¬isText s→RdRes s (.returned (.tuple #[whole false eS,.int .i64 120]))):=fun h=>.inr ⟨h,rfl⟩
 have HT:Hid (isText s→∀s',bN s'=magN (dec (bN (bare s)))→RdRes s (.returned (.tuple #[whole (false && decide (dec (bN (bare s))≠0)) s',.int .i64 0]))):=fun h s' hs'=>.inl ⟨h,_,s',rfl,ZbV hZ hs'⟩
 have h45':((bN s).head?≠some 45)=(false=false):=by simp [h45]
 rw [h45']at HTI
 generalize RdRes s=R at *
 generalize isText s=tx at *
 clear hZ h45'
 rw [hu]at HTI HT
 clear hu hus
 generalize s=u at *
 have hubl:=Ze u
 by_cases hu0:u.size=0
 ·exact absurd hu0 h0
 ·have he:=Zu hu0
  have hml:¬u.toList=[]:=by rw [←List.isEmpty_iff,he];simp
  have hup:0<u.size:=by omega
  have hhd:=Yl u hup
  have huI:(u.size:Int)≤40000:=by omega
  rw [hhd]at HTI
  by_cases hu48:u[0].toNat=48
  ·have hu48I:((u[0].toNat:Nat):Int)=48:=by omega
   by_cases hsz1:u.size=1
   ·have hsz1I:((u.size:Nat):Int)≤1:=by omega
    have HDG:Hid ((∀b∈bN u,isDig b)→tx):=fun h=>HTI.2 ⟨h,hu0,.inr ⟨rfl,hsz1⟩⟩
    have HND:Hid (∀b∈bN u,¬isDig b→¬tx):=fun b hb hn h=>hn ((HTI.1 h).1 b hb)
    clear HTI hhd hsz1
    go_enter Tryz.func100,Tryz.ntmps100
    go_wp2_with fail
    go_loopw [6,7] (fun l t wr=>(∃a m c,l=.slice a m c)∧∃i:Nat,t=.int .i64 i∧RrI (w.alloc (wObj false eS)) wr (bN u) l i) (fun _ t _=>u.size-(RowKit.intOf t).toNat)
    case atStart=>exact⟨⟨_,_,_,rfl⟩,0,rfl,[],by omega,by simp,.inl ⟨rfl,rfl⟩,by simp,by simp,by simp [nv,dec],World.grownBy.refl _ _⟩
    case round =>
     obtain⟨⟨la,lm,lc,rfl⟩,i,rfl,hI⟩:=hrel
     have HI:Hid (RrI (w.alloc (wObj false eS)) wr (bN u) (.slice la lm lc) i):=hI
     obtain⟨L,hi,hd,hD,rL,lL,vL,hg⟩:=hI
     rw [hubl]at hi
     by_cases hie:i<u.size
     ·have hieI:(i:Int)<u.size:=by omega
      have HDd:Hid (∀b∈(bN u).take i,isDig b):=hd
      have HLL:Hid (D4 wr (.slice la lm lc) L∧(∀x∈L,x<B32)∧L.length≤2*i∧nv B32 L=dec ((bN u).take i)∧(w.alloc (wObj false eS)).grownBy wr none):=⟨hD,rL,lL,vL,hg⟩
      clear hd hD rL lL vL hg
      generalize wr=wo at *
      go_wp2_with fail
      go_loopw [7,8,9,10] (fun p q r t wz=>∃k:Nat,p=.int .i64 ((i+k:Nat):Int)∧q=.int .u64 ((10 ^ k:Nat):Int)∧r=.int .u64 ((dec (((bN u).drop i).take k):Nat):Int)∧t=.int .i64 k∧k≤9∧i+k≤u.size∧(∀b∈(bN u).take (i+k),isDig b)∧wz=wo) (fun _ _ _ t _=>9-(RowKit.intOf t).toNat)
      case atStart=>exact⟨0,rfl,rfl,rfl,rfl,by omega,by omega,HDd.out,rfl⟩
      case round =>
       obtain⟨k,rfl,rfl,rfl,rfl,hk9,hiu,hdk,hwz⟩:=hrel
       subst hwz
       have HDk:Hid (∀b∈(bN u).take (i+k),isDig b):=hdk
       have htk:((bN u).drop i).take k=((bN u).take (i+k)).drop i:=by rw [List.take_drop]
       have hdg:∀b∈((bN u).drop i).take k,isDig b:=fun b hb=>hdk b (by rw [htk]at hb;exact List.mem_of_mem_drop hb)
       have hdl:=Xh _ hdg
       have hlk:(((bN u).drop i).take k).length=k:=by rw [List.length_take,List.length_drop,hubl];omega
       rw [hlk]at hdl
       have hpk:10 ^ k≤10 ^ 9:=Nat.pow_le_pow_right (by decide) hk9
       have e9:10 ^ 9=1000000000:=by decide
       have hdec:dec ((bN u).take (i+k))=dec ((bN u).take i)*10 ^ k+dec (((bN u).drop i).take k):=by rw [List.take_add,Z8,hlk]
       have HDEC:Hid (dec ((bN u).take (i+k))=dec ((bN u).take i)*10 ^ k+dec (((bN u).drop i).take k)):=hdec
       by_cases hgo:k<9∧i+k<u.size
       ·have hb:=bN_at u (i+k) hgo.2
        have hsn:dec (((bN u).drop i).take (k+1))=dec (((bN u).drop i).take k)*10+(u[i+k].toNat-48):=by
         have:((bN u).drop i)[k]?=some u[i+k].toNat:=by rw [List.getElem?_drop,hb]
         rw [Zw this,YK]
        have HSN:Hid (dec (((bN u).drop i).take (k+1))=dec (((bN u).drop i).take k)*10+(u[i+k].toNat-48)):=hsn
        have HB:Hid ((bN u)[i+k]?=some u[i+k].toNat):=hb
        have hp2:10 ^ (k+1)=10 ^ k*10:=Nat.pow_succ 10 k
        have hk8:(k:Int)≤8:=by omega
        have hiuI:((i+k:Nat):Int)<u.size:=by omega
        clear hb hsn hdk hdg htk hdec
        generalize dec (((bN u).drop i).take k)=X at *
        generalize 10 ^ k=T at *
        have hTI:(T:Int)≤1000000000:=by omega
        have hXI:(X:Int)≤999999999:=by omega
        by_cases hc1:u[i+k].toNat<48
        ·have hno:¬tx:=HND.out u[i+k].toNat (by rw [List.mem_iff_getElem?];exact⟨_,HB.out⟩) (by unfold isDig;omega)
         have HF2:Hid (R (.returned (.tuple #[whole false eS,.int .i64 120]))):=HF.out hno
         have hc1I:((u[i+k].toNat:Nat):Int)≤47:=by omega
         have hGG:=HLL.out.2.2.2.2
         have hb2:WBlk wr w.heap.size (.bool false) (.string eS):=WBlk.kept (w:=w.alloc (wObj false eS)) (heap_alloc_new _ _) hGG (by simp)
         have hc0:=hb2.c0
         have hcc1:=hb2.c1
         have hf0:=hb2.fr 0
         have hf1:=hb2.fr 1
         have HGG:Hid ((w.alloc (wObj false eS)).grownBy wr none):=hGG
         clear hGG
         go_wp2_with fail
         refine bodyPost_ret (Zm rfl _ _ w.heap.size _ _ _ _ rfl (hb2.put _ _)) rfl ?_
         exact⟨HF2.out,Zb (Zb (Za (grow1 _ _) HGG.out) (Nat.le_refl _)) (Nat.le_refl _)⟩
        ·have hc1I:(48:Int)≤((u[i+k].toNat:Nat):Int):=by omega
         by_cases hc2:57<u[i+k].toNat
         ·have hno:¬tx:=HND.out u[i+k].toNat (by rw [List.mem_iff_getElem?];exact⟨_,HB.out⟩) (by unfold isDig;omega)
          have HF2:Hid (R (.returned (.tuple #[whole false eS,.int .i64 120]))):=HF.out hno
          have hc2I:(58:Int)≤((u[i+k].toNat:Nat):Int):=by omega
          have hGG:=HLL.out.2.2.2.2
          have hb2:WBlk wr w.heap.size (.bool false) (.string eS):=WBlk.kept (w:=w.alloc (wObj false eS)) (heap_alloc_new _ _) hGG (by simp)
          have hc0:=hb2.c0
          have hcc1:=hb2.c1
          have hf0:=hb2.fr 0
          have hf1:=hb2.fr 1
          have HGG:Hid ((w.alloc (wObj false eS)).grownBy wr none):=hGG
          clear hGG
          go_wp2_with fail
          refine bodyPost_ret (Zm rfl _ _ w.heap.size _ _ _ _ rfl (hb2.put _ _)) rfl ?_
          exact⟨HF2.out,Zb (Zb (Za (grow1 _ _) HGG.out) (Nat.le_refl _)) (Nat.le_refl _)⟩
         ·have hc2I:((u[i+k].toNat:Nat):Int)≤57:=by omega
          go_wp2_with fail
          go_roundw
          case rel =>
           refine⟨k+1,Zl (by omega),Zl (by rw [hp2];omega),Zl (by rw [HSN.out];omega),rfl,by omega,by omega,fun b hb=>?_,trivial⟩
           rw [←Nat.add_assoc,Zw HB.out]at hb
           rcases List.mem_append.1 hb with h|h
           ·exact HDk.out b h
           ·simp at h;subst h;unfold isDig;omega
          case measure=>simp [RowKit.intOf];omega
       ·have hend:k=9∨i+k=u.size:=by omega
        have hk1:1≤k:=by omega
        clear hdg htk hlk hdec hdk
        generalize dec (((bN u).drop i).take k)=X at *
        generalize hTT:10 ^ k=T at *
        have hT0:0<T:=by rw [←hTT];exact Nat.pow_pos (by decide)
        have hTI:(T:Int)≤1000000000:=by omega
        have hXI:(X:Int)≤999999999:=by omega
        have hwT:IntKind.u32.wrap (T:Int)=(T:Int):=by rw [IntKind.wrap_u32];omega
        have hwX:IntKind.u32.wrap (X:Int)=(X:Int):=by rw [IntKind.wrap_u32];omega
        clear hTT
        have HPR:Hid (Calls Tryz.prog 129 #[.slice la lm lc,.slice (some ⟨wr.heap.size,0,none⟩) 1 1] (wr.alloc (.cells #[.int .u32 (T:Int)] 145)) fun e w'=>∃v K,e=.returned v∧D4 w' v K∧(∀x∈K,x<B32)∧nv B32 K=nv B32 L*nv B32 [T]∧K.length≤L.length+[T].length∧Trim K∧(wr.alloc (.cells #[.int .u32 (T:Int)] 145)).grownBy w' none):=YP _ _ _ L [T] (HLL.out.1.kept (grow1 _ _)) (X1 wr T) HLL.out.2.1 (by intro x hx;simp at hx;subst hx;simp only [B32];omega) (by have:=HLL.out.2.2.1;omega) (by simp)
        by_cases hk9':k<9
        ·have hik:i+k=u.size:=by omega
         have hikI:((i+k:Nat):Int)=u.size:=by omega
         have hk8:(k:Int)≤8:=by omega
         go_wp2_with fail
         refine HPR.out.mono ?_
         rintro e w2 ⟨v2,K,rfl,dK,rK,vK,lK,tK,g2⟩
         obtain⟨a2,c2,hv2⟩:=dK.slice
         have hcut:=Z2 _ _ [X] (X1 w2 X) (by intro x hx;simp at hx;subst hx;simp only [B32];omega) (by simp)
         have HCU:Hid (Calls Tryz.prog 130 #[.slice (some ⟨w2.heap.size,0,none⟩) 1 1] (w2.alloc (.cells #[.int .u32 (X:Int)] 145)) fun e w'=>∃v' k,e=.returned v'∧k≤1∧D4 (w2.alloc (.cells #[.int .u32 (X:Int)] 145)) v' ([X].take k)∧nv B32 ([X].take k)=nv B32 [X]∧(k=0∨([X].take k)[k-1]?.getD 0≠0)∧w'=w2.alloc (.cells #[.int .u32 (X:Int)] 145)):=hcut
         have HK:Hid (D4 w2 v2 K∧(∀x∈K,x<B32)∧nv B32 K=nv B32 L*nv B32 [T]∧K.length≤L.length+[T].length∧(wr.alloc (.cells #[.int .u32 (T:Int)] 145)).grownBy w2 none):=⟨dK,rK,vK,lK,g2⟩
         have hKsz:K.length≤100000:=by have:=HLL.out.2.2.1;simp at lK;omega
         generalize K.length=km at hv2
         subst hv2
         clear dK rK vK lK tK g2 hcut HPR
         go_wp2_with fail
         refine HCU.out.mono ?_
         rintro e w3 ⟨v3,k3,rfl,hk3,dX,vX,_,hw3⟩
         subst hw3
         obtain⟨a3,c3,hv3⟩:=dX.slice
         have hmo:=XG _ _ v3 K _ (HK.out.1.kept (grow1 _ _)) dX HK.out.2.1 (by intro x hx;have:=List.mem_of_mem_take hx;simp at this;subst this;simp only [B32];omega) (by omega) (by simp;omega)
         have HMO:Hid (Calls Tryz.prog 128 #[.slice a2 km c2,v3] (w2.alloc (.cells #[.int .u32 (X:Int)] 145)) fun e w'=>∃v' M,e=.returned v'∧(∃a m c,v'=.slice a m c)∧RrI (w.alloc (wObj false eS)) w' (bN u) v' (i+k)):=(by
          refine hmo.mono ?_
          rintro e w4 ⟨v4,M,rfl,dM,rM,vM,lM,_,g4⟩
          obtain⟨a4,c4,hv4⟩:=dM.slice
          obtain⟨b1,b2,b3,b4,b5⟩:=HLL.out
          obtain⟨d1,d2,d3,d4,d5⟩:=HK.out
          refine⟨v4,M,rfl,⟨_,_,_,hv4⟩,M,by rw [hubl];exact hiu,HDk.out,dM,rM,?_,?_,Za (Za b5 (Za (grow1 _ _) d5)) (Za (grow1 _ _) g4)⟩
          ·have:([X].take k3).length≤1:=by simp;omega
           simp at d4
           omega
          ·rw [vM,vX,d3,HDEC.out,b4]
           simp [nv])
         generalize([X].take k3).length=xm at hv3
         subst hv3
         clear hmo dX vX HCU HK
         go_wp2_with fail
         refine HMO.out.mono ?_
         rintro e w4 ⟨v4,M,rfl,⟨a4,m4,c4,rfl⟩,hI4⟩
         have HI4:Hid (RrI (w.alloc (wObj false eS)) w4 (bN u) (.slice a4 m4 c4) (i+k)):=hI4
         clear hI4 HMO
         go_wp2_with fail
         go_roundw
         case rel=>exact⟨⟨_,_,_,rfl⟩,i+k,Zl (by omega),HI4.out⟩
         case measure=>simp [RowKit.intOf];omega
        ·exfalso;omega
     ·obtain rfl:i=u.size:=by omega
      rw [List.take_of_length_le (by omega)]at hd vL
      have htx:tx:=HDG.out hd
      have hM:=Xd false wr _ L hD rL (by omega)
      rw [vL]at hM
      have HM:Hid (Calls Tryz.prog 110 #[.bool false,.slice la lm lc] wr fun e w'=>∃s,e=.returned (whole (false && decide (dec (bN u)≠0)) s)∧bN s=magN (dec (bN u))∧wr.grownBy w' none):=hM
      have HTT:Hid (∀s',bN s'=magN (dec (bN u))→R (.returned (.tuple #[whole (false && decide (dec (bN u)≠0)) s',.int .i64 0]))):=HT.out htx
      have HGG:Hid ((w.alloc (wObj false eS)).grownBy wr none):=hg
      clear hM hd vL hD rL lL hg htx
      generalize(false && decide (dec (bN u)≠0))=nn at *
      go_wp2_with fail
      refine HM.out.mono ?_
      rintro e w2 ⟨s',rfl,hs',g2⟩
      have HRR:Hid (R (.returned (.tuple #[whole nn s',.int .i64 0]))):=HTT.out s' hs'
      have HG2:Hid ((w.alloc (wObj false eS)).grownBy w2 none):=Za HGG.out g2
      have hb2:WBlk w2 w.heap.size (.bool false) (.string eS):=WBlk.kept (w:=w.alloc (wObj false eS)) (heap_alloc_new _ _) HG2.out (by simp)
      have hc0:=hb2.c0
      have hcc1:=hb2.c1
      have hf0:=hb2.fr 0
      have hf1:=hb2.fr 1
      clear hs' g2 HM HTT
      go_wp2_with fail
      refine bodyPost_ret (Zm rfl _ _ w.heap.size _ _ _ _ rfl (hb2.put _ _)) rfl ?_
      exact⟨HRR.out,Zb (Zb (Za (grow1 _ _) HG2.out) (Nat.le_refl _)) (Nat.le_refl _)⟩
   ·have hno:¬tx:=fun h=>by
      rcases(HTI.1 h).2.2 with h|h
      ·exact h hu48
      ·exact hsz1 h.2
    have HFF:=HF.out hno
    have HF2:Hid (R (.returned (.tuple #[whole false eS,.int .i64 120]))):=HFF
    have hsz1I:(2:Int)≤u.size:=by omega
    clear HFF HTI HT HF
    go_enter Tryz.func100,Tryz.ntmps100
    go_wp2_with fail
    refine bodyPost_ret (Zm rfl _ _ w.heap.size _ _ _ _ rfl (heap_alloc_new _ _)) rfl ?_
    exact⟨HF2.out,grow1 _ _⟩
  have hu48I:¬((u[0].toNat:Nat):Int)=48:=by omega
  have hu48b:(((u[0].toNat:Nat):Int) == 48)=false:=by rw [beq_eq_false_iff_ne];exact hu48I
  have HDG:Hid ((∀b∈bN u,isDig b)→tx):=fun h=>HTI.2 ⟨h,hu0,.inl hu48⟩
  have HND:Hid (∀b∈bN u,¬isDig b→¬tx):=fun b hb hn h=>hn ((HTI.1 h).1 b hb)
  clear HTI hhd
  go_enter Tryz.func100,Tryz.ntmps100
  go_wp2_with fail
  go_loopw [6,7] (fun l t wr=>(∃a m c,l=.slice a m c)∧∃i:Nat,t=.int .i64 i∧RrI (w.alloc (wObj false eS)) wr (bN u) l i) (fun _ t _=>u.size-(RowKit.intOf t).toNat)
  case atStart=>exact⟨⟨_,_,_,rfl⟩,0,rfl,[],by omega,by simp,.inl ⟨rfl,rfl⟩,by simp,by simp,by simp [nv,dec],World.grownBy.refl _ _⟩
  case round =>
   obtain⟨⟨la,lm,lc,rfl⟩,i,rfl,hI⟩:=hrel
   have HI:Hid (RrI (w.alloc (wObj false eS)) wr (bN u) (.slice la lm lc) i):=hI
   obtain⟨L,hi,hd,hD,rL,lL,vL,hg⟩:=hI
   rw [hubl]at hi
   by_cases hie:i<u.size
   ·have hieI:(i:Int)<u.size:=by omega
    have HDd:Hid (∀b∈(bN u).take i,isDig b):=hd
    have HLL:Hid (D4 wr (.slice la lm lc) L∧(∀x∈L,x<B32)∧L.length≤2*i∧nv B32 L=dec ((bN u).take i)∧(w.alloc (wObj false eS)).grownBy wr none):=⟨hD,rL,lL,vL,hg⟩
    clear hd hD rL lL vL hg
    generalize wr=wo at *
    go_wp2_with fail
    go_loopw [7,8,9,10] (fun p q r t wz=>∃k:Nat,p=.int .i64 ((i+k:Nat):Int)∧q=.int .u64 ((10 ^ k:Nat):Int)∧r=.int .u64 ((dec (((bN u).drop i).take k):Nat):Int)∧t=.int .i64 k∧k≤9∧i+k≤u.size∧(∀b∈(bN u).take (i+k),isDig b)∧wz=wo) (fun _ _ _ t _=>9-(RowKit.intOf t).toNat)
    case atStart=>exact⟨0,rfl,rfl,rfl,rfl,by omega,by omega,HDd.out,rfl⟩
    case round =>
     obtain⟨k,rfl,rfl,rfl,rfl,hk9,hiu,hdk,hwz⟩:=hrel
     subst hwz
     have HDk:Hid (∀b∈(bN u).take (i+k),isDig b):=hdk
     have htk:((bN u).drop i).take k=((bN u).take (i+k)).drop i:=by rw [List.take_drop]
     have hdg:∀b∈((bN u).drop i).take k,isDig b:=fun b hb=>hdk b (by rw [htk]at hb;exact List.mem_of_mem_drop hb)
     have hdl:=Xh _ hdg
     have hlk:(((bN u).drop i).take k).length=k:=by rw [List.length_take,List.length_drop,hubl];omega
     rw [hlk]at hdl
     have hpk:10 ^ k≤10 ^ 9:=Nat.pow_le_pow_right (by decide) hk9
     have e9:10 ^ 9=1000000000:=by decide
     have hdec:dec ((bN u).take (i+k))=dec ((bN u).take i)*10 ^ k+dec (((bN u).drop i).take k):=by rw [List.take_add,Z8,hlk]
     have HDEC:Hid (dec ((bN u).take (i+k))=dec ((bN u).take i)*10 ^ k+dec (((bN u).drop i).take k)):=hdec
     by_cases hgo:k<9∧i+k<u.size
     ·have hb:=bN_at u (i+k) hgo.2
      have hsn:dec (((bN u).drop i).take (k+1))=dec (((bN u).drop i).take k)*10+(u[i+k].toNat-48):=by
       have:((bN u).drop i)[k]?=some u[i+k].toNat:=by rw [List.getElem?_drop,hb]
       rw [Zw this,YK]
      have HSN:Hid (dec (((bN u).drop i).take (k+1))=dec (((bN u).drop i).take k)*10+(u[i+k].toNat-48)):=hsn
      have HB:Hid ((bN u)[i+k]?=some u[i+k].toNat):=hb
      have hp2:10 ^ (k+1)=10 ^ k*10:=Nat.pow_succ 10 k
      have hk8:(k:Int)≤8:=by omega
      have hiuI:((i+k:Nat):Int)<u.size:=by omega
      clear hb hsn hdk hdg htk hdec
      generalize dec (((bN u).drop i).take k)=X at *
      generalize 10 ^ k=T at *
      have hTI:(T:Int)≤1000000000:=by omega
      have hXI:(X:Int)≤999999999:=by omega
      by_cases hc1:u[i+k].toNat<48
      ·have hno:¬tx:=HND.out u[i+k].toNat (by rw [List.mem_iff_getElem?];exact⟨_,HB.out⟩) (by unfold isDig;omega)
       have HF2:Hid (R (.returned (.tuple #[whole false eS,.int .i64 120]))):=HF.out hno
       have hc1I:((u[i+k].toNat:Nat):Int)≤47:=by omega
       have hGG:=HLL.out.2.2.2.2
       have hb2:WBlk wr w.heap.size (.bool false) (.string eS):=WBlk.kept (w:=w.alloc (wObj false eS)) (heap_alloc_new _ _) hGG (by simp)
       have hc0:=hb2.c0
       have hcc1:=hb2.c1
       have hf0:=hb2.fr 0
       have hf1:=hb2.fr 1
       have HGG:Hid ((w.alloc (wObj false eS)).grownBy wr none):=hGG
       clear hGG
       go_wp2_with fail
       refine bodyPost_ret (Zm rfl _ _ w.heap.size _ _ _ _ rfl (hb2.put _ _)) rfl ?_
       exact⟨HF2.out,Zb (Zb (Za (grow1 _ _) HGG.out) (Nat.le_refl _)) (Nat.le_refl _)⟩
      ·have hc1I:(48:Int)≤((u[i+k].toNat:Nat):Int):=by omega
       by_cases hc2:57<u[i+k].toNat
       ·have hno:¬tx:=HND.out u[i+k].toNat (by rw [List.mem_iff_getElem?];exact⟨_,HB.out⟩) (by unfold isDig;omega)
        have HF2:Hid (R (.returned (.tuple #[whole false eS,.int .i64 120]))):=HF.out hno
        have hc2I:(58:Int)≤((u[i+k].toNat:Nat):Int):=by omega
        have hGG:=HLL.out.2.2.2.2
        have hb2:WBlk wr w.heap.size (.bool false) (.string eS):=WBlk.kept (w:=w.alloc (wObj false eS)) (heap_alloc_new _ _) hGG (by simp)
        have hc0:=hb2.c0
        have hcc1:=hb2.c1
        have hf0:=hb2.fr 0
        have hf1:=hb2.fr 1
        have HGG:Hid ((w.alloc (wObj false eS)).grownBy wr none):=hGG
        clear hGG
        go_wp2_with fail
        refine bodyPost_ret (Zm rfl _ _ w.heap.size _ _ _ _ rfl (hb2.put _ _)) rfl ?_
        exact⟨HF2.out,Zb (Zb (Za (grow1 _ _) HGG.out) (Nat.le_refl _)) (Nat.le_refl _)⟩
       ·have hc2I:((u[i+k].toNat:Nat):Int)≤57:=by omega
        go_wp2_with fail
        go_roundw
        case rel =>
         refine⟨k+1,Zl (by omega),Zl (by rw [hp2];omega),Zl (by rw [HSN.out];omega),rfl,by omega,by omega,fun b hb=>?_,trivial⟩
         rw [←Nat.add_assoc,Zw HB.out]at hb
         rcases List.mem_append.1 hb with h|h
         ·exact HDk.out b h
         ·simp at h;subst h;unfold isDig;omega
        case measure=>simp [RowKit.intOf];omega
     ·have hend:k=9∨i+k=u.size:=by omega
      have hk1:1≤k:=by omega
      clear hdg htk hlk hdec hdk
      generalize dec (((bN u).drop i).take k)=X at *
      generalize hTT:10 ^ k=T at *
      have hT0:0<T:=by rw [←hTT];exact Nat.pow_pos (by decide)
      have hTI:(T:Int)≤1000000000:=by omega
      have hXI:(X:Int)≤999999999:=by omega
      have hwT:IntKind.u32.wrap (T:Int)=(T:Int):=by rw [IntKind.wrap_u32];omega
      have hwX:IntKind.u32.wrap (X:Int)=(X:Int):=by rw [IntKind.wrap_u32];omega
      clear hTT
      have HPR:Hid (Calls Tryz.prog 129 #[.slice la lm lc,.slice (some ⟨wr.heap.size,0,none⟩) 1 1] (wr.alloc (.cells #[.int .u32 (T:Int)] 145)) fun e w'=>∃v K,e=.returned v∧D4 w' v K∧(∀x∈K,x<B32)∧nv B32 K=nv B32 L*nv B32 [T]∧K.length≤L.length+[T].length∧Trim K∧(wr.alloc (.cells #[.int .u32 (T:Int)] 145)).grownBy w' none):=YP _ _ _ L [T] (HLL.out.1.kept (grow1 _ _)) (X1 wr T) HLL.out.2.1 (by intro x hx;simp at hx;subst hx;simp only [B32];omega) (by have:=HLL.out.2.2.1;omega) (by simp)
      by_cases hk9':k<9
      ·have hik:i+k=u.size:=by omega
       have hikI:((i+k:Nat):Int)=u.size:=by omega
       have hk8:(k:Int)≤8:=by omega
       go_wp2_with fail
       refine HPR.out.mono ?_
       rintro e w2 ⟨v2,K,rfl,dK,rK,vK,lK,tK,g2⟩
       obtain⟨a2,c2,hv2⟩:=dK.slice
       have hcut:=Z2 _ _ [X] (X1 w2 X) (by intro x hx;simp at hx;subst hx;simp only [B32];omega) (by simp)
       have HCU:Hid (Calls Tryz.prog 130 #[.slice (some ⟨w2.heap.size,0,none⟩) 1 1] (w2.alloc (.cells #[.int .u32 (X:Int)] 145)) fun e w'=>∃v' k,e=.returned v'∧k≤1∧D4 (w2.alloc (.cells #[.int .u32 (X:Int)] 145)) v' ([X].take k)∧nv B32 ([X].take k)=nv B32 [X]∧(k=0∨([X].take k)[k-1]?.getD 0≠0)∧w'=w2.alloc (.cells #[.int .u32 (X:Int)] 145)):=hcut
       have HK:Hid (D4 w2 v2 K∧(∀x∈K,x<B32)∧nv B32 K=nv B32 L*nv B32 [T]∧K.length≤L.length+[T].length∧(wr.alloc (.cells #[.int .u32 (T:Int)] 145)).grownBy w2 none):=⟨dK,rK,vK,lK,g2⟩
       have hKsz:K.length≤100000:=by have:=HLL.out.2.2.1;simp at lK;omega
       generalize K.length=km at hv2
       subst hv2
       clear dK rK vK lK tK g2 hcut HPR
       go_wp2_with fail
       refine HCU.out.mono ?_
       rintro e w3 ⟨v3,k3,rfl,hk3,dX,vX,_,hw3⟩
       subst hw3
       obtain⟨a3,c3,hv3⟩:=dX.slice
       have hmo:=XG _ _ v3 K _ (HK.out.1.kept (grow1 _ _)) dX HK.out.2.1 (by intro x hx;have:=List.mem_of_mem_take hx;simp at this;subst this;simp only [B32];omega) (by omega) (by simp;omega)
       have HMO:Hid (Calls Tryz.prog 128 #[.slice a2 km c2,v3] (w2.alloc (.cells #[.int .u32 (X:Int)] 145)) fun e w'=>∃v' M,e=.returned v'∧(∃a m c,v'=.slice a m c)∧RrI (w.alloc (wObj false eS)) w' (bN u) v' (i+k)):=(by
        refine hmo.mono ?_
        rintro e w4 ⟨v4,M,rfl,dM,rM,vM,lM,_,g4⟩
        obtain⟨a4,c4,hv4⟩:=dM.slice
        obtain⟨b1,b2,b3,b4,b5⟩:=HLL.out
        obtain⟨d1,d2,d3,d4,d5⟩:=HK.out
        refine⟨v4,M,rfl,⟨_,_,_,hv4⟩,M,by rw [hubl];exact hiu,HDk.out,dM,rM,?_,?_,Za (Za b5 (Za (grow1 _ _) d5)) (Za (grow1 _ _) g4)⟩
        ·have:([X].take k3).length≤1:=by simp;omega
         simp at d4
         omega
        ·rw [vM,vX,d3,HDEC.out,b4]
         simp [nv])
       generalize([X].take k3).length=xm at hv3
       subst hv3
       clear hmo dX vX HCU HK
       go_wp2_with fail
       refine HMO.out.mono ?_
       rintro e w4 ⟨v4,M,rfl,⟨a4,m4,c4,rfl⟩,hI4⟩
       have HI4:Hid (RrI (w.alloc (wObj false eS)) w4 (bN u) (.slice a4 m4 c4) (i+k)):=hI4
       clear hI4 HMO
       go_wp2_with fail
       go_roundw
       case rel=>exact⟨⟨_,_,_,rfl⟩,i+k,Zl (by omega),HI4.out⟩
       case measure=>simp [RowKit.intOf];omega
      ·obtain rfl:k=9:=by omega
       have hiuI:((i+9:Nat):Int)≤u.size:=by omega
       go_wp2_with fail
       refine HPR.out.mono ?_
       rintro e w2 ⟨v2,K,rfl,dK,rK,vK,lK,tK,g2⟩
       obtain⟨a2,c2,hv2⟩:=dK.slice
       have hcut:=Z2 _ _ [X] (X1 w2 X) (by intro x hx;simp at hx;subst hx;simp only [B32];omega) (by simp)
       have HCU:Hid (Calls Tryz.prog 130 #[.slice (some ⟨w2.heap.size,0,none⟩) 1 1] (w2.alloc (.cells #[.int .u32 (X:Int)] 145)) fun e w'=>∃v' k,e=.returned v'∧k≤1∧D4 (w2.alloc (.cells #[.int .u32 (X:Int)] 145)) v' ([X].take k)∧nv B32 ([X].take k)=nv B32 [X]∧(k=0∨([X].take k)[k-1]?.getD 0≠0)∧w'=w2.alloc (.cells #[.int .u32 (X:Int)] 145)):=hcut
       have HK:Hid (D4 w2 v2 K∧(∀x∈K,x<B32)∧nv B32 K=nv B32 L*nv B32 [T]∧K.length≤L.length+[T].length∧(wr.alloc (.cells #[.int .u32 (T:Int)] 145)).grownBy w2 none):=⟨dK,rK,vK,lK,g2⟩
       have hKsz:K.length≤100000:=by have:=HLL.out.2.2.1;simp at lK;omega
       generalize K.length=km at hv2
       subst hv2
       clear dK rK vK lK tK g2 hcut HPR
       go_wp2_with fail
       refine HCU.out.mono ?_
       rintro e w3 ⟨v3,k3,rfl,hk3,dX,vX,_,hw3⟩
       subst hw3
       obtain⟨a3,c3,hv3⟩:=dX.slice
       have hmo:=XG _ _ v3 K _ (HK.out.1.kept (grow1 _ _)) dX HK.out.2.1 (by intro x hx;have:=List.mem_of_mem_take hx;simp at this;subst this;simp only [B32];omega) (by omega) (by simp;omega)
       have HMO:Hid (Calls Tryz.prog 128 #[.slice a2 km c2,v3] (w2.alloc (.cells #[.int .u32 (X:Int)] 145)) fun e w'=>∃v' M,e=.returned v'∧(∃a m c,v'=.slice a m c)∧RrI (w.alloc (wObj false eS)) w' (bN u) v' (i+9)):=(by
        refine hmo.mono ?_
        rintro e w4 ⟨v4,M,rfl,dM,rM,vM,lM,_,g4⟩
        obtain⟨a4,c4,hv4⟩:=dM.slice
        obtain⟨b1,b2,b3,b4,b5⟩:=HLL.out
        obtain⟨d1,d2,d3,d4,d5⟩:=HK.out
        refine⟨v4,M,rfl,⟨_,_,_,hv4⟩,M,by rw [hubl];exact hiu,HDk.out,dM,rM,?_,?_,Za (Za b5 (Za (grow1 _ _) d5)) (Za (grow1 _ _) g4)⟩
        ·have:([X].take k3).length≤1:=by simp;omega
         simp at d4
         omega
        ·rw [vM,vX,d3,HDEC.out,b4]
         simp [nv])
       generalize([X].take k3).length=xm at hv3
       subst hv3
       clear hmo dX vX HCU HK
       go_wp2_with fail
       refine HMO.out.mono ?_
       rintro e w4 ⟨v4,M,rfl,⟨a4,m4,c4,rfl⟩,hI4⟩
       have HI4:Hid (RrI (w.alloc (wObj false eS)) w4 (bN u) (.slice a4 m4 c4) (i+9)):=hI4
       clear hI4 HMO
       go_wp2_with fail
       go_roundw
       case rel=>exact⟨⟨_,_,_,rfl⟩,i+9,Zl (by omega),HI4.out⟩
       case measure=>simp [RowKit.intOf];omega
   ·obtain rfl:i=u.size:=by omega
    rw [List.take_of_length_le (by omega)]at hd vL
    have htx:tx:=HDG.out hd
    have hM:=Xd false wr _ L hD rL (by omega)
    rw [vL]at hM
    have HM:Hid (Calls Tryz.prog 110 #[.bool false,.slice la lm lc] wr fun e w'=>∃s,e=.returned (whole (false && decide (dec (bN u)≠0)) s)∧bN s=magN (dec (bN u))∧wr.grownBy w' none):=hM
    have HTT:Hid (∀s',bN s'=magN (dec (bN u))→R (.returned (.tuple #[whole (false && decide (dec (bN u)≠0)) s',.int .i64 0]))):=HT.out htx
    have HGG:Hid ((w.alloc (wObj false eS)).grownBy wr none):=hg
    clear hM hd vL hD rL lL hg htx
    generalize(false && decide (dec (bN u)≠0))=nn at *
    go_wp2_with fail
    refine HM.out.mono ?_
    rintro e w2 ⟨s',rfl,hs',g2⟩
    have HRR:Hid (R (.returned (.tuple #[whole nn s',.int .i64 0]))):=HTT.out s' hs'
    have HG2:Hid ((w.alloc (wObj false eS)).grownBy w2 none):=Za HGG.out g2
    have hb2:WBlk w2 w.heap.size (.bool false) (.string eS):=WBlk.kept (w:=w.alloc (wObj false eS)) (heap_alloc_new _ _) HG2.out (by simp)
    have hc0:=hb2.c0
    have hcc1:=hb2.c1
    have hf0:=hb2.fr 0
    have hf1:=hb2.fr 1
    clear hs' g2 HM HTT
    go_wp2_with fail
    refine bodyPost_ret (Zm rfl _ _ w.heap.size _ _ _ _ rfl (hb2.put _ _)) rfl ?_
    exact⟨HRR.out,Zb (Zb (Za (grow1 _ _) HG2.out) (Nat.le_refl _)) (Nat.le_refl _)⟩
theorem ZdZ (s:ByteArray) (h9:s.size≤40000) (w:World) :
    Calls Tryz.prog 100 #[.string s] w fun e w'=>RdRes s e∧w.grownBy w' none:=by
 by_cases h0:s.size=0
 ·obtain rfl:=Zi h0
  exact ZcQ w
 ·by_cases h45:(bN s).head?=some 45
  ·exact Zc0 s h9 h0 h45 w
  ·exact ZeC s h9 h0 h45 w
def RowB (w:World) (base:Nat) (v:Value) (L:List Nat):Prop:=w.ownsRow base 5 1 v L.length ((ints L).map encB)
theorem RowB.cases {w:World} {base:Nat} {v:Value} {L:List Nat} (h:RowB w base v L):(v=.slice none 0 0∧L=[])∨∃g c,v=.slice (some ⟨g,0,none⟩) L.length c∧base≤g∧L.length≤c:=by
 rcases h.2 with ⟨e,hn⟩|⟨g,cap,cur,rfl,hb,_,hc,_⟩
 ·exact .inl ⟨e,List.length_eq_zero_iff.1 hn⟩
 ·exact .inr ⟨g,cap,rfl,hb,hc⟩
theorem RowB.cell {w:World} {base g c:Nat} {L:List Nat} (h:RowB w base (.slice (some ⟨g,0,none⟩) L.length c) L) (i:Nat) (hi:i<L.length):w.cell? ⟨g,i,none⟩=some (.int .u8 ((L[i]?.getD 0:Nat):Int)):=by
 have:=World.ownsRow.cells h rfl i (.int .u8 ((L[i]?.getD 0:Nat):Int)) (by simp [ints,hi])
 rcases Nat.eq_zero_or_pos i with rfl|h0
 ·simpa [Addr.add]using this
 ·simpa [Addr.add,Nat.ne_of_gt h0]using this
theorem RowB.frozen {w:World} {base g c n:Nat} {L:List Nat} (h:RowB w base (.slice (some ⟨g,0,none⟩) n c) L) (i:Nat):w.frozen? ⟨g,i,none⟩=false:=by
 rcases h.2 with ⟨e,hn⟩|⟨g',cap,cur,e,hb,hg,_⟩
 ·cases e
 ·cases e
  simp [World.frozen?,hg]
theorem RowB.set {w:World} {base g c n:Nat} {L:List Nat} (h:RowB w base (.slice (some ⟨g,0,none⟩) n c) L) (i x:Nat):RowB (w.setCell ⟨g,i,none⟩ (.int .u8 (x:Int))) base (.slice (some ⟨g,0,none⟩) n c) (L.set i x):=by
 rcases h.2 with ⟨e,hn⟩|⟨g',cap,cur,e,hb,hg,hc,hm,hs,ht⟩
 ·cases e
 ·cases e
  refine⟨by simp [ints],.inr ⟨g,c,cur.setIfInBounds i (.int .u8 (x:Int)),by simp,hb,?_,by simpa using hc,hm,by simpa using hs,?_⟩⟩
  ·simp [World.setCell,Array.getElem?_modify,hg]
  ·rw [Array.toList_setIfInBounds,List.length_set,List.take_set,ht,←ZF,List.map_set]
theorem RowB.kept {w w':World} {base:Nat} {v:Value} {L:List Nat} {row:Option Nat} (h:RowB w base v L) (hg:w.grownBy w' row) (hne:v.ownBlock=none∨v.ownBlock≠row):RowB w' base v L:=World.ownsRow.kept h hg hne
theorem VD (w:World) (base:Nat) (ty:TypeId) (v:Value) (L:List Nat) (x:Nat) (h:RowB w base v L) (hl:L.length≤1000000000) (hb:base≤w.heap.size) (a:Addr) (hx:w.cell? a=some (.int .u8 (x:Int))) :
    ∃v' w',(Builtin.append_ #[91,91] ty #[v,.slice (some a) 1 1]).run Tryz.prog w=.ok v' w'∧RowB w' base v' (L++[x])∧w.grownBy w' v.ownBlock∧(v'.ownBlock=v.ownBlock∨v'.ownBlock=some w.heap.size):=by
 obtain⟨i0,hi,hz0,hz1,hz2⟩:=info_parts Tryz.info1
 have hadd:∀j u,[Value.int .u8 (x:Int)][j]?=some u→w.cell? (a.add j)=some u:=by
  intro j u hj
  match j,hj with
  |0,hj=>simp at hj;subst hj;simpa [Addr.add]using hx
 have h1:∀u∈[Value.int .u8 (x:Int)],u.oneCell'=true:=by
  intro u hu;simp at hu;subst hu;rfl
 obtain⟨v',w',hr,ho,hg,hn⟩:=run_append_own (P:=Tryz.prog) w base 91 ty 5 i0 (.int .u8 0) 1 1 Tryz.underlying91 hi hz0 hz1 hz2 rfl (by decide) v L.length _ h a 1 1 [.int .u8 (x:Int)] rfl hadd h1 (by unfold maxLen;omega) (by omega) hb
 refine⟨v',w',hr,?_,hg,?_⟩
 ·have e:ints (L++[x])=ints L++[(x:Int)]:=by simp [ints]
  unfold RowB
  rw [e,List.map_append,List.length_append]
  exact ho
 ·rcases h.2 with ⟨rfl,hn⟩|⟨g,cap,cur,rfl,hbg,hgg,hnc,hcm,hcs,htake⟩
  ·right
   have hr2:=run_append_nil (P:=Tryz.prog) w 91 ty 5 i0 (.int .u8 0) Tryz.underlying91 hi hz0 a 1 1 [.int .u8 (x:Int)] (by rw [hz1];rfl) hadd (by omega) (by omega) (by rw [hz2];omega)
   rw [hr2]at hr
   cases hr
   rfl
  ·by_cases hroom:L.length+1≤cap
   ·left
    have hr2:=run_append_room (P:=Tryz.prog) w 91 ty 5 i0 Tryz.underlying91 hi g L.length cap cur hgg a 1 1 [.int .u8 (x:Int)] (by rw [hz1];rfl) hadd h1 hroom (by rw [hz1];simp;omega)
    rw [hr2]at hr
    cases hr
    rfl
   ·right
    have holds:∀j u,((ints L).map encB)[j]?=some u→w.cell? ((⟨g,0,none⟩:Addr).add j)=some u:=World.ownsRow.cells h (g:=g) rfl
    have hr2:=run_append_grow (P:=Tryz.prog) w 91 ty 5 i0 (.int .u8 0) Tryz.underlying91 hi hz0 ⟨g,0,none⟩ L.length cap ((ints L).map encB) (by rw [hz1];simp [ints]) holds a 1 1 [.int .u8 (x:Int)] (by rw [hz1];rfl) hadd (by omega) (by omega) (by rw [hz2];exact growslice_fits (by omega) (by omega))
    rw [hr2]at hr
    cases hr
    rfl
theorem Z4 {w:World} {ops:Array Oper} {rest:List Oper} {o:Oper} {a:Act} {Q:Exit→Act→World→Prop} (hgd:o.guard=none) (s x:Operand)
    (ho:o.op=.call { callee:=.builtin .append,args:=#[s,x],argTypes:=#[91,91] })
    (base:Nat) (v:Value) (L:List Nat) (y:Nat) (hs:a.eval s=v) (hR:RowB w base v L) (hl:L.length≤1000000000) (hb:base≤w.heap.size)
    (ad:Addr) (hx:a.eval x=.slice (some ad) 1 1) (hy:w.cell? ad=some (.int .u8 (y:Int)))
    (h:∀v' w',RowB w' base v' (L++[y])→w.grownBy w' v.ownBlock→(v'.ownBlock=v.ownBlock∨v'.ownBlock=some w.heap.size)→wpList Tryz.prog ops Q rest (a.put o.dst v') w'):wpList Tryz.prog ops Q (o::rest) a w :=
 wpList_plain hgd fun K hK=>by
  obtain⟨v',w',hr,h2,h3,h4⟩:=VD w base o.type v L y hR hl hb ad hy
  unfold Oper.wp execOp
  simp only [ho,resolve,invoke,builtin,Sem.run_bind,Sem.run_pure,Result.andThen_ok,List.map_toArray,List.map_cons,List.map_nil,hs,hx,hr]
  exact hK _ _ (h v' w' h2 h3 h4)
theorem BlkL.row {w:World} {B base:Nat} {L:List Nat} (h:BlkL w B 145 enc4 (ints L)) (hb:base≤B) (hl:L.length≤maxLen):Row w base (.slice (some ⟨B,0,none⟩) L.length L.length) L:=by
 refine⟨by simp [ints],.inr ⟨B,L.length,_,rfl,hb,h,Nat.le_refl _,hl,by simp [ints],?_⟩⟩
 simp only [ints,List.map_map,Nat.mul_one]
 exact List.take_of_length_le (by simp)
theorem Row.take {w:World} {base g n c k:Nat} {L:List Nat} (h:Row w base (.slice (some ⟨g,0,none⟩) n c) L) (hk:k≤n):Row w base (.slice (some ⟨g,0,none⟩) k c) (L.take k):=by
 rcases h.2 with ⟨e,_⟩|⟨g',cap,cur,e,hb,hg,hc,hm,hs,ht⟩
 ·cases e
 ·obtain⟨e1,e2,e3⟩:=Value.slice.inj e
  cases e1
  subst e3
  have hlen:(L.take k).length=k:=by rw [List.length_take];omega
  refine⟨by simp [ints],.inr ⟨g,c,cur,by rw [hlen],hb,hg,by rw [hlen];omega,hm,hs,?_⟩⟩
  rw [hlen,Nat.mul_one]
  rw [Nat.mul_one]at ht
  have:=congrArg (List.take k) ht
  rw [List.take_take,Nat.min_eq_left (by omega)]at this
  rw [this]
  simp [ints,List.map_take]
theorem Yj (w:World) (base:Nat) (v:Value) (L:List Nat) (h:Row w base v L) (hl:L.length≤1000000000) :
    Calls Tryz.prog 154 #[v] w fun e w'=>∃v' k,e=.returned v'∧k≤L.length∧Row w base v' (L.take k)∧nv B32 (L.take k)=nv B32 L∧Trim (L.take k)∧v'.ownBlock=v.ownBlock∧w'=w:=by
 have HR:Hid (Row w base v L):=h
 rcases h.cases with ⟨rfl,rfl⟩|⟨B,c,rfl,_,hc⟩
 ·clear h
  go_enter Tryz.func154,Tryz.ntmps154
  go_wp2
  go_loopw [0] (fun s wr=>s=.slice none 0 0∧wr=w) (fun _ _=>0)
  case atStart=>exact⟨rfl,rfl⟩
  case round =>
   obtain⟨rfl,rfl⟩:=hrel
   go_wp2
   go_ret
   exact⟨_,0,rfl,by simp,HR.out,rfl,.inl rfl,rfl,rfl⟩
 ·have HC:Hid (∀j,j<L.length→w.cell? ⟨B,j,none⟩=some (.int .u32 ((L[j]?.getD 0:Nat):Int))):=fun j hj=>h.cell j hj
  have hlI:(L.length:Int)≤1000000000:=by omega
  obtain⟨n,hn⟩:∃n,L.length=n:=⟨_,rfl⟩
  have HN:Unit→L.length=n:=fun _=>hn
  rw [hn]at hc hlI HR ⊢
  clear h hl hn
  go_enter Tryz.func154,Tryz.ntmps154
  go_wp2
  go_loopw [0] (fun s wr=>∃k,k≤n∧s=.slice (some ⟨B,0,none⟩) k c∧nv B32 (L.take k)=nv B32 L∧wr=w) (fun s _=>match s with|.slice _ n _=>n|_=>0)
  case atStart=>exact⟨n,Nat.le_refl _,rfl,by rw [←HN (),List.take_length],rfl⟩
  case round =>
   obtain⟨k,hk,rfl,hv,rfl⟩:=hrel
   have HV:Hid (nv B32 (L.take k)=nv B32 L):=hv
   clear hv
   by_cases hk0:k=0
   ·subst hk0
    go_wp2
    go_ret
    exact⟨_,0,rfl,by omega,HR.out.take (by omega),HV.out,.inl (by simp),rfl,rfl⟩
   ·obtain⟨q,rfl⟩:∃q,k=q+1:=⟨k-1,by omega⟩
    have hx:=HC.out q (by rw [HN ()];omega)
    have hqI:(q:Int)≤1000000000:=by omega
    have hqc:q+1≤c:=by omega
    by_cases hz:L[q]?.getD 0=0
    ·rw [hz]at hx
     go_wp2
     go_roundw
     case rel=>exact⟨q,by omega,rfl,by rw [←HV.out,Yu B32 L q (by rw [HN ()];omega) hz],trivial⟩
     case measure=>simp
    ·have hz1:(((L[q]?.getD 0:Nat):Int) == 0)=false:=by
       rw [beq_eq_false_iff_ne];omega
     have HZ:Hid (L[q]?.getD 0≠0):=hz
     clear hz
     generalize((L[q]?.getD 0:Nat):Int)=x at *
     go_wp2
     go_ret
     have hlen:(L.take (q+1)).length=q+1:=by rw [List.length_take,HN (),Nat.min_eq_left hk]
     refine⟨_,q+1,rfl,by omega,HR.out.take (by omega),HV.out,.inr ?_,rfl,rfl⟩
     rw [hlen,Nat.add_sub_cancel,List.getElem?_take,if_pos (by omega)];exact HZ.out
end Go.Proofs.YtdcadiaeaclpgaaGreatDoor
