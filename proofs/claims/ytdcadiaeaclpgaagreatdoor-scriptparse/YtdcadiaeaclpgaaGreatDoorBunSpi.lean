/- Rows of statements that a round may lengthen, blocks told. -/
import Derived.Test.YtdcadiaeaclpgaaGreatDoorBunSpf
namespace Go.Proofs.YtdcadiaeaclpgaaGreatDoor
open Go Go.RowKit Go.Lib Go.Sort Go.Shelf
set_option linter.unusedVariables false
set_option linter.unusedSimpArgs false
attribute [local go_sem] Oper.semAt_some
set_option maxHeartbeats 8000000
set_option maxRecDepth 100000
theorem Zey {w:World} (base:Nat) (ty:TypeId) (v:Value) (P:List (St × Value)) (hR:RowU w base v P) (y:St) (u:Value) (g0:Nat) (h0:w.heap[g0]?=some (sObj y.vb y.nm u)) (hu:AgsF w base u y.ags) (hl:P.length≤1000000) (hb:base≤w.heap.size) :
    ∃v' w',(Builtin.append_ #[51,51] ty #[v,.slice (some ⟨g0,0,none⟩) 1 1]).run Tryz.prog w=.ok v' w'∧RowU w' base v' (P++[(y,u)])∧w.grownBy w' v.ownBlock∧(v'.ownBlock=v.ownBlock∨∃g,v'.ownBlock=some g∧w.heap.size≤g∧g<w'.heap.size):=by
 obtain⟨v',w',hr,h2,h3⟩:=XJ w w base ty v P y u hR.rowT hl hb g0 h0 hu.args
 have h4:=YX w w base ty v P y u hR.rowT hl g0 h0 hu.args hr
 refine⟨v',w',hr,⟨h2.1,fun z hz=>?_⟩,h3,h4⟩
 have hpast:∀ {G:List Ag} {q:Value},AgsF w base q G→AgsF w' base q G:=fun hq=>hq.past fun B cur t f _ hB ht=>(h3.block B (Zg hB) (fun e=>by
  obtain⟨_,_,cur2,hg2⟩:=hR.tag e.symm
  rw [hB]at hg2
  injection hg2 with hg2
  injection hg2 with _ ht2 _
  exact ht ht2)).trans hB
 rw [List.mem_append]at hz
 rcases hz with hz|hz
 ·exact hpast (hR.2 z hz)
 ·simp at hz
  subst hz
  exact hpast hu
theorem Xw {F:Fence} {n:Nat} {w:World} {ops:Array Oper} {rest:List Oper} {o:Oper} {a:Act} {Q:Exit→Act→World→Prop} (hgd:o.guard=none) (s x:Operand)
    (ho:o.op=.call { callee:=.builtin .append,args:=#[s,x],argTypes:=#[51,51] })
    (base:Nat) (v:Value) (P:List (St × Value)) (hs:a.eval s=v) (hR:RowU w base v P) (y:St) (u:Value) (g0:Nat) (hx:a.eval x=.slice (some ⟨g0,0,none⟩) 1 1) (h0:w.heap[g0]?=some (sObj y.vb y.nm u)) (hu:AgsF w base u y.ags) (hl:P.length≤1000000) (hb:base≤w.heap.size)
    (h:∀v' w',RowU w' base v' (P++[(y,u)])→w.grownBy w' v.ownBlock→(v'.ownBlock=v.ownBlock∨∃g,v'.ownBlock=some g∧w.heap.size≤g∧g<w'.heap.size)→wpListIn F n Tryz.prog ops Q rest (a.put o.dst v') w'):wpListIn F n Tryz.prog ops Q (o::rest) a w:=by
 refine wpListIn_plain hgd fun K hK'=>?_
 obtain⟨v',w',hrun,r1,r2,r3⟩:=Zey base o.type v P hR y u g0 h0 hu hl hb
 unfold Oper.wpIn
 refine⟨?_,?_⟩
 ·simp [Oper.about,ho,resolve,Target.leads,Sem.run_pure]
 ·rw [Oper.semAt_plain F _ _ (by rw [ho];intro c hc';cases hc')]
  simp [execOp,ho,resolve,invoke,builtin,hs,hx,hrun,Result.andThen]
  exact hK' _ _ (h v' w' r1 r2 r3)
def AgO (W:World) (O:Nat→Prop) (base:Nat) (u:Value) (G:List Ag):Prop :=
 ∀W':World,(∀i cur t f,O i→base≤i→W.heap[i]?=some (.cells cur t f)→t≠24→W'.heap[i]?=some (.cells cur t f))→AgsF W' base u G
theorem AgO.of {W:World} {O:Nat→Prop} {b base:Nat} {u:Value} {G:List Ag} (h:AgsF W b u G) (hb:base≤b) (hO:∀i,b≤i→i<W.heap.size→O i):AgO W O base u G:=fun W' hk =>
 (h.past fun B cur t f hB hh ht=>hk B cur t f (hO B hB (Zg hh)) (by omega) hh ht).mono hb
theorem AgO.self {W:World} {O:Nat→Prop} {base:Nat} {u:Value} {G:List Ag} (h:AgO W O base u G):AgsF W base u G:=h W fun _ _ _ _ _ _ hh _=>hh
theorem AgO.step {W W2:World} {O O2:Nat→Prop} {base:Nat} {u:Value} {G:List Ag} (h:AgO W O base u G) (hO:∀i,O i→O2 i) (hk:∀i cur t f,O i→base≤i→W.heap[i]?=some (.cells cur t f)→t≠24→W2.heap[i]?=some (.cells cur t f)):AgO W2 O2 base u G:=fun W' hk2 =>
 h W' fun i cur t f hi hb hh ht=>hk2 i cur t f (hO i hi) hb (hk i cur t f hi hb hh ht) ht
def RowV (W:World) (O:Nat→Prop) (base:Nat) (v:Value) (P:List (St × Value)):Prop :=
 W.ownsRow base 24 3 v P.length (cellsT P)∧(∀g,v.ownBlock=some g→O g)∧∀x∈P,AgO W O base x.2 x.1.ags
theorem RowV.nil (W:World) (O:Nat→Prop) (base:Nat):RowV W O base (.slice none 0 0) []:=⟨World.ownsRow_nil _ _ _ _,(fun g h=>by cases h),fun x hx=>by simp at hx⟩
theorem RowV.row {W:World} {O:Nat→Prop} {base:Nat} {v:Value} {P:List (St × Value)} (h:RowV W O base v P):RowU W base v P:=⟨h.1,fun x hx=>(h.2.2 x hx).self⟩
theorem RowV.kept {W W':World} {O:Nat→Prop} {base:Nat} {v:Value} {P:List (St × Value)} {row:Option Nat} (h:RowV W O base v P) (hg:W.grownBy W' row) (hr:∀r,row=some r→¬O r∨r<base):RowV W' O base v P:=by
 refine⟨World.ownsRow.kept h.1 hg ?_,h.2.1,fun x hx=>(h.2.2 x hx).step (fun _ k=>k) fun i cur t f hi hb hh _=>(hg.block i (Zg hh) (fun e=>?_)).trans hh⟩
 ·cases ho:v.ownBlock with
  |none=>simp
  |some g =>
   right
   intro e
   rcases hr g e.symm with k|k
   ·exact k (h.2.1 g ho)
   ·have:=(h.row.tag ho).1
    omega
 ·rcases hr i e.symm with k|k
  ·exact k hi
  ·omega
theorem RowV.append {W W1 W2:World} {O:Nat→Prop} {b base:Nat} {v v' u:Value} {P:List (St × Value)} {y:St} (h:RowV W O base v P) (hg1:W.grownBy W1 none) (hR:RowU W2 base v' (P++[(y,u)])) (hg:W1.grownBy W2 v.ownBlock) (hw:v'.ownBlock=v.ownBlock∨∃g,v'.ownBlock=some g∧W1.heap.size≤g∧g<W2.heap.size)
    (hu:AgsF W b u y.ags) (hb:base≤b) (hbW:b≤W.heap.size):RowV W2 (fun r=>O r∨(b≤r∧r<W2.heap.size)) base v' (P++[(y,u)]):=by
 have hs1:=hg1.size
 have hs2:=hg.size
 have hk:∀(i:Nat) (cur:Array Value) (t:TypeId) (f:Nat × Nat),W.heap[i]?=some (.cells cur t f)→t≠24→W2.heap[i]?=some (.cells cur t f):=fun i cur t f hh ht=>by
  have h1:=(hg1.block i (Zg hh) (by simp)).trans hh
  refine(hg.block i (Zg h1) (fun e=>?_)).trans h1
  obtain⟨_,_,cur2,hc⟩:=h.row.tag e.symm
  rw [hh]at hc
  injection hc with hc
  injection hc with _ ht2 _
  exact ht ht2
 refine⟨hR.1,fun g hgv=>?_,fun x hx=>?_⟩
 ·rcases hw with e|⟨g',e,h1,h2⟩
  ·exact .inl (h.2.1 g (by rw [←e];exact hgv))
  ·rw [e]at hgv
   injection hgv with hgv
   subst hgv
   exact .inr ⟨by omega,h2⟩
 ·rw [List.mem_append]at hx
  rcases hx with hx|hx
  ·exact(h.2.2 x hx).step (fun i k=>.inl k) fun i cur t f _ _ hh ht=>hk i cur t f hh ht
  ·simp at hx
   subst hx
   exact(AgO.of (O:=fun r=>O r∨(b≤r∧r<W2.heap.size)) hu hb (fun i h1 h2=>.inr ⟨h1,by omega⟩)).step (fun _ k=>k) fun i cur t f _ _ hh ht=>hk i cur t f hh ht
end Go.Proofs.YtdcadiaeaclpgaaGreatDoor
namespace Go.Proofs.YtdcadiaeaclpgaaGreatDoor
open Go Go.RowKit Go.Lib Go.Sort Go.Shelf
set_option linter.unusedVariables false
set_option linter.unusedSimpArgs false
attribute [local go_sem] Oper.semAt_some
set_option maxHeartbeats 8000000
set_option maxRecDepth 100000
def PaI (w:World) (S:List St) (q:Nat × (Nat→Prop)) (W:World):Prop :=
 ∃v P,W.heap[w.heap.size]?=some (.cells #[v] 51 (0,0))∧W.heap[w.heap.size+1]?=some (.cells #[.int .i64 (q.1:Nat)] 3 (0,0))∧RowV W q.2 (w.heap.size+2) v P∧P.map (·.1)=S.take q.1∧w.grownBy W none
theorem PaI.kept {w:World} {S:List St} {q:Nat × (Nat→Prop)} {W W':World} {row:Option Nat} (h:PaI w S q W) (hg:W.grownBy W' row) (hr:∀r,row=some r→w.heap.size+2≤r∧¬q.2 r):PaI w S q W':=by
 obtain⟨v,P,h1,h2,h3,h4,h5⟩:=h
 refine⟨v,P,(hg.block _ (Zg h1) (fun e=>by have:=(hr _ e.symm).1;omega)).trans h1,(hg.block _ (Zg h2) (fun e=>by have:=(hr _ e.symm).1;omega)).trans h2,h3.kept hg (fun r e=>.inl (hr r e).2),h4,?_⟩
 cases row with
 |none=>exact Za h5 hg
 |some r=>exact Zq h5 (by have:=(hr r rfl).1;omega) hg
theorem ZdK (s:ByteArray) (h:1048576<s.size) (hm:s.size≤maxLen) (w:World) :
    Calls Tryz.prog 29 #[.string s] w fun e w'=>e=.returned (.tuple #[.slice none 0 0,.int .i64 0,.int .i64 3])∧w.grownBy w' none:=by
 have hI:(1048576:Int)<s.size:=by omega
 clear hm
 go_enter Tryz.func29,Tryz.ntmps29
 go_wp2_with fail
 refine bodyPost_ret (results_tmp3 rfl _ _ _) rfl ?_
 exact⟨rfl,grow0 _⟩
theorem Zeb (L:List UInt8) (hL:L.length≤6000) (w:World) (he:Errs w) :
    Calls Tryz.prog 29 #[.string (bA L)] w fun e w'=>PaQ w w' (alN L.length L).1 (alN L.length L).2 e∧w.grownBy w' none:=by
 have EG:Hid (∀args w,(callFunc 55 args).run Tryz.prog w=.ok (.enter 55 args) w):=enters_of Tryz.func55 (by kernel_rfl) rfl
 have HAh:Hid (∀m B bt,HandsG Fence.wide m Tryz.prog 55 #[.pointer (some ⟨bt,0,none⟩)] (StIt (alN L.length L).1) (fun _=>False) (alN L.length L).1.length true B (fun W=>W.heap[bt]?=some (.cells #[.string (bA L)] 9 (0,0))) Errs):=fun m B bt=>JO L hL _ true (Nat.le_refl _) (fun _=>rfl) (by simp) m B bt
 have HLn:Hid (∀W,Calls Tryz.prog 54 #[.string (bA L)] W fun e w'=>e=.returned (.int .i64 (linesN L))∧W.grownBy w' none):=fun W=>Zcg L hL W
 have HLa:=ZeR L.length L (Nat.le_refl _)
 have hal:=UU L.length L (Nat.le_refl _)
 have HE:Hid (Errs w):=he
 have hsz:=Zo L
 have hsI:((bA L).size:Int)≤6000:=by omega
 generalize alN L.length L=tot at *
 obtain⟨S,ok⟩:=tot
 simp only at HAh HLa hal ⊢
 have HLa2:Hid (if ok=true then S.length=linesN L else S.length<linesN L):=HLa
 have HSl:Hid (S.length≤3000):=by
  show _≤_
  omega
 have hc1:Calls Tryz.prog 33 #[.string (bA L)] ((w.alloc (.cells #[.slice none 0 0] 51)).alloc (.cells #[.int .i64 0] 3)) fun e w'=>e=.returned (.func (.func 55) #[] #[.pointer (some ⟨w.heap.size+2,0,none⟩)])∧w'=((w.alloc (.cells #[.slice none 0 0] 51)).alloc (.cells #[.int .i64 0] 3)).alloc (.cells #[.string (bA L)] 9):=by
  have h:=Zbi (bA L) ((w.alloc (.cells #[.slice none 0 0] 51)).alloc (.cells #[.int .i64 0] 3))
  have hz:((w.alloc (.cells #[.slice none 0 0] 51)).alloc (.cells #[.int .i64 0] 3)).heap.size=w.heap.size+2:=by simp
  rw [hz]at h
  exact h
 have HC1:Hid (Calls Tryz.prog 33 #[.string (bA L)] ((w.alloc (.cells #[.slice none 0 0] 51)).alloc (.cells #[.int .i64 0] 3)) fun e w'=>e=.returned (.func (.func 55) #[] #[.pointer (some ⟨w.heap.size+2,0,none⟩)])∧w'=((w.alloc (.cells #[.slice none 0 0] 51)).alloc (.cells #[.int .i64 0] 3)).alloc (.cells #[.string (bA L)] 9)):=hc1
 clear hal HLa he hsz hL hc1
 refine(callsIn_wide (n:=5)).1 ?_
 refine callsIn_of_wp_marks Tryz.func29 rfl trivial (wpIn_wide.2 ?_) rfl
 simp only [Tryz.ntmps29,List.size_toArray,List.length_cons,List.length_nil,Nat.reduceAdd,Nat.reduceSub,Array.replicate_succ,Array.replicate_zero,List.push_toArray,List.append_toArray,List.nil_append,List.cons_append]
 go_wp2_with fail
 refine HC1.out.mono ?_
 rintro e w3 ⟨rfl,hw3⟩
 go_wp2_with fail
 have hG3:Hid (w.grownBy (((w.alloc (.cells #[.slice none 0 0] 51)).alloc (.cells #[.int .i64 0] 3)).alloc (.cells #[.string (bA L)] 9)) none):=Za (grow2 _ _ _) (grow1 _ _)
 have hz2:((w.alloc (.cells #[.slice none 0 0] 51)).alloc (.cells #[.int .i64 0] 3)).heap.size=w.heap.size+2:=by simp
 have HS3:Hid ((((w.alloc (.cells #[.slice none 0 0] 51)).alloc (.cells #[.int .i64 0] 3)).alloc (.cells #[.string (bA L)] 9)).heap.size=w.heap.size+3):=by
  show _=_
  simp
 have hA3:(((w.alloc (.cells #[.slice none 0 0] 51)).alloc (.cells #[.int .i64 0] 3)).alloc (.cells #[.string (bA L)] 9)).heap[w.heap.size]?=some (.cells #[.slice none 0 0] 51 (0,0)):=by
  have h0:(w.alloc (.cells #[.slice none 0 0] 51)).heap[w.heap.size]?=some (.cells #[.slice none 0 0] 51 (0,0)):=heap_alloc_new _ _
  exact((grow2 _ _ _).block _ (Zg h0) (by simp)).trans h0
 have hB3:(((w.alloc (.cells #[.slice none 0 0] 51)).alloc (.cells #[.int .i64 0] 3)).alloc (.cells #[.string (bA L)] 9)).heap[w.heap.size+1]?=some (.cells #[.int .i64 0] 3 (0,0)):=by
  have h0:=heap_alloc2_new w (.cells #[.slice none 0 0] 51) (.cells #[.int .i64 0] 3)
  exact((grow1 _ _).block _ (Zg h0) (by simp)).trans h0
 have hT3:(((w.alloc (.cells #[.slice none 0 0] 51)).alloc (.cells #[.int .i64 0] 3)).alloc (.cells #[.string (bA L)] 9)).heap[w.heap.size+2]?=some (.cells #[.string (bA L)] 9 (0,0)):=by
  have h0:=heap_alloc_new ((w.alloc (.cells #[.slice none 0 0] 51)).alloc (.cells #[.int .i64 0] 3)) (.cells #[.string (bA L)] 9)
  rw [hz2]at h0
  exact h0
 clear hw3 hz2
 generalize((w.alloc (.cells #[.slice none 0 0] 51)).alloc (.cells #[.int .i64 0] 3)).alloc (.cells #[.string (bA L)] 9)=W3 at *
 have hI3:PaI w S (0,fun _=>False) W3:=⟨_,[],hA3,hB3,RowV.nil _ _ _,rfl,hG3.out⟩
 have hs3:=HS3.out
 refine(wpIn_wide (n:=5)).1 ?_
 refine XW (ps:=#[14,15]) rfl (by omega) rfl trivial EG.out (StIt S) (fun t W W' row base vs h hg hr=>h.kept hg hr) (fun t W base vs h=>by obtain⟨_,_,_,rfl,_⟩:=h;rfl) (fun _=>False) (fun r e=>e.elim) S.length true none rfl (PaI w S)
  (fun q W W' h hg=>h.kept hg (fun r e=>by cases e))
  (fun q W W' r h hg hr hne=>h.kept hg (fun r' e=>by injection e with e;subst e;exact⟨by rcases hr with hr|hr;omega;exact hr.elim,hne⟩))
  (fun _=>False) (fun r e=>e.elim) hI3 (fun W=>W.heap[w.heap.size+2]?=some (.cells #[.string (bA L)] 9 (0,0))) Errs (fun W' hg=>(hg.block _ (Zg hT3) (by simp)).trans hT3) (fun q W h=>by obtain⟨_,_,_,_,_,_,h5⟩:=h;exact HE.out.kept h5)
  (HAh.out (5-1) (W3.heap.size+2) (w.heap.size+2))
  (fun vs a1 W1=>∃g8,W3.heap.size+2≤g8∧∀x vb nm u,vs=#[.int .i64 x,.agg #[.string vb,.string nm,u]]→W1.heap[g8]?=some (sObj vb nm u)∧a1={ tmps:=#[.string (bA L),undef,.slice none 0 0,.int .i64 0,.int .i64 0,.pointer (some ⟨w.heap.size,0,none⟩),.pointer (some ⟨w.heap.size+1,0,none⟩),undef,.pointer (some ⟨g8,0,none⟩),.string (bA L),.int .i64 (bA L).size,.bool (decide ((1048576:Int)<(bA L).size)),.string (bA L),.func (.func 55) #[] #[.pointer (some ⟨w.heap.size+2,0,none⟩)],.int .i64 x,.agg #[.string vb,.string nm,u],undef,undef,undef,undef,undef,undef,undef,undef,undef,undef,undef,undef,undef,undef,undef,undef,undef,undef,undef],defers:=[] })
  (fun vs a1 W1 W2 h hg=>by
   obtain⟨g8,h1,h2⟩:=h
   refine⟨g8,h1,fun x vb nm u e=>?_⟩
   obtain⟨h3,h4⟩:=h2 x vb nm u e
   exact⟨(hg.block _ (Zg h3) (fun e=>by injection e with e;omega)).trans h3,h4⟩) ?_ ?_ ?_
 ·intro l2 t base vs Wx K hIt hb1 hb2 hK
  obtain⟨s,u,hs,rfl,hAg⟩:=hIt
  obtain⟨ab,c,rfl⟩:=hAg.args.form
  have HK:Hid (∀(a1:Act) (W1:World),Wx.grownBy W1 none→(∃g8,W3.heap.size+2≤g8∧∀x vb nm u,(#[.int .i64 (t:Nat),.agg #[.string s.vb,.string s.nm,.slice ab s.ags.length c]]:Array Value)=#[.int .i64 x,.agg #[.string vb,.string nm,u]]→W1.heap[g8]?=some (sObj vb nm u)∧a1={ tmps:=#[.string (bA L),undef,.slice none 0 0,.int .i64 0,.int .i64 0,.pointer (some ⟨w.heap.size,0,none⟩),.pointer (some ⟨w.heap.size+1,0,none⟩),undef,.pointer (some ⟨g8,0,none⟩),.string (bA L),.int .i64 (bA L).size,.bool (decide ((1048576:Int)<(bA L).size)),.string (bA L),.func (.func 55) #[] #[.pointer (some ⟨w.heap.size+2,0,none⟩)],.int .i64 x,.agg #[.string vb,.string nm,u],undef,undef,undef,undef,undef,undef,undef,undef,undef,undef,undef,undef,undef,undef,undef,undef,undef,undef,undef],defers:=[] })→K a1 W1):=hK
  have HB:Hid (W3.heap.size+2≤Wx.heap.size):=by
   show _≤_
   omega
  rw [Uy]
  clear hK hAg hs hb1 hb2 hI3 hA3 hB3 hT3 hs3
  generalize s.ags.length=m at *
  generalize s.vb=vb at *
  generalize s.nm=nm at *
  gi_wp2
  refine HK.out _ _ (grow1 _ _) ⟨Wx.heap.size,HB.out,fun x vb2 nm2 u2 e=>?_⟩
  have e1:=congrArg (fun z:Array Value=>z[0]?) e
  have e2:=congrArg (fun z:Array Value=>z[1]?) e
  simp at e1 e2
  obtain⟨rfl,rfl,rfl⟩:=e2
  subst e1
  exact⟨heap_alloc_new _ _,rfl⟩
 ·intro l2 t O base vs a1 Wb ht hI2 hb1 hb2 hob hIt hAs
  obtain⟨s,u,hs,hvs,hAg⟩:=hIt
  obtain⟨ab,c,rfl⟩:=hAg.args.form
  obtain⟨g8,hg8,hA8⟩:=hAs
  obtain⟨h8,rfl⟩:=hA8 _ _ _ _ hvs
  obtain⟨v,P,k1,k2,k3,k4,k5⟩:=hI2
  simp only at k2 k3 k4
  have hPl:P.length=t:=by
   have:=congrArg List.length k4
   rw [List.length_map,List.length_take]at this
   omega
  obtain⟨ao,cp,rfl⟩:=k3.row.form
  have HPl:Hid (P.length=t):=hPl
  have HRv:Hid (RowV Wb O (w.heap.size+2) (.slice ao P.length cp) P):=k3
  have HAg:Hid (AgsF Wb base (.slice ab s.ags.length c) s.ags):=hAg
  have HK1:Hid (Wb.heap[w.heap.size]?=some (.cells #[.slice ao P.length cp] 51 (0,0))):=k1
  have HK2:Hid (Wb.heap[w.heap.size+1]?=some (.cells #[.int .i64 (t:Nat)] 3 (0,0))):=k2
  have HK4:Hid (P.map (·.1)=S.take t∧S[t]?=some s):=⟨k4,hs⟩
  have HG:Hid (w.grownBy Wb none):=k5
  have HB:Hid (W3.heap.size=w.heap.size+3∧W3.heap.size+2≤base∧base≤Wb.heap.size∧(∀r,O r→r<base)∧t<3001):=⟨hs3,hb1,hb2,hob,by have:=HSl.out;omega⟩
  have c5:Wb.cell? ⟨w.heap.size,0,none⟩=some (.slice ao P.length cp):=by simp [World.cell?,k1]
  have c6:Wb.cell? ⟨w.heap.size+1,0,none⟩=some (.int .i64 (t:Nat)):=by simp [World.cell?,k2]
  have d0:Wb.cell? ⟨g8,0,none⟩=some (.string s.vb):=by simp [World.cell?,h8,sObj]
  have d1:Wb.cell? ⟨g8,1,none⟩=some (.string s.nm):=by simp [World.cell?,h8,sObj]
  have d2:Wb.cell? ⟨g8,2,none⟩=some (.slice ab s.ags.length c):=by simp [World.cell?,h8,sObj]
  have htI:(t:Int)<4096:=by have:=HB.out.2.2.2.2;omega
  rw [HPl.out]at c5 HRv HK1
  clear k1 k2 k3 k4 k5 hPl h8 hA8 hg8 hvs hAg hs ht hb1 hb2 hob hI3 hA3 hB3 hT3 hs3
  gi_wp2_with (gi_at_builtin;refine Xw rfl _ _ rfl (w.heap.size+2) (.slice ao t cp) P rfl (HRv.out.row.kept0 (grow1 _ _)) s (.slice ab s.ags.length c) Wb.heap.size rfl (heap_alloc_new _ _) ((HAg.out.kept (grow1 _ _)).mono (by have:=HB.out;omega)) (by rw [HPl.out];have:=HB.out.2.2.2.2;omega) (by have:=HB.out;simp;omega) ?_)
  intro v7 w7 hR7 hg7 hw7
  obtain⟨ao7,c7,rfl⟩:=hR7.form
  have hPl7:(P++[((s,Value.slice ab s.ags.length c):St × Value)]).length=t+1:=by
   rw [List.length_append,List.length_singleton,HPl.out]
  rw [hPl7]at hR7 hw7 ⊢
  have hRV:=HRv.out.append (grow1 _ _) hR7 hg7 (hw7.imp id (fun⟨g,a,b,c⟩=>⟨g,a,by simp;omega,c⟩)) HAg.out (by have:=HB.out;omega) HB.out.2.2.1
  have hge:∀g,(Value.slice ao t cp).ownBlock=some g→w.heap.size+2≤g:=fun g h=>(HRv.out.row.tag h).1
  have hWs:Wb.heap.size≤w7.heap.size:=by
   have:=hg7.size
   simp at this
   omega
  have hA7:w7.heap[w.heap.size]?=some (.cells #[.slice ao t cp] 51 (0,0)):=by
   have h0:=((grow1 Wb (.cells #[.string s.vb,.string s.nm,.slice ab s.ags.length c] 24)).block _ (Zg HK1.out) (by simp)).trans HK1.out
   exact(hg7.block _ (Zg h0) (fun e=>by have:=hge _ e.symm;omega)).trans h0
  have hB7:w7.heap[w.heap.size+1]?=some (.cells #[.int .i64 (t:Nat)] 3 (0,0)):=by
   have h0:=((grow1 Wb (.cells #[.string s.vb,.string s.nm,.slice ab s.ags.length c] 24)).block _ (Zg HK2.out) (by simp)).trans HK2.out
   exact(hg7.block _ (Zg h0) (fun e=>by have:=hge _ e.symm;omega)).trans h0
  have hG7:w.grownBy w7 none:=X7 (Za HG.out (grow1 _ _)) (HRv.out.row.kept0 (grow1 _ _)) (by omega) hg7
  have hsame7:∀i,i<base→¬O i→w7.heap[i]?=Wb.heap[i]?:=fun i hi hO=>by
   have h1:=HB.out.2.2.1
   rw [hg7.block i (by simp;omega) (fun e=>hO (HRv.out.2.1 i e.symm)),(grow1 Wb _).block i (by omega) (by simp)]
  have e5:w7.cell? ⟨w.heap.size,0,none⟩=some (.slice ao t cp):=by simp [World.cell?,hA7]
  have f5:w7.frozen? ⟨w.heap.size,0,none⟩=false:=by simp [World.frozen?,hA7]
  have hA8:(w7.setCell ⟨w.heap.size,0,none⟩ (.slice ao7 (t+1) c7)).heap[w.heap.size]?=some (.cells #[.slice ao7 (t+1) c7] 51 (0,0)):=by
   simp [World.setCell,Array.getElem?_modify,hA7]
  have g8':w7.grownBy (w7.setCell ⟨w.heap.size,0,none⟩ (.slice ao7 (t+1) c7)) (some w.heap.size):=Zc _ _ _ _
  have hB8:=(g8'.block (w.heap.size+1) (Zg hB7) (fun e=>by injection e with e;omega)).trans hB7
  have e6:(w7.setCell ⟨w.heap.size,0,none⟩ (.slice ao7 (t+1) c7)).cell? ⟨w.heap.size+1,0,none⟩=some (.int .i64 (t:Nat)):=by simp only [World.cell?,hB8];rfl
  have f6:(w7.setCell ⟨w.heap.size,0,none⟩ (.slice ao7 (t+1) c7)).frozen? ⟨w.heap.size+1,0,none⟩=false:=by simp only [World.frozen?,hB8];rfl
  have hG8:w.grownBy (w7.setCell ⟨w.heap.size,0,none⟩ (.slice ao7 (t+1) c7)) none:=Zb hG7 (Nat.le_refl _)
  have hRV8:=hRV.kept g8' (fun r e=>.inr (by injection e with e;omega))
  have hG9:w.grownBy ((w7.setCell ⟨w.heap.size,0,none⟩ (.slice ao7 (t+1) c7)).setCell ⟨w.heap.size+1,0,none⟩ (.int .i64 ((t:Int)+1))) none:=Zb hG8 (by omega)
  have g9:(w7.setCell ⟨w.heap.size,0,none⟩ (.slice ao7 (t+1) c7)).grownBy ((w7.setCell ⟨w.heap.size,0,none⟩ (.slice ao7 (t+1) c7)).setCell ⟨w.heap.size+1,0,none⟩ (.int .i64 ((t:Int)+1))) (some (w.heap.size+1)):=Zc _ _ _ _
  have hRV9:=hRV8.kept g9 (fun r e=>.inr (by injection e with e;omega))
  have hA9:=(g9.block w.heap.size (Zg hA8) (fun e=>by injection e with e;omega)).trans hA8
  have hB9:((w7.setCell ⟨w.heap.size,0,none⟩ (.slice ao7 (t+1) c7)).setCell ⟨w.heap.size+1,0,none⟩ (.int .i64 ((t:Int)+1))).heap[w.heap.size+1]?=some (.cells #[.int .i64 ((t:Int)+1)] 3 (0,0)):=by
   generalize w7.setCell ⟨w.heap.size,0,none⟩ (.slice ao7 (t+1) c7)=w8 at *
   simp [World.setCell,Array.getElem?_modify,hB8]
  have hs89:=g8'.size
  have hs99:=g9.size
  have FIN:Hid (∀act,roundG true none W3.heap.size base (fun _=>False) (PaI w S) (t+1) O Wb .normal act ((w7.setCell ⟨w.heap.size,0,none⟩ (.slice ao7 (t+1) c7)).setCell ⟨w.heap.size+1,0,none⟩ (.int .i64 ((t:Int)+1)))):=by
   intro act
   refine⟨rfl,_,⟨_,_,hA9,hB9,hRV9,?_,hG9⟩,by omega,fun i hi hib hO=>?_,fun r hr=>hr.imp id (fun h=>⟨h.1,by omega⟩)⟩
   ·show _=S.take (t+1)
    rw [List.map_append,List.take_add_one,HK4.out.1,HK4.out.2]
    rfl
   ·have hi3:W3.heap.size≤i:=by
      rcases hi with h|h
      ·exact h
      ·exact h.elim
    have h1:=HB.out
    have hlt:=hsame7 i hib hO
    rw [g9.block i (by omega) (fun e=>by injection e with e;omega),g8'.block i (by omega) (fun e=>by injection e with e;omega),hlt]
  clear hRV hge hWs hA7 hB7 hG7 hsame7 hA8 g8' hB8 hG8 hRV8 hG9 g9 hRV9 hA9 hB9 hs89 hs99 hR7 hg7 hw7 hPl7
  gi_wp2
  exact FIN.out _
 ·intro D O Wx hD hI2 hob2 hDd hoD
  rw [if_pos rfl]
  have HI:Hid (PaI w S (S.length,O) Wx):=hI2
  have HD:Hid (w.heap.size+2≤D∧Wx.heap[D]?=some (.deferred (some []))∧¬O D):=⟨by omega,hDd,hoD⟩
  obtain⟨v,P,k1,k2,k3,k4,k5⟩:=hI2
  simp only at k2 k3 k4
  rw [List.take_length]at k4
  have hPl:P.length=S.length:=by rw [←k4,List.length_map]
  obtain⟨ao,cp,rfl⟩:=k3.row.form
  rw [hPl]at k1 k3
  obtain⟨k,hk⟩:∃k,S.length=k:=⟨_,rfl⟩
  have HKl:Hid (S.length=k):=hk
  rw [hk]at k1 k2 k3
  have hkI:(k:Int)≤4096:=by have:=HSl.out;omega
  have HY:Hid (∀W',Wx.grownBy W' none→W'.cell? ⟨w.heap.size,0,none⟩=some (.slice ao k cp)∧W'.cell? ⟨w.heap.size+1,0,none⟩=some (.int .i64 (k:Nat))):=fun W' hg=>by
   have h1:=(hg.block _ (Zg k1) (by simp)).trans k1
   have h2:=(hg.block _ (Zg k2) (by simp)).trans k2
   exact⟨by simp [World.cell?,h1],by simp [World.cell?,h2]⟩
  have HAx:Hid (Wx.heap[w.heap.size]?=some (.cells #[.slice ao k cp] 51 (0,0))):=k1
  have c6:=(HY.out Wx (grow0 _)).2
  clear k1 k2 k3 k4 k5 hPl hk hD hob2 hDd hoD hI3 hA3 hB3 hT3 hs3
  have HY6:Hid (∀W',Wx.grownBy W' none→W'.cell? ⟨w.heap.size+1,0,none⟩=some (.int .i64 (k:Nat))):=fun W' hg=>(HY.out W' hg).2
  have HLa3:Hid (if ok=true then k=linesN L else k<linesN L):=by
   have h:=HLa2.out
   rw [HKl.out]at h
   exact h
  have HLq:Hid (S.length=k):=HKl.out
  have HEnd:Hid (∀W,PaI w S (S.length,O) W→∃v P,W.heap[w.heap.size]?=some (.cells #[v] 51 (0,0))∧RowU W w.heap.size v P∧P.map (·.1)=S∧w.grownBy W none):=fun W h=>by
   obtain⟨v,P,h1,h2,h3,h4,h5⟩:=h
   refine⟨v,P,h1,?_,by rw [h4];exact List.take_length,h5⟩
   have hr:=h3.row
   refine⟨⟨hr.1.1,?_⟩,fun x hx=>(hr.2 x hx).mono (by omega)⟩
   rcases hr.1.2 with h|⟨g,cap,cur,e,hb,hh⟩
   ·exact .inl h
   ·exact .inr ⟨g,cap,cur,e,by omega,hh⟩
  generalize linesN L=n at *
  generalize bA L=sv at *
  clear HAh HC1 HLa2 EG HE
  dsimp only
  cases ok with
  |false =>
   have hlt:(k:Int)<(n:Int):=by
    have h:=HLa3.out
    simp at h
    omega
   go_upto_region 10 with fail
   go_region_held3 (fun w'=>w'.cell? ⟨w.heap.size+1,0,none⟩=some (.int .i64 (k:Nat)))
    (first|(go_keep;done)|with_reducible exact HY6.out _ (by assumption)|with_reducible exact HY6.out _ (Zf (World.grownBy.refl _ _))|fail)
    (first|(go_at_call 54;refine(HLn.out _).mono ?_;rintro e w1 ⟨rfl,g1⟩;have G1:Wx.grownBy w1 none:=(by first|exact g1|exact Zj g1))|fail)
   all_goals (
    have HG1:Hid (Wx.grownBy w1 none):=G1
    have c7:=HY6.out w1 G1
    clear G1 c6
    go_upto_region 11 with fail
    go_quiet (fail)
    have GQ:w1.grownBy (w1.drewN nq) none:=ZC (World.grownBy.refl _ _) _
    generalize w1.drewN nq=wq at *
    have HIq:Hid (PaI w S (S.length,O) wq):=HI.out.kept (Za HG1.out GQ) (fun r e=>by cases e)
    have HDq:Hid (w.heap.size+2≤D∧wq.heap[D]?=some (.deferred (some []))∧¬O D):=⟨HD.out.1,((Za HG1.out GQ).block _ (Zg HD.out.2.1) (by simp)).trans HD.out.2.1,HD.out.2.2⟩
    clear GQ
    go_wp2_with fail
    refine ZY _ (w.heap.size+2) O (PaI w S (S.length,O)) (fun W _=>results_tmp3 rfl _ _ W) ?_ ?_ [D] wq (by simp) ?_ HIq.out
    ·exact fun W D hi hD hne=>hi.kept (grownBy_putObj' W D _) (fun r e=>by injection e with e;subst e;exact⟨hD,hne⟩)
    ·intro W hi
     obtain⟨v,P,h1,h2,h3,h4⟩:=HEnd.out W hi
     exact⟨⟨_,[],by rw [HLq.out];rfl,RowU.nil _ _,rfl⟩,h4⟩
    ·intro D' hD'
     obtain rfl:D'=D:=by simpa using hD'
     exact HDq.out)
  |true =>
   have hlt:¬k<n:=by
    have h:=HLa3.out
    simp at h
    omega
   have hk4:decide ((4096:Int)<(k:Int))=false:=decide_eq_false (by omega)
   have hk5:¬4096<k:=by omega
   go_upto_region 10 with fail
   go_region_held3 (fun w'=>w'.cell? ⟨w.heap.size+1,0,none⟩=some (.int .i64 (k:Nat)))
    (first|(go_keep;done)|with_reducible exact HY6.out _ (by assumption)|with_reducible exact HY6.out _ (Zf (World.grownBy.refl _ _))|fail)
    (first|(go_at_call 54;refine(HLn.out _).mono ?_;rintro e w1 ⟨rfl,g1⟩;have G1:Wx.grownBy w1 none:=(by first|exact g1|exact Zj g1))|fail)
   all_goals (
    have HG1:Hid (Wx.grownBy w1 none):=G1
    have c7:=HY6.out w1 G1
    have c8:=(HY.out w1 G1).1
    clear G1 c6
    go_upto_region 14 with fail
    have HYw:Hid (∀W',w1.grownBy W' none→W'.cell? ⟨w.heap.size,0,none⟩=some (.slice ao k cp)∧W'.cell? ⟨w.heap.size+1,0,none⟩=some (.int .i64 (k:Nat))):=fun W' hg=>HY.out W' (Za HG1.out hg)
    go_region_held3 (fun w'=>w'.cell? ⟨w.heap.size,0,none⟩=some (.slice ao k cp)∧w'.cell? ⟨w.heap.size+1,0,none⟩=some (.int .i64 (k:Nat)))
     (first|(go_keep;done)|with_reducible exact HYw.out _ (by assumption)|with_reducible exact HYw.out _ (Zf (World.grownBy.refl _ _))|fail)
     (fail)
    have GQ:w1.grownBy w1.drew none:=Zf (World.grownBy.refl _ _)
    generalize w1.drew=wq at *
    have HIq:Hid (PaI w S (S.length,O) wq):=HI.out.kept (Za HG1.out GQ) (fun r e=>by cases e)
    have HDq:Hid (w.heap.size+2≤D∧wq.heap[D]?=some (.deferred (some []))∧¬O D):=⟨HD.out.1,((Za HG1.out GQ).block _ (Zg HD.out.2.1) (by simp)).trans HD.out.2.1,HD.out.2.2⟩
    have HAq:Hid (wq.heap[w.heap.size]?=some (.cells #[.slice ao k cp] 51 (0,0))):=((Za HG1.out GQ).block _ (Zg HAx.out) (by simp)).trans HAx.out
    clear GQ
    go_wp2_with fail
    refine ZY _ (w.heap.size+2) O (fun W=>PaI w S (S.length,O) W∧W.heap[w.heap.size]?=some (.cells #[.slice ao k cp] 51 (0,0))) (fun W _=>results_tmp3 rfl _ _ W) ?_ ?_ [D] wq (by simp) ?_ ⟨HIq.out,HAq.out⟩
    ·exact fun W D hi hD hne=>⟨hi.1.kept (grownBy_putObj' W D _) (fun r e=>by injection e with e;subst e;exact⟨hD,hne⟩),((grownBy_putObj' W D _).block _ (Zg hi.2) (fun e=>by injection e with e;omega)).trans hi.2⟩
    ·intro W hi
     obtain⟨v,P,h1,h2,h3,h4⟩:=HEnd.out W hi.1
     have hv:=hi.2
     rw [h1]at hv
     injection hv with hv
     injection hv with hv _ _
     injection hv with hv
     injection hv with hv _
     subst hv
     exact⟨⟨_,P,by rw [HLq.out];rfl,h2,h3⟩,h4⟩
    ·intro D' hD'
     obtain rfl:D'=D:=by simpa using hD'
     exact HDq.out)
end Go.Proofs.YtdcadiaeaclpgaaGreatDoor
