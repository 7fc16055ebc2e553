/- A text's pieces between blanks; the program's function that takes one. -/
import Derived.Test.YtdcadiaeaclpgaaGreatDoorBunSrg
namespace Go.Proofs.YtdcadiaeaclpgaaGreatDoor
open Go Go.RowKit Go.Lib Go.Sort
set_option linter.unusedVariables false
set_option linter.unusedSimpArgs false
set_option maxHeartbeats 1600000
set_option maxRecDepth 1000000
def spl (m:UInt8):List UInt8→List (List UInt8)
 |[]=>[[]]
 |b::l=>if b=m then []::spl m l else match spl m l with
  |p::ps=>(b::p)::ps
  |[]=>[[b]]
theorem X3 (m:UInt8):∀L,spl m L≠[]
 |[]=>by simp [spl]
 |b::l=>by
  unfold spl
  split
  ·simp
  ·split<;>simp
theorem VS {m:UInt8}:∀ {A:List UInt8} (B:List UInt8),(∀x∈A,x≠m)→spl m (A++m::B)=A::spl m B
 |[],B,_=>by simp [spl]
 |a::A,B,h=>by
  have ha:=h a (by simp)
  have ih:=VS (A:=A) B (fun x hx=>h x (by simp [hx]))
  rw [List.cons_append,spl,if_neg ha,ih]
theorem VO {m:UInt8}:∀ {A:List UInt8},(∀x∈A,x≠m)→spl m A=[A]
 |[],_=>rfl
 |a::A,h=>by
  have ha:=h a (by simp)
  have ih:=VO (A:=A) (fun x hx=>h x (by simp [hx]))
  rw [spl,if_neg ha,ih]
theorem ZfM {m b:UInt8} (hb:b≠m) {L p:List UInt8} {ps:List (List UInt8)} (h:spl m L=p::ps):L.head?=some b ↔ p.head?=some b:=by
 cases L with
 |nil =>
  simp [spl]at h
  obtain⟨rfl,_⟩:=h
  rfl
 |cons a l =>
  unfold spl at h
  split at h
  ·rename_i e
   cases h
   subst e
   simp
   exact fun e=>hb e.symm
  ·split at h
   ·cases h
    simp
   ·cases h
    simp
theorem XS {m:UInt8}:∀(L:List UInt8),∀p∈spl m L,p.length≤L.length
 |[],p,h=>by
  simp [spl]at h
  simp [h]
 |b::l,p,h=>by
  have ih:=XS (m:=m) l
  unfold spl at h
  split at h
  ·rcases List.mem_cons.1 h with rfl|h
   ·simp
   ·have:=ih p h
    simp
    omega
  ·split at h
   ·rename_i q qs hq
    rw [hq]at ih
    rcases List.mem_cons.1 h with rfl|h
    ·have:=ih q (by simp)
     simp
     omega
    ·have:=ih p (by simp [h])
     simp
     omega
   ·simp at h
    simp [h]
def CutL (L A B:List UInt8) (f:Bool):Prop:=(f=true∧spl 32 L=A::spl 32 B∧A.length≤L.length∧B.length<L.length)∨(f=false∧spl 32 L=[A]∧B=[]∧A.length≤L.length)
theorem Zas {A B:List UInt8} (h:A.map UInt8.toNat=B.map UInt8.toNat):A=B:=by
 induction A generalizing B with
 |nil=>cases B with
  |nil=>rfl
  |cons b l=>simp at h
 |cons a A ih=>cases B with
  |nil=>simp at h
  |cons b B =>
   simp only [List.map_cons,List.cons.injEq]at h
   rw [ih h.2,UInt8.toNat_inj.1 h.1]
theorem not_m {A:List UInt8} {m:UInt8} (h:∀x∈A.map UInt8.toNat,x≠m.toNat):∀x∈A,x≠m:=by
 rintro x hx rfl
 exact h _ (List.mem_map.2 ⟨_,hx,rfl⟩) rfl
theorem ZfO (L:List UInt8) (hL:L.length≤20000) (w:World) :
    Calls Tryz.prog 69 #[.string (bA L),.string ⟨#[32]⟩] w fun e w'=>∃A B f,e=.returned (.tuple #[.string (bA A),.string (bA B),.bool f])∧CutL L A B f∧w.grownBy w' none:=by
 refine(Zed (bA L) (by rw [Zo];omega) w).mono ?_
 rintro e w' ⟨a,b,f,rfl,h,_,_,hg⟩
 refine⟨a.data.toList,b.data.toList,f,by rw [bA_of,bA_of],?_,hg⟩
 rcases h with ⟨rfl,h1,h2⟩|⟨rfl,rfl,rfl,h1⟩
 ·refine .inl ⟨rfl,?_⟩
  rw [bN_bA,Xj,Xj]at h1
  rw [Xj]at h2
  have h3:L=a.data.toList++32::b.data.toList:=Zas (by
   rw [h1]
   simp)
  generalize a.data.toList=A at *
  generalize b.data.toList=B at *
  subst h3
  refine⟨VS B (not_m h2),?_,?_⟩
  ·simp
  ·simp
   omega
 ·refine .inr ⟨rfl,?_,rfl,?_⟩
  ·rw [bN_bA]at h1
   rw [ZD]
   exact VO (not_m h1)
  ·rw [ZD]
   exact Nat.le_refl _
theorem Ze7 (L:List UInt8) (hL:L.length≤20000) (p q:Nat) (hpq:p≠q) (u:Bool) (w:World) (hp:w.heap[p]?=some (.cells #[.string (bA L)] 9)) (hq:w.heap[q]?=some (.cells #[.bool u] 4)) :
    Calls Tryz.prog 68 #[.pointer (some ⟨p,0,none⟩),.pointer (some ⟨q,0,none⟩)] w fun e w'=>∃A B f w1,e=.returned (.string (bA A))∧CutL L A B f∧w.grownBy w1 none∧w'=(w1.setCell ⟨p,0,none⟩ (.string (bA B))).setCell ⟨q,0,none⟩ (.bool f):=by
 have HC:=ZfO L hL w
 have c0:w.cell? ⟨p,0,none⟩=some (.string (bA L)):=by simp only [World.cell?,hp];rfl
 have HP:Hid (w.heap[p]?=some (.cells #[.string (bA L)] 9)):=hp
 have HQ:Hid (w.heap[q]?=some (.cells #[.bool u] 4)):=hq
 clear hp hq hL
 go_enter Tryz.func68,Tryz.ntmps68
 go_wp2_with fail
 refine HC.mono ?_
 rintro e w1 ⟨A,B,f,rfl,h,g⟩
 have H:Hid (CutL L A B f∧w.grownBy w1 none):=⟨h,g⟩
 have h1:w1.heap[p]?=some (.cells #[.string (bA L)] 9):=(g.block _ (Array.getElem?_eq_some_iff.1 HP.out).1 (by simp)).trans HP.out
 have h2:w1.heap[q]?=some (.cells #[.bool u] 4):=(g.block _ (Array.getElem?_eq_some_iff.1 HQ.out).1 (by simp)).trans HQ.out
 have d0:w1.cell? ⟨p,0,none⟩=some (.string (bA L)):=by simp only [World.cell?,h1];rfl
 have d1:w1.cell? ⟨q,0,none⟩=some (.bool u):=by simp only [World.cell?,h2];rfl
 have f0:w1.frozen? ⟨p,0,none⟩=false:=by simp only [World.frozen?,h1];rfl
 have f1:w1.frozen? ⟨q,0,none⟩=false:=by simp only [World.frozen?,h2];rfl
 clear c0 h1 h2 h g HC HP HQ
 go_wp2_with fail
 go_ret
 exact⟨A,B,f,w1,rfl,H.out.1,H.out.2,rfl⟩
theorem Tryz.infoAg:(Tryz.prog.info? 45).map (fun i=>(i.zero,i.size,i.bytes))=some (some (agv ⟨0,eS,Gz.zero,[],0⟩ (.slice none 0 0)),12,152):=by kernel_rfl
def cellsA (P:List (Ag × Value)):List Value:=P.flatMap fun x=>(agc x.1 x.2).toList
theorem ZaN (a:Ag) (u:Value):(agc a u).toList.length=12:=rfl
theorem UO (P Q:List (Ag × Value)):cellsA (P++Q)=cellsA P++cellsA Q:=by simp [cellsA]
theorem Zca (x:Ag × Value):cellsA [x]=(agc x.1 x.2).toList:=by simp [cellsA]
theorem Ug:∀(P:List (Ag × Value)) (i:Nat) (x:Ag × Value),P[i]?=some x→∀j,j<12→(cellsA P)[i*12+j]?=(agc x.1 x.2).toList[j]?
 |[],i,x,h,_,_=>by simp at h
 |p::l,0,x,h,j,hj=>by
  simp at h
  subst h
  have e:cellsA (p::l)=(agc p.1 p.2).toList++cellsA l:=rfl
  rw [e,Nat.zero_mul,Nat.zero_add,List.getElem?_append_left (by rw [ZaN];exact hj)]
 |p::l,i+1,x,h,j,hj=>by
  have e:cellsA (p::l)=(agc p.1 p.2).toList++cellsA l:=rfl
  rw [e,List.getElem?_append_right (by rw [ZaN];omega),ZaN]
  have e2:(i+1)*12+j-12=i*12+j:=by omega
  rw [e2]
  exact Ug l i x (by simpa using h) j hj
def RowA (w:World) (base:Nat) (v:Value) (P:List (Ag × Value)):Prop:=w.ownsRow base 45 12 v P.length (cellsA P)∧∀x∈P,OwI w base x.2 x.1.wd
theorem RowA.nil (w:World) (base:Nat):RowA w base (.slice none 0 0) []:=⟨World.ownsRow_nil _ _ _ _,fun x hx=>by simp at hx⟩
theorem RowA.form {w:World} {base:Nat} {v:Value} {P:List (Ag × Value)} (h:RowA w base v P):∃ao c,v=.slice ao P.length c:=by
 rcases h.1.2 with ⟨e,hn⟩|⟨g,cap,cur,rfl,hb,_,hc,_⟩
 ·exact⟨none,0,by rw [e,hn]⟩
 ·exact⟨_,cap,rfl⟩
theorem RowA.kept0 {w w':World} {base:Nat} {v:Value} {P:List (Ag × Value)} (h:RowA w base v P) (hg:w.grownBy w' none):RowA w' base v P :=
 ⟨World.ownsRow.kept h.1 hg (by cases v.ownBlock<;>simp),fun x hx=>(h.2 x hx).kept0 hg⟩
theorem RowA.keptB {w w':World} {base k:Nat} {v:Value} {P:List (Ag × Value)} (h:RowA w base v P) (hk:k<base) (hg:w.grownBy w' (some k)):RowA w' base v P:=by
 refine⟨World.ownsRow.kept h.1 hg ?_,fun x hx=>(h.2 x hx).kept hg ?_⟩
 ·rcases h.1.2 with ⟨e,_⟩|⟨g,cap,cur,rfl,hb,_⟩
  ·exact .inl (by rw [e];rfl)
  ·refine .inr ?_
   simp [Value.ownBlock]
   omega
 ·rcases(h.2 x hx).cases with ⟨e,_⟩|⟨g,c,e,hb,_⟩
  ·exact .inl (by rw [e];rfl)
  ·refine .inr ?_
   rw [e]
   simp [Value.ownBlock]
   omega
theorem OwI.tag {w:World} {base:Nat} {v:Value} {L:List Int} (h:OwI w base v L) {g:Nat} (hg:v.ownBlock=some g):∃cur,w.heap[g]?=some (.cells cur 3 (0,0)):=by
 rcases h.2 with ⟨e,_⟩|⟨g',cap,cur,e,hb,hgg,_⟩
 ·rw [e]at hg
  cases hg
 ·rw [e]at hg
  cases hg
  exact⟨cur,hgg⟩
theorem RowA.tag {w:World} {base:Nat} {v:Value} {P:List (Ag × Value)} (h:RowA w base v P) {g:Nat} (hg:v.ownBlock=some g):∃cur,w.heap[g]?=some (.cells cur 45 (0,0)):=by
 rcases h.1.2 with ⟨e,_⟩|⟨g',cap,cur,e,hb,hgg,_⟩
 ·rw [e]at hg
  cases hg
 ·rw [e]at hg
  cases hg
  exact⟨cur,hgg⟩
theorem OwI.apart {w:World} {base base':Nat} {v u:Value} {L:List Int} {P:List (Ag × Value)} (h:OwI w base' u L) (hR:RowA w base v P):u.ownBlock=none∨u.ownBlock≠v.ownBlock:=by
 cases hu:u.ownBlock with
 |none=>exact .inl rfl
 |some g =>
  refine .inr fun e=>?_
  obtain⟨c1,h1⟩:=h.tag hu
  obtain⟨c2,h2⟩:=hR.tag e.symm
  rw [h1]at h2
  simp at h2
theorem Vb {a w w':World} {base:Nat} {v:Value} {P:List (Ag × Value)} (h:a.grownBy w none) (ho:RowA w base v P) (hb:a.heap.size≤base) (k:w.grownBy w' v.ownBlock):a.grownBy w' none:=by
 rcases ho.1.2 with ⟨e,_⟩|⟨g,cap,cur,e,hg,_⟩
 ·rw [e]at k
  exact Za h k
 ·rw [e]at k
  exact Zq h (Nat.le_trans hb hg) k
theorem V8 (w:World) (base:Nat) (ty:TypeId) (v:Value) (P:List (Ag × Value)) (a:Ag) (ab:Option Addr) (n c:Nat) (h:RowA w base v P) (hl:P.length≤1000000) (hb:base≤w.heap.size) (g0:Nat) (h0:w.heap[g0]?=some (.cells (agc a (.slice ab n c)) 45 (0,0))) (hw:OwI w base (.slice ab n c) a.wd) :
    ∃v' w',(Builtin.append_ #[22,22] ty #[v,.slice (some ⟨g0,0,none⟩) 1 1]).run Tryz.prog w=.ok v' w'∧RowA w' base v' (P++[(a,.slice ab n c)])∧w.grownBy w' v.ownBlock:=by
 obtain⟨i0,hi,hz0,hz1,hz2⟩:=info_parts Tryz.infoAg
 have hadd:∀j u,(agc a (.slice ab n c)).toList[j]?=some u→w.cell? ((⟨g0,0,none⟩:Addr).add j)=some u:=by
  intro j u hj
  rw [Addr.add_lit,Nat.zero_add]
  simp only [World.cell?,h0]
  rw [Array.getElem?_toList]at hj
  exact hj
 have h1:∀u∈(agc a (.slice ab n c)).toList,u.oneCell'=true:=by
  intro u hu
  simp at hu
  rcases hu with rfl|rfl|rfl|rfl|rfl|rfl|rfl|rfl|rfl|rfl|rfl|rfl<;>rfl
 obtain⟨v',w',hr,ho,hg,hn⟩:=run_append_own (P:=Tryz.prog) w base 22 ty 45 i0 (agv ⟨0,eS,Gz.zero,[],0⟩ (.slice none 0 0)) 12 152 Tryz.underlying22 hi hz0 hz1 hz2 rfl (by decide) v P.length _ h.1 ⟨g0,0,none⟩ 1 1 (agc a (.slice ab n c)).toList rfl hadd h1 (by unfold maxLen;omega) (by omega) hb
 refine⟨v',w',hr,⟨?_,?_⟩,hg⟩
 ·rw [UO,List.length_append,Zca]
  exact ho
 ·intro x hx
  rw [List.mem_append]at hx
  rcases hx with hx|hx
  ·exact(h.2 x hx).kept hg ((h.2 x hx).apart h)
  ·simp at hx
   subst hx
   exact hw.kept hg (hw.apart h)
theorem Y1 {ops:Array Oper} {o:Oper} {a:Act} {w:World} {K:Act→World→Prop} {Q:Exit→Act→World→Prop} {E:Prop}
    (hgd:o.guard=none) (s x:Operand)
    (ho:o.op=.call { callee:=.builtin .append,args:=#[s,x],argTypes:=#[22,22] })
    (base:Nat) (v:Value) (P:List (Ag × Value)) (hs:a.eval s=v) (hR:RowA w base v P) (y:Ag) (ab:Option Addr) (n c:Nat) (g0:Nat) (hx:a.eval x=.slice (some ⟨g0,0,none⟩) 1 1) (h0:w.heap[g0]?=some (.cells (agc y (.slice ab n c)) 45 (0,0))) (hw:OwI w base (.slice ab n c) y.wd) (hl:P.length≤1000000) (hb:base≤w.heap.size)
    (h:∀v' w',RowA w' base v' (P++[(y,.slice ab n c)])→w.grownBy w' v.ownBlock→K (a.put o.dst v') w') :
    if Region.wanted o (yielded ops a.tmps)=true then Oper.wp Tryz.prog o a w K Q else E:=by
 have hw2:Region.wanted o (yielded ops a.tmps)=true:=by simp [Region.wanted,hgd]
 rw [if_pos hw2]
 obtain⟨v',w',hr,h2,h3⟩:=V8 w base o.type v P y ab n c hR hl hb g0 h0 hw
 unfold Oper.wp
 simp [execOp,ho,resolve,invoke,builtin,hs,hx,hr,Result.andThen]
 exact h v' w' h2 h3
def AgsF (w:World) (base:Nat) (v:Value) (G:List Ag):Prop :=
 (v=.slice none 0 0∧G=[])∨∃B c cur,v=.slice (some ⟨B,0,none⟩) G.length c∧base≤B∧w.heap[B]?=some (.cells cur 45 (0,0))∧G.length≤c∧c≤maxLen∧c*12≤cur.size∧∀j a,G[j]?=some a→∃u,Fr w base u a.wd∧∀i,i<12→cur[j*12+i]?=(agc a u).toList[i]?
theorem RowA.told {w:World} {base:Nat} {v:Value} {P:List (Ag × Value)} (h:RowA w base v P):AgsF w base v (P.map (·.1)):=by
 rcases h.1.2 with ⟨e,hn⟩|⟨g,cap,cur,e,hb,hg,hc,hm,hs,ht⟩
 ·obtain rfl:=List.length_eq_zero_iff.1 hn
  exact .inl ⟨e,rfl⟩
 ·refine .inr ⟨g,cap,cur,by rw [e,List.length_map],hb,hg,by rw [List.length_map];exact hc,hm,Nat.le_of_eq hs.symm,fun j a hj=>?_⟩
  rw [List.getElem?_map]at hj
  cases hp:P[j]? with
  |none=>rw [hp]at hj;cases hj
  |some x =>
   rw [hp]at hj
   cases hj
   refine⟨x.2,(h.2 x (List.mem_of_getElem? hp)).fr,fun i hi=>?_⟩
   have hjl:j<P.length:=(List.getElem?_eq_some_iff.1 hp).1
   rw [←Ug P j x hp i hi,←ht,List.getElem?_take_of_lt (by omega),Array.getElem?_toList]
noncomputable def agsR:List (List UInt8)→Option (List Ag)
 |[]=>some []
 |p::ps=>match agU p with
  |none=>none
  |some a=>match agsR ps with
   |none=>none
   |some l=>some (a::l)
noncomputable def finG (G:List Ag) (ps:List (List UInt8)):Option (List Ag):=if G.length+ps.length≤64 then(match agsR ps with
 |none=>none
 |some l=>some (G++l))else none
theorem Zbz {G:List Ag} (h:G.length≤64):finG G []=some G:=by
 unfold finG
 rw [if_pos (by simpa using h)]
 simp [agsR]
theorem Zdr {G:List Ag} {p:List UInt8} {ps:List (List UInt8)} (h:64≤G.length):finG G (p::ps)=none:=by
 unfold finG
 rw [if_neg (by simp;omega)]
theorem Za4 {G:List Ag} {p:List UInt8} {ps:List (List UInt8)} (h:agU p=none):finG G (p::ps)=none:=by
 unfold finG
 split
 ·rw [agsR,h]
 ·rfl
theorem Y0 {G:List Ag} {p:List UInt8} {ps:List (List UInt8)} {a:Ag} (h:agU p=some a):finG (G++[a]) ps=finG G (p::ps):=by
 have e:(G++[a]).length+ps.length=G.length+(p::ps).length:=by simp;omega
 unfold finG
 rw [e,agsR,h]
 cases agsR ps with
 |none=>rfl
 |some l=>simp
noncomputable def stU (L:List UInt8):Option St:=match spl 32 L with
 |[]=>none
 |v::ps=>if isVb (bA v)=true then(if(ps.headD []).head?=some 61 then(if isNm (bA (ps.headD []).tail)=true then(match finG [] ps.tail with
   |none=>none
   |some G=>some ⟨bA v,bA (ps.headD []).tail,G⟩)else none)else(match finG [] ps with
   |none=>none
   |some G=>some ⟨bA v,eS,G⟩))else none
def stA (L:List UInt8) (w:World) (base:Nat) (e:Ending):Prop:=match stU L with
 |some s=>∃ab c,e=.returned (.agg #[.string s.vb,.string s.nm,.slice ab s.ags.length c])∧AgsF w base (.slice ab s.ags.length c) s.ags
 |none=>e=upE
def remU (f:Bool) (B:List UInt8):List (List UInt8):=if f then spl 32 B else []
structure CutN (L A B:List UInt8) (f:Bool):Prop where
 pcs:spl 32 L=A::remU f B
 no:f=false→B=[]
 a:A.length≤20000
 b:B.length≤20000
 lt:f=true→B.length<L.length
theorem CutL.n {L A B:List UInt8} {f:Bool} (h:CutL L A B f) (hL:L.length≤20000):CutN L A B f:=by
 rcases h with ⟨rfl,h1,h2,h3⟩|⟨rfl,h1,h2,h3⟩
 ·exact⟨h1,fun e=>(by cases e),by omega,by omega,fun _=>h3⟩
 ·subst h2
  exact⟨h1,fun _=>rfl,by omega,by simp,fun e=>by cases e⟩
theorem CutN.head {L A B:List UInt8} {f:Bool} (h:CutN L A B f):((remU f B).headD []).head?=some 61 ↔ B.head?=some 61:=by
 cases f with
 |false =>
  rw [h.no rfl]
  simp [remU]
 |true =>
  cases hs:spl 32 B with
  |nil=>exact absurd hs (X3 32 B)
  |cons p ps =>
   rw [ZfM (b:=61) (by decide) hs]
   simp [remU,hs]
abbrev stZ:Obj:=.cells #[.string eS,.string eS,.slice none 0 0] 24
structure SW (w wx:World) (L:List UInt8) (f:Bool):Prop where
 r:wx.heap[w.heap.size]?=some stZ
 s:wx.heap[w.heap.size+1]?=some (.cells #[.string (bA L)] 9)
 f:wx.heap[w.heap.size+2]?=some (.cells #[.bool f] 4)
 g:w.grownBy wx none
theorem Zg {w:World} {k:Nat} {o:Obj} (h:w.heap[k]?=some o):k<w.heap.size:=(Array.getElem?_eq_some_iff.1 h).1
theorem SW.kept {w wx wy:World} {L:List UInt8} {f:Bool} (h:SW w wx L f) (hg:wx.grownBy wy none):SW w wy L f :=
 ⟨(hg.block _ (Zg h.r) (by simp)).trans h.r,(hg.block _ (Zg h.s) (by simp)).trans h.s,(hg.block _ (Zg h.f) (by simp)).trans h.f,Za h.g hg⟩
theorem SW.keptB {w wx wy:World} {L:List UInt8} {f:Bool} {B:Nat} (h:SW w wx L f) (hB:w.heap.size+2<B) (hg:wx.grownBy wy (some B)) (hg2:w.grownBy wy none):SW w wy L f :=
 ⟨(hg.block _ (Zg h.r) (by simp;omega)).trans h.r,(hg.block _ (Zg h.s) (by simp;omega)).trans h.s,(hg.block _ (Zg h.f) (by simp;omega)).trans h.f,hg2⟩
theorem SW.took {w wx w1:World} {L B:List UInt8} {f f':Bool} (h:SW w wx L f) (hg:wx.grownBy w1 none):SW w ((w1.setCell ⟨w.heap.size+1,0,none⟩ (.string (bA B))).setCell ⟨w.heap.size+2,0,none⟩ (.bool f')) B f':=by
 have h1:=h.kept hg
 refine⟨?_,?_,?_,Zb (Zb h1.g (by omega)) (by omega)⟩
 ·have e1:¬(w.heap.size+2=w.heap.size):=by omega
  have e2:¬(w.heap.size+1=w.heap.size):=by omega
  have:=h1.r
  simp [World.setCell,Array.getElem?_modify,this]
 ·have:=h1.s
  simp [World.setCell,Array.getElem?_modify,this]
 ·have:=h1.f
  simp [World.setCell,Array.getElem?_modify,this]
theorem Zck {wx w1:World} {p q k:Nat} {x y:Value} (hg:wx.grownBy w1 none) (hk:k<wx.heap.size) (h1:k≠p) (h2:k≠q):((w1.setCell ⟨p,0,none⟩ x).setCell ⟨q,0,none⟩ y).heap[k]?=wx.heap[k]?:=by
 have:=hg.block k hk (by simp)
 simp [World.setCell,Array.getElem?_modify,Ne.symm h1,Ne.symm h2]
 exact this
theorem SW.keptR {w wx wy:World} {L:List UInt8} {f:Bool} {row:Option Nat} (h:SW w wx L f) (hn:∀k,k≤w.heap.size+2→row≠some k) (hg:wx.grownBy wy row) (hg2:w.grownBy wy none):SW w wy L f :=
 ⟨(hg.block _ (Zg h.r) (fun e=>hn _ (by omega) e.symm)).trans h.r,(hg.block _ (Zg h.s) (fun e=>hn _ (by omega) e.symm)).trans h.s,(hg.block _ (Zg h.f) (fun e=>hn _ (by omega) e.symm)).trans h.f,hg2⟩
theorem RowA.ne {w:World} {base k:Nat} {v:Value} {P:List (Ag × Value)} (h:RowA w base v P) (hk:k<base):v.ownBlock≠some k:=by
 rcases h.1.2 with ⟨e,_⟩|⟨g,cap,cur,e,hb,_⟩
 ·rw [e]
  simp [Value.ownBlock]
 ·rw [e]
  simp [Value.ownBlock]
  omega
def DB (wx:World) (B:Nat) (vb nm:ByteArray) (v:Value):Prop:=wx.heap[B]?=some (.cells #[.string vb,.string nm,v] 24)
theorem DB.c0 {wx:World} {B:Nat} {vb nm:ByteArray} {v:Value} (h:DB wx B vb nm v):wx.cell? ⟨B,0,none⟩=some (.string vb):=by
 unfold DB at h
 simp only [World.cell?,h]
 rfl
theorem DB.c1 {wx:World} {B:Nat} {vb nm:ByteArray} {v:Value} (h:DB wx B vb nm v):wx.cell? ⟨B,1,none⟩=some (.string nm):=by
 unfold DB at h
 simp only [World.cell?,h]
 rfl
theorem DB.c2 {wx:World} {B:Nat} {vb nm:ByteArray} {v:Value} (h:DB wx B vb nm v):wx.cell? ⟨B,2,none⟩=some v:=by
 unfold DB at h
 simp only [World.cell?,h]
 rfl
theorem DB.fr {wx:World} {B:Nat} {vb nm:ByteArray} {v:Value} (h:DB wx B vb nm v) (i:Nat):wx.frozen? ⟨B,i,none⟩=false:=by
 unfold DB at h
 simp [World.frozen?,h]
theorem DB.kept {wx wy:World} {B:Nat} {vb nm:ByteArray} {v:Value} {row:Option Nat} (h:DB wx B vb nm v) (hg:wx.grownBy wy row) (hn:row≠some B):DB wy B vb nm v :=
 (hg.block _ (Zg h) (fun e=>hn e.symm)).trans h
theorem DB.took {wx w1:World} {B p q:Nat} {vb nm:ByteArray} {v x y:Value} (h:DB wx B vb nm v) (hg:wx.grownBy w1 none) (h1:B≠p) (h2:B≠q):DB ((w1.setCell ⟨p,0,none⟩ x).setCell ⟨q,0,none⟩ y) B vb nm v:=by
 unfold DB at *
 rw [Zck hg (Zg h) h1 h2]
 exact h
theorem DB.put1 {wx:World} {B:Nat} {vb nm:ByteArray} {v:Value} (h:DB wx B vb nm v) (x:ByteArray):DB (wx.setCell ⟨B,1,none⟩ (.string x)) B vb x v:=by
 unfold DB at *
 simp [World.setCell,Array.getElem?_modify,h]
theorem DB.put2 {wx:World} {B:Nat} {vb nm:ByteArray} {v:Value} (h:DB wx B vb nm v) (x:Value):DB (wx.setCell ⟨B,2,none⟩ x) B vb nm x:=by
 unfold DB at *
 simp [World.setCell,Array.getElem?_modify,h]
theorem RowA.took {wx w1:World} {base p q:Nat} {v x y:Value} {P:List (Ag × Value)} (h:RowA wx base v P) (hg:wx.grownBy w1 none) (hp:p<base) (hq:q<base):RowA ((w1.setCell ⟨p,0,none⟩ x).setCell ⟨q,0,none⟩ y) base v P :=
 (((h.kept0 hg).keptB hp (Zc _ _ _ _)).keptB hq (Zc _ _ _ _))
theorem Tryz.sizeSt:(Tryz.prog.info? 24).map (·.size)=some 3:=by kernel_rfl
theorem Zcr {fn:Func} {p:Tmp} (h:fn.results=#[.cell p 24]) (tmps:Array Value) (w:World) (g:Nat) (t:TypeId) (a b c:Value) (fr:Nat × Nat)
    (hp:tmps.getD p undef=.pointer (some ⟨g,0,none⟩)) (hg:w.heap[g]?=some (.cells #[a,b,c] t fr)):(results fn tmps).run Tryz.prog w=.ok (.agg #[a,b,c]) w :=
 results_cell_row h tmps w g t #[a,b,c] fr _ hp hg Tryz.underlying24 rfl Tryz.sizeSt
def stM (vb nm:ByteArray) (o:Option (List Ag)):Option St:=match o with
 |none=>none
 |some G=>some ⟨vb,nm,G⟩
theorem Vw {L:List UInt8} (h:stU L=none) (w:World) (base:Nat):stA L w base upE:=by
 unfold stA
 rw [h]
theorem Ze4 {L:List UInt8} {s:St} (h:stU L=some s) {w:World} {base:Nat} {ab:Option Addr} {n c:Nat} (hn:n=s.ags.length) (hA:AgsF w base (.slice ab n c) s.ags):stA L w base (.returned (.agg #[.string s.vb,.string s.nm,.slice ab n c])):=by
 subst hn
 unfold stA
 rw [h]
 exact⟨ab,c,rfl,hA⟩
theorem AgsF.mono {w:World} {base base':Nat} {v:Value} {G:List Ag} (h:AgsF w base v G) (hb:base'≤base):AgsF w base' v G:=by
 rcases h with h|⟨B,c,cur,e,h1,h2,h3,h4,h5,h6⟩
 ·exact .inl h
 ·refine .inr ⟨B,c,cur,e,Nat.le_trans hb h1,h2,h3,h4,h5,fun j a hj=>?_⟩
  obtain⟨u,hu,hx⟩:=h6 j a hj
  exact⟨u,hu.mono hb,hx⟩
end Go.Proofs.YtdcadiaeaclpgaaGreatDoor
