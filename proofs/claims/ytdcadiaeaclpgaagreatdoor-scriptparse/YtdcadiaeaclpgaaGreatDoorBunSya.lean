/- Scenes as a call has them; the law's large; the program's checked. -/
import Derived.Test.YtdcadiaeaclpgaaGreatDoorBunSrq
import Derived.Test.YtdcadiaeaclpgaaGreatDoorBunScs
import Derived.Maps.Own
import Derived.Maps.OwnOps
import Derived.Maps.OwnSet
import Derived.Maps.Views
import Derived.Test.YtdcadiaeaclpgaaGreatDoorBunSca
import Derived.Test.YtdcadiaeaclpgaaGreatDoorBunSpa
import Derived.Test.YtdcadiaeaclpgaaGreatDoorScy
namespace Go.Proofs.YtdcadiaeaclpgaaGreatDoor
open Go Go.RowKit Go.Lib Go.Sort
set_option linter.unusedVariables false
set_option linter.unusedSimpArgs false
set_option maxHeartbeats 6400000
set_option maxRecDepth 1000000
structure StAt (w:World) (B o:Nat) (s:St) (u:Value):Prop where
 c0:w.cell? ⟨B,o,none⟩=some (.string s.vb)
 c1:w.cell? ⟨B,o+1,none⟩=some (.string s.nm)
 c2:w.cell? ⟨B,o+2,none⟩=some u
 a:Args w u s.ags
theorem StAt.kept {w w':World} {B o:Nat} {s:St} {u:Value} (h:StAt w B o s u) (hg:w.grownBy w' none):StAt w' B o s u :=
 ⟨Zd hg h.c0 (by simp),Zd hg h.c1 (by simp),Zd hg h.c2 (by simp),h.a.kept hg⟩
def Sts (w:World) (v:Value) (L:List St):Prop :=
 (L=[]∧∃ab c,v=.slice ab 0 c)∨∃B off c,v=.slice (some ⟨B,off,none⟩) L.length c∧L.length≤c∧∀j s,L[j]?=some s→∃u,StAt w B (off+j*3) s u
theorem Sts.kept {w w':World} {v:Value} {L:List St} (h:Sts w v L) (hg:w.grownBy w' none):Sts w' v L:=by
 rcases h with h|⟨B,off,c,rfl,hc,h⟩
 ·exact .inl h
 ·refine .inr ⟨B,off,c,rfl,hc,fun j s hs=>?_⟩
  obtain⟨u,h1⟩:=h j s hs
  exact⟨u,h1.kept hg⟩
theorem Sts.reads {w:World} {v:Value} {L:List St} (h:Sts w v L):∃ab c,v=.slice ab L.length c∧∀w',w.grownBy w' none→∀i s,L[i]?=some s→∃B off u,ab=some ⟨B,off,none⟩∧StAt w' B (off+i*3) s u∧L.length≤c:=by
 rcases h with ⟨rfl,ab,c,rfl⟩|⟨B,off,c,rfl,hc,h⟩
 ·exact⟨ab,c,rfl,fun _ _ i s hs=>by simp at hs⟩
 ·refine⟨_,c,rfl,fun w' hg i s hs=>?_⟩
  obtain⟨u,h1⟩:=h i s hs
  exact⟨B,off,u,rfl,h1.kept hg,hc⟩
theorem Args.form {w:World} {v:Value} {L:List Ag} (h:Args w v L):∃ab c,v=.slice ab L.length c:=by
 obtain⟨ab,c,e,_⟩:=h.reads
 exact⟨ab,c,e⟩
theorem Tryz.infoSt:(Tryz.prog.info? 24).map (fun i=>(i.zero,i.size,i.bytes))=some (some (.agg #[.string eS,.string eS,.slice none 0 0]),3,56):=by kernel_rfl
def stc (s:St) (u:Value):List Value:=[.string s.vb,.string s.nm,u]
def cellsT (P:List (St × Value)):List Value:=P.flatMap fun x=>stc x.1 x.2
theorem UT (P Q:List (St × Value)):cellsT (P++Q)=cellsT P++cellsT Q:=by simp [cellsT]
theorem ZcS (x:St × Value):cellsT [x]=stc x.1 x.2:=by simp [cellsT]
theorem UA:∀(P:List (St × Value)) (i:Nat) (x:St × Value),P[i]?=some x→∀j,j<3→(cellsT P)[i*3+j]?=(stc x.1 x.2)[j]?
 |[],i,x,h,_,_=>by simp at h
 |p::l,0,x,h,j,hj=>by
  simp at h
  subst h
  have e:cellsT (p::l)=stc p.1 p.2++cellsT l:=rfl
  rw [e,Nat.zero_mul,Nat.zero_add,List.getElem?_append_left (by simp only [stc,List.length_cons,List.length_nil];exact hj)]
 |p::l,i+1,x,h,j,hj=>by
  have e:cellsT (p::l)=stc p.1 p.2++cellsT l:=rfl
  have el:(stc p.1 p.2).length=3:=rfl
  rw [e,List.getElem?_append_right (by rw [el];omega),el]
  have e2:(i+1)*3+j-3=i*3+j:=by omega
  rw [e2]
  exact UA l i x (by simpa using h) j hj
def RowT (w0 w:World) (base:Nat) (v:Value) (P:List (St × Value)):Prop:=w.ownsRow base 24 3 v P.length (cellsT P)∧∀x∈P,Args w0 x.2 x.1.ags
theorem RowT.form {w0 w:World} {base:Nat} {v:Value} {P:List (St × Value)} (h:RowT w0 w base v P):∃ao c,v=.slice ao P.length c:=by
 rcases h.1.2 with ⟨e,hn⟩|⟨g,cap,cur,rfl,hb,_,hc,_⟩
 ·exact⟨none,0,by rw [e,hn]⟩
 ·exact⟨_,cap,rfl⟩
theorem J4 {a w0 w w':World} {base:Nat} {v:Value} {P:List (St × Value)} (h:a.grownBy w none) (ho:RowT w0 w base v P) (hb:a.heap.size≤base) (k:w.grownBy w' v.ownBlock):a.grownBy w' none:=by
 rcases ho.1.2 with ⟨e,_⟩|⟨g,cap,cur,e,hg,_⟩
 ·rw [e]at k
  exact Za h k
 ·rw [e]at k
  exact Zq h (Nat.le_trans hb hg) k
theorem Args.cell1 {w:World} {v:Value} {L:List Ag} (h:Args w v L):v.oneCell'=true:=by
 obtain⟨ab,c,rfl,_⟩:=h.reads
 rfl
theorem XJ (w0 w:World) (base:Nat) (ty:TypeId) (v:Value) (P:List (St × Value)) (s:St) (u:Value) (h:RowT w0 w base v P) (hl:P.length≤1000000) (hb:base≤w.heap.size) (g0:Nat) (h0:w.heap[g0]?=some (sObj s.vb s.nm u)) (hu:Args w0 u s.ags) :
    ∃v' w',(Builtin.append_ #[51,51] ty #[v,.slice (some ⟨g0,0,none⟩) 1 1]).run Tryz.prog w=.ok v' w'∧RowT w0 w' base v' (P++[(s,u)])∧w.grownBy w' v.ownBlock:=by
 obtain⟨i0,hi,hz0,hz1,hz2⟩:=info_parts Tryz.infoSt
 have hadd:∀j x,(stc s u)[j]?=some x→w.cell? ((⟨g0,0,none⟩:Addr).add j)=some x:=by
  intro j x hj
  rw [Addr.add_lit,Nat.zero_add]
  simp only [World.cell?,h0]
  unfold stc at hj
  rw [←hj]
  simp
 have h1:∀x∈stc s u,x.oneCell'=true:=by
  intro x hx
  simp [stc]at hx
  rcases hx with rfl|rfl|rfl
  ·rfl
  ·rfl
  ·exact hu.cell1
 obtain⟨v',w',hr,ho,hg,hn⟩:=run_append_own (P:=Tryz.prog) w base 51 ty 24 i0 (.agg #[.string eS,.string eS,.slice none 0 0]) 3 56 Tryz.underlying51 hi hz0 hz1 hz2 rfl (by decide) v P.length _ h.1 ⟨g0,0,none⟩ 1 1 (stc s u) rfl hadd h1 (by unfold maxLen;omega) (by omega) hb
 refine⟨v',w',hr,⟨?_,?_⟩,hg⟩
 ·rw [UT,List.length_append,ZcS]
  exact ho
 ·intro x hx
  rw [List.mem_append]at hx
  rcases hx with hx|hx
  ·exact h.2 x hx
  ·simp at hx
   subst hx
   exact hu
theorem RowT.sts {w0 w:World} {base:Nat} {v:Value} {P:List (St × Value)} (h:RowT w0 w base v P) (hg:w0.grownBy w none):Sts w v (P.map (·.1)):=by
 rcases h.1.2 with ⟨e,hn⟩|⟨g,cap,cur,e,hb,hgg,hc,hm,hs,ht⟩
 ·obtain rfl:=List.length_eq_zero_iff.1 hn
  exact .inl ⟨rfl,none,0,e⟩
 ·refine .inr ⟨g,0,cap,by rw [e,List.length_map],by rw [List.length_map];exact hc,fun j s hj=>?_⟩
  rw [List.getElem?_map]at hj
  cases hx:P[j]? with
  |none=>rw [hx]at hj;cases hj
  |some x =>
   rw [hx]at hj
   simp only [Option.map_some,Option.some.injEq]at hj
   subst hj
   have hc:∀i y,i<3→(stc x.1 x.2)[i]?=some y→w.cell? ⟨g,0+j*3+i,none⟩=some y:=by
    intro i y hi hy
    have h5:=World.ownsRow.cells h.1 (g:=g) (by rw [e];rfl) (j*3+i) y (by rw [UA P j x hx i hi];exact hy)
    rw [Addr.add_lit]at h5
    rw [Nat.zero_add]at h5 ⊢
    exact h5
   exact⟨x.2,⟨hc 0 _ (by omega) rfl,hc 1 _ (by omega) rfl,hc 2 _ (by omega) rfl,(h.2 x (List.mem_of_getElem? hx)).kept hg⟩⟩
theorem Fr.past {w1 w2:World} {b:Nat} {v:Value} {L:List Int} (h:Fr w1 b v L) (hk:∀B cur t f,b≤B→w1.heap[B]?=some (.cells cur t f)→t≠24→w2.heap[B]?=some (.cells cur t f)):Fr w2 b v L:=by
 rcases h with h|⟨B,off,c,cur,e,h1,h2,h3⟩
 ·exact .inl h
 ·exact .inr ⟨B,off,c,cur,e,h1,hk B _ _ _ h1 h2 (by decide),h3⟩
theorem AgsF.past {w1 w2:World} {b:Nat} {v:Value} {G:List Ag} (h:AgsF w1 b v G) (hk:∀B cur t f,b≤B→w1.heap[B]?=some (.cells cur t f)→t≠24→w2.heap[B]?=some (.cells cur t f)):AgsF w2 b v G:=by
 rcases h with h|⟨B,c,cur,e,h1,h2,h3,h4,h5,h6⟩
 ·exact .inl h
 ·refine .inr ⟨B,c,cur,e,h1,hk B _ _ _ h1 h2 (by decide),h3,h4,h5,fun j a hj=>?_⟩
  obtain⟨u,hu,hx⟩:=h6 j a hj
  exact⟨u,hu.past hk,hx⟩
def RowU (w:World) (base:Nat) (v:Value) (P:List (St × Value)):Prop:=w.ownsRow base 24 3 v P.length (cellsT P)∧∀x∈P,AgsF w base x.2 x.1.ags
theorem RowU.rowT {w:World} {base:Nat} {v:Value} {P:List (St × Value)} (h:RowU w base v P):RowT w w base v P:=⟨h.1,fun x hx=>(h.2 x hx).args⟩
theorem RowU.nil (w:World) (base:Nat):RowU w base (.slice none 0 0) []:=⟨World.ownsRow_nil _ _ _ _,fun x hx=>by simp at hx⟩
theorem RowU.form {w:World} {base:Nat} {v:Value} {P:List (St × Value)} (h:RowU w base v P):∃ao c,v=.slice ao P.length c:=h.rowT.form
theorem RowU.sts {w:World} {base:Nat} {v:Value} {P:List (St × Value)} (h:RowU w base v P):Sts w v (P.map (·.1)):=h.rowT.sts (grow0 _)
theorem RowU.kept0 {w w':World} {base:Nat} {v:Value} {P:List (St × Value)} (h:RowU w base v P) (hg:w.grownBy w' none):RowU w' base v P :=
 ⟨World.ownsRow.kept h.1 hg (by cases v.ownBlock<;>simp),fun x hx=>(h.2 x hx).kept hg⟩
theorem RowU.tag {w:World} {base:Nat} {v:Value} {P:List (St × Value)} (h:RowU w base v P) {g:Nat} (hg:v.ownBlock=some g):base≤g∧g<w.heap.size∧∃cur,w.heap[g]?=some (.cells cur 24 (0,0)):=by
 rcases h.1.2 with ⟨e,_⟩|⟨g',cap,cur,e,hb,hgg,_⟩
 ·rw [e]at hg
  cases hg
 ·rw [e]at hg
  obtain rfl:g'=g:=by simpa [Value.ownBlock]using hg
  exact⟨hb,Zg hgg,cur,hgg⟩
theorem X7 {a w w':World} {base:Nat} {v:Value} {P:List (St × Value)} (h:a.grownBy w none) (ho:RowU w base v P) (hb:a.heap.size≤base) (k:w.grownBy w' v.ownBlock):a.grownBy w' none:=J4 h ho.rowT hb k
theorem YX (w0 w:World) (base:Nat) (ty:TypeId) (v:Value) (P:List (St × Value)) (s:St) (u:Value) (h:RowT w0 w base v P) (hl:P.length≤1000000) (g0:Nat) (h0:w.heap[g0]?=some (sObj s.vb s.nm u)) (hu:Args w0 u s.ags) {v':Value} {w':World}
    (hr:(Builtin.append_ #[51,51] ty #[v,.slice (some ⟨g0,0,none⟩) 1 1]).run Tryz.prog w=.ok v' w'):v'.ownBlock=v.ownBlock∨∃g,v'.ownBlock=some g∧w.heap.size≤g∧g<w'.heap.size:=by
 obtain⟨i0,hi,hz0,hz1,hz2⟩:=info_parts Tryz.infoSt
 have hadd:∀j x,(stc s u)[j]?=some x→w.cell? ((⟨g0,0,none⟩:Addr).add j)=some x:=by
  intro j x hj
  rw [Addr.add_lit,Nat.zero_add]
  simp only [World.cell?,h0]
  unfold stc at hj
  rw [←hj]
  simp
 have h1:∀x∈stc s u,x.oneCell'=true:=by
  intro x hx
  simp [stc]at hx
  rcases hx with rfl|rfl|rfl
  ·rfl
  ·rfl
  ·exact hu.cell1
 have hsl:(stc s u).length=1*i0.size:=by rw [hz1];rfl
 rcases h.1.2 with ⟨rfl,hn⟩|⟨g,cap,cur,rfl,hb,hg,hnc,hcm,hcs,htake⟩
 ·have e:=run_append_nil (P:=Tryz.prog) w 51 ty 24 i0 _ Tryz.underlying51 hi hz0 ⟨g0,0,none⟩ 1 1 (stc s u) hsl hadd (by decide) (by decide) (by rw [hz2];decide)
  rw [e]at hr
  injection hr with hv hw
  subst hv hw
  exact .inr ⟨w.heap.size,rfl,Nat.le_refl _,by simp⟩
 ·by_cases hroom:P.length+1≤cap
  ·have hfit:P.length*i0.size+(stc s u).length≤cur.size:=by
     rw [hsl,hcs,hz1,←Nat.add_mul]
     exact Nat.mul_le_mul_right _ hroom
   have e:=run_append_room (P:=Tryz.prog) w 51 ty 24 i0 Tryz.underlying51 hi g P.length cap cur hg ⟨g0,0,none⟩ 1 1 (stc s u) hsl hadd h1 hroom hfit
   rw [e]at hr
   injection hr with hv hw
   subst hv
   exact .inl rfl
  ·have holds:∀j x,(cellsT P)[j]?=some x→w.cell? ((⟨g,0,none⟩:Addr).add j)=some x:=World.ownsRow.cells h.1 (g:=g) rfl
   have e:=run_append_grow (P:=Tryz.prog) w 51 ty 24 i0 _ Tryz.underlying51 hi hz0 ⟨g,0,none⟩ P.length cap (cellsT P) (by rw [hz1];exact h.1.1) holds ⟨g0,0,none⟩ 1 1 (stc s u) hsl hadd (by omega) (by omega) (growslice_fits (by omega) (by rw [hz2];omega))
   rw [e]at hr
   injection hr with hv hw
   subst hv hw
   exact .inr ⟨w.heap.size,rfl,Nat.le_refl _,by simp⟩
theorem Vg {w:World} {ops:Array Oper} {rest:List Oper} {o:Oper} {a:Act} {Q:Exit→Act→World→Prop} (hgd:o.guard=none) (s x:Operand)
    (ho:o.op=.call { callee:=.builtin .append,args:=#[s,x],argTypes:=#[51,51] })
    (base:Nat) (v:Value) (P:List (St × Value)) (hs:a.eval s=v) (hR:RowU w base v P) (y:St) (u:Value) (g0:Nat) (hx:a.eval x=.slice (some ⟨g0,0,none⟩) 1 1) (h0:w.heap[g0]?=some (sObj y.vb y.nm u)) (hu:AgsF w base u y.ags) (hl:P.length≤1000000) (hb:base≤w.heap.size)
    (h:∀v' w',RowU w' base v' (P++[(y,u)])→w.grownBy w' v.ownBlock→(v'.ownBlock=v.ownBlock∨∃g,v'.ownBlock=some g∧w.heap.size≤g∧g<w'.heap.size)→wpList Tryz.prog ops Q rest (a.put o.dst v') w'):wpList Tryz.prog ops Q (o::rest) a w :=
 wpList_plain hgd fun K hK=>by
  obtain⟨v',w',hr,h2,h3⟩:=XJ w w base o.type v P y u hR.rowT hl hb g0 h0 hu.args
  have h4:=YX w w base o.type v P y u hR.rowT hl g0 h0 hu.args hr
  unfold Oper.wp execOp
  simp only [ho,resolve,invoke,builtin,Sem.run_bind,Sem.run_pure,Result.andThen_ok,List.map_toArray,List.map_cons,List.map_nil,hs,hx,hr]
  refine hK _ _ (h v' w' ⟨h2.1,fun z hz=>?_⟩ h3 h4)
  have hpast:∀ {G:List Ag} {q:Value},AgsF w base q G→AgsF w' base q G:=fun hq=>hq.past fun B cur t f _ hB ht=>(h3.block B (Zg hB) (fun e=>by
   obtain⟨_,_,cur2,hg2⟩:=hR.tag e.symm
   rw [hB]at hg2
   injection hg2 with hg2
   injection hg2 with _ ht2 _
   exact ht ht2)).trans hB
  rw [List.mem_append]at hz
  rcases hz with hz|hz
  ·exact hpast (hR.2 z hz)
  ·simp at hz
   subst hz
   exact hpast hu
theorem UB (w:World) (u v:Value) (L:List St) (hu:Sts w u L) (hv:Sts w v L) (hl:L.length≤1000000) (hf:∀s∈L,s.Fit) :
    Calls Tryz.prog 31 #[u,v] w fun e w'=>e=.returned (.bool true)∧w.grownBy w' none:=by
 have HSm:Hid (∀W a b s,s∈L→Stv W a s→Stv W b s→Calls Tryz.prog 14 #[a,b] W fun e w'=>e=.returned (.bool true)∧W.grownBy w' none):=fun W a b s hs ha hb=>(VI W a b s s ha hb (hf s hs) (hf s hs)).mono fun e w' h=>by
  rw [St.eqb_iff.2 rfl]at h
  exact h
 obtain⟨ab,c,rfl,HR⟩:=hu.reads
 obtain⟨ab',c',rfl,HR'⟩:=hv.reads
 have HR1:Hid (∀w',w.grownBy w' none→∀i s,L[i]?=some s→∃B off u,ab=some ⟨B,off,none⟩∧StAt w' B (off+i*3) s u∧L.length≤c):=HR
 have HR2:Hid (∀w',w.grownBy w' none→∀i s,L[i]?=some s→∃B off u,ab'=some ⟨B,off,none⟩∧StAt w' B (off+i*3) s u∧L.length≤c'):=HR'
 obtain⟨n,hn⟩:∃n,L.length=n:=⟨_,rfl⟩
 have HLn:Unit→L.length=n:=fun _=>hn
 rw [hn]at hl ⊢
 simp only [hn]at HR1 HR2
 have hnI:(n:Int)≤1000000:=by omega
 clear hn HR HR' hu hv hf
 go_enter Tryz.func31,Tryz.ntmps31
 go_wp2_with fail
 go_loopw [5] (fun s5 wr=>∃i:Nat,i≤n∧s5=.int .i64 i∧w.grownBy wr none) (fun s _=>match s with|.int _ i=>n-i.toNat|_=>0)
 case atStart=>exact⟨0,by omega,rfl,grow0 _⟩
 case round =>
  obtain⟨i,hi,rfl,hg⟩:=hrel
  have HG:Hid (w.grownBy wr none):=hg
  clear hg
  by_cases hlt:i<n
  ·have hlt':i<L.length:=by rw [HLn ()];exact hlt
   obtain⟨s,his⟩:∃s,L[i]?=some s:=⟨_,List.getElem?_eq_getElem hlt'⟩
   obtain⟨B,off,u,rfl,hat,hnc⟩:=HR1.out wr HG.out i _ his
   obtain⟨B2,off2,u2,rfl,hat2,hnc2⟩:=HR2.out wr HG.out i _ his
   obtain⟨ab3,c3,rfl⟩:=hat.a.form
   obtain⟨ab4,c4,rfl⟩:=hat2.a.form
   have hmem:=List.mem_of_getElem? his
   have HC:Hid (∀W,wr.grownBy W none→Calls Tryz.prog 14 #[.agg #[.string s.vb,.string s.nm,.slice ab3 s.ags.length c3],.agg #[.string s.vb,.string s.nm,.slice ab4 s.ags.length c4]] W fun e w'=>e=.returned (.bool true)∧W.grownBy w' none):=fun W hg=>HSm.out W _ _ s hmem ⟨_,rfl,hat.a.kept hg⟩ ⟨_,rfl,hat2.a.kept hg⟩
   have HY:Hid (∀w',wr.grownBy w' none→w'.cell? ⟨B,off+i*3,none⟩=some (.string s.vb)∧w'.cell? ⟨B,off+i*3+1,none⟩=some (.string s.nm)∧w'.cell? ⟨B,off+i*3+2,none⟩=some (.slice ab3 s.ags.length c3)∧w'.cell? ⟨B2,off2+i*3,none⟩=some (.string s.vb)∧w'.cell? ⟨B2,off2+i*3+1,none⟩=some (.string s.nm)∧w'.cell? ⟨B2,off2+i*3+2,none⟩=some (.slice ab4 s.ags.length c4)):=fun w' h=>by
    have k:=hat.kept h
    have l:=hat2.kept h
    exact⟨k.c0,k.c1,k.c2,l.c0,l.c1,l.c2⟩
   have hltI:(i:Int)<n:=by omega
   clear hlt' his hat hat2 hmem
   generalize s.ags.length=m at *
   generalize s.vb=vb at *
   generalize s.nm=nm at *
   go_wp2_with fail
   obtain⟨k0,k1,k2,l0,l1,l2⟩:=HY.out _ (World.grownBy.refl _ _)
   go_region_held3 (fun w'=>w'.cell? ⟨B,off+i*3,none⟩=some (.string vb)∧w'.cell? ⟨B,off+i*3+1,none⟩=some (.string nm)∧w'.cell? ⟨B,off+i*3+2,none⟩=some (.slice ab3 m c3)∧w'.cell? ⟨B2,off2+i*3,none⟩=some (.string vb)∧w'.cell? ⟨B2,off2+i*3+1,none⟩=some (.string nm)∧w'.cell? ⟨B2,off2+i*3+2,none⟩=some (.slice ab4 m c4))
    (first|(go_keep;done)|with_reducible exact HY.out _ (by assumption)|with_reducible exact HY.out _ (Zf (World.grownBy.refl _ _))|fail)
    (first|(go_at_call 14;refine(HC.out _ (by first|exact grow0 _|exact Zf (grow0 _))).mono ?_;rintro e w1 ⟨rfl,g1⟩;have G1:wr.grownBy w1 none:=(by first|exact g1|exact Zj g1))|fail)
   all_goals (
    have HG1:Hid (w.grownBy w1 none):=Za HG.out G1
    clear k0 k1 k2 l0 l1 l2
    go_wp2_with fail
    first
     |exact⟨⟨i+1,by omega,Zl (by omega),HG1.out⟩,by simp;omega⟩
     |(go_roundw
       case rel=>exact⟨i+1,by omega,Zl (by omega),HG1.out⟩
       case measure=>simp<;>omega))
  ·obtain rfl:i=n:=by omega
   have hlI:decide ((i:Int)<(i:Int))=false:=decide_eq_false (by omega)
   go_wp2_with fail
   go_ret
   exact⟨rfl,HG.out⟩
end Go.Proofs.YtdcadiaeaclpgaaGreatDoor
