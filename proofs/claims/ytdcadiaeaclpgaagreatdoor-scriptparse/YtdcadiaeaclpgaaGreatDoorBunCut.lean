/- frac's cut: a text falls apart at the slash. -/
import Derived.Test.YtdcadiaeaclpgaaGreatDoorBunRed
import Derived.WalkMore
import Derived.Laws.DeepStrings4
import Derived.Test.YtdcadiaeaclpgaaGreatDoorBunFrb
import Derived.Test.YtdcadiaeaclpgaaGreatDoorBunWka
namespace Go.Proofs.YtdcadiaeaclpgaaGreatDoor
open Go.RowKit Go.Lib Go.Sort
set_option linter.unusedVariables false
set_option maxHeartbeats 3200000
set_option maxRecDepth 1000000
def okB (b:Nat):Prop:=b=45∨isDig b
theorem Zb6:¬okB 47:=by unfold okB isDig;omega
theorem YI {s:ByteArray} (h:isText s):∀b∈bN s,okB b:=by
 intro b hb
 by_cases h45:(bN s).head?=some 45
 ·have hd:=h.1.1
  rw [YF h45]at hd
  cases hs:bN s with
  |nil=>rw [hs]at hb;simp at hb
  |cons x l =>
   rw [hs]at h45 hb hd
   simp at h45 hb hd
   rcases hb with rfl|hb
   ·exact .inl h45
   ·exact .inr (hd b hb)
 ·have e:bare s=s:=by unfold bare;rw [if_neg h45]
  have hd:=h.1.1
  rw [e]at hd
  exact .inr (hd b hb)
def Cut1 (s:ByteArray):Prop:=∀b∈bN s,okB b
def Cut2 (s a b:ByteArray):Prop:=s=a++⟨#[47]⟩++b∧Cut1 a∧Cut1 b
def CutR (s:ByteArray) (L:List ByteArray):Prop:=(L=[s]∧Cut1 s)∨(∃a b,L=[a,b]∧Cut2 s a b)∨(L=[]∧¬Cut1 s∧¬ ∃a b,Cut2 s a b)
theorem Y9 (a b:ByteArray):bN (a++b)=bN a++bN b:=by simp [bN]
theorem Z3 (a b:ByteArray):bN (a++⟨#[47]⟩++b)=bN a++47::bN b:=by
 rw [Y9,Y9]
 simp [bN]
theorem XK:∀(l1 l2 m1 m2:List Nat),47 ∉ l1→47 ∉ l2→l1++47::m1=l2++47::m2→l1=l2∧m1=m2
 |[],[],m1,m2,_,_,h=>⟨rfl,by simpa using h⟩
 |[],y::l2,m1,m2,_,h2,h=>by
  simp at h
  exact absurd (by rw [h.1];simp) h2
 |x::l1,[],m1,m2,h1,_,h=>by
  simp at h
  exact absurd (by rw [h.1];simp) h1
 |x::l1,y::l2,m1,m2,h1,h2,h=>by
  simp at h h1 h2
  obtain⟨e1,e2⟩:=XK l1 l2 m1 m2 h1.2 h2.2 h.2
  exact⟨by rw [h.1,e1],e2⟩
theorem no47 {s:ByteArray} (h:Cut1 s):47 ∉ bN s:=fun hm=>Zb6 (h _ hm)
theorem Zc1 {a b a' b':ByteArray} (h1:47 ∉ bN a) (h2:47 ∉ bN a') (e:a++⟨#[47]⟩++b=a'++⟨#[47]⟩++b'):a=a'∧b=b':=by
 have:=congrArg bN e
 rw [Z3,Z3]at this
 obtain⟨e1,e2⟩:=XK _ _ _ _ h1 h2 this
 exact⟨Yx e1,Yx e2⟩
theorem ZeN {a b:ByteArray}:¬Cut1 (a++⟨#[47]⟩++b):=fun h=>Zb6 (h 47 (by rw [Z3];simp))
theorem Tryz.infoStr:(Tryz.prog.info? 9).map (fun i=>(i.zero,i.size,i.bytes))=some (some (.string ⟨#[]⟩),1,16):=by kernel_rfl
def cellsS (l:List ByteArray):List Value:=l.map .string
def RowS (w:World) (base:Nat) (v:Value) (L:List ByteArray):Prop:=w.ownsRow base 9 1 v L.length (cellsS L)
theorem RowS.nil (w:World) (base:Nat):RowS w base (.slice none 0 0) []:=World.ownsRow_nil _ _ _ _
theorem RowS.form {w:World} {base:Nat} {v:Value} {L:List ByteArray} (h:RowS w base v L):∃ao c,v=.slice ao L.length c:=by
 rcases h.2 with ⟨e,hn⟩|⟨g,cap,cur,rfl,hb,_,hc,_⟩
 ·exact⟨none,0,by rw [e,hn]⟩
 ·exact⟨_,cap,rfl⟩
theorem RowS.alloc {w:World} {base:Nat} {v:Value} {L:List ByteArray} (h:RowS w base v L) (o:Obj):RowS (w.alloc o) base v L:=by
 refine World.ownsRow.kept h (row:=none) (grow1 _ _) ?_
 cases v.ownBlock<;>simp
theorem RowS.grown {w wr w':World} {v:Value} {L:List ByteArray} (hg:w.grownBy wr none) (hR:RowS wr w.heap.size v L) (k:wr.grownBy w' v.ownBlock):w.grownBy w' none:=by
 rcases hR.2 with ⟨e,_⟩|⟨g,cap,cur,e,hb,_⟩
 ·rw [e]at k;exact Za hg k
 ·rw [e]at k;exact Zq hg hb k
theorem ZN {w:World} {ops:Array Oper} {rest:List Oper} {o:Oper} {a:Act} {Q:Exit→Act→World→Prop} (hgd:o.guard=none) (s x:Operand)
    (ho:o.op=.call { callee:=.builtin .append,args:=#[s,x],argTypes:=#[66,66] })
    (base:Nat) (v:Value) (L:List ByteArray) (y:ByteArray) (hs:a.eval s=v) (hR:RowS w base v L) (hl:L.length≤1000) (hb:base≤w.heap.size)
    (ad:Addr) (hx:a.eval x=.slice (some ad) 1 1) (hy:w.cell? ad=some (.string y))
    (h:∀v' w',RowS w' base v' (L++[y])→w.grownBy w' v.ownBlock→wpList Tryz.prog ops Q rest (a.put o.dst v') w'):wpList Tryz.prog ops Q (o::rest) a w :=
 wpList_plain hgd fun K hK=>by
  obtain⟨i0,hi,hz0,hz1,hz2⟩:=info_parts Tryz.infoStr
  have hadd:∀j u,[Value.string y][j]?=some u→w.cell? (ad.add j)=some u:=by
   intro j u hj
   match j,hj with
   |0,hj=>simp at hj;subst hj;simpa [Addr.add]using hy
  have h1:∀u∈[Value.string y],u.oneCell'=true:=by
   intro u hu;simp at hu;subst hu;rfl
  obtain⟨v',w',hr,ho2,hg,hn⟩:=run_append_own (P:=Tryz.prog) w base 66 o.type 9 i0 (.string ⟨#[]⟩) 1 16 Tryz.underlying66 hi hz0 hz1 hz2 rfl (by decide) v L.length _ hR ad 1 1 [.string y] rfl hadd h1 (by unfold maxLen;omega) (by omega) hb
  unfold Oper.wp execOp
  simp only [ho,resolve,invoke,builtin,Sem.run_bind,Sem.run_pure,Result.andThen_ok,List.map_toArray,List.map_cons,List.map_nil,hs,hx,hr]
  refine hK _ _ (h v' w' ?_ hg)
  unfold RowS cellsS
  rw [List.map_append,List.length_append]
  exact ho2
def CtI (s:ByteArray) (L:List ByteArray) (f:Nat):Prop :=
 (L=[]∧f=0)∨(∃a,L=[a]∧f=a.size+1∧Cut1 a∧bN s=bN a++47::(bN s).drop f)∨(L.length=2∧¬Cut1 s∧¬ ∃a b,Cut2 s a b)
theorem ZbU {s a b:ByteArray} (h:bN s=bN a++47::bN b):s=a++⟨#[47]⟩++b:=Yx (by rw [Z3];exact h)
theorem CtI.le {s:ByteArray} {L:List ByteArray} {f:Nat} (h:CtI s L f) (hl:L.length≤1):f≤s.size:=by
 rcases h with ⟨_,rfl⟩|⟨a,_,rfl,_,e⟩|⟨h2,_⟩
 ·omega
 ·have:=congrArg List.length e
  simp [Ze]at this
  omega
 ·omega
theorem CtI.last {s:ByteArray} {L:List ByteArray} {f:Nat} (h:CtI s L f) (hl:L.length≤1) (hk:∀b∈(bN s).drop f,okB b):CutR s (L++[s.extract f s.size]):=by
 have hx:bN (s.extract f s.size)=(bN s).drop f:=Yc s f
 rcases h with ⟨rfl,rfl⟩|⟨a,rfl,rfl,ha,e⟩|⟨h2,_⟩
 ·left
  have:s.extract 0 s.size=s:=Yx (by rw [hx];simp)
  rw [this]
  exact⟨rfl,fun b hb=>hk b (by simpa using hb)⟩
 ·right;left
  refine⟨a,s.extract (a.size+1) s.size,rfl,ZbU (by rw [hx];exact e),ha,?_⟩
  intro b hb
  rw [hx]at hb
  exact hk b hb
 ·omega
theorem CtI.bad {s:ByteArray} {L:List ByteArray} {f:Nat} (h:CtI s L f) (hl:L.length≤1) {x:Nat} (hx:x∈(bN s).drop f) (hk:¬okB x) (h47:x≠47):CutR s []:=by
 refine .inr (.inr ⟨rfl,fun hc=>hk (hc x (List.mem_of_mem_drop hx)),?_⟩)
 rintro⟨a,b,rfl,ha,hb⟩
 have hm:=List.mem_of_mem_drop hx
 rw [Z3]at hm
 rcases List.mem_append.1 hm with h|h
 ·exact hk (ha x h)
 ·rcases List.mem_cons.1 h with h|h
  ·exact h47 h
  ·exact hk (hb x h)
theorem Ue {l:List Nat} {f k x:Nat} (hf:f≤k) (h:l[k]?=some x):(l.drop f).take (k+1-f)=(l.drop f).take (k-f)++[x]:=by
 rw [show k+1-f=(k-f)+1 by omega,List.take_add_one,List.getElem?_drop,show f+(k-f)=k by omega,h]
 rfl
theorem CtI.slash {s:ByteArray} {L:List ByteArray} {f k:Nat} (h:CtI s L f) (hl:L.length≤1) (hf:f≤k) (hx:(bN s)[k]?=some 47) (hk:∀b∈((bN s).drop f).take (k-f),okB b):CtI s (L++[s.extract f k]) (k+1):=by
 have hks:k<s.size:=by have:=(List.getElem?_eq_some_iff.1 hx).1;rw [Ze]at this;exact this
 have hd:(bN s).drop k=47::(bN s).drop (k+1):=by
  rw [List.drop_eq_getElem_cons (by rw [Ze];exact hks)]
  congr 1
  exact(List.getElem?_eq_some_iff.1 hx).2
 have he:bN (s.extract f k)=((bN s).drop f).take (k-f):=ZW s f k
 rcases h with ⟨rfl,rfl⟩|⟨a,rfl,rfl,ha,e⟩|⟨h2,_⟩
 ·right;left
  refine⟨s.extract 0 k,rfl,?_,?_,?_⟩
  ·have:(bN (s.extract 0 k)).length=k:=by
     rw [he]
     simp only [List.drop_zero,Nat.sub_zero,List.length_take,Ze]
     omega
   rw [Ze]at this
   omega
  ·intro b hb
   rw [he]at hb
   exact hk b hb
  ·rw [he]
   simp only [List.drop_zero,Nat.sub_zero]
   rw [←hd,List.take_append_drop]
 ·right;right
  refine⟨by simp,fun hc=>Zb6 (hc 47 (List.mem_of_getElem? hx)),?_⟩
  rintro⟨a',b',h1,h2,h3⟩
  rw [h1,Z3]at e
  obtain⟨e1,e2⟩:=XK _ _ _ _ (no47 h2) (no47 ha) e
  refine Zb6 (h3 47 ?_)
  rw [e2,←Z3,←h1,List.mem_iff_getElem?]
  refine⟨k-(a.size+1),?_⟩
  rw [List.getElem?_drop,show a.size+1+(k-(a.size+1))=k by omega]
  exact hx
 ·omega
theorem CtI.two {s:ByteArray} {L:List ByteArray} {f:Nat} (h:CtI s L f) (hl:L.length=2):CutR s []:=by
 rcases h with ⟨rfl,_⟩|⟨a,rfl,_⟩|⟨_,h1,h2⟩
 ·simp at hl
 ·simp at hl
 ·exact .inr (.inr ⟨rfl,h1,h2⟩)
theorem ZeV (s:ByteArray) (h9:s.size≤maxLen) (w:World) :
    Calls Tryz.prog 167 #[.string s] w fun e w'=>∃v L,e=.returned v∧CutR s L∧RowS w' w.heap.size v L∧w.grownBy w' none:=by
 unfold maxLen at h9
 have h9I:(s.size:Int)≤9223372036854775807:=by omega
 have HI0:Hid (CtI s [] 0):=.inl ⟨rfl,rfl⟩
 clear h9
 go_enter Tryz.func167,Tryz.ntmps167
 go_wp2_with fail
 go_step3
 go_wp2_with fail
 go_step3
 go_wp2_with fail
 go_loopg [3,4,7] 2 (fun g s3 s4 s7 wx=>∃(f:Nat) (c:Int) (L:List ByteArray),s4=.int .i64 (f:Int)∧s7=.int .i64 c∧c+(g:Int)=2∧L.length+g=2∧CtI s L f∧RowS wx w.heap.size s3 L∧w.grownBy wx none)
 case atStart=>exact⟨0,0,[],rfl,rfl,rfl,rfl,HI0.out,RowS.nil _ _,World.grownBy.refl _ _⟩
 case round =>
  obtain⟨f,c,L,rfl,rfl,hcg,hLg,hI,hR,hg⟩:=hrel
  obtain⟨ao,cp,rfl⟩:=hR.form
  have HI:Hid (CtI s L f):=hI
  have HR:Hid (RowS wr w.heap.size (.slice ao L.length cp) L):=hR
  have HG:Hid (w.grownBy wr none):=hg
  obtain⟨ln,hln⟩:∃ln,L.length=ln:=⟨_,rfl⟩
  have HLn:Unit→L.length=ln:=fun _=>hln
  rw [hln]at HR hLg ⊢
  have hown:(Value.slice ao ln cp).ownBlock=none∨∃g,(Value.slice ao ln cp).ownBlock=some g∧w.heap.size≤g:=by
   rcases HR.out.2 with ⟨e,_⟩|⟨g,cap,cur,e,hb,_⟩
   ·rw [e];exact .inl rfl
   ·rw [e];exact .inr ⟨g,rfl,hb⟩
  have HO:Hid ((Value.slice ao ln cp).ownBlock=none∨∃g,(Value.slice ao ln cp).ownBlock=some g∧w.heap.size≤g):=hown
  clear hI hR hg HI0 hown
  cases gk with
  |zero =>
   obtain rfl:c=2:=by omega
   have HE:Hid (CutR s []):=HI.out.two (by rw [HLn ()];omega)
   clear hcg hLg hln
   go_wp2_with fail
   rw [Exit.noGoto_ret]
   go_ret
   exact⟨_,[],rfl,HE.out,RowS.nil _ _,HG.out⟩
  |succ g =>
   have hc1:c≤1:=by omega
   have hc0:0≤c:=by omega
   have HL1:Hid (L.length≤1):=(by rw [HLn ()];omega:L.length≤1)
   have hfs:f≤s.size:=HI.out.le HL1.out
   have HCG:Hid (c+1+(g:Int)=2∧ln+1+g=2):=⟨by omega,by omega⟩
   clear hcg hLg hln
   have hc2:decide (c<2)=true:=decide_eq_true (by omega)
   go_wp2_with fail
   try rw [hc2]
   generalize wr=wo at *
   go_loopg [3,4,5] (s.size-f) (fun k s3 s4 s5 wy=>∃at':Nat,s3=.slice ao ln cp∧s4=.int .i64 (f:Int)∧s5=.int .i64 (at':Int)∧k+at'=s.size∧f≤at'∧(∀b∈((bN s).drop f).take (at'-f),okB b)∧wy=wo)
   case atStart=>exact⟨f,rfl,rfl,rfl,by omega,Nat.le_refl _,by simp,rfl⟩
   case round =>
    obtain⟨k,rfl,rfl,rfl,hks,hfk,hok,rfl⟩:=hrel
    have HK:Hid (∀b∈((bN s).drop f).take (k-f),okB b):=hok
    clear hok
    cases gk with
    |zero =>
     obtain rfl:k=s.size:=by omega
     have HE:Hid (CutR s (L++[s.extract f s.size])):=HI.out.last HL1.out (by
      have h:=HK.out
      rw [List.take_of_length_le (by rw [List.length_drop,Ze];omega)]at h
      exact h)
     clear hks hfk
     go_wp2_with (at_builtin;refine ZN rfl _ _ rfl w.heap.size (.slice ao ln cp) L (s.extract f s.size) rfl (HR.out.alloc _) (by have:=HL1.out;omega) (by have:=HG.out.size;simp;omega) ⟨wr.heap.size,0,none⟩ rfl (by simp) ?_)
     intro v' w' hR' hg'
     have HR':Hid (RowS w' w.heap.size v' (L++[s.extract f s.size])):=hR'
     have HG':Hid (w.grownBy w' none):=RowS.grown (Za HG.out (grow1 _ _)) (HR.out.alloc _) hg'
     clear hR' hg'
     go_wp2_with fail
     rw [Exit.noGoto_ret]
     go_ret
     exact⟨_,_,rfl,HE.out,HR'.out,HG'.out⟩
    |succ k' =>
     have hk1:k<s.size:=by omega
     have hb:=bN_at s k hk1
     have HB:Hid ((bN s)[k]?=some s[k].toNat):=hb
     have hkI:(k:Int)<s.size:=by omega
     clear hb
     by_cases h47:s[k].toNat=47
     ·have HN:Hid (CtI s (L++[s.extract f k]) (k+1)):=HI.out.slash HL1.out hfk (by rw [←h47];exact HB.out) HK.out
      have hfkI:(f:Int)≤(k:Int):=by omega
      go_wp2_with (at_builtin;refine ZN rfl _ _ rfl w.heap.size (.slice ao ln cp) L (s.extract f k) rfl (HR.out.alloc _) (by have:=HL1.out;omega) (by have:=HG.out.size;simp;omega) ⟨wr.heap.size,0,none⟩ rfl (by simp) ?_)
      intro v' w' hR' hg'
      have HR':Hid (RowS w' w.heap.size v' (L++[s.extract f k])):=hR'
      have HG':Hid (w.grownBy w' none):=RowS.grown (Za HG.out (grow1 _ _)) (HR.out.alloc _) hg'
      clear hR' hg'
      have hkw:IntKind.i64.wrap ((k:Int)+1)=(k:Int)+1:=by rw [IntKind.wrap_i64];omega
      go_wp2_with fail
      go_roundg g
      case measure=>omega
      case rel =>
       refine⟨k+1,c+1,_,rfl,rfl,?_,?_,HN.out,HR'.out,HG'.out⟩
       ·have:=HCG.out.1;omega
       ·have:=HCG.out.2;have:=HLn ();simp;omega
     ·by_cases hd:okB s[k].toNat
      ·have HN:Hid (∀b∈((bN s).drop f).take (k+1-f),okB b):=(by
         intro b hb
         rw [Ue hfk HB.out]at hb
         rcases List.mem_append.1 hb with h|h
         ·exact HK.out b h
         ·rw [List.mem_singleton.1 h];exact hd)
       have hkw:IntKind.i64.wrap ((k:Int)+1)=(k:Int)+1:=by rw [IntKind.wrap_i64];omega
       have HFK:Hid (f≤k):=hfk
       rcases hd with h45|⟨h1,h2⟩
       ·clear hfk
        go_wp2_with fail
        go_roundg k'
        case measure=>omega
        case rel=>exact⟨k+1,rfl,rfl,rfl,by omega,Nat.le_succ_of_le HFK.out,HN.out,rfl⟩
       ·have h1I:(48:Int)≤(s[k].toNat:Int):=by omega
        have h2I:(s[k].toNat:Int)≤57:=by omega
        have h45b:((s[k].toNat:Int) != 45)=true:=by rw [bne_iff_ne];omega
        clear hfk h1 h2
        go_wp2_with fail
        go_roundg k'
        case measure=>omega
        case rel=>exact⟨k+1,rfl,rfl,rfl,by omega,Nat.le_succ_of_le HFK.out,HN.out,rfl⟩
      ·have HE:Hid (CutR s []):=HI.out.bad HL1.out (x:=s[k].toNat) (by
         rw [List.mem_iff_getElem?]
         exact⟨k-f,by rw [List.getElem?_drop,show f+(k-f)=k by omega];exact HB.out⟩) hd h47
       have h45:¬s[k].toNat=45:=fun e=>hd (.inl e)
       have hdd:s[k].toNat<48∨57<s[k].toNat:=by
        have:¬isDig s[k].toNat:=fun e=>hd (.inr e)
        unfold isDig at this
        omega
       clear hd
       rcases hdd with h1|h1
       ·have h1I:(s[k].toNat:Int)≤47:=by omega
        have h45b:((s[k].toNat:Int) != 45)=true:=by rw [bne_iff_ne];omega
        clear h1
        go_wp2_with fail
        go_ret
        exact⟨_,[],rfl,HE.out,RowS.nil _ _,HG.out⟩
       ·have h1I:(58:Int)≤(s[k].toNat:Int):=by omega
        have h45b:((s[k].toNat:Int) != 45)=true:=by rw [bne_iff_ne];omega
        have h48b:decide ((s[k].toNat:Int)<48)=false:=decide_eq_false (by omega)
        have h57b:decide ((57:Int)<(s[k].toNat:Int))=true:=decide_eq_true (by omega)
        clear h1
        go_wp2_with fail
        rw [Exit.noGoto_ret]
        go_ret
        exact⟨_,[],rfl,HE.out,RowS.nil _ _,HG.out⟩
def QText (x y:Int) (s:ByteArray):Prop:=(y=1∧TextOf x s)∨(y≠1∧∃a b,TextOf x a∧TextOf y b∧s=a++⟨#[47]⟩++b)
theorem QText.cut {x y:Int} {s:ByteArray} (h:QText x y s):Cut1 s∨∃a b,Cut2 s a b:=by
 rcases h with ⟨_,h⟩|⟨_,a,b,ha,hb,rfl⟩
 ·exact .inl (YI h.1)
 ·exact .inr ⟨a,b,rfl,YI ha.1,YI hb.1⟩
theorem QText.of1 {x y:Int} {s:ByteArray} (h:QText x y s) (hc:47 ∉ bN s):y=1∧TextOf x s:=by
 rcases h with h|⟨_,a,b,ha,hb,rfl⟩
 ·exact h
 ·exact absurd (by rw [Z3];simp) hc
theorem QText.of2 {x y:Int} {a b:ByteArray} (h:QText x y (a++⟨#[47]⟩++b)) (hc:47 ∉ bN a):y≠1∧TextOf x a∧TextOf y b:=by
 rcases h with ⟨_,h⟩|⟨hy,a',b',ha,hb,e⟩
 ·exact absurd (YI h.1) ZeN
 ·obtain⟨rfl,rfl⟩:=Zc1 hc (no47 (YI ha.1)) e
  exact⟨hy,ha,hb⟩
theorem QText.one {x y x' y':Int} {s:ByteArray} (h:QText x y s) (h':QText x' y' s):x=x'∧y=y':=by
 rcases h with ⟨rfl,h⟩|⟨_,a,b,ha,hb,rfl⟩
 ·obtain⟨rfl,h2⟩:=h'.of1 (no47 (YI h.1))
  exact⟨h.2.symm.trans h2.2,rfl⟩
 ·obtain⟨_,h1,h2⟩:=h'.of2 (no47 (YI ha.1))
  exact⟨ha.2.symm.trans h1.2,hb.2.symm.trans h2.2⟩
theorem QText.same {x y:Int} {s s':ByteArray} (h:QText x y s) (h':QText x y s'):s=s':=by
 rcases h with ⟨h1,h⟩|⟨h1,a,b,ha,hb,rfl⟩
 ·rcases h' with ⟨_,h'⟩|⟨h2,_⟩
  ·exact h.one h'
  ·exact absurd h1 h2
 ·rcases h' with ⟨h2,_⟩|⟨_,a',b',ha',hb',rfl⟩
  ·exact absurd h2 h1
  ·rw [ha.one ha',hb.one hb']
def FrRes (s:ByteArray) (n:Bool) (p:ByteArray) (d:Bool) (q:ByteArray) (er:Int):Prop :=
 (er=0∧∃x y,IsQ x y n p d q∧QText x y s)∨(er=130∧n=false∧p=eS∧d=false∧q=eS∧∀x y n p d q,IsQ x y n p d q→¬QText x y s)
theorem FrRes.one {s p q p' q':ByteArray} {n d n' d':Bool} {er er':Int} (h:FrRes s n p d q er) (h':FrRes s n' p' d' q' er'):n=n'∧p=p'∧d=d'∧q=q'∧er=er':=by
 rcases h with ⟨rfl,x,y,hq,ht⟩|⟨rfl,rfl,rfl,rfl,rfl,hn⟩
 ·rcases h' with ⟨rfl,x',y',hq',ht'⟩|⟨_,_,_,_,_,hn⟩
  ·obtain⟨rfl,rfl⟩:=ht.one ht'
   obtain⟨a,b,c,d⟩:=hq.one hq'
   exact⟨a,b,c,d,rfl⟩
  ·exact absurd ht (hn _ _ _ _ _ _ hq)
 ·rcases h' with ⟨rfl,x',y',hq',ht'⟩|⟨rfl,rfl,rfl,rfl,rfl,_⟩
  ·exact absurd ht' (hn _ _ _ _ _ _ hq')
  ·exact⟨rfl,rfl,rfl,rfl,rfl⟩
def ReadP (s:ByteArray) (n:Bool) (t:ByteArray) (er:Int):Prop :=
 (er=0∧isText s∧IsZ (textZ s) n t∧may n t=true)∨((er=3∨er=4∨er=120)∧n=false∧t=eS∧∀k x m p,k≤1024→TextOf x s→¬Sz k x m p)
theorem ZaQ (k:Nat):256 ^ k≤10 ^ (3*k):=by
 rw [Nat.pow_mul]
 exact Nat.pow_le_pow_left (by decide) k
theorem long_no {s p:ByteArray} {x:Int} {m:Bool} {k:Nat} (hk:k≤1024) (h9:40000<s.size) (ht:TextOf x s):¬Sz k x m p:=by
 intro hs
 have hb:s.size≤(bare s).size+1:=by
  by_cases h45:(bN s).head?=some 45
  ·have h1:=Ze s
   have h2:=Ze (bare s)
   rw [YF h45]at h2
   simp at h2
   omega
  ·have e:bare s=s:=by unfold bare;rw [if_neg h45]
   rw [e];omega
 have hp:=ht.1.1
 have hl:=Ze (bare s)
 have hh:(bN (bare s)).head?.getD 0≠48:=by
  rcases hp.2.2 with h|h
  ·omega
  ·exact h
 have hlow:=UW hp.1 (by intro e;rw [e]at hl;simp at hl;omega) hh
 have e:x.natAbs=dec (bN (bare s)):=by rw [←ht.2];unfold textZ;split<;>simp
 have h1:=hs.2
 rw [e,hl]at *
 have h2:=ZaQ k
 have h3:10 ^ (3*k)≤10 ^ ((bare s).size-1):=Nat.pow_le_pow_right (by decide) (by omega)
 exact absurd (Nat.lt_of_lt_of_le h1 (Nat.le_trans h2 (Nat.le_trans h3 hlow))) (Nat.lt_irrefl _)
theorem read_q (s:ByteArray) (h9:s.size≤maxLen) (w:World) :
    Calls Tryz.prog 168 #[.string s] w fun e w'=>∃n t er,e=.returned (.tuple #[whole n t,.int .i64 er])∧ReadP s n t er∧w.grownBy w' none:=by
 by_cases hl:s.size≤40000
 ·by_cases h:isText s
  ·refine(Zfn s hl h w).mono ?_
   rintro e w' ⟨hz,hg⟩
   rcases hz with ⟨hb,n,t,rfl,hz⟩|⟨hb,rfl⟩
   ·exact⟨n,t,0,rfl,.inl ⟨rfl,h,hz,hz.may hb⟩,hg⟩
   ·refine⟨_,_,_,rfl,.inr ⟨.inr (.inl rfl),rfl,rfl,?_⟩,hg⟩
    intro k x m p hk hx hs
    have h1:=hs.bl
    rw [hx.2]at hb
    omega
  ·refine(ZeT s hl h w).mono ?_
   rintro e w' ⟨rfl,hg⟩
   exact⟨_,_,_,rfl,.inr ⟨.inr (.inr rfl),rfl,rfl,fun k x m p _ hx _=>h hx.1⟩,hg⟩
 ·refine(Zd1 s h9 (by omega) w).mono ?_
  rintro e w' ⟨rfl,hg⟩
  exact⟨_,_,_,rfl,.inr ⟨.inl rfl,rfl,rfl,fun k x m p hk hx=>long_no hk (by omega) hx⟩,hg⟩
theorem fr_none {s:ByteArray} (h1:¬Cut1 s) (h2:¬ ∃a b,Cut2 s a b):FrRes s false eS false eS 130 :=
 .inr ⟨rfl,rfl,rfl,rfl,rfl,fun _ _ _ _ _ _ _ h=>h.cut.elim h1 h2⟩
theorem q_of {x y:Int} {n d:Bool} {s t:ByteArray} (hx:IsZ x n s) (hy:IsZ y d t) (h:mayQ n s d t=true):IsQ x y n s d t:=by
 have:=YW h
 rw [hx.num,hy.num]at this
 exact this
theorem fr_one {s t:ByteArray} {n:Bool} (hc:47 ∉ bN s) (h:isText s) (hz:IsZ (textZ s) n t):mayQ n t false oneS=true→FrRes s n t false oneS 0:=by
 intro hm
 exact .inl ⟨rfl,_,1,q_of hz Xp hm,.inl ⟨rfl,h,rfl⟩⟩
theorem J3 {s t:ByteArray} {n:Bool} (hc:47 ∉ bN s) (hz:isText s→IsZ (textZ s) n t):mayQ n t false oneS=false→FrRes s false eS false eS 130:=by
 intro hm
 refine .inr ⟨rfl,rfl,rfl,rfl,rfl,?_⟩
 intro x y a b c d hq ht
 obtain⟨rfl,h1⟩:=ht.of1 hc
 have e:=hz h1.1
 rw [h1.2]at e
 obtain⟨rfl,rfl⟩:=ZU (hq.zn.1.one e)
 obtain⟨rfl,rfl⟩:=ZU (hq.zd.1.one Xp)
 rw [hq.may]at hm
 cases hm
theorem Uo {s:ByteArray} (hc:47 ∉ bN s) (h:∀k x m p,k≤1024→TextOf x s→¬Sz k x m p):FrRes s false eS false eS 130:=by
 refine .inr ⟨rfl,rfl,rfl,rfl,rfl,?_⟩
 intro x y a b c d hq ht
 obtain⟨rfl,h1⟩:=ht.of1 hc
 exact h 1024 x _ _ (Nat.le_refl _) h1 hq.zn
theorem fr_two {a b s t:ByteArray} {n d:Bool} (hc:47 ∉ bN a) (ha:isText a) (hb:isText b) (za:IsZ (textZ a) n s) (zb:IsZ (textZ b) d t) (h1:¬(d=false∧t=oneS)):mayQ n s d t=true→FrRes (a++⟨#[47]⟩++b) n s d t 0:=by
 intro hm
 refine .inl ⟨rfl,_,_,q_of za zb hm,.inr ⟨?_,a,b,⟨ha,rfl⟩,⟨hb,rfl⟩,rfl⟩⟩
 intro e
 rw [e]at zb
 exact h1 (XR zb)
theorem Js {a b s t:ByteArray} {n d:Bool} (hc:47 ∉ bN a) (za:isText a→IsZ (textZ a) n s) (zb:isText b→IsZ (textZ b) d t):mayQ n s d t=false→FrRes (a++⟨#[47]⟩++b) false eS false eS 130:=by
 intro hm
 refine .inr ⟨rfl,rfl,rfl,rfl,rfl,?_⟩
 intro x y e f g h hq ht
 obtain⟨hy,h1,h2⟩:=ht.of2 hc
 have e1:=za h1.1
 have e2:=zb h2.1
 rw [h1.2]at e1
 rw [h2.2]at e2
 obtain⟨rfl,rfl⟩:=ZU (hq.zn.1.one e1)
 obtain⟨rfl,rfl⟩:=ZU (hq.zd.1.one e2)
 rw [hq.may]at hm
 cases hm
theorem Uj {a b:ByteArray} (hc:47 ∉ bN a) (zb:isText b→IsZ (textZ b) false oneS):FrRes (a++⟨#[47]⟩++b) false eS false eS 130:=by
 refine .inr ⟨rfl,rfl,rfl,rfl,rfl,?_⟩
 intro x y e f g h hq ht
 obtain⟨hy,h1,h2⟩:=ht.of2 hc
 have e2:=zb h2.1
 rw [h2.2]at e2
 exact hy (by have:=e2.num;have h3:=Xp.num;rw [this]at h3;exact h3)
theorem VC {a b:ByteArray} (hc:47 ∉ bN a) (h:∀k x m p,k≤1024→TextOf x a→¬Sz k x m p):FrRes (a++⟨#[47]⟩++b) false eS false eS 130:=by
 refine .inr ⟨rfl,rfl,rfl,rfl,rfl,?_⟩
 intro x y e f g h' hq ht
 obtain⟨hy,h1,h2⟩:=ht.of2 hc
 exact h 1024 x _ _ (Nat.le_refl _) h1 hq.zn
theorem VX {a b:ByteArray} (hc:47 ∉ bN a) (h:∀k x m p,k≤1024→TextOf x b→¬Sz k x m p):FrRes (a++⟨#[47]⟩++b) false eS false eS 130:=by
 refine .inr ⟨rfl,rfl,rfl,rfl,rfl,?_⟩
 intro x y e f g h' hq ht
 obtain⟨hy,h1,h2⟩:=ht.of2 hc
 exact h 1024 y _ _ (Nat.le_refl _) h2 hq.zd
end Go.Proofs.YtdcadiaeaclpgaaGreatDoor
