/- The document's cut, number. -/
import Derived.Test.YtdcadiaeaclpgaaGreatDoorBunSrl
import Derived.Test.YtdcadiaeaclpgaaGreatDoorBunScs
import Derived.Test.YtdcadiaeaclpgaaGreatDoorBunQrd
import Derived.Test.YtdcadiaeaclpgaaGreatDoorOna
import Derived.Deep.CutBlock
namespace Go.Proofs.YtdcadiaeaclpgaaGreatDoor
open Go Go.RowKit Go.Lib Go.Sort
set_option linter.unusedVariables false
set_option linter.unusedSimpArgs false
set_option maxHeartbeats 6400000
set_option maxRecDepth 1000000
theorem Ys {w:World} {ops:Array Oper} {rest:List Oper} {o:Oper} {a:Act} {Q:Exit→Act→World→Prop} (hgd:o.guard=none) (s x:Operand)
    (ho:o.op=.call { callee:=.builtin .append,args:=#[s,x],argTypes:=#[66,66] })
    (base:Nat) (v:Value) (L:List ByteArray) (y:ByteArray) (hs:a.eval s=v) (hR:RowS w base v L) (hl:L.length≤1000000) (hb:base≤w.heap.size)
    (ad:Addr) (hx:a.eval x=.slice (some ad) 1 1) (hy:w.cell? ad=some (.string y))
    (h:∀v' w',RowS w' base v' (L++[y])→w.grownBy w' v.ownBlock→wpList Tryz.prog ops Q rest (a.put o.dst v') w'):wpList Tryz.prog ops Q (o::rest) a w :=
 wpList_plain hgd fun K hK=>by
  obtain⟨i0,hi,hz0,hz1,hz2⟩:=info_parts Tryz.infoStr
  have hadd:∀j u,[Value.string y][j]?=some u→w.cell? (ad.add j)=some u:=by
   intro j u hj
   match j,hj with
   |0,hj=>simp at hj;subst hj;simpa [Addr.add]using hy
  have h1:∀u∈[Value.string y],u.oneCell'=true:=by
   intro u hu;simp at hu;subst hu;rfl
  obtain⟨v',w',hr,ho2,hg,hn⟩:=run_append_own (P:=Tryz.prog) w base 66 o.type 9 i0 (.string ⟨#[]⟩) 1 16 Tryz.underlying66 hi hz0 hz1 hz2 rfl (by decide) v L.length _ hR ad 1 1 [.string y] rfl hadd h1 (by unfold maxLen;omega) (by omega) hb
  unfold Oper.wp execOp
  simp only [ho,resolve,invoke,builtin,Sem.run_bind,Sem.run_pure,Result.andThen_ok,List.map_toArray,List.map_cons,List.map_nil,hs,hx,hr]
  refine hK _ _ (h v' w' ?_ hg)
  unfold RowS cellsS
  rw [List.map_append,List.length_append]
  exact ho2
theorem ZeD (L:List UInt8) (f k:Nat):(bA L).extract f k=bA ((L.drop f).take (k-f)):=by
 apply Yx
 rw [ZW,bN_bA,bN_bA,List.map_take,List.map_drop]
theorem bA_at {L:List UInt8} {k:Nat} (h:k<(bA L).size):L[k]?=some (bA L)[k]:=by
 have h1:k<L.length:=by rw [←Zo];exact h
 rw [List.getElem?_eq_getElem h1]
 rfl
def CI (L:List UInt8) (m:UInt8) (P:List (List UInt8)) (f i:Nat):Prop :=
 P.length≤i∧((i≤L.length∧f≤i∧spl m L=P++spl m (L.drop f)∧∀b∈(L.drop f).take (i-f),b≠m)∨(i=L.length+1∧P=spl m L))
theorem CI.zero (L:List UInt8) (m:UInt8):CI L m [] 0 0:=⟨Nat.le_refl _,.inl ⟨Nat.zero_le _,Nat.le_refl _,rfl,fun b hb=>by simp at hb⟩⟩
theorem CI.no {L:List UInt8} {m c:UInt8} {P:List (List UInt8)} {f i:Nat} (h:CI L m P f i) (hc:L[i]?=some c) (hm:c≠m):CI L m P f (i+1):=by
 have hi:i<L.length:=(List.getElem?_eq_some_iff.1 hc).1
 obtain⟨h0,⟨_,h1,h2,h3⟩|⟨h1,_⟩⟩:=h
 ·refine⟨by omega,.inl ⟨hi,by omega,h2,fun b hb=>?_⟩⟩
  have e:i+1-f=i-f+1:=by omega
  rw [e,List.take_add_one,List.getElem?_drop,show f+(i-f)=i by omega,hc,List.mem_append]at hb
  rcases hb with hb|hb
  ·exact h3 b hb
  ·simp at hb
   rw [hb]
   exact hm
 ·omega
theorem CI.yes {L:List UInt8} {m:UInt8} {P:List (List UInt8)} {f i:Nat} (h:CI L m P f i) (hc:L[i]?=some m):CI L m (P++[(L.drop f).take (i-f)]) (i+1) (i+1):=by
 have hi:i<L.length:=(List.getElem?_eq_some_iff.1 hc).1
 obtain⟨h0,⟨_,h1,h2,h3⟩|⟨h1,_⟩⟩:=h
 ·refine⟨by simp;omega,.inl ⟨hi,by omega,?_,fun b hb=>by simp at hb⟩⟩
  have e:L.drop f=(L.drop f).take (i-f)++m::L.drop (i+1):=by
   have e2:L.drop i=m::L.drop (i+1):=by
    rw [List.drop_eq_getElem_cons hi]
    congr 1
    exact(List.getElem?_eq_some_iff.1 hc).2
   rw [←e2]
   have:=List.take_append_drop (i-f) (L.drop f)
   rw [List.drop_drop,show f+(i-f)=i by omega]at this
   exact this.symm
  rw [h2,e,VS _ h3]
  rw [←e]
  simp
 ·omega
theorem CI.last {L:List UInt8} {m:UInt8} {P:List (List UInt8)} {f:Nat} (h:CI L m P f L.length):CI L m (P++[(L.drop f).take (L.length-f)]) (L.length+1) (L.length+1):=by
 obtain⟨h0,⟨_,h1,h2,h3⟩|⟨h1,_⟩⟩:=h
 ·refine⟨by simp;omega,.inr ⟨rfl,?_⟩⟩
  have e:(L.drop f).take (L.length-f)=L.drop f:=List.take_of_length_le (by rw [List.length_drop];omega)
  rw [e]at h3 ⊢
  rw [h2,VO h3]
 ·omega
theorem CI.end {L:List UInt8} {m:UInt8} {P:List (List UInt8)} {f i:Nat} (h:CI L m P f i) (hi:¬i≤L.length):P=spl m L:=by
 obtain⟨_,⟨h1,_⟩|⟨_,h1⟩⟩:=h
 ·exact absurd h1 hi
 ·exact h1
theorem U2 (L:List UInt8) (hL:L.length≤20000) (m:UInt8) (mi:Int) (hm:mi=m.toNat) (w:World) :
    Calls Tryz.prog 47 #[.string (bA L),.int .u8 mi] w fun e w'=>∃v,e=.returned v∧RowS w' w.heap.size v ((spl m L).map bA)∧w.grownBy w' none:=by
 have hsz:=Zo L
 have HAt:Hid (∀k (h:k<(bA L).size),L[k]?=some (bA L)[k]):=fun k h=>bA_at h
 have HCut:Hid (∀f k,(bA L).extract f k=bA ((L.drop f).take (k-f))):=ZeD L
 have HM:Hid (mi=m.toNat):=hm
 obtain⟨sz,hszz⟩:∃sz,L.length=sz:=⟨_,rfl⟩
 have HSz:Hid (L.length=sz):=hszz
 rw [hszz]at hsz hL
 have hszI:(sz:Int)≤20000:=by omega
 clear hm hszz
 generalize bA L=s at *
 go_enter Tryz.func47,Tryz.ntmps47
 go_wp2_with fail
 go_loopw [5,6,7] (fun s5 s6 s7 wr=>∃(i f:Nat) (P:List (List UInt8)),s6=.int .i64 f∧s7=.int .i64 i∧i≤sz+1∧CI L m P f i∧RowS wr w.heap.size s5 (P.map bA)∧w.grownBy wr none) (fun _ _ s7 _=>match s7 with|.int _ i=>sz+1-i.toNat|_=>0)
 case atStart=>exact⟨0,0,[],rfl,rfl,by omega,CI.zero _ _,RowS.nil _ _,World.grownBy.refl _ _⟩
 case round =>
  obtain⟨i,f,P,rfl,rfl,hi1,hCI,hR,hg⟩:=hrel
  obtain⟨ao,cp,rfl⟩:=hR.form
  have HR:Hid (RowS wr w.heap.size (.slice ao (P.map bA).length cp) (P.map bA)):=hR
  have HG:Hid (w.grownBy wr none):=hg
  have HC:Hid (CI L m P f i):=hCI
  have HPl:Hid (P.length≤20001):=by
   show _≤_
   have:=hCI.1
   omega
  generalize(P.map bA).length=ln at *
  clear hCI hR hg
  by_cases hle:i≤sz
  ·by_cases heq:i=sz
   ·subst heq
    have hfi:f≤i:=by
     have:=HSz.out
     obtain⟨_,⟨_,h,_⟩|⟨h,_⟩⟩:=HC.out
     ·exact h
     ·omega
    have HN:Hid (CI L m (P++[(L.drop f).take (i-f)]) (i+1) (i+1)):=by
     have h:=HC.out
     have e:=HSz.out
     subst e
     exact h.last
    have hfI:(f:Int)≤(i:Int):=by omega
    have HLl:Hid (L.length=i):=HSz.out
    go_wp2_with (at_builtin;refine Ys rfl _ _ rfl w.heap.size (.slice ao ln cp) (P.map bA) (s.extract f i) rfl (HR.out.alloc _) (by rw [List.length_map];have:=HPl.out;omega) (by have:=HG.out.size;simp;omega) ⟨wr.heap.size,0,none⟩ rfl (by simp) ?_)
    intro v' w' hR' hg'
    have HR':Hid (RowS w' w.heap.size v' ((P++[(L.drop f).take (i-f)]).map bA)):=by
     have h:RowS w' w.heap.size v' (P.map bA++[s.extract f i]):=hR'
     rw [HCut.out]at h
     show RowS _ _ _ _
     rw [List.map_append]
     exact h
    have HG':Hid (w.grownBy w' none):=RowS.grown (Za HG.out (grow1 _ _)) (HR.out.alloc _) hg'
    clear hR' hg'
    go_wp2_with fail
    go_roundw
    case rel=>exact⟨i+1,i+1,_,rfl,Zl (by omega),by omega,HN.out,HR'.out,HG'.out⟩
    case measure=>simp<;>omega
   ·have hlt:i<s.size:=by omega
    have hltI:(i:Int)<s.size:=by omega
    have hne:((i:Int) == (sz:Int))=false:=by rw [beq_eq_false_iff_ne];omega
    have HX:=HAt.out i hlt
    by_cases hc:(s[i].toNat:Int)=mi
    ·have hcm:s[i]=m:=by
       apply UInt8.toNat_inj.1
       have:=HM.out
       omega
     rw [hcm]at HX
     have HN:Hid (CI L m (P++[(L.drop f).take (i-f)]) (i+1) (i+1)):=HC.out.yes HX
     have hfi:f≤i:=by
      have:=HSz.out
      obtain⟨_,⟨_,h,_⟩|⟨h,_⟩⟩:=HC.out
      ·exact h
      ·omega
     have hfI:(f:Int)≤(i:Int):=by omega
     have hcb:((s[i].toNat:Int) == mi)=true:=by rw [beq_iff_eq];exact hc
     clear HX hcm hc heq
     go_wp2_with (at_builtin;refine Ys rfl _ _ rfl w.heap.size (.slice ao ln cp) (P.map bA) (s.extract f i) rfl (HR.out.alloc _) (by rw [List.length_map];have:=HPl.out;omega) (by have:=HG.out.size;simp;omega) ⟨wr.heap.size,0,none⟩ rfl (by simp) ?_)
     intro v' w' hR' hg'
     have HR':Hid (RowS w' w.heap.size v' ((P++[(L.drop f).take (i-f)]).map bA)):=by
      have h:RowS w' w.heap.size v' (P.map bA++[s.extract f i]):=hR'
      rw [HCut.out]at h
      show RowS _ _ _ _
      rw [List.map_append]
      exact h
     have HG':Hid (w.grownBy w' none):=RowS.grown (Za HG.out (grow1 _ _)) (HR.out.alloc _) hg'
     clear hR' hg'
     go_wp2_with fail
     go_roundw
     case rel=>exact⟨i+1,i+1,_,rfl,Zl (by omega),by omega,HN.out,HR'.out,HG'.out⟩
     case measure=>simp<;>omega
    ·have hcm:s[i]≠m:=by
       intro h
       apply hc
       rw [h,HM.out]
     have HN:Hid (CI L m P f (i+1)):=HC.out.no HX hcm
     have hcb:((s[i].toNat:Int) == mi)=false:=by rw [beq_eq_false_iff_ne];exact hc
     clear HX hcm hc heq
     go_wp2_with fail
     go_roundw
     case rel=>exact⟨i+1,f,_,rfl,Zl (by omega),by omega,HN.out,HR.out,HG.out⟩
     case measure=>simp<;>omega
  ·have HE:Hid (P=spl m L):=HC.out.end (by have:=HSz.out;omega)
   have hleI:decide ((i:Int)≤(sz:Int))=false:=decide_eq_false (by omega)
   go_wp2_with fail
   go_ret
   refine⟨_,rfl,?_,HG.out⟩
   rw [←HE.out]
   exact HR.out
theorem ZfB (s:ByteArray) (h:s.size≤6000) (w:World) :
    Calls Tryz.prog 100 #[.string s] w fun e w'=>∃n t er,e=.returned (.tuple #[whole n t,.int .i64 er])∧ReadP s n t er∧(er=0∨er=120)∧w.grownBy w' none:=by
 refine(ZdZ s (by omega) w).mono ?_
 rintro e w' ⟨hd,hg⟩
 rcases hd with ⟨ht,n,t,rfl,hz⟩|⟨ht,rfl⟩
 ·refine⟨n,t,0,rfl,.inl ⟨rfl,ht,hz,hz.may ?_⟩,.inl rfl,hg⟩
  have hb:=YT s
  have hd:=Xh (bN (bare s)) ht.1.1
  have he:(textZ s).natAbs=dec (bN (bare s)):=by unfold textZ;split<;>simp
  rw [he]
  have hl:=Ze (bare s)
  generalize(bN (bare s)).length=k at *
  have h2:10 ^ k≤16 ^ k:=Nat.pow_le_pow_left (by decide) k
  have h4:bl (dec (bN (bare s)))≤4*k:=bl_le (by rw [Nat.pow_mul];exact Nat.lt_of_lt_of_le hd h2)
  omega
 ·exact⟨_,_,_,rfl,.inr ⟨.inr (.inr rfl),rfl,rfl,fun k x m p _ hx _=>ht hx.1⟩,.inr rfl,hg⟩
theorem Uz (s:ByteArray) (h6:s.size≤6000) (w:World):Calls Tryz.prog 74 #[.string s] w (FrE s w):=by
 have HRd:Hid (∀p w,p.size≤6000→Calls Tryz.prog 100 #[.string p] w fun e w'=>∃n t er,e=.returned (.tuple #[whole n t,.int .i64 er])∧ReadP p n t er∧(er=0∨er=120)∧w.grownBy w' none):=fun p w h=>ZfB p h w
 have HI0:Hid (∀w,Calls Tryz.prog 99 #[.int .i64 0] w fun e w'=>e=.returned (frac false eS false oneS)∧w.grownBy w' none):=fun w=>rint_by 0 false eS (fun w=>Zfg w) (fun w=>U1 w) w
 have h6I:(s.size:Int)≤6000:=by omega
 go_enter Tryz.func74,Tryz.ntmps74
 go_upto_block 0 with fail
 go_cut [4]from 17 to 33 (fun s4 wx=>∃a:Nat,s4=.int .i64 (a:Int)∧RsI s a∧wx=w.alloc (qObj false eS false eS))
 case first =>
  go_wp2_with fail
  go_loopg [4,5] s.size (fun g s4 s5 wx=>∃i a:Nat,s4=.int .i64 (a:Int)∧s5=.int .i64 (i:Int)∧i+g=s.size∧RlI s i a∧wx=w.alloc (qObj false eS false eS))
  case atStart=>exact⟨0,s.size,rfl,rfl,by omega,.inl ⟨rfl,by simp⟩,rfl⟩
  case round =>
   obtain⟨i,a,rfl,rfl,hig,hI,rfl⟩:=hrel
   have HI:Hid (RlI s i a):=hI
   rcases hI with ⟨rfl,h47⟩|⟨ha,rfl,h1,h2⟩
   ·have HN:Hid (47 ∉ (bN s).take i):=h47
    clear h47
    by_cases hi:i<s.size
    ·have hb:=bN_at s i hi
     have HB:Hid ((bN s)[i]?=some s[i].toNat):=hb
     have hiI:(i:Int)<s.size:=by omega
     have hw:IntKind.i64.wrap ((i:Int)+1)=(i:Int)+1:=by rw [IntKind.wrap_i64];omega
     obtain⟨g',rfl⟩:∃g',gk=g'+1:=⟨gk-1,by omega⟩
     clear hb
     by_cases h:s[i].toNat=47
     ·go_wp2_with fail
      go_roundg g'
      case measure=>omega
      case rel=>exact⟨i+1,i,rfl,rfl,by omega,.inr ⟨hi,rfl,by rw [←h];exact HB.out,HN.out⟩,rfl⟩
     ·have hne:((s[i].toNat:Int) == 47)=false:=by rw [beq_eq_false_iff_ne];omega
      have HX:Hid (47 ∉ (bN s).take (i+1)):=(by
       rw [List.take_add_one,HB.out]
       intro hm
       rcases List.mem_append.1 hm with hm|hm
       ·exact HN.out hm
       ·simp at hm;omega)
      go_wp2_with fail
      go_roundg g'
      case measure=>omega
      case rel=>exact⟨i+1,s.size,rfl,rfl,by omega,.inl ⟨rfl,HX.out⟩,rfl⟩
    ·obtain rfl:i=s.size:=by omega
     have HX:Hid (RsI s s.size):=.inl ⟨rfl,by
      have h:=HN.out
      rw [List.take_of_length_le (by rw [Ze];omega)]at h
      exact h⟩
     clear hi hig
     go_wp2_with fail
     go_meet
     case rel=>exact⟨s.size,rfl,HX.out,rfl⟩
   ·have HX:Hid (RsI s a):=.inr ⟨ha,h1,h2⟩
    have hne:((a:Int) == (s.size:Int))=false:=by rw [beq_eq_false_iff_ne];omega
    clear h1 h2 ha
    by_cases hi:a+1<s.size
    ·have hiI:(a:Int)+1<s.size:=by omega
     go_wp2_with fail
     go_meet
     case rel=>exact⟨a,rfl,HX.out,rfl⟩
    ·have hiI:(s.size:Int)≤(a:Int)+1:=by omega
     go_wp2_with fail
     go_meet
     case rel=>exact⟨a,rfl,HX.out,rfl⟩
 case rest =>
  obtain⟨a,rfl,hS,rfl⟩:=hcut
  have HS:Hid (RsI s a):=hS
  have has:a≤s.size:=by rcases hS with ⟨h,_⟩|⟨h,_⟩<;>omega
  have hasI:(a:Int)≤s.size:=by omega
  clear hS
  go_wp2_with fail
  refine(HI0.out _).mono ?_
  rintro e w1 ⟨rfl,g1⟩
  have HQ:Hid (RqI w (w1.alloc (qObj false eS false oneS)) w1.heap.size false false eS oneS):=(by
   have h1:QBlk w1 w.heap.size (.bool false) (.string eS) (.bool false) (.string eS):=QBlk.kept (w:=w.alloc (qObj false eS false eS)) (heap_alloc_new _ _) g1 (by simp)
   exact⟨Zn _ _ h1,heap_alloc_new _ _,h1.lt,Za (Za (grow1 _ _) g1) (grow1 _ _)⟩)
  clear g1 HI0
  go_wp2_with fail
  have hsz:(s.extract 0 a).size≤6000:=by
   have h:=Ze (s.extract 0 a)
   rw [ZI,List.length_take,Ze]at h
   omega
  refine(HRd.out _ _ hsz).mono ?_
  rintro e w2 ⟨n1,t1,er1,rfl,hP,her,g2⟩
  have HP:Hid (ReadP (s.extract 0 a) n1 t1 er1):=hP
  have HQ2:Hid (RqI w (w2.alloc (wObj n1 t1)) w1.heap.size false false eS oneS):=HQ.out.kept (Za g2 (grow1 _ _))
  have HNB:Hid (WBlk (w2.alloc (wObj n1 t1)) w2.heap.size (.bool n1) (.string t1)):=heap_alloc_new _ _
  have HLT:Hid (w1.heap.size<w2.heap.size):=(by have:=g2.size;simp at this;omega:w1.heap.size<w2.heap.size)
  clear hP g2 HQ hsz
  go_upto_region 11 with fail
  generalize w2.alloc (wObj n1 t1)=V at *
  generalize w1.heap.size=XB at *
  generalize w2.heap.size=NB at *
  have hX:=HQ2.out.2.1
  have x0:=hX.c0
  have x1:=hX.c1
  have f0:=hX.fr 0
  have f1:=hX.fr 1
  have b0:=HNB.out.c0
  have b1:=HNB.out.c1
  have ne1:¬XB=NB:=by have:=HLT.out;omega
  have ne2:¬NB=XB:=by have:=HLT.out;omega
  clear hX
  have HQ3:Hid (RqI w ((V.setCell ⟨XB,0,none⟩ (.bool n1)).setCell ⟨XB,1,none⟩ (.string t1)) XB n1 false t1 oneS):=HQ2.out.put01 n1 t1
  clear HQ2
  go_upto_region 12 with fail
  clear x0 x1 f0 f1 b0 b1 HNB ne1 ne2 HLT
  generalize(V.setCell ⟨XB,0,none⟩ (.bool n1)).setCell ⟨XB,1,none⟩ (.string t1)=V3 at *
  by_cases ha:a<s.size
  ·obtain⟨hs2,h47⟩:=HS.out.two ha
   have haI:(a:Int)<s.size:=by omega
   obtain⟨A,hA⟩:∃A,s.extract 0 a=A:=⟨_,rfl⟩
   obtain⟨B,hB⟩:∃B,s.extract (a+1) s.size=B:=⟨_,rfl⟩
   have hBz:(s.extract (a+1) s.size).size≤6000:=by
    have h:=Ze (s.extract (a+1) s.size)
    rw [Yc,List.length_drop,Ze]at h
    omega
   rw [hA]at HP h47
   rw [hA,hB]at hs2
   have HRb:Hid (∀w,Calls Tryz.prog 100 #[.string (s.extract (a+1) s.size)] w fun e w'=>∃n t er,e=.returned (.tuple #[whole n t,.int .i64 er])∧ReadP B n t er∧(er=0∨er=120)∧w.grownBy w' none):=(by
    have h:=fun w=>HRd.out (s.extract (a+1) s.size) w hBz
    rw [hB]at h ⊢
    exact h)
   have HAz:Hid (A.size≤6000∧B.size≤6000):=(by
    refine⟨?_,by rw [←hB];exact hBz⟩
    rw [←hA]
    have h:=Ze (s.extract 0 a)
    rw [ZI,List.length_take,Ze]at h
    omega)
   have H47:Hid (47 ∉ bN A):=h47
   have HCV:Hid (∀n p d q er,FrRes (A++⟨#[47]⟩++B) n p d q er→FrRes s n p d q er):=(by
    intro n p d q er h
    rw [hs2];exact h)
   have HS2:Hid (s=A++⟨#[47]⟩++B):=hs2
   clear hA hB hBz hs2 h47 HRd HS
   go_wp2_with fail
   refine(HRb.out _).mono ?_
   rintro e w3 ⟨n2,t2,er2,rfl,hP,her2,g3⟩
   have HP2:Hid (ReadP B n2 t2 er2):=hP
   have HQ4:Hid (RqI w (w3.alloc (wObj n2 t2)) XB n1 false t1 oneS):=HQ3.out.kept (Za g3 (grow1 _ _))
   have HNB:Hid (WBlk (w3.alloc (wObj n2 t2)) w3.heap.size (.bool n2) (.string t2)):=heap_alloc_new _ _
   have HLT:Hid (XB<w3.heap.size):=(by have h1:=HQ3.out.2.1.lt;have h2:=g3.size;omega:XB<w3.heap.size)
   clear hP g3 HQ3 HRb
   go_upto_region 14 with fail
   generalize w3.alloc (wObj n2 t2)=V4 at *
   generalize w3.heap.size=NC at *
   have hX:=HQ4.out.2.1
   have x2:=hX.c2
   have x3:=hX.c3
   have f2:=hX.fr 2
   have f3:=hX.fr 3
   have b0:=HNB.out.c0
   have b1:=HNB.out.c1
   have ne1:¬XB=NC:=by have:=HLT.out;omega
   have ne2:¬NC=XB:=by have:=HLT.out;omega
   clear hX
   have HQ5:Hid (RqI w ((V4.setCell ⟨XB,2,none⟩ (.bool n2)).setCell ⟨XB,3,none⟩ (.string t2)) XB n1 n2 t1 t2):=HQ4.out.put23 n2 t2
   clear HQ4
   go_upto_region 15 with fail
   clear x2 x3 f2 f3 b0 b1 HNB ne1 ne2 HLT
   generalize(V4.setCell ⟨XB,2,none⟩ (.bool n2)).setCell ⟨XB,3,none⟩ (.string t2)=V5 at *
   have HQA:Hid (QBlk V5 w.heap.size (.bool false) (.string eS) (.bool false) (.string eS)):=HQ5.out.1
   rcases her2 with rfl|rfl
   ·rcases her with rfl|rfl
    ·obtain⟨ht,hz,hm⟩:isText A∧IsZ (textZ A) n1 t1∧may n1 t1=true:=by
       rcases HP.out with ⟨_,h1,h2,h3⟩|⟨h,_⟩
       ·exact⟨h1,h2,h3⟩
       ·simp at h
     obtain⟨ht2,hz2,hm2⟩:isText B∧IsZ (textZ B) n2 t2∧may n2 t2=true:=by
      rcases HP2.out with ⟨_,h1,h2,h3⟩|⟨h,_⟩
      ·exact⟨h1,h2,h3⟩
      ·simp at h
     have hmz:t1.size≤maxLen:=by have:=ZH hm;unfold maxLen;omega
     have hmz2:t2.size≤maxLen:=by have:=ZH hm2;unfold maxLen;omega
     have HMy:Hid (∀w,Calls Tryz.prog 91 #[frac n1 t1 n2 t2] w fun e w'=>e=.returned (.bool (mayQ n1 t1 n2 t2))∧w.grownBy w' none):=fun w=>Xs n1 n2 t1 t2 hmz hmz2 w
     have HY1:Hid (¬(n2=false∧t2=oneS)→mayQ n1 t1 n2 t2=true→FrRes s n1 t1 n2 t2 0):=fun h1 hmq=>HCV.out _ _ _ _ _ (fr_two H47.out ht ht2 hz hz2 h1 hmq)
     have HY2:Hid (mayQ n1 t1 n2 t2=false→FrRes s false eS false eS 130):=fun hmq=>HCV.out _ _ _ _ _ (Js H47.out (fun _=>hz) (fun _=>hz2) hmq)
     have HY3:Hid (n2=false∧t2=oneS→FrRes s false eS false eS 130):=(by
      rintro⟨rfl,rfl⟩
      exact HCV.out _ _ _ _ _ (Uj H47.out (fun _=>hz2)))
     have HTx:Hid (mayQ n1 t1 n2 t2=true→∀w,Calls Tryz.prog 60 #[frac n1 t1 n2 t2] w fun e w'=>∃T,e=.returned (.string T)∧(n2=false∧t2=oneS→¬T=s)∧(¬(n2=false∧t2=oneS)→T=s)∧w.grownBy w' none):=(by
      intro hmq w
      have hq:=q_of hz hz2 hmq
      refine(XP hq w (fun b hb=>?_) (fun b hb=>?_)).mono ?_
      ·rw [hb.one ⟨ht,rfl⟩];have:=HAz.out;omega
      ·rw [hb.one ⟨ht2,rfl⟩];have:=HAz.out;omega
      ·rintro e w' ⟨T,rfl,hT,hg⟩
       refine⟨T,rfl,fun h1 e=>?_,fun h1=>?_,hg⟩
       ·obtain⟨rfl,rfl⟩:=h1
        rw [e,HS2.out]at hT
        obtain⟨h2,_⟩:=hT.of2 H47.out
        have h3:=hz2.num
        rw [Xp.num]at h3
        exact h2 h3.symm
       ·rw [HS2.out]
        refine hT.same (.inr ⟨fun e=>h1 ?_,A,B,⟨ht,rfl⟩,⟨ht2,rfl⟩,rfl⟩)
        rw [e]at hz2
        exact XR hz2)
     clear hmz hz hm ht HP hmz2 hz2 hm2 ht2 HP2 HS2 HCV
     have hX:=HQ5.out.2.1
     have x0:=hX.c0
     have x1:=hX.c1
     have x2:=hX.c2
     have x3:=hX.c3
     clear hX
     go_wp2_with fail
     refine(HMy.out _).mono ?_
     rintro e w4 ⟨rfl,g4⟩
     have HQ6:Hid (RqI w w4 XB n1 n2 t1 t2):=HQ5.out.kept g4
     clear g4 HQA HQ5 x0 x1 x2 x3
     have HQA:Hid (QBlk w4 w.heap.size (.bool false) (.string eS) (.bool false) (.string eS)):=HQ6.out.1
     cases hmq:mayQ n1 t1 n2 t2
     ·have HE:Hid (FrRes s false eS false eS 130):=HY2.out hmq
      clear HMy HTx HY1 HY2 HY3 hmq
      have q0:=HQA.out.c0
      have q1:=HQA.out.c1
      have q2:=HQA.out.c2
      have q3:=HQA.out.c3
      have f0:=HQA.out.fr 0
      have f1:=HQA.out.fr 1
      have f2:=HQA.out.fr 2
      have f3:=HQA.out.fr 3
      go_wp2_with fail
      refine bodyPost_ret (Zs rfl _ _ w.heap.size _ _ _ _ _ _ rfl (HQA.out.put _ _ _ _)) rfl ?_
      exact⟨_,_,_,_,_,rfl,HE.out,Zy HQ6.out.2.2.2 (Nat.le_refl _)⟩
     ·have HTz:Hid (∀w,Calls Tryz.prog 60 #[frac n1 t1 n2 t2] w fun e w'=>∃T,e=.returned (.string T)∧(n2=false∧t2=oneS→¬T=s)∧(¬(n2=false∧t2=oneS)→T=s)∧w.grownBy w' none):=HTx.out hmq
      have HZ1:Hid (¬(n2=false∧t2=oneS)→FrRes s n1 t1 n2 t2 0):=fun h=>HY1.out h hmq
      have hX:=HQ6.out.2.1
      have x0:=hX.c0
      have x1:=hX.c1
      have x2:=hX.c2
      have x3:=hX.c3
      clear hX
      clear HMy HTx HY1 HY2 hmq
      go_wp2_with fail
      refine(HTz.out _).mono ?_
      rintro e w5 ⟨T,rfl,hT1,hT2,g5⟩
      have HQ7:Hid (RqI w w5 XB n1 n2 t1 t2):=HQ6.out.kept g5
      clear g5 HQA HQ6 x0 x1 x2 x3
      have HQA:Hid (QBlk w5 w.heap.size (.bool false) (.string eS) (.bool false) (.string eS)):=HQ7.out.1
      have hX:=HQ7.out.2.1
      have x0:=hX.c0
      have x1:=hX.c1
      have x2:=hX.c2
      have x3:=hX.c3
      clear hX
      by_cases h1:n2=false∧t2=oneS
      ·have HE:Hid (FrRes s false eS false eS 130):=HY3.out h1
       have hTs:(T.toList == s.toList)=false:=by
        rw [beq_eq_false_iff_ne]
        intro e
        exact hT1 h1 (Yx (by rw [←YZ,←YZ,e]))
       clear hT1 hT2 h1 HZ1 HY3
       have q0:=HQA.out.c0
       have q1:=HQA.out.c1
       have q2:=HQA.out.c2
       have q3:=HQA.out.c3
       have f0:=HQA.out.fr 0
       have f1:=HQA.out.fr 1
       have f2:=HQA.out.fr 2
       have f3:=HQA.out.fr 3
       go_wp2_with fail
       refine bodyPost_ret (Zs rfl _ _ w.heap.size _ _ _ _ _ _ rfl (HQA.out.put _ _ _ _)) rfl ?_
       exact⟨_,_,_,_,_,rfl,HE.out,Zy HQ7.out.2.2.2 (Nat.le_refl _)⟩
      ·have HE:Hid (FrRes s n1 t1 n2 t2 0):=HZ1.out h1
       obtain rfl:=hT2 h1
       clear hT1 hT2 h1 HZ1 HY3
       have q0:=HQA.out.c0
       have q1:=HQA.out.c1
       have q2:=HQA.out.c2
       have q3:=HQA.out.c3
       have f0:=HQA.out.fr 0
       have f1:=HQA.out.fr 1
       have f2:=HQA.out.fr 2
       have f3:=HQA.out.fr 3
       go_wp2_with fail
       refine bodyPost_ret (Zs rfl _ _ w.heap.size _ _ _ _ _ _ rfl (HQA.out.put _ _ _ _)) rfl ?_
       exact⟨_,_,_,_,_,rfl,HE.out,Zy HQ7.out.2.2.2 (Nat.le_refl _)⟩
    ·have hX:=HQ5.out.2.1
     have x0:=hX.c0
     have x1:=hX.c1
     have x2:=hX.c2
     have x3:=hX.c3
     clear hX
     have HE:Hid (FrRes s false eS false eS 130):=HCV.out _ _ _ _ _ (VC H47.out (by
      rcases HP.out with ⟨h,_⟩|⟨_,_,_,h⟩
      ·simp at h
      ·exact h))
     have q0:=HQA.out.c0
     have q1:=HQA.out.c1
     have q2:=HQA.out.c2
     have q3:=HQA.out.c3
     have f0:=HQA.out.fr 0
     have f1:=HQA.out.fr 1
     have f2:=HQA.out.fr 2
     have f3:=HQA.out.fr 3
     go_wp2_with fail
     refine bodyPost_ret (Zs rfl _ _ w.heap.size _ _ _ _ _ _ rfl (HQA.out.put _ _ _ _)) rfl ?_
     exact⟨_,_,_,_,_,rfl,HE.out,Zy HQ5.out.2.2.2 (Nat.le_refl _)⟩
   ·have HE:Hid (FrRes s false eS false eS 130):=HCV.out _ _ _ _ _ (VX H47.out (by
      rcases HP2.out with ⟨h,_⟩|⟨_,_,_,h⟩
      ·simp at h
      ·exact h))
    have q0:=HQA.out.c0
    have q1:=HQA.out.c1
    have q2:=HQA.out.c2
    have q3:=HQA.out.c3
    have f0:=HQA.out.fr 0
    have f1:=HQA.out.fr 1
    have f2:=HQA.out.fr 2
    have f3:=HQA.out.fr 3
    go_wp2_with fail
    refine bodyPost_ret (Zs rfl _ _ w.heap.size _ _ _ _ _ _ rfl (HQA.out.put _ _ _ _)) rfl ?_
    exact⟨_,_,_,_,_,rfl,HE.out,Zy HQ5.out.2.2.2 (Nat.le_refl _)⟩
  ·obtain⟨hs1,rfl,h47⟩:=HS.out.one ha
   rw [hs1]at HP
   have H47:Hid (47 ∉ bN s):=h47
   clear h47 hs1 ha hasI has
   have HQA:Hid (QBlk V3 w.heap.size (.bool false) (.string eS) (.bool false) (.string eS)):=HQ3.out.1
   have hX:=HQ3.out.2.1
   have x0:=hX.c0
   have x1:=hX.c1
   have x2:=hX.c2
   have x3:=hX.c3
   clear hX
   rcases her with rfl|rfl
   ·obtain⟨ht,hz,hm⟩:isText s∧IsZ (textZ s) n1 t1∧may n1 t1=true:=by
      rcases HP.out with ⟨_,h1,h2,h3⟩|⟨h,_⟩
      ·exact⟨h1,h2,h3⟩
      ·simp at h
    have hmz:t1.size≤maxLen:=by have:=ZH hm;unfold maxLen;omega
    have HMy:Hid (∀w,Calls Tryz.prog 91 #[frac n1 t1 false oneS] w fun e w'=>e=.returned (.bool (mayQ n1 t1 false oneS))∧w.grownBy w' none):=fun w=>Xs n1 false t1 oneS hmz (by unfold maxLen;decide) w
    have HY1:Hid (mayQ n1 t1 false oneS=true→FrRes s n1 t1 false oneS 0):=fr_one H47.out ht hz
    have HY2:Hid (mayQ n1 t1 false oneS=false→FrRes s false eS false eS 130):=J3 H47.out (fun _=>hz)
    have HTx:Hid (mayQ n1 t1 false oneS=true→∀w,Calls Tryz.prog 60 #[frac n1 t1 false oneS] w fun e w'=>e=.returned (.string s)∧w.grownBy w' none):=(by
     intro hmq w
     have hq:=q_of hz Xp hmq
     have hone:TextOf 1 ⟨#[49]⟩:=⟨by decide,by decide⟩
     refine(XP hq w (fun b hb=>?_) (fun b hb=>?_)).mono ?_
     ·rw [hb.one ⟨ht,rfl⟩];omega
     ·rw [hb.one hone];decide
     ·rintro e w' ⟨b,rfl,hb,hg⟩
      rw [hb.same (.inl ⟨rfl,ht,rfl⟩)]
      exact⟨rfl,hg⟩)
    clear hmz hz hm ht HP
    go_wp2_with fail
    refine(HMy.out _).mono ?_
    rintro e w3 ⟨rfl,g3⟩
    have HQ4:Hid (RqI w w3 XB n1 false t1 oneS):=HQ3.out.kept g3
    clear g3 HQA HQ3 x0 x1 x2 x3
    have HQA:Hid (QBlk w3 w.heap.size (.bool false) (.string eS) (.bool false) (.string eS)):=HQ4.out.1
    cases hmq:mayQ n1 t1 false oneS
    ·have HE:Hid (FrRes s false eS false eS 130):=HY2.out hmq
     have q0:=HQA.out.c0
     have q1:=HQA.out.c1
     have q2:=HQA.out.c2
     have q3:=HQA.out.c3
     have f0:=HQA.out.fr 0
     have f1:=HQA.out.fr 1
     have f2:=HQA.out.fr 2
     have f3:=HQA.out.fr 3
     clear HMy HTx HY1 HY2 hmq
     go_wp2_with fail
     refine bodyPost_ret (Zs rfl _ _ w.heap.size _ _ _ _ _ _ rfl (HQA.out.put _ _ _ _)) rfl ?_
     exact⟨_,_,_,_,_,rfl,HE.out,Zy HQ4.out.2.2.2 (Nat.le_refl _)⟩
    ·have HE:Hid (FrRes s n1 t1 false oneS 0):=HY1.out hmq
     have HTz:Hid (∀w,Calls Tryz.prog 60 #[frac n1 t1 false oneS] w fun e w'=>e=.returned (.string s)∧w.grownBy w' none):=HTx.out hmq
     have hX:=HQ4.out.2.1
     have x0:=hX.c0
     have x1:=hX.c1
     have x2:=hX.c2
     have x3:=hX.c3
     clear hX HMy HTx HY1 HY2 hmq
     go_wp2_with fail
     refine(HTz.out _).mono ?_
     rintro e w4 ⟨rfl,g4⟩
     have HQ5:Hid (RqI w w4 XB n1 false t1 oneS):=HQ4.out.kept g4
     clear g4 HQA HQ4 x0 x1 x2 x3
     have HQA:Hid (QBlk w4 w.heap.size (.bool false) (.string eS) (.bool false) (.string eS)):=HQ5.out.1
     have hX:=HQ5.out.2.1
     have x0:=hX.c0
     have x1:=hX.c1
     have x2:=hX.c2
     have x3:=hX.c3
     have q0:=HQA.out.c0
     have q1:=HQA.out.c1
     have q2:=HQA.out.c2
     have q3:=HQA.out.c3
     have f0:=HQA.out.fr 0
     have f1:=HQA.out.fr 1
     have f2:=HQA.out.fr 2
     have f3:=HQA.out.fr 3
     clear hX
     go_wp2_with fail
     refine bodyPost_ret (Zs rfl _ _ w.heap.size _ _ _ _ _ _ rfl (HQA.out.put _ _ _ _)) rfl ?_
     exact⟨_,_,_,_,_,rfl,HE.out,Zy HQ5.out.2.2.2 (Nat.le_refl _)⟩
   ·have HE:Hid (FrRes s false eS false eS 130):=Uo H47.out (by
      rcases HP.out with ⟨h,_⟩|⟨_,_,_,h⟩
      ·simp at h
      ·exact h)
    have q0:=HQA.out.c0
    have q1:=HQA.out.c1
    have q2:=HQA.out.c2
    have q3:=HQA.out.c3
    have f0:=HQA.out.fr 0
    have f1:=HQA.out.fr 1
    have f2:=HQA.out.fr 2
    have f3:=HQA.out.fr 3
    go_wp2_with fail
    refine bodyPost_ret (Zs rfl _ _ w.heap.size _ _ _ _ _ _ rfl (HQA.out.put _ _ _ _)) rfl ?_
    exact⟨_,_,_,_,_,rfl,HE.out,Zy HQ3.out.2.2.2 (Nat.le_refl _)⟩
end Go.Proofs.YtdcadiaeaclpgaaGreatDoor
