/-
  The document's cut, number.
  The program's Names.
-/
import Derived.Test.YtdcadiaeaclpgaaGreatDoorBunSrl
import Derived.Test.YtdcadiaeaclpgaaGreatDoorBunSya
namespace Go.Proofs.YtdcadiaeaclpgaaGreatDoor
open Go Go.RowKit Go.Lib Go.Sort
set_option linter.unusedVariables false
set_option linter.unusedSimpArgs false
set_option maxHeartbeats 6400000
set_option maxRecDepth 1000000
theorem wpList_append_str2 {w:World} {ops:Array Oper} {rest:List Oper} {o:Oper} {a:Act} {Q:Exit→Act→World→Prop} (hgd:o.guard=none) (s x:Operand)
    (ho:o.op=.call { callee:=.builtin .append,args:=#[s,x],argTypes:=#[66,66] })
    (base:Nat) (v:Value) (L:List ByteArray) (y:ByteArray) (hs:a.eval s=v) (hR:RowS w base v L) (hl:L.length≤1000000) (hb:base≤w.heap.size)
    (ad:Addr) (hx:a.eval x=.slice (some ad) 1 1) (hy:w.cell? ad=some (.string y))
    (h:∀ v' w',RowS w' base v' (L++[y])→w.grownBy w' v.ownBlock→wpList Tryz.prog ops Q rest (a.put o.dst v') w'):wpList Tryz.prog ops Q (o :: rest) a w :=
 wpList_plain hgd fun K hK=>by
  obtain ⟨i0,hi,hz0,hz1,hz2⟩:=info_parts Tryz.infoStr
  have hadd:∀ j u,[Value.string y][j]?=some u→w.cell? (ad.add j)=some u:=by
   intro j u hj
   match j,hj with
   |0,hj=>simp at hj; subst hj; simpa [Addr.add] using hy
  have h1:∀ u∈[Value.string y],u.oneCell'=true:=by
   intro u hu; simp at hu; subst hu; rfl
  obtain ⟨v',w',hr,ho2,hg,hn⟩:=run_append_own (P:=Tryz.prog) w base 66 o.type 9 i0 (.string ⟨#[]⟩) 1 16 Tryz.underlying66 hi hz0 hz1 hz2 rfl (by decide) v L.length _ hR ad 1 1 [.string y] rfl hadd h1 (by unfold maxLen; omega) (by omega) hb
  unfold Oper.wp execOp
  simp only [ho,resolve,invoke,builtin,Sem.run_bind,Sem.run_pure,Result.andThen_ok,List.map_toArray,List.map_cons,List.map_nil,hs,hx,hr]
  refine hK _ _ (h v' w' ?_ hg)
  unfold RowS cellsS
  rw [List.map_append,List.length_append]
  exact ho2
def namL (L:List St):List ByteArray:=(L.filter fun s=>decide (s.nm.size≠0)).map St.nm
theorem namL_step {L:List St} {i:Nat} {s:St} (h:L[i]?=some s):namL (L.take (i+1))=namL (L.take i)++(if s.nm.size=0 then [] else [s.nm]):=by
 unfold namL
 rw [List.take_add_one,h,List.filter_append,List.map_append]
 congr 1
 show (List.filter (fun s:St=>decide (s.nm.size≠0)) [s]).map St.nm=_
 by_cases h0:s.nm.size=0
 ·rw [if_pos h0,List.filter_cons_of_neg (by rw [decide_eq_true_eq]; exact fun h=>h h0)]
  rfl
 ·rw [if_neg h0,List.filter_cons_of_pos (by rw [decide_eq_true_eq]; exact h0)]
  rfl
theorem namL_len (L:List St):(namL L).length≤L.length:=by
 unfold namL
 rw [List.length_map]
 exact List.length_filter_le _ _
theorem names_any (w:World) (v:Value) (L:List St) (hv:Sts w v L) (hl:L.length≤4096) :
    Calls Tryz.prog 28 #[v] w fun e w'=>∃ u,e=.returned u∧RowS w' w.heap.size u (namL L)∧w.grownBy w' none:=by
 obtain ⟨ab,c,rfl,HR⟩:=hv.reads
 have HR1:Hid (∀ w',w.grownBy w' none→∀ i s,L[i]?=some s→∃ B off u,ab=some ⟨B,off,none⟩∧StAt w' B (off+i*3) s u∧L.length≤c):=HR
 have HE:Hid (namL L=namL (L.take L.length)):=by
  show _=_
  rw [List.take_length]
 obtain ⟨n,hn⟩:∃ n,L.length=n:=⟨_,rfl⟩
 have HLn:Unit→L.length=n:=fun _=>hn
 rw [hn] at hl HE ⊢
 simp only [hn] at HR1
 clear hn HR hv
 have hnI:(n:Int)≤4096:=by omega
 go_enter Tryz.func28,Tryz.ntmps28
 go_wp2_with fail
 go_loopw [3,8] (fun s3 s8 wr=>∃ (i:Nat) (P:List ByteArray),i≤n∧s8=.int .i64 i∧P=namL (L.take i)∧RowS wr w.heap.size s3 P∧w.grownBy wr none) (fun _ s _=>match s with | .int _ i=>n - i.toNat | _=>0)
 case atStart=>exact ⟨0,[],by omega,rfl,rfl,RowS.nil _ _,grow0 _⟩
 case round =>
  obtain ⟨i,P,hi,rfl,hP,hRw,hg⟩:=hrel
  have HP:Hid (P=namL (L.take i)):=hP
  obtain ⟨ao,cp,rfl⟩:=hRw.form
  have HRw:Hid (RowS wr w.heap.size (.slice ao P.length cp) P):=hRw
  have HG:Hid (w.grownBy wr none):=hg
  have HPl:Hid (∀ Q:List ByteArray,Q=P→Q.length≤4096):=fun Q hQ=>by
   rw [hQ,hP]
   have:=namL_len (L.take i)
   rw [List.length_take] at this
   omega
  generalize P.length=ln at *
  clear hP hRw hg
  by_cases hlt:i < n
  ·have hlt':i < L.length:=by rw [HLn ()]; exact hlt
   obtain ⟨s,his⟩:∃ s,L[i]?=some s:=⟨_,List.getElem?_eq_getElem hlt'⟩
   obtain ⟨B,off,u,rfl,hat,hnc⟩:=HR1.out wr HG.out i _ his
   have HN:Hid (namL (L.take (i+1))=P++(if s.nm.size=0 then [] else [s.nm])):=by
    show _=_
    rw [namL_step his,← HP.out]
   obtain ⟨k0,k1,k2,hA⟩:=hat
   obtain ⟨ab2,c2,rfl⟩:=hA.form
   have hltI:(i:Int) < n:=by omega
   clear hlt' his hA
   obtain ⟨vb,nm,ags⟩:=s
   simp only at k0 k1 k2 HN
   generalize ags.length=m at *
   by_cases h0:nm.size=0
   ·obtain rfl:=empty_of_size h0
    have HN2:Hid (P=namL (L.take (i+1))):=by
     show _=_
     rw [HN.out,if_pos h0,List.append_nil]
    clear HN h0
    go_wp2_with fail
    go_roundw
    case rel=>exact ⟨i+1,P,by omega,num_eq (by omega),HN2.out,HRw.out.kept (grow1 _ _),grownBy_trans HG.out (grow1 _ _)⟩
    case measure=>simp <;> omega
   ·have he:=isEmpty_of h0
    have HN2:Hid (P++[nm]=namL (L.take (i+1))):=by
     show _=_
     rw [HN.out,if_neg h0]
    clear HN h0
    go_wp2_with (at_builtin; refine wpList_append_str2 rfl _ _ rfl w.heap.size (.slice ao ln cp) P nm rfl ((HRw.out.kept (grow1 _ _)).kept (grow1 _ _)) (by have:=HPl.out P rfl; omega) (by have:=HG.out.size; simp; omega) ⟨wr.heap.size+1,0,none⟩ rfl (by simp) ?_)
    intro v' w' hR' hg'
    have HR':Hid (RowS w' w.heap.size v' (P++[nm])):=hR'
    have HG':Hid (w.grownBy w' none):=RowS.grown (grownBy_trans HG.out (grownBy_trans (grow1 _ _) (grow1 _ _))) ((HRw.out.kept (grow1 _ _)).kept (grow1 _ _)) hg'
    clear hR' hg'
    go_wp2_with fail
    go_roundw
    case rel=>exact ⟨i+1,P++[nm],by omega,num_eq (by omega),HN2.out,HR'.out,HG'.out⟩
    case measure=>simp <;> omega
  ·obtain rfl:i=n:=by omega
   have HE2:Hid (P=namL L):=by
    show _=_
    rw [HE.out]
    exact HP.out
   have hlI:decide ((i:Int) < (i:Int))=false:=decide_eq_false (by omega)
   go_wp2_with fail
   go_ret
   refine ⟨_,rfl,?_,HG.out⟩
   rw [← HE2.out]
   exact HRw.out
end Go.Proofs.YtdcadiaeaclpgaaGreatDoor
