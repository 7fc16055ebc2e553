/-
  Scenes as a call has them; the law's large; the program's checked.
  Names and their places: a map that the call has made.
  The program's standing: which names stand at which places.
  The program's Order.
-/
import Derived.Test.YtdcadiaeaclpgaaGreatDoorSkw
import Derived.Maps.Own
import Derived.Maps.OwnOps
import Derived.Maps.OwnSet
import Derived.Maps.Views
namespace Go.Proofs.YtdcadiaeaclpgaaGreatDoor
open Go Go.RowKit Go.Lib Go.Sort
set_option linter.unusedVariables false
set_option linter.unusedSimpArgs false
set_option maxHeartbeats 6400000
set_option maxRecDepth 1000000
structure StAt (w:World) (B o:Nat) (s:St) (u:Value):Prop where
 c0:w.cell? ⟨B,o,none⟩=some (.string s.vb)
 c1:w.cell? ⟨B,o+1,none⟩=some (.string s.nm)
 c2:w.cell? ⟨B,o+2,none⟩=some u
 a:Args w u s.ags
theorem StAt.kept {w w':World} {B o:Nat} {s:St} {u:Value} (h:StAt w B o s u) (hg:w.grownBy w' none):StAt w' B o s u :=
 ⟨grownBy_cell hg h.c0 (by simp),grownBy_cell hg h.c1 (by simp),grownBy_cell hg h.c2 (by simp),h.a.kept hg⟩
def Sts (w:World) (v:Value) (L:List St):Prop :=
 (L=[]∧∃ ab c,v=.slice ab 0 c)∨∃ B off c,v=.slice (some ⟨B,off,none⟩) L.length c∧L.length≤c∧∀ j s,L[j]?=some s→∃ u,StAt w B (off+j*3) s u
theorem Sts.kept {w w':World} {v:Value} {L:List St} (h:Sts w v L) (hg:w.grownBy w' none):Sts w' v L:=by
 rcases h with h | ⟨B,off,c,rfl,hc,h⟩
 ·exact .inl h
 ·refine .inr ⟨B,off,c,rfl,hc,fun j s hs=>?_⟩
  obtain ⟨u,h1⟩:=h j s hs
  exact ⟨u,h1.kept hg⟩
theorem Sts.reads {w:World} {v:Value} {L:List St} (h:Sts w v L):∃ ab c,v=.slice ab L.length c∧∀ w',w.grownBy w' none→∀ i s,L[i]?=some s→∃ B off u,ab=some ⟨B,off,none⟩∧StAt w' B (off+i*3) s u∧L.length≤c:=by
 rcases h with ⟨rfl,ab,c,rfl⟩ | ⟨B,off,c,rfl,hc,h⟩
 ·exact ⟨ab,c,rfl,fun _ _ i s hs=>by simp at hs⟩
 ·refine ⟨_,c,rfl,fun w' hg i s hs=>?_⟩
  obtain ⟨u,h1⟩:=h i s hs
  exact ⟨B,off,u,rfl,h1.kept hg,hc⟩
theorem Args.form {w:World} {v:Value} {L:List Ag} (h:Args w v L):∃ ab c,v=.slice ab L.length c:=by
 obtain ⟨ab,c,e,_⟩:=h.reads
 exact ⟨ab,c,e⟩
def bigL (L:List St):Bool:=decide (40 < L.length) || L.any bigS
theorem anyS_take {f:St→Bool} {L:List St} {i:Nat} {a:St} (h:(L.take i).any f=false) (hi:L[i]?=some a) (hf:f a=false):(L.take (i+1)).any f=false:=by
 rw [List.take_add_one,hi,List.any_append,h]
 simp [hf]
theorem anyS_yes {f:St→Bool} {L:List St} {i:Nat} {a:St} (hi:L[i]?=some a) (hf:f a=true):L.any f=true:=by
 rw [List.any_eq_true]
 exact ⟨_,List.mem_of_getElem? hi,hf⟩
theorem large_any (w:World) (v:Value) (L:List St) (hv:Sts w v L) (hl:L.length≤1000000000000000) (hf:∀ s∈L,s.FitW) :
    Calls Tryz.prog 20 #[v] w fun e w'=>e=.returned (.bool (bigL L))∧w.grownBy w' none:=by
 obtain ⟨ab,c,rfl,HR⟩:=hv.reads
 have HR1:Hid (∀ w',w.grownBy w' none→∀ i s,L[i]?=some s→∃ B off u,ab=some ⟨B,off,none⟩∧StAt w' B (off+i*3) s u∧L.length≤c):=HR
 have HF:Hid (∀ s∈L,s.FitW):=hf
 have HO:Hid (bigL L=(decide (40 < L.length) || L.any bigS)):=rfl
 generalize bigL L=r at *
 obtain ⟨n,hn⟩:∃ n,L.length=n:=⟨_,rfl⟩
 have HLn:Unit→L.length=n:=fun _=>hn
 rw [hn] at HO hl ⊢
 simp only [hn] at HR1
 clear hn HR hv hf
 have hnI:(n:Int)≤1000000000000000:=by omega
 by_cases h40:40 < n
 ·have HO2:Hid (r=true):=by
    show _=_
    rw [HO.out,decide_eq_true h40]
    rfl
  have h40I:(41:Int)≤n:=by omega
  clear h40 HO hl
  go_enter Tryz.func20,Tryz.ntmps20
  go_wp2
  go_ret
  exact ⟨ret_bool HO2.out.symm,grow0 _⟩
 ·have HO2:Hid (r=L.any bigS):=by
    show _=_
    rw [HO.out,decide_eq_false h40]
    rfl
  have h40I:(n:Int)≤40:=by omega
  clear h40 HO hl
  go_enter Tryz.func20,Tryz.ntmps20
  go_wp2_with fail
  go_loopw [3] (fun s3 wr=>∃ i:Nat,i≤n∧s3=.int .i64 i∧(L.take i).any bigS=false∧w.grownBy wr none) (fun s _=>match s with | .int _ i=>n - i.toNat | _=>0)
  case atStart=>exact ⟨0,by omega,rfl,rfl,grow0 _⟩
  case round =>
   obtain ⟨i,hi,rfl,hp,hg⟩:=hrel
   have HP:Hid ((L.take i).any bigS=false):=hp
   have HG:Hid (w.grownBy wr none):=hg
   clear hp hg
   by_cases hlt:i < n
   ·have hlt':i < L.length:=by rw [HLn ()]; exact hlt
    obtain ⟨s,his⟩:∃ s,L[i]?=some s:=⟨_,List.getElem?_eq_getElem hlt'⟩
    obtain ⟨B,off,u,rfl,hat,hnc⟩:=HR1.out wr HG.out i _ his
    have hfit:=HF.out s (List.mem_of_getElem? his)
    have HT:Hid (bigS s=false→(L.take (i+1)).any bigS=false):=fun h=>anyS_take HP.out his h
    have HX:Hid (bigS s=true→r=true):=fun h=>by
     rw [HO2.out]
     exact anyS_yes his h
    obtain ⟨k0,k1,k2,hA⟩:=hat
    obtain ⟨ab2,c2,rfl⟩:=hA.form
    have HC:Hid (Calls Tryz.prog 9 #[.agg #[.string s.vb,.string s.nm,.slice ab2 s.ags.length c2]] wr fun e w'=>e=.returned (.bool (bigS s))∧wr.grownBy w' none):=vast_any wr _ s ⟨_,rfl,hA⟩ hfit
    have hltI:(i:Int) < n:=by omega
    clear hlt' his hA hfit
    generalize s.ags.length=m at *
    cases hb:bigS s
    ·rw [hb] at HC HT
     have HT2:=HT.out rfl
     clear hb HX
     have HT3:Hid ((L.take (i+1)).any bigS=false):=HT2
     clear HT2 HT
     go_wp2_with fail
     refine HC.out.mono ?_
     rintro e w1 ⟨rfl,hg⟩
     have HG1:Hid (w.grownBy w1 none):=grownBy_trans HG.out hg
     clear hg HC
     go_wp2_with fail
     go_roundw
     case rel=>exact ⟨i+1,by omega,num_eq (by omega),HT3.out,HG1.out⟩
     case measure=>simp; omega
    ·rw [hb] at HC
     have HX2:Hid (r=true):=HX.out hb
     clear hb HX HT
     go_wp2_with fail
     refine HC.out.mono ?_
     rintro e w1 ⟨rfl,hg⟩
     have HG1:Hid (w.grownBy w1 none):=grownBy_trans HG.out hg
     clear hg HC
     go_wp2_with fail
     go_ret
     exact ⟨ret_bool HX2.out.symm,HG1.out⟩
   ·have e:i=n:=by omega
    subst e
    have HE:Hid (r=false):=by
     show _=_
     rw [HO2.out]
     have h:=HP.out
     rw [← HLn (),List.take_length] at h
     exact h
    go_wp2
    go_ret
    exact ⟨ret_bool HE.out.symm,HG.out⟩
def ckP (L:List St):Nat:=(L.takeWhile okS).length
def ckE (L:List St):Int × Int:=if 4096 < L.length then (0,3) else if L.all okS then (L.length,0) else (ckP L,2)
theorem ckP_at {L:List St} {i:Nat} {s:St} (h:(L.take i).all okS=true) (hi:L[i]?=some s) (hs:okS s=false):ckP L=i∧L.all okS=false:=by
 have e:L=L.take i++s :: L.drop (i+1):=by
  have h1:L.drop i=s :: L.drop (i+1):=by
   rw [List.drop_eq_getElem_cons (List.getElem?_eq_some_iff.1 hi).1]
   congr 1
   exact (List.getElem?_eq_some_iff.1 hi).2
  rw [← h1,List.take_append_drop]
 have hl:(L.take i).length=i:=by
  rw [List.length_take]
  have:=(List.getElem?_eq_some_iff.1 hi).1
  omega
 constructor
 ·unfold ckP
  rw [e,List.takeWhile_append_of_pos (by simpa using h),List.takeWhile_cons,if_neg (by rw [hs]; simp),List.append_nil,hl]
 ·rw [List.all_eq_false]
  exact ⟨s,List.mem_of_getElem? hi,by rw [hs]; simp⟩
theorem allS_take {L:List St} {i:Nat} {s:St} (h:(L.take i).all okS=true) (hi:L[i]?=some s) (hs:okS s=true):(L.take (i+1)).all okS=true:=by
 rw [List.take_add_one,hi,List.all_append,h]
 simpa using hs
theorem checked_scene (w:World) (v:Value) (L:List St) (hv:Sts w v L) (hl:L.length≤1000000000000000) (hf:∀ s∈L,s.Fit) :
    Calls Tryz.prog 49 #[v] w fun e w'=>e=.returned (.tuple #[.int .i64 (ckE L).1,.int .i64 (ckE L).2])∧w.grownBy w' none:=by
 obtain ⟨ab,c,rfl,HR⟩:=hv.reads
 have HR1:Hid (∀ w',w.grownBy w' none→∀ i s,L[i]?=some s→∃ B off u,ab=some ⟨B,off,none⟩∧StAt w' B (off+i*3) s u∧L.length≤c):=HR
 have HF:Hid (∀ s∈L,s.Fit):=hf
 have HO:Hid (ckE L=if 4096 < L.length then (0,3) else if L.all okS then ((L.length:Int),0) else ((ckP L:Int),2)):=rfl
 generalize ckE L=r at *
 obtain ⟨n,hn⟩:∃ n,L.length=n:=⟨_,rfl⟩
 have HLn:Unit→L.length=n:=fun _=>hn
 rw [hn] at HO hl ⊢
 simp only [hn] at HR1
 clear hn HR hv hf
 obtain ⟨r1,r2⟩:=r
 have hnI:(n:Int)≤1000000000000000:=by omega
 by_cases h40:4096 < n
 ·have HO2:Hid (r1=0∧r2=3):=by
    show r1=0∧r2=3
    have:=HO.out
    rw [if_pos h40] at this
    simpa using this
  have h40I:(4097:Int)≤n:=by omega
  clear h40 HO hl
  go_enter Tryz.func49,Tryz.ntmps49
  go_wp2
  refine bodyPost_ret (results_tmp2 rfl _ _ _) rfl ?_
  refine ⟨?_,grow0 _⟩
  rw [HO2.out.1,HO2.out.2]
  rfl
 ·have HO2:Hid ((r1,r2)=if L.all okS then ((n:Int),0) else ((ckP L:Int),2)):=by
    have:=HO.out
    rw [if_neg h40] at this
    exact this
  have h40I:(n:Int)≤4096:=by omega
  clear h40 HO hl
  go_enter Tryz.func49,Tryz.ntmps49
  go_wp2_with fail
  go_loopw [12] (fun s3 wr=>∃ i:Nat,i≤n∧s3=.int .i64 i∧(L.take i).all okS=true∧w.grownBy wr none) (fun s _=>match s with | .int _ i=>n - i.toNat | _=>0)
  case atStart=>exact ⟨0,by omega,rfl,rfl,grow0 _⟩
  case round =>
   obtain ⟨i,hi,rfl,hp,hg⟩:=hrel
   have HP:Hid ((L.take i).all okS=true):=hp
   have HG:Hid (w.grownBy wr none):=hg
   clear hp hg
   by_cases hlt:i < n
   ·have hlt':i < L.length:=by rw [HLn ()]; exact hlt
    obtain ⟨s,his⟩:∃ s,L[i]?=some s:=⟨_,List.getElem?_eq_getElem hlt'⟩
    obtain ⟨B,off,u,rfl,hat,hnc⟩:=HR1.out wr HG.out i _ his
    have hfit:=HF.out s (List.mem_of_getElem? his)
    have HT:Hid (okS s=true→(L.take (i+1)).all okS=true):=fun h=>allS_take HP.out his h
    have HX:Hid (okS s=false→r1=i∧r2=2):=fun h=>by
     have h1:=HO2.out
     obtain ⟨h2,h3⟩:=ckP_at HP.out his h
     rw [h2,h3] at h1
     simpa using h1
    obtain ⟨k0,k1,k2,hA⟩:=hat
    obtain ⟨ab2,c2,rfl⟩:=hA.form
    have HC:Hid (∀ W,wr.grownBy W none→Calls Tryz.prog 15 #[.agg #[.string s.vb,.string s.nm,.slice ab2 s.ags.length c2]] W fun e w'=>e=.returned (.int .i64 (chkS s))∧W.grownBy w' none):=fun W hg=>sCheck_any W _ s ⟨_,rfl,hA.kept hg⟩ hfit
    have hltI:(i:Int) < n:=by omega
    clear hlt' his hA hfit
    generalize s.ags.length=m at *
    cases hb:okS s
    ·have hc2:chkS s=2:=by
       unfold chkS
       rw [hb]
       rfl
     rw [hc2] at HC
     have HX2:Hid (r1=i∧r2=2):=HX.out hb
     clear hb HX HT hc2
     go_wp2_with fail
     refine (HC.out _ (grow1 _ _)).mono ?_
     rintro e w1 ⟨rfl,hg⟩
     have HG1:Hid (w.grownBy w1 none):=grownBy_trans HG.out (grownBy_trans (grow1 _ _) hg)
     clear hg HC
     go_wp2_with fail
     refine bodyPost_ret (results_tmp2 rfl _ _ _) rfl ?_
     refine ⟨?_,HG1.out⟩
     rw [HX2.out.1,HX2.out.2]
     rfl
    ·have hc0:chkS s=0:=by
       unfold chkS
       rw [hb]
       rfl
     rw [hc0] at HC
     have HT3:Hid ((L.take (i+1)).all okS=true):=HT.out hb
     clear hb HX HT hc0
     go_wp2_with fail
     refine (HC.out _ (grow1 _ _)).mono ?_
     rintro e w1 ⟨rfl,hg⟩
     have HG1:Hid (w.grownBy w1 none):=grownBy_trans HG.out (grownBy_trans (grow1 _ _) hg)
     clear hg HC
     go_wp2_with fail
     go_roundw
     case rel=>exact ⟨i+1,by omega,num_eq (by omega),HT3.out,HG1.out⟩
     case measure=>simp; omega
   ·have e:i=n:=by omega
    subst e
    have HE:Hid (r1=i∧r2=0):=by
     show r1=i∧r2=0
     have h1:=HO2.out
     have h:=HP.out
     rw [← HLn (),List.take_length] at h
     rw [h] at h1
     simpa using h1
    go_wp2
    refine bodyPost_ret (results_tmp2 rfl _ _ _) rfl ?_
    refine ⟨?_,HG.out⟩
    rw [HE.out.1,HE.out.2]
    rfl
end Go.Proofs.YtdcadiaeaclpgaaGreatDoor
namespace Go.Proofs.YtdcadiaeaclpgaaGreatDoor
open Go Go.RowKit Go.Lib Go.Sort Go.Maps Go.WideMaps
set_option linter.unusedVariables false
set_option linter.unusedSimpArgs false
set_option maxHeartbeats 6400000
set_option maxRecDepth 1000000
abbrev NmF:=ByteArray→Option Nat
def litN (s:ByteArray):Lit:=.string s.data.toList
theorem litN_inj {s t:ByteArray} (h:litN s=litN t):s=t:=by
 unfold litN at h
 injection h with h
 rw [← bA_of s,h,bA_of]
theorem litN_ne {s t:ByteArray} (h:s≠t):litN s≠litN t:=fun e=>h (litN_inj e)
theorem keyN {s:ByteArray} (hs:s.size≤maxLen):keyOf Tryz.prog 9 (.string s)=some (litN s):=keyOf_string_mk Tryz.underlying9 hs
theorem Tryz.keyedS:Keyed Tryz.prog 9:=string_keyed Tryz.underlying9
def NmM (w:World) (b n:Nat) (F:NmF):Prop:=∃ D:DataW Unit,w.ownsMap Tryz.prog 9 (plainElem Tryz.prog 3) b n D∧IsMap D∧∀ s:ByteArray,Maps.has D (litN s)=(F s).isSome∧D.atKey (litN s) (.lit (.int .i64 0))=.lit (.int .i64 ((F s).getD 0))
theorem NmM.made (w:World):NmM (w.alloc (.map #[] 0)) w.heap.size 0 (fun _=>none) :=
 ⟨.map [],World.ownsMap_made _ _ _ _,⟨[],rfl⟩,fun s=>⟨rfl,rfl⟩⟩
theorem NmM.kept {w w':World} {b n:Nat} {F:NmF} {row:Option Nat} (h:NmM w b n F) (hg:w.grownBy w' row) (hne:row≠some b):NmM w' b n F:=by
 obtain ⟨D,h1,h2⟩:=h
 exact ⟨D,h1.kept hg (fun e=>hne e.symm),h2⟩
theorem NmM.mono {w:World} {b n n':Nat} {F:NmF} (h:NmM w b n F) (hn:n≤n'):NmM w b n' F:=by
 obtain ⟨D,h1,h2⟩:=h
 exact ⟨D,h1.mono hn,h2⟩
def putN (F:NmF) (s:ByteArray) (i:Nat):NmF:=fun t=>if t=s then some i else F t
theorem wpList_lookN {w:World} {ops:Array Oper} {rest:List Oper} {o:Oper} {a:Act} {Q:Exit→Act→World→Prop} (hg:o.guard=none) (m x:Operand) (hop:o.op=Op.lookup 99 m x true)
    (b n:Nat) (F:NmF) (hm:a.eval m=.map (some b)) (hown:NmM w b n F) (s:ByteArray) (hs:s.size≤maxLen) (hx:a.eval x=.string s)
    (hK:wpList Tryz.prog ops Q rest (a.put o.dst (.tuple #[.int .i64 ((F s).getD 0),.bool (F s).isSome])) w):wpList Tryz.prog ops Q (o :: rest) a w:=by
 obtain ⟨D,h1,_,h2⟩:=hown
 have hz:(zeroValue 3).run Tryz.prog w=.ok (.int .i64 0) w:=by first | exact Tryz.zeroValue3 w | exact Tryz.zeroValue3 | kernel_rfl
 refine wpList_lookup_own_ok_int w hg m x _ hop 9 3 .i64 Tryz.keyedS Tryz.underlying99 Tryz.underlying3 hz b n D hm h1 _ (litN s) hx (keyN hs) ?_
 intro c hat hwc
 rw [(h2 s).2] at hat
 injection hat with hat
 injection hat with _ hat
 rw [(h2 s).1,← hat]
 exact hK
theorem wpList_lookN1 {w:World} {ops:Array Oper} {rest:List Oper} {o:Oper} {a:Act} {Q:Exit→Act→World→Prop} (hg:o.guard=none) (m x:Operand) (hop:o.op=Op.lookup 99 m x false)
    (b n:Nat) (F:NmF) (hm:a.eval m=.map (some b)) (hown:NmM w b n F) (s:ByteArray) (hs:s.size≤maxLen) (hx:a.eval x=.string s)
    (hK:wpList Tryz.prog ops Q rest (a.put o.dst (.int .i64 ((F s).getD 0))) w):wpList Tryz.prog ops Q (o :: rest) a w:=by
 obtain ⟨D,h1,_,h2⟩:=hown
 have hz:(zeroValue 3).run Tryz.prog w=.ok (.int .i64 0) w:=by first | exact Tryz.zeroValue3 w | exact Tryz.zeroValue3 | kernel_rfl
 refine wpList_lookup_own_int w hg m x _ hop 9 3 .i64 Tryz.keyedS Tryz.underlying99 Tryz.underlying3 hz b n D hm h1 _ (litN s) hx (keyN hs) ?_
 intro c hat hwc
 rw [(h2 s).2] at hat
 injection hat with hat
 injection hat with _ hat
 rw [← hat]
 exact hK
theorem wpList_putN {w:World} {ops:Array Oper} {rest:List Oper} {o:Oper} {a:Act} {Q:Exit→Act→World→Prop} (hg:o.guard=none) (m x v:Operand) (hop:o.op=Op.mapUpdate 99 m x v)
    (b n:Nat) (F:NmF) (hm:a.eval m=.map (some b)) (hown:NmM w b n F) (hn:n≤1000000) (s:ByteArray) (hs:s.size≤maxLen) (hx:a.eval x=.string s) (i:Nat) (hi:i≤1000000) (hv:a.eval v=.int .i64 i)
    (hK:∀ w',NmM w' b (n+1) (putN F s i)→w.grownBy w' (some b)→wpList Tryz.prog ops Q rest (a.put o.dst undef) w'):wpList Tryz.prog ops Q (o :: rest) a w:=by
 obtain ⟨D,h1,hD,h2⟩:=hown
 have hw:(Lit.int .i64 (i:Int)).wf=true:=by
  simp only [Lit.wf,Bool.and_eq_true,decide_eq_true_eq]
  constructor
  ·show (-9223372036854775808:Int)≤i
   omega
  ·show (i:Int)≤9223372036854775807
   omega
 refine wpList_mapUpdate_own w hg m x v _ hop 9 3 Tryz.keyedS Tryz.underlying99 _ b n D hm h1 (by unfold maxLen; omega) _ _ (litN s) hx hv (keyN hs) (.lit (.int .i64 i)) [] (plainElem_int Tryz.underlying3 hw) ?_
 intro w' h3 h4
 refine hK w' ⟨_,h3,?_,fun t=>?_⟩ h4
 ·obtain ⟨es,rfl⟩:=hD
  exact ⟨_,rfl⟩
 ·unfold putN
  by_cases ht:t=s
  ·subst ht
   rw [if_pos rfl]
   exact ⟨has_put_same hD (by simp [litN,WideAt.IsKeyLit]) _,atKey_put_same hD (by simp [litN,WideAt.IsKeyLit]) _ _⟩
  ·rw [if_neg ht,has_put_other (litN_ne ht),atKey_put_other (litN_ne ht)]
   exact h2 t
end Go.Proofs.YtdcadiaeaclpgaaGreatDoor
namespace Go.Proofs.YtdcadiaeaclpgaaGreatDoor
open Go Go.RowKit Go.Lib Go.Sort
set_option linter.unusedVariables false
set_option linter.unusedSimpArgs false
set_option maxHeartbeats 6400000
set_option maxRecDepth 1000000
def okA (F:NmF) (a:Ag):Bool:=decide (a.k≠1) || (F a.nm).isSome
def stepS (F:NmF) (s:St) (i:Nat):Option NmF:=if s.ags.all (okA F) then (if s.nm.size=0 then some F else if (F s.nm).isSome then none else some (putN F s.nm i)) else none
def stdL:List St→Nat→NmF→Nat ⊕ NmF
 |[],_,F=>.inr F
 |s :: l,i,F=>match stepS F s i with
  |none=>.inl i
  |some F'=>stdL l (i+1) F'
def noN:NmF:=fun _=>none
def SdQ (w w':World) (L:List St) (e:Ending):Prop :=
 if (ckE L).2≠0 then e=.returned (.tuple #[.map none,.int .i64 (ckE L).1,.int .i64 (ckE L).2])
 else match stdL L 0 noN with
  |.inl i=>e=.returned (.tuple #[.map none,.int .i64 (i:Int),.int .i64 401])
  |.inr F=>∃ b,e=.returned (.tuple #[.map (some b),.int .i64 (L.length:Int),.int .i64 0])∧w.heap.size≤b∧NmM w' b L.length F
theorem allF_take {f:Ag→Bool} {L:List Ag} {i:Nat} {a:Ag} (h:(L.take i).all f=true) (hi:L[i]?=some a) (hf:f a=true):(L.take (i+1)).all f=true:=allA_take h hi hf
theorem standing_any (w:World) (v:Value) (L:List St) (hv:Sts w v L) (hl:L.length≤1000000000000000) (hf:∀ s∈L,s.Fit) :
    Calls Tryz.prog 52 #[v] w fun e w'=>SdQ w w' L e∧w.grownBy w' none:=by
 have HCk:=checked_scene w v L hv hl hf
 obtain ⟨ab,c,rfl,HR⟩:=hv.reads
 have HR1:Hid (∀ w',w.grownBy w' none→∀ i s,L[i]?=some s→∃ B off u,ab=some ⟨B,off,none⟩∧StAt w' B (off+i*3) s u∧L.length≤c):=HR
 have HF:Hid (∀ s∈L,s.Fit):=hf
 have hmm:=@run_makeMap Tryz.prog
 by_cases hck:(ckE L).2=0
 case neg =>
  have HN:Hid (∀ w',SdQ w w' L (.returned (.tuple #[.map none,.int .i64 (ckE L).1,.int .i64 (ckE L).2]))):=fun w'=>by
   show SdQ _ _ _ _
   unfold SdQ
   rw [if_pos hck]
  generalize ckE L=r at *
  obtain ⟨r1,r2⟩:=r
  simp only at hck HCk HN
  have hr2:(r2 != 0)=true:=by simpa using hck
  generalize SdQ w=Q at *
  clear hck HR hv hf HR1 HF hl
  generalize L.length=n at *
  go_enter Tryz.func52,Tryz.ntmps52
  go_wp2_with fail
  refine HCk.mono ?_
  rintro e w1 ⟨rfl,hg⟩
  have HG:Hid (w.grownBy w1 none):=hg
  clear hg HCk
  go_wp2_with fail
  refine bodyPost_ret (results_tmp3 rfl _ _ _) rfl ?_
  exact ⟨HN.out _,HG.out⟩
 case pos =>
  have hn4:L.length≤4096∧(ckE L).1=L.length:=by
   unfold ckE at hck ⊢
   split at hck
   ·cases hck
   ·rename_i h
    split at hck
    ·rename_i h2
     rw [if_neg h,if_pos h2]
     exact ⟨by omega,rfl⟩
    ·cases hck
  obtain ⟨R,hR⟩:∃ R,stdL L 0 noN=R:=⟨_,rfl⟩
  have HQ1:Hid (∀ w' i,R=.inl i→SdQ w w' L (.returned (.tuple #[.map none,.int .i64 (i:Int),.int .i64 401]))):=fun w' i h=>by
   show SdQ _ _ _ _
   unfold SdQ
   rw [if_neg (by simpa using hck),hR,h]
  have HQ2:Hid (∀ w' F b,R=.inr F→w.heap.size≤b→NmM w' b L.length F→SdQ w w' L (.returned (.tuple #[.map (some b),.int .i64 (L.length:Int),.int .i64 0]))):=fun w' F b h h1 h2=>by
   show SdQ _ _ _ _
   unfold SdQ
   rw [if_neg (by simpa using hck),hR,h]
   exact ⟨b,rfl,h1,h2⟩
  have HRz:Hid (stdL (L.drop 0) 0 noN=R):=hR
  rw [hck,hn4.2] at HCk
  have hn4':=hn4.1
  generalize SdQ w=Q at *
  obtain ⟨n,hn⟩:∃ n,L.length=n:=⟨_,rfl⟩
  have HLn:Unit→L.length=n:=fun _=>hn
  rw [hn] at HCk hn4' ⊢
  rw [hn] at HQ2
  simp only [hn] at HR1
  have hnI:(n:Int)≤4096:=by omega
  clear hn HR hv hf hl hck hn4 hR
  go_enter Tryz.func52,Tryz.ntmps52
  go_wp2_with fail
  refine HCk.mono ?_
  rintro e w1 ⟨rfl,hg⟩
  have HG1:Hid (w.grownBy (w1.alloc (.map #[] 0)) none):=grownBy_trans hg (grow1 _ _)
  have HM1:Hid (NmM (w1.alloc (.map #[] 0)) w1.heap.size 0 noN):=NmM.made w1
  have HB:Hid (w.heap.size≤w1.heap.size):=hg.size
  clear hg HCk
  go_wp2_with fail
  change Code.wp _ _ _ _ (w1.alloc (.map #[] 0))
  generalize w1.alloc (.map #[] 0)=w2 at *
  generalize w1.heap.size=b at *
  go_loopw [28] (fun s28 wr=>∃ (i:Nat) (F:NmF),i≤n∧s28=.int .i64 i∧stdL (L.drop i) i F=R∧NmM wr b i F∧w.grownBy wr none) (fun s _=>match s with | .int _ i=>n - i.toNat | _=>0)
  case atStart=>exact ⟨0,noN,by omega,rfl,HRz.out,HM1.out,HG1.out⟩
  case round =>
   obtain ⟨i,F,hi,rfl,hr,hM,hg⟩:=hrel
   have HS:Hid (stdL (L.drop i) i F=R):=hr
   have HM:Hid (NmM wr b i F):=hM
   have HG:Hid (w.grownBy wr none):=hg
   have hiI:(i:Int)≤4096:=by omega
   have hi4:i≤4096:=by omega
   clear hr hM hg
   by_cases hlt:i < n
   ·have hlt':i < L.length:=by rw [HLn ()]; exact hlt
    obtain ⟨s,his⟩:∃ s,L[i]?=some s:=⟨_,List.getElem?_eq_getElem hlt'⟩
    obtain ⟨B,off,u,rfl,hat,hnc⟩:=HR1.out wr HG.out i _ his
    have hfit:=HF.out s (List.mem_of_getElem? his)
    have HD:Hid (R=match stepS F s i with | none=>.inl i | some F'=>stdL (L.drop (i+1)) (i+1) F'):=by
     show R=_
     have h1:L.drop i=s :: L.drop (i+1):=by
      rw [List.drop_eq_getElem_cons hlt']
      congr 1
      exact (List.getElem?_eq_some_iff.1 his).2
     rw [← HS.out,h1]
     rfl
    obtain ⟨k0,k1,k2,hA⟩:=hat
    obtain ⟨ab2,c2,rfl,HRa⟩:=hA.reads
    obtain ⟨vb,nm,ags⟩:=s
    simp only at k0 k1 k2 HRa hfit
    have hnm:nm.size≤maxLen:=hfit.nm
    have HFa:Hid (∀ a∈ags,a.nm.size≤maxLen):=fun a ha=>(hfit.ags a ha).nm
    have HRA:Hid (∀ w',wr.grownBy w' none→∀ j a,ags[j]?=some a→∃ B off wv,ab2=some ⟨B,off,none⟩∧AgAt w' B (off+j*12) a wv∧Ints w' wv a.wd∧ags.length≤c2):=HRa
    obtain ⟨m,hm⟩:∃ m,ags.length=m:=⟨_,rfl⟩
    have HLm:Unit→ags.length=m:=fun _=>hm
    have hmI:(m:Int)≤1000000000000:=by
     have:=hfit.len
     simp only at this
     omega
    simp only [hm] at HRA k2
    have hltI:(i:Int) < n:=by omega
    have HY0:Hid (DB (wr.alloc (sObj vb nm (.slice ab2 m c2))) wr.heap.size vb nm (.slice ab2 m c2)):=heap_alloc_new _ _
    have HGy:Hid (wr.grownBy (wr.alloc (sObj vb nm (.slice ab2 m c2))) none):=grow1 _ _
    clear hlt' his hA hfit HRa hm
    go_wp2_with fail
    change Code.wp _ _ _ _ (wr.alloc (sObj vb nm (.slice ab2 m c2)))
    generalize wr.alloc (sObj vb nm (.slice ab2 m c2))=wy at *
    generalize wr.heap.size=By at *
    clear k0 k1 k2
    obtain ⟨w5,hw5⟩:∃ w5,w5=wr:=⟨_,rfl⟩
    subst hw5
    go_loopw [36] (fun s36 wr=>∃ j:Nat,j≤m∧s36=.int .i64 j∧(ags.take j).all (okA F)=true∧wy.grownBy wr none) (fun s _=>match s with | .int _ j=>m - j.toNat | _=>0)
    case atStart=>exact ⟨0,by omega,rfl,rfl,grow0 _⟩
    case round =>
     obtain ⟨j,hj,rfl,hp,hg2⟩:=hrel
     have HP:Hid ((ags.take j).all (okA F)=true):=hp
     have HG2:Hid (wy.grownBy wr none):=hg2
     clear hp hg2
     by_cases hltj:j < m
     ·have hltj':j < ags.length:=by rw [HLm ()]; exact hltj
      obtain ⟨a,hja⟩:∃ a,ags[j]?=some a:=⟨_,List.getElem?_eq_getElem hltj'⟩
      obtain ⟨B2,off2,wv,rfl,hat,hin,hnc2⟩:=HRA.out wr (grownBy_trans HGy.out HG2.out) j _ hja
      have hanm:a.nm.size≤maxLen:=HFa.out a (List.mem_of_getElem? hja)
      have HT:Hid (okA F a=true→(ags.take (j+1)).all (okA F)=true):=fun h=>allF_take HP.out hja h
      have HX:Hid (okA F a=false→R=.inl i):=fun h=>by
       have h1:=HD.out
       unfold stepS at h1
       rw [if_neg (by rw [allA_not hja h]; simp)] at h1
       exact h1
      have HOk:Hid (okA F a=(decide (a.k≠1) || (F a.nm).isSome)):=rfl
      obtain ⟨l0,l1,l2,l3,l4,l5,l6,l7,l8,l9,l10,l11⟩:=hat
      obtain ⟨ab3,c3,rfl⟩:=hin.form
      generalize a.wd.length=m3 at *
      have hltjI:(j:Int) < m:=by omega
      have hjI:(j:Int)≤1000000000000:=by omega
      have HMx:Hid (NmM (wr.alloc (.cells (agc a (.slice ab3 m3 c3)) 45)) b i F):=HM.out.kept (grownBy_trans HGy.out (grownBy_trans HG2.out (grow1 _ _))) (by simp)
      have HGx:Hid (w.grownBy (wr.alloc (.cells (agc a (.slice ab3 m3 c3)) 45)) none):=grownBy_trans HG.out (grownBy_trans HGy.out (grownBy_trans HG2.out (grow1 _ _)))
      have HGyx:Hid (wy.grownBy (wr.alloc (.cells (agc a (.slice ab3 m3 c3)) 45)) none):=grownBy_trans HG2.out (grow1 _ _)
      clear hltj' hja hin
      obtain ⟨k,anm,z,wd,ct⟩:=a
      simp only at l0 l1 l2 l3 l4 l5 l6 l7 l8 l9 l10 l11 hanm
      by_cases hk:k=1
      ·subst hk
       cases hst:(F anm).isSome
       ·have HX2:Hid (R=.inl i):=HX.out (by rw [HOk.out]; simp only; rw [hst]; rfl)
        clear HT HX HOk
        go_wp2_with (at_lookup; refine wpList_lookN rfl _ _ rfl b i F rfl HMx.out anm hanm rfl ?_; rw [hst])
        refine bodyPost_ret (results_tmp3 rfl _ _ _) rfl ?_
        exact ⟨HQ1.out _ _ HX2.out,HGx.out⟩
       ·have HT2:Hid ((ags.take (j+1)).all (okA F)=true):=HT.out (by rw [HOk.out]; simp only; rw [hst]; rfl)
        clear HT HX HOk
        go_wp2_with (at_lookup; refine wpList_lookN rfl _ _ rfl b i F rfl HMx.out anm hanm rfl ?_; rw [hst])
        exact ⟨⟨j+1,by omega,num_eq (by omega),HT2.out,HGyx.out⟩,by simp; omega⟩
      ·have hkb:(k == 1)=false:=by simpa using hk
       have HT2:Hid ((ags.take (j+1)).all (okA F)=true):=HT.out (by rw [HOk.out]; simp [hk])
       clear HT HX HOk hk
       go_wp2_with (at_lookup; refine wpList_lookN rfl _ _ rfl b i F rfl HMx.out anm hanm rfl ?_)
       exact ⟨⟨j+1,by omega,num_eq (by omega),HT2.out,HGyx.out⟩,by simp; omega⟩
     ·have e:j=m:=by omega
      subst e
      have HAll:Hid (ags.all (okA F)=true):=by
       show _=_
       have h:=HP.out
       rw [← HLm (),List.take_length] at h
       exact h
      have HMw:Hid (NmM wr b i F):=HM.out.kept (grownBy_trans HGy.out HG2.out) (by simp)
      have HGw:Hid (w.grownBy wr none):=grownBy_trans HG.out (grownBy_trans HGy.out HG2.out)
      have hDw:DB wr By vb nm (.slice ab2 j c2):=HY0.out.kept HG2.out (by simp)
      have d1:=hDw.c1
      clear hDw
      by_cases h0:nm.size=0
      ·have HD2:Hid (stdL (L.drop (i+1)) (i+1) F=R):=by
         have h1:=HD.out
         unfold stepS at h1
         rw [if_pos HAll.out,if_pos h0] at h1
         exact h1.symm
       obtain rfl:=empty_of_size h0
       clear h0
       go_wp2_with fail
       go_roundw
       case rel=>exact ⟨i+1,F,by omega,num_eq (by omega),HD2.out,HMw.out.mono (by omega),HGw.out⟩
       case measure=>simp; omega
      ·have he:=isEmpty_of h0
       cases hst:(F nm).isSome
       ·have HD2:Hid (stdL (L.drop (i+1)) (i+1) (putN F nm i)=R):=by
          have h1:=HD.out
          unfold stepS at h1
          rw [if_pos HAll.out,if_neg h0,hst] at h1
          exact h1.symm
        clear h0
        go_wp2_with (first
         |(at_lookup; refine wpList_lookN rfl _ _ rfl b i F rfl HMw.out nm hnm rfl ?_; rw [hst])
         |(at_mapUpdate; refine wpList_putN rfl _ _ _ rfl b i F rfl HMw.out (by omega) nm hnm rfl i (by omega) rfl ?_; intro w7 hM7 hg7))
        have HM7:Hid (NmM w7 b (i+1) (putN F nm i)):=hM7
        have HG7:Hid (w.grownBy w7 none):=grownBy_new HGw.out HB.out hg7
        clear hM7 hg7
        go_wp2_with fail
        go_roundw
        case rel=>exact ⟨i+1,_,by omega,num_eq (by omega),HD2.out,HM7.out,HG7.out⟩
        case measure=>simp; omega
       ·have HX2:Hid (R=.inl i):=by
          have h1:=HD.out
          unfold stepS at h1
          rw [if_pos HAll.out,if_neg h0,hst] at h1
          exact h1
        clear h0
        go_wp2_with (at_lookup; refine wpList_lookN rfl _ _ rfl b i F rfl HMw.out nm hnm rfl ?_; rw [hst])
        refine bodyPost_ret (results_tmp3 rfl _ _ _) rfl ?_
        exact ⟨HQ1.out _ _ HX2.out,HGw.out⟩
   ·have e:i=n:=by omega
    subst e
    have HE:Hid (R=.inr F):=by
     show R=_
     rw [← HS.out,← HLn (),List.drop_length]
     rfl
    go_wp2_with fail
    refine bodyPost_ret (results_tmp3 rfl _ _ _) rfl ?_
    exact ⟨HQ2.out _ _ _ HE.out HB.out HM.out,HG.out⟩
def ordE (L:List St):Int × Int:=if (ckE L).2≠0 then ckE L else match stdL L 0 noN with
 |.inl i=>((i:Int),401)
 |.inr _=>((L.length:Int),0)
theorem SdQ.out {w w':World} {L:List St} {e:Ending} (h:SdQ w w' L e):∃ m,e=.returned (.tuple #[.map m,.int .i64 (ordE L).1,.int .i64 (ordE L).2])∧((ordE L).2=0→∃ F b,stdL L 0 noN=.inr F∧m=some b∧w.heap.size≤b∧NmM w' b L.length F):=by
 unfold SdQ at h
 unfold ordE
 by_cases hc:(ckE L).2≠0
 ·rw [if_pos hc] at h ⊢
  exact ⟨none,h,fun h2=>absurd h2 hc⟩
 ·rw [if_neg hc] at h ⊢
  cases hs:stdL L 0 noN with
  |inl i =>
   rw [hs] at h
   exact ⟨none,h,fun h2=>by cases h2⟩
  |inr F =>
   rw [hs] at h
   obtain ⟨b,h1,h2,h3⟩:=h
   exact ⟨some b,h1,fun _=>⟨F,b,rfl,rfl,h2,h3⟩⟩
theorem order_scene (w:World) (v:Value) (L:List St) (hv:Sts w v L) (hl:L.length≤1000000000000000) (hf:∀ s∈L,s.Fit) :
    Calls Tryz.prog 23 #[v] w fun e w'=>e=.returned (.tuple #[.int .i64 (ordE L).1,.int .i64 (ordE L).2])∧w.grownBy w' none:=by
 have HS:=standing_any w v L hv hl hf
 have HO:Hid (∀ e w',SdQ w w' L e→∃ m,e=.returned (.tuple #[.map m,.int .i64 (ordE L).1,.int .i64 (ordE L).2])):=fun e w' h=>by
  obtain ⟨m,h1,_⟩:=h.out
  exact ⟨m,h1⟩
 clear hv hl hf
 generalize SdQ w=Q at *
 generalize ordE L=r at *
 go_enter Tryz.func23,Tryz.ntmps23
 go_wp2_with fail
 refine HS.mono ?_
 rintro e w1 ⟨hq,hg⟩
 obtain ⟨m,rfl⟩:=HO.out _ _ hq
 have HG:Hid (w.grownBy w1 none):=hg
 clear hq hg HS
 go_wp2_with fail
 refine bodyPost_ret (results_tmp2 rfl _ _ _) rfl ?_
 exact ⟨rfl,HG.out⟩
/-! ### Needs, pure -/
def markA (F:NmF):List Ag→List Bool→List Bool
 |[],V=>V
 |a :: l,V=>markA F l (if a.k=1 then V.set ((F a.nm).getD 0) true else V)
def downN (F:NmF) (L:List St):Nat→List Bool→List Bool
 |0,V=>V
 |i+1,V=>downN F L i (if V[i]?.getD false then markA F ((L[i]?.map (·.ags)).getD []) V else V)
def idxT:Nat→List Bool→List Int
 |_,[]=>[]
 |i,b :: l=>if b then (i:Int) :: idxT (i+1) l else idxT (i+1) l
def needV (F:NmF) (L:List St) (last:Nat):List Bool:=downN F L (last+1) ((List.replicate (last+1) false).set last true)
theorem markA_len (F:NmF):∀ (l:List Ag) (V:List Bool),(markA F l V).length=V.length
 |[],_=>rfl
 |a :: l,V=>by
  unfold markA
  rw [markA_len F l]
  split <;> simp
theorem downN_len (F:NmF) (L:List St):∀ (i:Nat) (V:List Bool),(downN F L i V).length=V.length
 |0,_=>rfl
 |i+1,V=>by
  unfold downN
  rw [downN_len F L i]
  split
  ·rw [markA_len]
  ·rfl
end Go.Proofs.YtdcadiaeaclpgaaGreatDoor
