/-
  A scene's text; the document's Text.
  The program's Text.
-/
import Derived.Test.YtdcadiaeaclpgaaGreatDoorBunScs
import Derived.Test.YtdcadiaeaclpgaaGreatDoorBunSya
import Derived.Test.YtdcadiaeaclpgaaGreatDoorBunWka
namespace Go.Proofs.YtdcadiaeaclpgaaGreatDoor
open Go Go.RowKit Go.Lib Go.Sort
set_option linter.unusedVariables false
set_option linter.unusedSimpArgs false
set_option maxHeartbeats 6400000
set_option maxRecDepth 1000000
noncomputable def txB (L:List St):ByteArray:=L.foldl (fun t s=>t++lnB s++⟨#[10]⟩) ⟨#[]⟩
theorem txB_step {L:List St} {i:Nat} {s:St} (h:L[i]?=some s):txB (L.take (i+1))=txB (L.take i)++lnB s++⟨#[10]⟩:=by
 unfold txB
 rw [List.take_add_one,h,List.foldl_append]
 rfl
theorem lnB_size {s:St} (hs:s.Few):(lnB s).size≤70000000:=by
 have h:=lnB_len hs
 have e:(lnB s).size=(Lib.join ((lineL s).map (·.data.toList)) [32]).length:=by
  show (List.toArray _).size=_
  rw [List.size_toArray]
 omega
theorem txB_size {L:List St} (h:∀ s∈L,(lnB s).size≤70000000):∀ i,i≤L.length→(txB (L.take i)).size≤70000001*i:=by
 intro i
 induction i with
 |zero=>intro _; exact Nat.le_refl _
 |succ i ih =>
  intro hi
  obtain ⟨s,hs⟩:∃ s,L[i]?=some s:=⟨_,List.getElem?_eq_getElem (by omega)⟩
  rw [txB_step hs,ByteArray.size_append,ByteArray.size_append]
  have h1:=ih (by omega)
  have h2:=h s (List.mem_of_getElem? hs)
  have h3:(⟨#[10]⟩:ByteArray).size=1:=rfl
  omega
noncomputable def txE (L:List St):ByteArray × Int × Int:=if L.all okS then (txB L,(L.length:Int),0) else (⟨#[]⟩,(ckP L:Int),2)
theorem rtext_any (w:World) (v:Value) (L:List St) (hv:Sts w v L) (hl:L.length≤40) (hf:∀ s∈L,s.Fit) (hw:∀ s∈L,∀ a∈s.ags,a.Few) (ht:Tab w) :
    Calls Tryz.prog 22 #[v] w fun e w'=>e=.returned (.tuple #[.string (txE L).1,.int .i64 (txE L).2.1,.int .i64 (txE L).2.2])∧w.grownBy w' none:=by
 obtain ⟨ab,c,rfl,HR⟩:=hv.reads
 have HR1:Hid (∀ w',w.grownBy w' none→∀ i s,L[i]?=some s→∃ B off u,ab=some ⟨B,off,none⟩∧StAt w' B (off+i*3) s u∧L.length≤c):=HR
 have HF:Hid (∀ s∈L,s.Fit):=hf
 have HT:Hid (Tab w):=ht
 have HLn0:Hid (∀ W s u,w.grownBy W none→s∈L→Args W u s.ags→Calls Tryz.prog 13 #[.agg #[.string s.vb,.string s.nm,u]] W fun e w'=>e=.returned (.tuple #[.string (lineB s),.int .i64 (chkS s)])∧W.grownBy w' none):=fun W s u hg hs hu=>rLine_any W _ s ⟨_,rfl,hu⟩ (hf s hs) (hw s hs) (ht.kept hg)
 have HLz:Hid (∀ s∈L,okS s=true→(lnB s).size≤70000000):=fun s hs h=>lnB_size ⟨h,hw s hs⟩
 have HTz:Hid (∀ i,i≤L.length→(L.take i).all okS=true→(txB (L.take i)).size≤2900000000):=fun i hi h=>by
  have h1:=txB_size (L:=L.take i) (fun s hs=>lnB_size ⟨List.all_eq_true.1 h s hs,hw s (List.mem_of_mem_take hs)⟩) i (by rw [List.length_take]; omega)
  rw [List.take_take,Nat.min_self] at h1
  omega
 have HE:Hid (txE L=if L.all okS then (txB L,(L.length:Int),0) else (⟨#[]⟩,(ckP L:Int),2)):=rfl
 generalize txE L=r at *
 obtain ⟨n,hn⟩:∃ n,L.length=n:=⟨_,rfl⟩
 have HLn:Unit→L.length=n:=fun _=>hn
 rw [hn] at hl HE
 simp only [hn] at HR1 HTz ⊢
 clear hn HR hv hf hw ht
 obtain ⟨r1,r2,r3⟩:=r
 have hnI:(n:Int)≤40:=by omega
 go_enter Tryz.func22,Tryz.ntmps22
 go_wp2_with fail
 go_loopw [5,6] (fun s5 s6 wr=>∃ (i:Nat) (t:ByteArray),i≤n∧s6=.int .i64 i∧s5=.string t∧t=txB (L.take i)∧(L.take i).all okS=true∧w.grownBy wr none) (fun _ s _=>match s with | .int _ i=>n - i.toNat | _=>0)
 case atStart=>exact ⟨0,⟨#[]⟩,by omega,rfl,rfl,rfl,rfl,grow0 _⟩
 case round =>
  obtain ⟨i,t,hi,rfl,rfl,ht,hp,hg⟩:=hrel
  have HTx:Hid (t=txB (L.take i)):=ht
  have HP:Hid ((L.take i).all okS=true):=hp
  have HG:Hid (w.grownBy wr none):=hg
  have htz:t.size≤2900000000:=by
   rw [ht]
   exact HTz.out i hi hp
  clear ht hp hg
  by_cases hlt:i < n
  ·have hlt':i < L.length:=by rw [HLn ()]; exact hlt
   obtain ⟨s,his⟩:∃ s,L[i]?=some s:=⟨_,List.getElem?_eq_getElem hlt'⟩
   obtain ⟨B,off,u,rfl,hat,hnc⟩:=HR1.out wr HG.out i _ his
   have hmem:=List.mem_of_getElem? his
   have HT1:Hid (okS s=true→(L.take (i+1)).all okS=true):=fun h=>allS_take HP.out his h
   have HX:Hid (okS s=false→r1=⟨#[]⟩∧r2=i∧r3=2):=fun h=>by
    have h1:=HE.out
    obtain ⟨h2,h3⟩:=ckP_at HP.out his h
    rw [h2,h3] at h1
    simpa using h1
   have HN:Hid (t++lnB s++⟨#[10]⟩=txB (L.take (i+1))):=by
    show _=_
    rw [txB_step his,← HTx.out]
   have HZ:Hid (okS s=true→(lnB s).size≤70000000):=HLz.out s hmem
   obtain ⟨k0,k1,k2,hA⟩:=hat
   obtain ⟨ab2,c2,rfl⟩:=hA.form
   have HC:Hid (∀ W,wr.grownBy W none→Calls Tryz.prog 13 #[.agg #[.string s.vb,.string s.nm,.slice ab2 s.ags.length c2]] W fun e w'=>e=.returned (.tuple #[.string (lineB s),.int .i64 (chkS s)])∧W.grownBy w' none):=fun W hg=>HLn0.out W s _ (grownBy_trans HG.out hg) hmem (hA.kept hg)
   have hltI:(i:Int) < n:=by omega
   clear hlt' his hA hmem
   generalize s.ags.length=m at *
   cases hb:okS s
   ·have hc2:chkS s=2:=by
      unfold chkS
      rw [hb]
      rfl
    have hl2:lineB s=⟨#[]⟩:=by
     unfold lineB
     rw [hb]
     rfl
    rw [hc2,hl2] at HC
    have HX2:Hid (r1=⟨#[]⟩∧r2=i∧r3=2):=HX.out hb
    clear hb HX HT1 hc2 hl2 HZ HN
    go_wp2_with fail
    refine (HC.out _ (grow0 _)).mono ?_
    rintro e w1 ⟨rfl,hg⟩
    have HG1:Hid (w.grownBy w1 none):=grownBy_trans HG.out hg
    clear hg HC
    go_wp2_with fail
    refine bodyPost_ret (results_tmp3 rfl _ _ _) rfl ?_
    refine ⟨?_,HG1.out⟩
    rw [HX2.out.1,HX2.out.2.1,HX2.out.2.2]
    rfl
   ·have hc0:chkS s=0:=by
      unfold chkS
      rw [hb]
      rfl
    have hl2:lineB s=lnB s:=by
     unfold lineB
     rw [if_pos hb]
    rw [hc0,hl2] at HC
    have HT2:Hid ((L.take (i+1)).all okS=true):=HT1.out hb
    have hz:=HZ.out hb
    clear hb HX HT1 hc0 hl2 HZ
    generalize lnB s=x at *
    have hz1:¬ 9223372036854775807 < t.size+x.size:=by omega
    have hz2:¬ 9223372036854775807 < t.size+x.size+1:=by omega
    clear hz htz
    go_wp2_with fail
    refine (HC.out _ (grow0 _)).mono ?_
    rintro e w1 ⟨rfl,hg⟩
    have HG1:Hid (w.grownBy w1 none):=grownBy_trans HG.out hg
    clear hg HC
    go_wp2_with fail
    go_roundw
    case rel=>exact ⟨i+1,_,by omega,num_eq (by omega),rfl,HN.out,HT2.out,HG1.out⟩
    case measure=>simp <;> omega
  ·obtain rfl:i=n:=by omega
   have HX:Hid (r1=t∧r2=i∧r3=0):=by
    show _∧_∧_
    have h1:=HE.out
    have h2:=HP.out
    have h3:=HTx.out
    rw [← HLn (),List.take_length] at h2 h3
    rw [if_pos h2,← h3] at h1
    simpa using h1
   have hlI:decide ((i:Int) < (i:Int))=false:=decide_eq_false (by omega)
   go_wp2_with fail
   refine bodyPost_ret (results_tmp3 rfl _ _ _) rfl ?_
   refine ⟨?_,HG.out⟩
   rw [HX.out.1,HX.out.2.1,HX.out.2.2]
   rfl
theorem builder_stays {B b:Nat} {bs:List Value} {w w':World} (h:Lib.IsBuilder 93 5 B b bs w) (hg:w.grownBy w' none):Lib.IsBuilder 93 5 B b bs w':=by
 rcases h with h | h
 ·exact .inl (builder_kept h hg)
 ·exact .inr (builder_kept h hg)
theorem text_any (w:World) (v:Value) (L:List St) (hv:Sts w v L) (hl:L.length≤40) (hf:∀ s∈L,s.Fit) (hw:∀ s∈L,∀ a∈s.ags,a.Few) (ht:Tab w) :
    Calls Tryz.prog 21 #[v] w fun e w'=>e=.returned (.tuple #[.string (txE L).1,.int .i64 (txE L).2.1,.int .i64 (txE L).2.2])∧w.grownBy w' none:=by
 have HCk:Hid (Calls Tryz.prog 49 #[v] w fun e w'=>e=.returned (.tuple #[.int .i64 (ckE L).1,.int .i64 (ckE L).2])∧w.grownBy w' none):=checked_scene w v L hv (by omega) hf
 obtain ⟨ab,c,rfl,HR⟩:=hv.reads
 have HR1:Hid (∀ w',w.grownBy w' none→∀ i s,L[i]?=some s→∃ B off u,ab=some ⟨B,off,none⟩∧StAt w' B (off+i*3) s u∧L.length≤c):=HR
 have HT:Hid (Tab w):=ht
 have hck:ckE L=if L.all okS then ((L.length:Int),0) else ((ckP L:Int),2):=by
  unfold ckE
  rw [if_neg (by omega)]
 cases hok:L.all okS
 ·have htx:txE L=(⟨#[]⟩,(ckP L:Int),2):=by
    unfold txE
    rw [hok]
    rfl
  rw [hok] at hck
  rw [hck] at HCk
  rw [htx]
  simp only [Bool.false_eq_true,if_false] at HCk ⊢
  clear htx hck hok HR hv hf hw ht HR1
  generalize ckP L=p at *
  generalize L.length=n at *
  go_enter Tryz.func21,Tryz.ntmps21
  go_wp2_with fail
  refine HCk.out.mono ?_
  rintro e w1 ⟨rfl,hg⟩
  have HG:Hid (w.grownBy w1 none):=hg
  clear hg HCk
  go_wp2_with fail
  refine bodyPost_ret (results_tmp3 rfl _ _ _) rfl ?_
  exact ⟨rfl,HG.out⟩
 ·have htx:txE L=(txB L,(L.length:Int),0):=by
    unfold txE
    rw [if_pos hok]
  rw [if_pos hok] at hck
  rw [hck] at HCk
  rw [htx]
  simp only at HCk ⊢
  have HL:Hid (∀ W s u,w.grownBy W none→s∈L→Args W u s.ags→Calls Tryz.prog 34 #[.agg #[.string s.vb,.string s.nm,u]] W fun e w'=>e=.returned (.string (lnB s))∧W.grownBy w' none):=fun W s u hg hs hu=>line_any W _ s ⟨_,rfl,hu⟩ ⟨List.all_eq_true.1 hok s hs,hw s hs⟩ (ht.kept hg)
  have HLz:Hid (∀ s∈L,(lnB s).size≤70000000):=fun s hs=>lnB_size ⟨List.all_eq_true.1 hok s hs,hw s hs⟩
  have HTz:Hid (∀ i,i≤L.length→(txB (L.take i)).size≤2900000000):=fun i hi=>by
   have h1:=txB_size HLz.out i hi
   omega
  have HE:Hid (txB (L.take L.length)=txB L):=by
   show _=_
   rw [List.take_length]
  obtain ⟨n,hn⟩:∃ n,L.length=n:=⟨_,rfl⟩
  have HLn:Unit→L.length=n:=fun _=>hn
  rw [hn] at hl
  simp only [hn] at HR1 HTz HCk HE ⊢
  have hnI:(n:Int)≤40:=by omega
  clear hn htx hck hok HR hv hf hw ht
  go_enter Tryz.func21,Tryz.ntmps21
  go_wp2_with fail
  refine HCk.out.mono ?_
  rintro e w1 ⟨rfl,hg⟩
  have HG1:Hid (w.grownBy w1 none):=hg
  clear hg HCk
  have hf:Lib.IsBuilder 93 5 w1.heap.size w1.heap.size (Lib.byteCells []) (w1.alloc (.cells #[.pointer none,.slice none 0 0] 93)):=Lib.fresh_isBuilder 93 5 w1
  have HB4:Hid (Lib.IsBuilder 93 5 w1.heap.size w1.heap.size (Lib.byteCells ([]:List UInt8)) (w1.alloc (.cells #[.pointer none,.slice none 0 0] 93))):=hf
  have HGB4:Hid (w1.grownBy (w1.alloc (.cells #[.pointer none,.slice none 0 0] 93)) none):=grow1 _ _
  clear hf
  go_wp2_with fail
  go_loopw [21] (fun s wr=>∃ (i:Nat) (l:List UInt8),i≤n∧s=.int .i64 i∧l=(txB (L.take i)).data.toList∧Lib.IsBuilder 93 5 w1.heap.size w1.heap.size (Lib.byteCells l) wr∧w1.grownBy wr none) (fun s _=>match s with | .int _ i=>n - i.toNat | _=>0)
  case atStart=>exact ⟨0,[],by omega,rfl,rfl,HB4.out,HGB4.out⟩
  case round =>
   obtain ⟨i,l,hi,rfl,hle,hBb,hg⟩:=hrel
   have HLe:Hid (l=(txB (L.take i)).data.toList):=hle
   have HBb:Hid (Lib.IsBuilder 93 5 w1.heap.size w1.heap.size (Lib.byteCells l) wr):=hBb
   have HG:Hid (w1.grownBy wr none):=hg
   have HLl:Hid (l.length≤2900000000):=by
    show _≤_
    rw [hle,Array.length_toList]
    exact HTz.out i hi
   clear hle hBb hg
   by_cases hlt:i < n
   ·have hlt':i < L.length:=by rw [HLn ()]; exact hlt
    obtain ⟨s,his⟩:∃ s,L[i]?=some s:=⟨_,List.getElem?_eq_getElem hlt'⟩
    obtain ⟨B,off,u,rfl,hat,hnc⟩:=HR1.out wr (grownBy_trans HG1.out HG.out) i _ his
    have hmem:=List.mem_of_getElem? his
    have hz:(lnB s).size≤70000000:=HLz.out s hmem
    have HN:Hid (l++(lnB s).data.toList++[10]=(txB (L.take (i+1))).data.toList):=by
     show _=_
     rw [txB_step his,ByteArray.data_append,ByteArray.data_append,Array.toList_append,Array.toList_append,← HLe.out]
    obtain ⟨k0,k1,k2,hA⟩:=hat
    obtain ⟨ab2,c2,rfl⟩:=hA.form
    have HC:Hid (∀ W,wr.grownBy W none→Calls Tryz.prog 34 #[.agg #[.string s.vb,.string s.nm,.slice ab2 s.ags.length c2]] W fun e w'=>e=.returned (.string (lnB s))∧W.grownBy w' none):=fun W hg=>HL.out W s _ (grownBy_trans HG1.out (grownBy_trans HG.out hg)) hmem (hA.kept hg)
    have hltI:(i:Int) < n:=by omega
    clear hlt' his hA hmem HLe
    generalize s.ags.length=m at *
    generalize lnB s=x at *
    go_wp2_with fail
    refine (HC.out _ (grow1 _ _)).mono ?_
    rintro e w2 ⟨rfl,hg⟩
    have HG2:Hid (w1.grownBy w2 none):=grownBy_trans HG.out (grownBy_trans (grow1 _ _) hg)
    have HB2:Hid (Lib.IsBuilder 93 5 w1.heap.size w1.heap.size (Lib.byteCells l) w2):=builder_stays HBb.out (grownBy_trans (grow1 _ _) hg)
    clear hg HC HBb
    go_wp2_with fail
    refine (Tryz.Builder_WriteString w1.heap.size w1.heap.size _ x _ HB2.out (by rw [Lib.byteCells_length]; have:=HLl.out; omega) HG2.out.size).mono ?_
    rintro e w3 ⟨rfl,hb3,hlw3⟩
    rw [cells_str] at hb3
    have HB3:Hid (Lib.IsBuilder 93 5 w1.heap.size w1.heap.size (Lib.byteCells (l++x.data.toList)) w3):=.inr hb3
    have HG3:Hid (w1.grownBy w3 none):=below_grown HG2.out hlw3
    have hxl:x.data.toList.length=x.size:=by rw [Array.length_toList]; rfl
    clear hb3 hlw3 HB2 HG2
    go_wp2_with fail
    refine (Tryz.Builder_WriteString w1.heap.size w1.heap.size _ ⟨#[10]⟩ _ HB3.out (by rw [Lib.byteCells_length,List.length_append]; have:=HLl.out; have:(⟨#[10]⟩:ByteArray).size=1:=rfl; omega) HG3.out.size).mono ?_
    rintro e w4 ⟨rfl,hb4,hlw4⟩
    rw [cells_str] at hb4
    have HB5:Hid (Lib.IsBuilder 93 5 w1.heap.size w1.heap.size (Lib.byteCells (l++x.data.toList++[10])) w4):=.inr hb4
    have HG5:Hid (w1.grownBy w4 none):=below_grown HG3.out hlw4
    clear hb4 hlw4 HB3 HG3 hxl hz
    go_wp2_with fail
    go_roundw
    case rel=>exact ⟨i+1,_,by omega,num_eq (by omega),HN.out,HB5.out,HG5.out⟩
    case measure=>simp <;> omega
   ·obtain rfl:i=n:=by omega
    have HFn:Hid ((⟨l.toArray⟩:ByteArray)=txB L):=by
     show _=_
     rw [← HE.out,HLe.out]
    have hlI:decide ((i:Int) < (i:Int))=false:=decide_eq_false (by omega)
    go_wp2_with fail
    refine (Any.Builder_String_any Tryz.lays169 Tryz.Builder_Extra_169 w1.heap.size w1.heap.size l _ HBb.out HG.out.size).mono ?_
    rintro e w7 ⟨rfl,hlw7⟩
    have HG7:Hid (w.grownBy w7 none):=grownBy_trans HG1.out (below_grown HG.out hlw7)
    clear hlw7 HBb HG
    go_wp2_with fail
    refine bodyPost_ret (results_tmp3 rfl _ _ _) rfl ?_
    exact ⟨by rw [HFn.out]; first | done | rfl,HG7.out⟩
end Go.Proofs.YtdcadiaeaclpgaaGreatDoor
