/-
  The program's Needs.
  What is needed stands in order, by itself.
  What is needed: closed, in bounds, in order, the name last.
  The law ScriptNeeds: its walk.
-/
import Derived.Test.YtdcadiaeaclpgaaGreatDoorBunSya
import Derived.Test.YtdcadiaeaclpgaaGreatDoorBunSca
import Derived.Test.YtdcadiaeaclpgaaGreatDoorBunSrr
import Derived.Test.YtdcadiaeaclpgaaGreatDoorBunScs
namespace Go.Proofs.YtdcadiaeaclpgaaGreatDoor
open Go Go.RowKit Go.Lib Go.Sort
set_option linter.unusedVariables false
set_option linter.unusedSimpArgs false
set_option maxHeartbeats 12800000
set_option maxRecDepth 1000000
def BoB (w:World) (g:Nat) (V:List Bool):Prop:=w.heap[g]?=some (.cells (V.map Value.bool).toArray 4 (0,0))
theorem BoB.cell {w:World} {g:Nat} {V:List Bool} (h:BoB w g V) (j:Nat) (x:Bool) (hx:V[j]?=some x):w.cell? ⟨g,j,none⟩=some (.bool x):=by
 unfold BoB at h
 simp [World.cell?,h,hx]
theorem BoB.fr {w:World} {g:Nat} {V:List Bool} (h:BoB w g V) (j:Nat):w.frozen? ⟨g,j,none⟩=false:=by
 unfold BoB at h
 simp [World.frozen?,h]
theorem BoB.set {w:World} {g:Nat} {V:List Bool} (h:BoB w g V) (j:Nat) (x:Bool):BoB (w.setCell ⟨g,j,none⟩ (.bool x)) g (V.set j x):=by
 unfold BoB at *
 simp [World.setCell,Array.getElem?_modify,h,List.map_set]
theorem BoB.lt {w:World} {g:Nat} {V:List Bool} (h:BoB w g V):g < w.heap.size:=(Array.getElem?_eq_some_iff.1 h).1
theorem BoB.kept {w w':World} {g:Nat} {V:List Bool} (h:BoB w g V) (hg:w.grownBy w' none):BoB w' g V :=
 (hg.block g h.lt (by simp)).trans h
theorem Tryz.infoBo:(Tryz.prog.info? 4).map (fun i=>(i.zero,i.size,i.bytes))=some (some (.bool false),1,1):=by kernel_rfl
theorem make_bools (w:World) (n:Nat) (hn:n≤1000000):(Instr.makeSlice 104 (.int .i64 (n:Int)) (.int .i64 (n:Int))).run Tryz.prog w=.ok (.slice (some ⟨w.heap.size,0,none⟩) n n) (w.alloc (.cells ((List.replicate n false).map Value.bool).toArray 4)):=by
 obtain ⟨i0,hi,hz0,hz1,hz2⟩:=info_parts Tryz.infoBo
 have hr:=run_make (P:=Tryz.prog) w 104 4 i0 (.bool false) Tryz.underlying104 hi hz0 .i64 .i64 n n (by omega) (by omega) (by rw [hz2]; omega) (by omega)
 rw [hr,Int.toNat_natCast,hz1]
 have e:madeCells (Value.bool false).cells (n*1)=((List.replicate n false).map Value.bool).toArray:=by
  apply Array.ext
  ·simp [madeCells]
  ·intro i h1 h2
   simp [madeCells,Value.cells,Nat.mod_one]
 rw [e]
theorem stdL_spec:∀ (L:List St) (i:Nat) (F G:NmF),stdL L i F=.inr G→(∀ t j,F t=some j→j < i) →
    (∀ t j,F t=some j→G t=some j)∧(∀ t j,G t=some j→j < i+L.length)∧∀ k s,L[k]?=some s→∀ a∈s.ags,a.k=1→∃ j,G a.nm=some j∧j < i+k
 |[],i,F,G,h,hF=>by
  simp only [stdL] at h
  cases h
  exact ⟨fun _ _ h=>h,fun t j h=>by have:=hF t j h; simp; omega,fun k s h=>by simp at h⟩
 |s :: l,i,F,G,h,hF=>by
  unfold stdL at h
  cases hs:stepS F s i with
  |none=>rw [hs] at h; cases h
  |some F' =>
   rw [hs] at h
   unfold stepS at hs
   by_cases hall:s.ags.all (okA F)=true
   ·rw [if_pos hall] at hs
    have hF':(∀ t j,F' t=some j→j < i+1)∧∀ t j,F t=some j→F' t=some j:=by
     by_cases h0:s.nm.size=0
     ·rw [if_pos h0] at hs
      cases hs
      exact ⟨fun t j h=>by have:=hF t j h; omega,fun _ _ h=>h⟩
     ·rw [if_neg h0] at hs
      by_cases h1:(F s.nm).isSome=true
      ·rw [if_pos h1] at hs
       cases hs
      ·rw [if_neg h1] at hs
       cases hs
       refine ⟨fun t j h=>?_,fun t j h=>?_⟩
       ·unfold putN at h
        split at h
        ·cases h; omega
        ·have:=hF t j h; omega
       ·unfold putN
        split
        ·rename_i e
         subst e
         rw [h] at h1
         simp at h1
        ·exact h
    obtain ⟨r1,r2,r3⟩:=stdL_spec l (i+1) F' G h hF'.1
    refine ⟨fun t j h=>r1 t j (hF'.2 t j h),fun t j h=>by have:=r2 t j h; simp only [List.length_cons]; omega,?_⟩
    intro k s' hk a ha hak
    cases k with
    |zero =>
     simp only [List.getElem?_cons_zero,Option.some.injEq] at hk
     subst hk
     have:=List.all_eq_true.1 hall a ha
     unfold okA at this
     simp only [hak,ne_eq,not_true_eq_false,decide_false,Bool.false_or] at this
     obtain ⟨j,hj⟩:=Option.isSome_iff_exists.1 this
     exact ⟨j,r1 _ _ (hF'.2 _ _ hj),by have:=hF _ _ hj; omega⟩
    |succ k =>
     simp only [List.getElem?_cons_succ] at hk
     obtain ⟨j,h1,h2⟩:=r3 k s' hk a ha hak
     exact ⟨j,h1,by omega⟩
   ·rw [if_neg hall] at hs
    cases hs
def ndE (L:List St) (nm:ByteArray):List Int × Int:=if (ordE L).2≠0 then ([],(ordE L).2) else match stdL L 0 noN with
 |.inl _=>([],401)
 |.inr F=>match F nm with
  |none=>([],401)
  |some q=>(idxT 0 (needV F L q),0)
theorem idxT_step (j:Nat) (R:List Bool) (x:Bool) (h:R[j]?=some x):idxT j (R.drop j)=(if x then [(j:Int)] else [])++idxT (j+1) (R.drop (j+1)):=by
 obtain ⟨hlt,hx⟩:=List.getElem?_eq_some_iff.1 h
 rw [List.drop_eq_getElem_cons hlt,hx]
 cases x <;> rfl
theorem idxT_end (j:Nat) (R:List Bool) (h:R.length≤j):idxT j (R.drop j)=[]:=by
 rw [List.drop_eq_nil_of_le h]
 rfl
theorem markA_step (F:NmF) (ags:List Ag) (j:Nat) (a:Ag) (V:List Bool) (h:ags[j]?=some a):markA F (ags.drop j) V=markA F (ags.drop (j+1)) (if a.k=1 then V.set ((F a.nm).getD 0) true else V):=by
 obtain ⟨hlt,hx⟩:=List.getElem?_eq_some_iff.1 h
 rw [List.drop_eq_getElem_cons hlt,hx]
 rfl
theorem needV_len (F:NmF) (L:List St) (q:Nat):(needV F L q).length=q+1:=by
 unfold needV
 rw [downN_len]
 simp
theorem needs_any (w:World) (v:Value) (L:List St) (nm:ByteArray) (hv:Sts w v L) (hl:L.length≤1000000000000000) (hf:∀ s∈L,s.Fit) (hnm:nm.size≤maxLen) :
    Calls Tryz.prog 25 #[v,.string nm] w fun e w'=>(∃ u,e=.returned (.tuple #[u,.int .i64 (ndE L nm).2])∧Ints w' u (ndE L nm).1)∧w.grownBy w' none:=by
 have HS:=standing_any w v L hv hl hf
 obtain ⟨ab,c,rfl,HR⟩:=hv.reads
 have HR1:Hid (∀ w',w.grownBy w' none→∀ i s,L[i]?=some s→∃ B off u,ab=some ⟨B,off,none⟩∧StAt w' B (off+i*3) s u∧L.length≤c):=HR
 have HF:Hid (∀ s∈L,s.Fit):=hf
 by_cases hck:(ordE L).2=0
 case neg =>
  have HO:Hid (∀ e w',SdQ w w' L e→∃ m,e=.returned (.tuple #[.map m,.int .i64 (ordE L).1,.int .i64 (ordE L).2])):=fun e w' h=>by
   obtain ⟨m,h1,_⟩:=h.out
   exact ⟨m,h1⟩
  have hE:ndE L nm=([],(ordE L).2):=by
   unfold ndE
   rw [if_pos hck]
  rw [hE]
  generalize ordE L=r at *
  obtain ⟨r1,r2⟩:=r
  simp only at hck HO ⊢
  have hr2:(r2 != 0)=true:=by simpa using hck
  generalize SdQ w=Q at *
  clear hck HR hv hf HR1 HF hl hE
  generalize L.length=n at *
  go_enter Tryz.func25,Tryz.ntmps25
  go_wp2_with fail
  refine HS.mono ?_
  rintro e w1 ⟨hq,hg⟩
  obtain ⟨m,rfl⟩:=HO.out _ _ hq
  have HG:Hid (w.grownBy w1 none):=hg
  clear hq hg HS
  go_wp2_with fail
  refine bodyPost_ret (results_tmp2 rfl _ _ _) rfl ?_
  exact ⟨⟨_,rfl,Ints.nil _⟩,HG.out⟩
 case pos =>
  have hce:(ckE L).2=0:=by
   unfold ordE at hck
   by_cases h:(ckE L).2≠0
   ·rw [if_pos h] at hck
    exact hck
   ·exact Classical.not_not.1 h
  have hn4:L.length≤4096:=by
   unfold ckE at hce
   split at hce
   ·cases hce
   ·rename_i h
    omega
  obtain ⟨F,hs⟩:∃ F,stdL L 0 noN=.inr F:=by
   unfold ordE at hck
   rw [if_neg (by simpa using hce)] at hck
   cases h:stdL L 0 noN with
   |inl i=>rw [h] at hck; cases hck
   |inr F=>exact ⟨F,rfl⟩
  have HO:Hid (∀ e w',SdQ w w' L e→∃ b,e=.returned (.tuple #[.map (some b),.int .i64 (L.length:Int),.int .i64 0])∧w.heap.size≤b∧NmM w' b L.length F):=fun e w' h=>by
   unfold SdQ at h
   rw [if_neg (by simpa using hce),hs] at h
   exact h
  obtain ⟨-,hsp1,hsp2⟩:=stdL_spec L 0 noN F hs (fun t j h=>by cases h)
  have HLt:Hid (∀ t j,F t=some j→j < L.length):=fun t j h=>by have:=hsp1 t j h; omega
  have HAr:Hid (∀ k s,L[k]?=some s→∀ a∈s.ags,a.k=1→∃ j,F a.nm=some j∧j < k):=fun k s h a ha h1=>by
   obtain ⟨j,h2,h3⟩:=hsp2 k s h a ha h1
   exact ⟨j,h2,by omega⟩
  have hE:ndE L nm=match F nm with
   |none=>([],401)
   |some q=>(idxT 0 (needV F L q),0):=by
   unfold ndE
   rw [if_neg (by simpa using hck),hs]
  rw [hE]
  generalize SdQ w=Q at *
  obtain ⟨n,hn⟩:∃ n,L.length=n:=⟨_,rfl⟩
  have HLn:Unit→L.length=n:=fun _=>hn
  simp only [hn] at HS HR1 HO HLt hn4 ⊢
  have hnI:(n:Int)≤4096:=by omega
  clear hn HR hv hf hl hck hce hs hsp1 hsp2 hE
  cases hF:F nm with
  |none =>
   simp only
   go_enter Tryz.func25,Tryz.ntmps25
   go_wp2_with fail
   refine HS.mono ?_
   rintro e w1 ⟨hq,hg⟩
   obtain ⟨b,rfl,hb,hM⟩:=HO.out _ _ hq
   have HG:Hid (w.grownBy w1 none):=hg
   have HM:Hid (NmM w1 b n F):=hM
   clear hq hg hM hb HS
   go_wp2_with (at_lookup; refine wpList_lookN rfl _ _ rfl b n F rfl HM.out nm hnm rfl ?_; rw [hF])
   refine bodyPost_ret (results_tmp2 rfl _ _ _) rfl ?_
   exact ⟨⟨_,rfl,Ints.nil _⟩,HG.out⟩
  |some q =>
   simp only
   obtain ⟨R,hR⟩:∃ R,needV F L q=R:=⟨_,rfl⟩
   have HRl:Hid (R.length=q+1):=by
    show _=_
    rw [← hR]
    exact needV_len F L q
   have HR0:Hid (downN F L (q+1) ((List.replicate (q+1) false).set q true)=R):=hR
   rw [hR]
   have hqn:q < n:=HLt.out _ _ hF
   have hqI:(q:Int)≤4096:=by omega
   have hqN:q≤4096:=by omega
   clear hR
   go_enter Tryz.func25,Tryz.ntmps25
   go_wp2_with fail
   refine HS.mono ?_
   rintro e w1 ⟨hq,hg⟩
   obtain ⟨b,rfl,hb,hM⟩:=HO.out _ _ hq
   have HG1:Hid (w.grownBy w1 none):=hg
   have HM:Hid (NmM w1 b n F):=hM
   clear hq hg hM hb HS
   have hmk:(Instr.makeSlice 104 (.int .i64 ((q:Int)+1)) (.int .i64 ((q:Int)+1))).run Tryz.prog w1=.ok (.slice (some ⟨w1.heap.size,0,none⟩) (q+1) (q+1)) (w1.alloc (.cells ((List.replicate (q+1) false).map Value.bool).toArray 4)):=make_bools w1 (q+1) (by omega)
   have HB0:Hid (BoB (w1.alloc (.cells ((List.replicate (q+1) false).map Value.bool).toArray 4)) w1.heap.size (List.replicate (q+1) false)):=heap_alloc_new _ _
   have HG4:Hid (w1.grownBy (w1.alloc (.cells ((List.replicate (q+1) false).map Value.bool).toArray 4)) none):=grow1 _ _
   generalize w1.alloc (.cells ((List.replicate (q+1) false).map Value.bool).toArray 4)=w4 at *
   have hc4:w4.cell? ⟨w1.heap.size,q,none⟩=some (.bool false):=HB0.out.cell q false (by simp)
   have hf4:w4.frozen? ⟨w1.heap.size,q,none⟩=false:=HB0.out.fr q
   have HB5:Hid (BoB (w4.setCell ⟨w1.heap.size,q,none⟩ (.bool true)) w1.heap.size ((List.replicate (q+1) false).set q true)):=HB0.out.set q true
   have HG5:Hid (w1.grownBy (w4.setCell ⟨w1.heap.size,q,none⟩ (.bool true)) none):=grown_set HG4.out (Nat.le_refl _)
   go_wp2_with (at_lookup; refine wpList_lookN rfl _ _ rfl b n F rfl HM.out nm hnm rfl ?_; rw [hF])
   clear hc4 hf4 HB0 HG4 hmk
   change Code.wp _ _ _ _ (w4.setCell ⟨w1.heap.size,q,none⟩ (.bool true))
   generalize w4.setCell ⟨w1.heap.size,q,none⟩ (.bool true)=w5 at *
   have hbz:w1.heap.size≤w1.heap.size:=Nat.le_refl _
   go_loopw [12] (fun s12 wr=>∃ (r:Nat) (k:Int) (V:List Bool),s12=.int .i64 k∧(k=(r:Int) - 1∧r≤q+1∧V.length=q+1∧downN F L r V=R)∧BoB wr w1.heap.size V∧w1.grownBy wr none) (fun s _=>match s with | .int _ i=>(i+1).toNat | _=>0)
   case atStart=>exact ⟨q+1,_,_,rfl,⟨by omega,Nat.le_refl _,by simp,HR0.out⟩,HB5.out,HG5.out⟩
   case round =>
    obtain ⟨r,k,V,rfl,⟨hk,hr,hVl,hd⟩,hB,hg⟩:=hrel
    have HB:Hid (BoB wr w1.heap.size V):=hB
    have HG:Hid (w1.grownBy wr none):=hg
    have HD:Hid (downN F L r V=R):=hd
    have HVl:Hid (V.length=q+1):=hVl
    clear hB hg hd hVl
    cases r with
    |zero =>
     obtain rfl:k=-1:=by omega
     clear hk hr
     have HVR:Hid (V=R):=HD.out
     have HBR:Hid (BoB wr w1.heap.size R):=by
      show BoB _ _ _
      rw [← HVR.out]
      exact HB.out
     clear HB HVl HD HVR
     go_wp2_with fail
     obtain ⟨w6,hw6⟩:∃ w6,w6=wr:=⟨_,rfl⟩
     have HB6:Hid (BoB w6 w1.heap.size R):=by rw [hw6]; exact HBR
     have HG6:Hid (w1.grownBy w6 none):=by rw [hw6]; exact HG
     have HW6:Hid (w6.grownBy wr none):=by rw [hw6]; exact grow0 _
     have HO6:Hid (OwI wr w6.heap.size (.slice none 0 0) []):=OwI.nil _ _
     clear HBR HG hw6
     go_loopw [15,73] (fun s15 s73 wr=>∃ (j:Nat) (A:List Int),j≤q+1∧s73=.int .i64 j∧(A.length≤j∧A++idxT j (R.drop j)=idxT 0 R)∧OwI wr w6.heap.size s15 A∧w6.grownBy wr none) (fun _ s _=>match s with | .int _ j=>q+1 - j.toNat | _=>0)
     case atStart=>exact ⟨0,[],by omega,rfl,⟨by simp,rfl⟩,HO6.out,HW6.out⟩
     case round =>
      obtain ⟨j,A,hj,rfl,⟨hAl,hA⟩,hO,hg⟩:=hrel
      obtain ⟨ab5,c5,rfl⟩:=hO.form
      obtain ⟨na,hna⟩:∃ na,A.length=na:=⟨_,rfl⟩
      have HAn:Unit→A.length=na:=fun _=>hna
      rw [hna] at hO hAl ⊢
      have HO7:Hid (OwI wr w6.heap.size (.slice ab5 na c5) A):=hO
      have HG7:Hid (w6.grownBy wr none):=hg
      have HA7:Hid (A++idxT j (R.drop j)=idxT 0 R):=hA
      clear hna hO hg hA
      by_cases hltj:j < q+1
      ·obtain ⟨x,hx⟩:∃ x,R[j]?=some x:=⟨_,List.getElem?_eq_getElem (by rw [HRl.out]; exact hltj)⟩
       have hcx:wr.cell? ⟨w1.heap.size,j,none⟩=some (.bool x):=(HB6.out.kept HG7.out).cell j x hx
       have HN:Hid (A++((if x then [(j:Int)] else [])++idxT (j+1) (R.drop (j+1)))=idxT 0 R):=by
        show _=_
        rw [← idxT_step j R x hx]
        exact HA7.out
       have hltjI:(j:Int) < (q:Int)+1:=by omega
       clear hx HA7
       cases x
       ·have HN2:Hid (A++idxT (j+1) (R.drop (j+1))=idxT 0 R):=HN.out
        clear HN
        go_wp2_with fail
        go_roundw
        case rel=>exact ⟨j+1,A,by omega,num_eq (by omega),⟨by rw [HAn ()]; omega,HN2.out⟩,HO7.out,HG7.out⟩
        case measure=>simp <;> omega
       ·have HN2:Hid ((A++[(j:Int)])++idxT (j+1) (R.drop (j+1))=idxT 0 R):=by
          have:=HN.out
          rw [List.append_assoc]
          exact this
        clear HN
        have HI1:=ints_lit wr (j:Int)
        have hsz6:=HG7.out.size
        go_wp2_with (at_builtin; refine wpList_append_ints rfl _ _ rfl w6.heap.size (.slice ab5 na c5) A rfl (HO7.out.kept0 (grow1 _ _)) (.slice (some ⟨wr.heap.size,0,none⟩) 1 1) [(j:Int)] rfl HI1 (by simp; rw [HAn ()]; omega) (by simp; omega) ?_)
        intro v' w' hO' hg'
        have HO':Hid (OwI w' w6.heap.size v' (A++[(j:Int)])):=hO'
        have HG':Hid (w6.grownBy w' none):=grownBy_owi (grownBy_trans HG7.out (grow1 _ _)) (HO7.out.kept0 (grow1 _ _)) hg'
        clear hO' hg'
        go_wp2_with fail
        go_roundw
        case rel=>exact ⟨j+1,_,by omega,num_eq (by omega),⟨by simp; rw [HAn ()]; omega,HN2.out⟩,HO'.out,HG'.out⟩
        case measure=>simp <;> omega
      ·have e:j=q+1:=by omega
       have HE:Hid (A=idxT 0 R):=by
        have h:=HA7.out
        rw [idxT_end j R (by rw [HRl.out]; omega),List.append_nil] at h
        exact h
       have hI:Ints wr (.slice ab5 na c5) (idxT 0 R):=by
        rw [← HE.out]
        exact HO7.out.ints
       have HIn:Hid (Ints wr (.slice ab5 na c5) (idxT 0 R)):=hI
       have HGe:Hid (w.grownBy wr none):=grownBy_trans HG1.out (grownBy_trans HG6.out HG7.out)
       clear HE HA7 hI
       subst e
       go_wp2_with fail
       refine bodyPost_ret (results_tmp2 rfl _ _ _) rfl ?_
       exact ⟨⟨_,rfl,HIn.out⟩,HGe.out⟩
    |succ i =>
     obtain rfl:k=(i:Int):=by omega
     have hiq:i≤q:=by omega
     have hiI:(i:Int)≤q:=by omega
     have hin:(i:Int) < n:=by omega
     clear hk hr
     obtain ⟨x,hx⟩:∃ x,V[i]?=some x:=⟨_,List.getElem?_eq_getElem (by rw [HVl.out]; omega)⟩
     have hcx:wr.cell? ⟨w1.heap.size,i,none⟩=some (.bool x):=HB.out.cell i x hx
     cases x
     ·have HD2:Hid (downN F L i V=R):=by
        have:=HD.out
        unfold downN at this
        rw [hx] at this
        exact this
      clear hx
      go_wp2_with fail
      go_roundw
      case rel=>exact ⟨i,_,V,rfl,⟨by omega,by omega,HVl.out,HD2.out⟩,HB.out,HG.out⟩
      case measure=>simp <;> omega
     ·have hlt':i < L.length:=by rw [HLn ()]; omega
      obtain ⟨s,his⟩:∃ s,L[i]?=some s:=⟨_,List.getElem?_eq_getElem hlt'⟩
      have HD2:Hid (downN F L i (markA F (s.ags.drop 0) V)=R):=by
       have:=HD.out
       unfold downN at this
       rw [hx,his] at this
       exact this
      obtain ⟨B,off,u,rfl,hat0,hnc⟩:=HR1.out w (grow0 _) i _ his
      have HGw:Hid (w.grownBy wr none):=grownBy_trans HG1.out HG.out
      have hat:=hat0.kept HGw.out
      have hfit:=HF.out s (List.mem_of_getElem? his)
      have HA1:Hid (∀ a∈s.ags,a.k=1→∃ j,F a.nm=some j∧j < i):=HAr.out i s his
      obtain ⟨k0,k1,k2,_⟩:=hat
      obtain ⟨ab2,c2,rfl,HRa⟩:=hat0.a.reads
      obtain ⟨vb,nm2,ags⟩:=s
      simp only at k0 k1 k2 HRa hfit HD2 HA1
      have HFa:Hid (∀ a∈ags,a.nm.size≤maxLen):=fun a ha=>(hfit.ags a ha).nm
      have HRA:Hid (∀ w',w.grownBy w' none→∀ j a,ags[j]?=some a→∃ B off wv,ab2=some ⟨B,off,none⟩∧AgAt w' B (off+j*12) a wv∧Ints w' wv a.wd∧ags.length≤c2):=HRa
      obtain ⟨m,hm⟩:∃ m,ags.length=m:=⟨_,rfl⟩
      have HLm:Unit→ags.length=m:=fun _=>hm
      have hmI:(m:Int)≤1000000000000:=by
       have:=hfit.len
       simp only at this
       omega
      simp only [hm] at HRA k2
      have hniI:(i:Int) < n:=by omega
      obtain ⟨M,hM⟩:∃ M,markA F (ags.drop 0) V=M:=⟨_,rfl⟩
      have HM0:Hid (markA F (ags.drop 0) V=M):=hM
      rw [hM] at HD2
      clear hlt' hat0 hfit HRa hm hM hx his
      go_wp2_with fail
      obtain ⟨w6,hw6⟩:∃ w6,w6=wr:=⟨_,rfl⟩
      subst hw6
      clear k0 k1 k2 hcx
      go_loopw [57] (fun s57 wr=>∃ (j:Nat) (V:List Bool),j≤m∧s57=.int .i64 j∧(V.length=q+1∧markA F (ags.drop j) V=M)∧BoB wr w1.heap.size V∧w1.grownBy wr none) (fun s _=>match s with | .int _ j=>m - j.toNat | _=>0)
      case atStart=>exact ⟨0,V,by omega,rfl,⟨HVl.out,HM0.out⟩,HB.out,HG.out⟩
      case round =>
       obtain ⟨j,V2,hj,rfl,⟨hV2l,hV2⟩,hB2,hg2⟩:=hrel
       have HB2:Hid (BoB wr w1.heap.size V2):=hB2
       have HG2:Hid (w1.grownBy wr none):=hg2
       have HV2l:Hid (V2.length=q+1):=hV2l
       have HV2:Hid (markA F (ags.drop j) V2=M):=hV2
       clear hV2l hV2 hB2 hg2
       by_cases hltj:j < m
       ·have hltj':j < ags.length:=by rw [HLm ()]; exact hltj
        obtain ⟨a,hja⟩:∃ a,ags[j]?=some a:=⟨_,List.getElem?_eq_getElem hltj'⟩
        obtain ⟨B2,off2,wv,rfl,hat,hin,hnc2⟩:=HRA.out wr (grownBy_trans HG1.out HG2.out) j _ hja
        have hanm:a.nm.size≤maxLen:=HFa.out a (List.mem_of_getElem? hja)
        have HS2:Hid (markA F (ags.drop (j+1)) (if a.k=1 then V2.set ((F a.nm).getD 0) true else V2)=M):=by
         show _=_
         rw [← markA_step F ags j a V2 hja]
         exact HV2.out
        have HAa:=HA1.out a (List.mem_of_getElem? hja)
        obtain ⟨l0,l1,l2,l3,l4,l5,l6,l7,l8,l9,l10,l11⟩:=hat
        obtain ⟨ab3,c3,rfl⟩:=hin.form
        generalize a.wd.length=m3 at *
        have hltjI:(j:Int) < m:=by omega
        have hjI:(j:Int)≤1000000000000:=by omega
        have HMx:Hid (NmM (wr.alloc (.cells (agc a (.slice ab3 m3 c3)) 45)) b n F):=HM.out.kept (grownBy_trans HG2.out (grow1 _ _)) (by simp)
        have HBx:Hid (BoB (wr.alloc (.cells (agc a (.slice ab3 m3 c3)) 45)) w1.heap.size V2):=HB2.out.kept (grow1 _ _)
        have HGx:Hid (w1.grownBy (wr.alloc (.cells (agc a (.slice ab3 m3 c3)) 45)) none):=grownBy_trans HG2.out (grow1 _ _)
        clear hltj' hja hin
        obtain ⟨ak,anm,z,wd,ct⟩:=a
        simp only at l0 l1 l2 l3 l4 l5 l6 l7 l8 l9 l10 l11 hanm HS2 HAa
        by_cases hk:ak=1
        ·subst hk
         obtain ⟨p,hp,hpi⟩:=HAa rfl
         have HS3:Hid (markA F (ags.drop (j+1)) (V2.set p true)=M):=by
          have:=HS2.out
          rw [if_pos rfl,hp] at this
          exact this
         have hpq:p < q+1:=by omega
         have hpI:(p:Int) < q+1:=by omega
         clear HS2 HAa
         obtain ⟨y,hy⟩:∃ y,V2[p]?=some y:=⟨_,List.getElem?_eq_getElem (by rw [HV2l.out]; omega)⟩
         have HP:Hid (∀ wz:World,BoB wz w1.heap.size V2→wz.cell? ⟨w1.heap.size,p,none⟩=some (.bool y)∧wz.frozen? ⟨w1.heap.size,p,none⟩=false∧BoB (wz.setCell ⟨w1.heap.size,p,none⟩ (.bool true)) w1.heap.size (V2.set p true)):=fun wz h=>⟨h.cell p y hy,h.fr p,h.set p true⟩
         clear hy hpi
         have hsz1:w1.heap.size≤w1.heap.size:=Nat.le_refl _
         go_wp2_with (at_lookup; refine wpList_lookN1 rfl _ _ rfl b n F rfl HMx.out anm hanm rfl ?_; rw [hp]; change wpList _ _ _ _ _ (wr.alloc (.cells (agc ⟨1,anm,z,wd,ct⟩ (.slice ab3 m3 c3)) 45)); generalize wr.alloc (.cells (agc ⟨1,anm,z,wd,ct⟩ (.slice ab3 m3 c3)) 45)=wz at *; obtain ⟨p1,p2,p3⟩:=HP.out wz HBx.out; have HP3:Hid (BoB (wz.setCell ⟨w1.heap.size,p,none⟩ (.bool true)) w1.heap.size (V2.set p true)):=p3; have HGz:Hid (w1.grownBy (wz.setCell ⟨w1.heap.size,p,none⟩ (.bool true)) none):=grown_set HGx.out hsz1; clear p3)
         exact ⟨⟨j+1,V2.set p true,by omega,num_eq (by omega),⟨by rw [List.length_set]; exact HV2l.out,HS3.out⟩,HP3.out,HGz.out⟩,by simp; omega⟩
        ·have hkb:(ak == 1)=false:=by simpa using hk
         have HS3:Hid (markA F (ags.drop (j+1)) V2=M):=by
          have:=HS2.out
          rw [if_neg hk] at this
          exact this
         clear HS2 HAa hk
         go_wp2_with fail
         exact ⟨⟨j+1,V2,by omega,num_eq (by omega),⟨HV2l.out,HS3.out⟩,HBx.out,HGx.out⟩,by simp; omega⟩
       ·have e:j=m:=by omega
        subst e
        have HE:Hid (V2=M):=by
         have h:=HV2.out
         rw [← HLm (),List.drop_length] at h
         exact h
        have HDe:Hid (downN F L i V2=R):=by
         show _=_
         rw [HE.out]
         exact HD2.out
        go_wp2_with fail
        go_roundw
        case rel=>exact ⟨i,_,V2,rfl,⟨by omega,by omega,HV2l.out,HDe.out⟩,HB2.out,HG2.out⟩
        case measure=>simp <;> omega
def pickL:List St→List Bool→List St
 |s :: l,b :: V=>if b then s :: pickL l V else pickL l V
 |_,_=>[]
theorem sub_std (R:List Bool):∀ (L:List St) (i:Nat) (F G:NmF) (m:Nat) (Fs:NmF),stdL L i F=.inr G→(∀ t j,F t=some j→j < i) →
    (∀ k s,L[k]?=some s→R[i+k]?=some true→∀ a∈s.ags,a.k=1→∃ p,G a.nm=some p∧R[p]?=some true) →
    (∀ t p,F t=some p→R[p]?=some true→(Fs t).isSome=true)→(∀ t,(Fs t).isSome=true→(F t).isSome=true) →
    ∃ Gs,stdL (pickL L (R.drop i)) m Fs=.inr Gs
 |[],i,F,G,m,Fs,h,hF,hc,h1,h2=>⟨Fs,by simp [pickL,stdL]⟩
 |s :: l,i,F,G,m,Fs,h,hF,hc,h1,h2=>by
  have hsp:=stdL_spec (s :: l) i F G h hF
  unfold stdL at h
  cases hs:stepS F s i with
  |none=>rw [hs] at h; cases h
  |some F' =>
   rw [hs] at h
   unfold stepS at hs
   by_cases hall:s.ags.all (okA F)=true
   case neg=>rw [if_neg hall] at hs; cases hs
   rw [if_pos hall] at hs
   have hcl:∀ k s',l[k]?=some s'→R[i+1+k]?=some true→∀ a∈s'.ags,a.k=1→∃ p,G a.nm=some p∧R[p]?=some true:=by
    intro k s' hk hr
    exact hc (k+1) s' (by simpa using hk) (by rw [show i+(k+1)=i+1+k from by omega]; exact hr)
   by_cases hi:i < R.length
   case neg =>
    rw [List.drop_eq_nil_of_le (by omega)]
    exact ⟨Fs,by simp [pickL,stdL]⟩
   obtain ⟨b,hb⟩:∃ b,R[i]?=some b:=⟨_,List.getElem?_eq_getElem hi⟩
   have hd:R.drop i=b :: R.drop (i+1):=by
    rw [List.drop_eq_getElem_cons hi]
    congr 1
    exact (List.getElem?_eq_some_iff.1 hb).2
   rw [hd]
   have hF':(∀ t j,F' t=some j→j < i+1):=by
    by_cases h0:s.nm.size=0
    ·rw [if_pos h0] at hs
     cases hs
     exact fun t j h=>by have:=hF t j h; omega
    ·rw [if_neg h0] at hs
     by_cases hn:(F s.nm).isSome=true
     ·rw [if_pos hn] at hs; cases hs
     ·rw [if_neg hn] at hs
      cases hs
      intro t j h
      unfold putN at h
      split at h
      ·cases h; omega
      ·have:=hF t j h; omega
   cases b with
   |false =>
    have e:pickL (s :: l) (false :: R.drop (i+1))=pickL l (R.drop (i+1)):=rfl
    rw [e]
    refine sub_std R l (i+1) F' G m Fs h hF' hcl ?_ ?_
    ·intro t p ht hp
     by_cases h0:s.nm.size=0
     ·rw [if_pos h0] at hs
      cases hs
      exact h1 t p ht hp
     ·rw [if_neg h0] at hs
      by_cases hn:(F s.nm).isSome=true
      ·rw [if_pos hn] at hs; cases hs
      ·rw [if_neg hn] at hs
       cases hs
       unfold putN at ht
       split at ht
       ·cases ht
        rw [hb] at hp
        cases hp
       ·exact h1 t p ht hp
    ·intro t ht
     have h3:=h2 t ht
     by_cases h0:s.nm.size=0
     ·rw [if_pos h0] at hs
      cases hs
      exact h3
     ·rw [if_neg h0] at hs
      by_cases hn:(F s.nm).isSome=true
      ·rw [if_pos hn] at hs; cases hs
      ·rw [if_neg hn] at hs
       cases hs
       unfold putN
       split
       ·rfl
       ·exact h3
   |true =>
    have e:pickL (s :: l) (true :: R.drop (i+1))=s :: pickL l (R.drop (i+1)):=rfl
    rw [e]
    have hall2:s.ags.all (okA Fs)=true:=by
     rw [List.all_eq_true]
     intro a ha
     unfold okA
     by_cases hk:a.k=1
     ·obtain ⟨p,hp,hr⟩:=hc 0 s rfl hb a ha hk
      have h5:=List.all_eq_true.1 hall a ha
      unfold okA at h5
      simp only [hk,ne_eq,not_true_eq_false,decide_false,Bool.false_or] at h5 ⊢
      obtain ⟨j,hj⟩:=Option.isSome_iff_exists.1 h5
      have h6:=hsp.1 _ _ hj
      rw [hp] at h6
      cases h6
      exact h1 _ _ hj hr
     ·simp [hk]
    unfold stdL stepS
    rw [if_pos hall2]
    by_cases h0:s.nm.size=0
    ·rw [if_pos h0] at hs ⊢
     cases hs
     exact sub_std R l (i+1) F G (m+1) Fs h hF' hcl h1 h2
    ·rw [if_neg h0] at hs ⊢
     by_cases hn:(F s.nm).isSome=true
     ·rw [if_pos hn] at hs; cases hs
     ·rw [if_neg hn] at hs
      cases hs
      rw [if_neg (fun hx=>hn (h2 _ hx))]
      refine sub_std R l (i+1) _ G (m+1) (putN Fs s.nm m) h hF' hcl ?_ ?_
      ·intro t p ht hp
       unfold putN at ht ⊢
       split
       ·rfl
       ·rename_i hne
        rw [if_neg hne] at ht
        exact h1 t p ht hp
      ·intro t ht
       unfold putN at ht ⊢
       split
       ·rfl
       ·rename_i hne
        rw [if_neg hne] at ht
        exact h2 t ht
theorem stdL_name:∀ (L:List St) (i:Nat) (F G:NmF),stdL L i F=.inr G→∀ t p,G t=some p→F t=some p∨∃ k s,p=i+k∧L[k]?=some s∧s.nm=t
 |[],i,F,G,h,t,p,hp=>by
  simp only [stdL] at h
  cases h
  exact .inl hp
 |s :: l,i,F,G,h,t,p,hp=>by
  unfold stdL at h
  cases hs:stepS F s i with
  |none=>rw [hs] at h; cases h
  |some F' =>
   rw [hs] at h
   rcases stdL_name l (i+1) F' G h t p hp with h1 | ⟨k,s',h1,h2,h3⟩
   ·unfold stepS at hs
    by_cases hall:s.ags.all (okA F)=true
    ·rw [if_pos hall] at hs
     by_cases h0:s.nm.size=0
     ·rw [if_pos h0] at hs
      cases hs
      exact .inl h1
     ·rw [if_neg h0] at hs
      by_cases hn:(F s.nm).isSome=true
      ·rw [if_pos hn] at hs; cases hs
      ·rw [if_neg hn] at hs
       cases hs
       unfold putN at h1
       split at h1
       ·rename_i e
        cases h1
        exact .inr ⟨0,s,by omega,rfl,e.symm⟩
       ·exact .inl h1
    ·rw [if_neg hall] at hs; cases hs
   ·exact .inr ⟨k+1,s',by omega,by simpa using h2,h3⟩
def LowA (F:NmF) (L:List St):Prop:=∀ k s,L[k]?=some s→∀ a∈s.ags,a.k=1→∃ j,F a.nm=some j∧j < k
theorem markA_mono (F:NmF):∀ (l:List Ag) (V:List Bool) (j:Nat),V[j]?=some true→(markA F l V)[j]?=some true
 |[],V,j,h=>h
 |a :: l,V,j,h=>by
  unfold markA
  refine markA_mono F l _ j ?_
  split
  ·rw [List.getElem?_set]
   split
   ·rename_i e
    subst e
    rw [if_pos (List.getElem?_eq_some_iff.1 h).1]
   ·exact h
  ·exact h
theorem markA_out (F:NmF):∀ (l:List Ag) (V:List Bool) (j:Nat),(∀ a∈l,a.k=1→(F a.nm).getD 0≠j)→(markA F l V)[j]?=V[j]?
 |[],V,j,h=>rfl
 |a :: l,V,j,h=>by
  unfold markA
  rw [markA_out F l _ j (fun a' ha'=>h a' (List.mem_cons_of_mem _ ha'))]
  split
  ·rename_i e
   rw [List.getElem?_set_ne (h a (by simp) e)]
  ·rfl
theorem markA_in (F:NmF):∀ (l:List Ag) (V:List Bool) (a:Ag),a∈l→a.k=1→(F a.nm).getD 0 < V.length→(markA F l V)[(F a.nm).getD 0]?=some true
 |b :: l,V,a,ha,hk,hlt=>by
  unfold markA
  rcases List.mem_cons.1 ha with rfl | ha
  ·refine markA_mono F l _ _ ?_
   rw [if_pos hk,List.getElem?_set,if_pos rfl,if_pos hlt]
  ·refine markA_in F l _ a ha hk ?_
   split
   ·rw [List.length_set]; exact hlt
   ·exact hlt
theorem downN_mono (F:NmF) (L:List St):∀ (i:Nat) (V:List Bool) (j:Nat),V[j]?=some true→(downN F L i V)[j]?=some true
 |0,V,j,h=>h
 |i+1,V,j,h=>by
  unfold downN
  refine downN_mono F L i _ j ?_
  split
  ·exact markA_mono F _ _ _ h
  ·exact h
theorem downN_above (F:NmF) (L:List St) (hl:LowA F L):∀ (i:Nat) (V:List Bool) (j:Nat),i≤j+1→(downN F L i V)[j]?=V[j]?
 |0,V,j,h=>rfl
 |i+1,V,j,h=>by
  unfold downN
  rw [downN_above F L hl i _ j (by omega)]
  split
  ·refine markA_out F _ _ _ ?_
   intro a ha hk
   cases hs:L[i]? with
   |none=>rw [hs] at ha; simp at ha
   |some s =>
    rw [hs] at ha
    obtain ⟨p,hp,hlt⟩:=hl i s hs a ha hk
    rw [hp]
    simp only [Option.getD_some]
    omega
  ·rfl
theorem downN_closed (F:NmF) (L:List St) (hl:LowA F L):∀ (i:Nat) (V:List Bool),i≤V.length→∀ k,k < i→(downN F L i V)[k]?=some true→∀ s,L[k]?=some s→∀ a∈s.ags,a.k=1→∃ p,F a.nm=some p∧(downN F L i V)[p]?=some true
 |0,V,hi,k,hk,h,s,hs,a,ha,hak=>by omega
 |i+1,V,hi,k,hk,h,s,hs,a,ha,hak=>by
  unfold downN at h ⊢
  by_cases hki:k=i
  ·subst hki
   rw [downN_above F L hl k _ k (by omega)] at h
   obtain ⟨p,hp,hlt⟩:=hl k s hs a ha hak
   by_cases hv:V[k]?.getD false=true
   ·rw [if_pos hv] at h ⊢
    rw [hs]
    refine ⟨p,hp,downN_mono F L _ _ _ ?_⟩
    have:=markA_in F s.ags V a ha hak (by rw [hp]; simp only [Option.getD_some]; omega)
    rw [hp] at this
    exact this
   ·rw [if_neg hv] at h
    rw [h] at hv
    exact absurd rfl hv
  ·refine downN_closed F L hl i _ ?_ k (by omega) h s hs a ha hak
   split
   ·rw [markA_len]; omega
   ·omega
theorem needV_closed {F:NmF} {L:List St} (hl:LowA F L) (q:Nat) (k:Nat) (h:(needV F L q)[k]?=some true) (s:St) (hs:L[k]?=some s) (a:Ag) (ha:a∈s.ags) (hak:a.k=1):∃ p,F a.nm=some p∧(needV F L q)[p]?=some true:=by
 have hlt:k < q+1:=by
  have:=(List.getElem?_eq_some_iff.1 h).1
  rw [needV_len] at this
  exact this
 unfold needV at h ⊢
 exact downN_closed F L hl (q+1) _ (by simp) k hlt h s hs a ha hak
theorem needV_last (F:NmF) (L:List St) (q:Nat):(needV F L q)[q]?=some true:=by
 unfold needV
 refine downN_mono F L _ _ _ ?_
 rw [List.getElem?_set,if_pos rfl,if_pos (by simp)]
theorem idxT_pick:∀ (L L0:List St) (V:List Bool) (i:Nat),L0.drop i=L→V.length≤L.length→(idxT i V).map (fun x=>L0[x.toNat]?)=(pickL L V).map some
 |L,L0,[],i,h,hv=>by cases L <;> rfl
 |[],L0,b :: V,i,h,hv=>by simp at hv
 |s :: l,L0,b :: V,i,h,hv=>by
  have h1:L0[i]?=some s:=by
   have h3:(L0.drop i)[0]?=some s:=by rw [h]; rfl
   simpa using h3
  have h2:L0.drop (i+1)=l:=by
   rw [← List.drop_drop,h]
   rfl
  have ih:=idxT_pick l L0 V (i+1) h2 (by simp at hv; omega)
  unfold idxT pickL
  cases b
  ·exact ih
  ·simp only [if_true,List.map_cons,Int.toNat_natCast,h1]
   rw [ih]
theorem idxT_mem:∀ (V:List Bool) (i:Nat),∀ x∈idxT i V,∃ k,x=((i+k:Nat):Int)∧V[k]?=some true
 |[],i,x,h=>by simp [idxT] at h
 |b :: V,i,x,h=>by
  unfold idxT at h
  have hrec:x∈idxT (i+1) V→∃ k,x=((i+k:Nat):Int)∧(b :: V)[k]?=some true:=fun h=>by
   obtain ⟨k,h1,h2⟩:=idxT_mem V (i+1) x h
   exact ⟨k+1,by rw [h1]; congr 1; omega,by simpa using h2⟩
  cases b
  ·exact hrec h
  ·rcases List.mem_cons.1 h with rfl | h
   ·exact ⟨0,rfl,rfl⟩
   ·exact hrec h
theorem idxT_sorted:∀ (V:List Bool) (i:Nat),(idxT i V).Pairwise (· < ·)
 |[],i=>by simp [idxT]
 |b :: V,i=>by
  unfold idxT
  have ih:=idxT_sorted V (i+1)
  cases b
  ·exact ih
  ·rw [if_pos rfl,List.pairwise_cons]
   refine ⟨fun x hx=>?_,ih⟩
   obtain ⟨k,h1,h2⟩:=idxT_mem V (i+1) x hx
   omega
theorem idxT_last:∀ (V:List Bool) (i:Nat),V.getLast?=some true→(idxT i V).getLast?=some ((i+V.length - 1:Nat):Int)
 |[],i,h=>by simp at h
 |[b],i,h=>by
  simp at h
  subst h
  simp [idxT]
 |b :: c :: V,i,h=>by
  have ih:=idxT_last (c :: V) (i+1) (by simpa [List.getLast?_cons_cons] using h)
  have e:i+1+(c :: V).length - 1=i+(b :: c :: V).length - 1:=by simp only [List.length_cons]; omega
  rw [e] at ih
  unfold idxT
  cases b
  ·exact ih
  ·rw [if_pos rfl]
   cases hx:idxT (i+1) (c :: V) with
   |nil=>rw [hx] at ih; simp at ih
   |cons y ys =>
    rw [hx] at ih
    rw [List.getLast?_cons_cons]
    exact ih
theorem pickL_sub:∀ (L:List St) (V:List Bool),∀ s∈pickL L V,s∈L
 |s :: l,b :: V,x,h=>by
  unfold pickL at h
  cases b
  ·exact List.mem_cons_of_mem _ (pickL_sub l V x h)
  ·rcases List.mem_cons.1 h with rfl | h
   ·exact List.mem_cons_self
   ·exact List.mem_cons_of_mem _ (pickL_sub l V x h)
 |[],_,x,h=>by simp [pickL] at h
 |_ :: _,[],x,h=>by simp [pickL] at h
theorem pickL_len:∀ (L:List St) (V:List Bool),(pickL L V).length≤L.length
 |s :: l,b :: V=>by
  have:=pickL_len l V
  unfold pickL
  cases b <;> simp <;> omega
 |[],_=>by simp [pickL]
 |_ :: _,[]=>by simp [pickL]
theorem need_scene {L:List St} {nm:ByteArray} {N:List Int} (h:ndE L nm=(N,0)) :
    ∃ S:List St,N.map (fun x=>L[x.toNat]?)=S.map some∧(∀ x∈N,0≤x∧x < L.length)∧N.Pairwise (· < ·)∧ordE S=((S.length:Int),0)∧S.length≤L.length∧(∀ s∈S,s∈L)∧∃ s,S.getLast?=some s∧s.nm=nm:=by
 unfold ndE at h
 by_cases ho:(ordE L).2≠0
 ·rw [if_pos ho] at h
  injection h with _ h
  exact absurd h ho
 ·rw [if_neg ho] at h
  have hce:(ckE L).2=0:=by
   by_cases h:(ckE L).2≠0
   ·unfold ordE at ho
    rw [if_pos h] at ho
    exact absurd h ho
   ·exact Classical.not_not.1 h
  have hck:L.length≤4096∧L.all okS=true:=by
   unfold ckE at hce
   split at hce
   ·cases hce
   ·rename_i h1
    split at hce
    ·rename_i h2
     exact ⟨by omega,h2⟩
    ·cases hce
  cases hs:stdL L 0 noN with
  |inl i=>rw [hs] at h; simp at h
  |inr F =>
   rw [hs] at h
   simp only at h
   cases hq:F nm with
   |none=>rw [hq] at h; simp at h
   |some q =>
    rw [hq] at h
    simp only [Prod.mk.injEq,and_true] at h
    subst h
    have h0:∀ (t:ByteArray) (j:Nat),noN t=some j→j < 0:=fun t j h=>by cases h
    obtain ⟨_,hb,hlo⟩:=stdL_spec L 0 noN F hs h0
    have hlow:LowA F L:=fun k s hk a ha h1=>by
     obtain ⟨j,h2,h3⟩:=hlo k s hk a ha h1
     exact ⟨j,h2,by omega⟩
    have hqL:q < L.length:=by have:=hb _ _ hq; omega
    have hRl:=needV_len F L q
    have hpk:=idxT_pick L L (needV F L q) 0 rfl (by rw [hRl]; omega)
    refine ⟨pickL L (needV F L q),hpk,?_,idxT_sorted _ _,?_,pickL_len _ _,pickL_sub _ _,?_⟩
    ·intro x hx
     obtain ⟨k,h1,h2⟩:=idxT_mem _ _ x hx
     have:=(List.getElem?_eq_some_iff.1 h2).1
     rw [hRl] at this
     omega
    ·have hcS:ckE (pickL L (needV F L q))=(((pickL L (needV F L q)).length:Int),0):=by
       unfold ckE
       rw [if_neg (by have:=pickL_len L (needV F L q); omega),if_pos]
       rw [List.all_eq_true] at hck ⊢
       exact fun s hs=>hck.2 s (pickL_sub _ _ s hs)
     obtain ⟨G,hG⟩:=sub_std (needV F L q) L 0 noN F 0 noN hs h0 (fun k s hk hr a ha h1=>needV_closed hlow q k (by simpa using hr) s hk a ha h1) (fun t p h=>by cases h) (fun t h=>h)
     rw [List.drop_zero] at hG
     unfold ordE
     rw [hcS,if_neg (by simp),hG]
    ·rcases stdL_name L 0 noN F hs nm q hq with h1 | ⟨k,s,h1,h2,h3⟩
     ·cases h1
     ·have hkq:k=q:=by omega
      subst hkq
      have hgl:(needV F L k).getLast?=some true:=by
       rw [List.getLast?_eq_getElem?,hRl]
       exact needV_last F L k
      have h5:=idxT_last _ 0 hgl
      rw [hRl] at h5
      have h6:=congrArg List.getLast? hpk
      rw [List.getLast?_map,h5,List.getLast?_map] at h6
      simp only [Option.map_some,Int.toNat_natCast] at h6
      rw [show 0+(k+1) - 1=k from by omega,h2] at h6
      cases hgS:(pickL L (needV F L k)).getLast? with
      |none=>rw [hgS] at h6; cases h6
      |some s' =>
       rw [hgS] at h6
       simp only [Option.map_some,Option.some.injEq] at h6
       subst h6
       exact ⟨s,rfl,h3⟩
theorem bigL_few {L:List St} (h:bigL L=false):L.length≤40∧∀ s∈L,bigS s=false:=by
 simp only [bigL,Bool.or_eq_false_iff,decide_eq_false_iff_not,List.any_eq_false] at h
 exact ⟨by omega,fun s hs=>by simpa using h.2 s hs⟩
end Go.Proofs.YtdcadiaeaclpgaaGreatDoor
