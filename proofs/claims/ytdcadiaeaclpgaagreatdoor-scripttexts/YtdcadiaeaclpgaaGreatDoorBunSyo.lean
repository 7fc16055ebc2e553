/-
  Order as the document sees it. Pure.
  The document's at: where a name stands.
  The document's Order.
  The document's Needs.
-/
import Derived.Test.YtdcadiaeaclpgaaGreatDoorBunSye
import Derived.Test.YtdcadiaeaclpgaaGreatDoorBunScj
namespace Go.Proofs.YtdcadiaeaclpgaaGreatDoor
open Go Go.RowKit Go.Lib Go.Sort
set_option linter.unusedVariables false
set_option linter.unusedSimpArgs false
set_option maxHeartbeats 12800000
set_option maxRecDepth 1000000
def atN (L:List St) (nm:ByteArray) (k:Nat):Option Nat:=(L.take k).findIdx? fun s=>decide (s.nm=nm)
theorem atN_zero (L:List St) (nm:ByteArray):atN L nm 0=none:=rfl
theorem atN_succ {L:List St} {nm:ByteArray} {k:Nat} {s:St} (h:L[k]?=some s):atN L nm (k+1)=match atN L nm k with
    |some i=>some i
    |none=>if s.nm=nm then some k else none:=by
 have hk:k < L.length:=(List.getElem?_eq_some_iff.1 h).1
 have hl:(L.take k).length=k:=by simp; omega
 unfold atN
 rw [List.take_add_one,h]
 show ((L.take k)++[s]).findIdx? _=_
 rw [List.findIdx?_append,hl]
 cases (L.take k).findIdx? fun s=>decide (s.nm=nm) with
 |some i=>rfl
 |none =>
  by_cases hn:s.nm=nm
  ·simp [hn]
  ·simp [hn]
def badS (L:List St) (i:Nat) (s:St):Bool:=(decide (s.nm.size≠0) && (atN L s.nm i).isSome) || s.ags.any fun a=>decide (a.k=1) && (atN L a.nm i).isNone
theorem all_okA {L:List St} {F:NmF} {i:Nat} {G:List Ag} (hF:∀ t:ByteArray,t.size≠0→F t=atN L t i) (hG:∀ a∈G,a.k=1→a.nm.size≠0):G.all (okA F)=!(G.any fun a=>decide (a.k=1) && (atN L a.nm i).isNone):=by
 induction G with
 |nil=>rfl
 |cons a G ih =>
  rw [List.all_cons,List.any_cons,ih (fun a ha=>hG a (by simp [ha]))]
  unfold okA
  by_cases hk:a.k=1
  ·rw [hF a.nm (hG a (by simp) hk)]
   cases atN L a.nm i <;> simp [hk]
  ·simp [hk]
theorem std_doc (L:List St) (hok:∀ s∈L,∀ a∈s.ags,a.k=1→a.nm.size≠0):∀ (l:List St) (i:Nat) (F:NmF),L.drop i=l→(∀ t:ByteArray,t.size≠0→F t=atN L t i) →
    (∀ j,stdL l i F=.inl j→i≤j∧(∃ s,L[j]?=some s∧badS L j s=true)∧∀ k,i≤k→k < j→∀ s,L[k]?=some s→badS L k s=false) ∧
    (∀ G,stdL l i F=.inr G→(∀ k,i≤k→∀ s,L[k]?=some s→badS L k s=false)∧∀ t:ByteArray,t.size≠0→G t=atN L t L.length)
 |[],i,F,hd,hF=>by
  have hi:L.length≤i:=List.drop_eq_nil_iff.1 hd
  refine ⟨fun j h=>(by cases h),fun G h=>?_⟩
  simp only [stdL] at h
  obtain rfl:=Sum.inr.inj h
  refine ⟨fun k hk s hs=>?_,fun t ht=>?_⟩
  ·have:=(List.getElem?_eq_some_iff.1 hs).1
   omega
  ·rw [hF t ht]
   unfold atN
   rw [List.take_of_length_le hi,List.take_of_length_le (Nat.le_refl _)]
 |s :: l,i,F,hd,hF=>by
  have hi:L[i]?=some s:=by
   have h3:(L.drop i)[0]?=some s:=by rw [hd]; rfl
   simpa using h3
  have hd2:L.drop (i+1)=l:=by
   rw [← List.drop_drop,hd]
   rfl
  have hall:=all_okA hF (hok s (List.mem_of_getElem? hi))
  have hstep:∀ F',stepS F s i=some F'→badS L i s=false∧∀ t:ByteArray,t.size≠0→F' t=atN L t (i+1):=by
   intro F' h
   unfold stepS at h
   split at h
   ·rename_i h1
    rw [hall] at h1
    split at h
    ·rename_i h0
     obtain rfl:=Option.some.inj h
     refine ⟨?_,fun t ht=>?_⟩
     ·unfold badS
      simp only [Bool.not_eq_true',Bool.not_eq_eq_eq_not,Bool.not_true] at h1
      rw [h1]
      simp [h0]
     ·rw [atN_succ hi,hF t ht]
      cases hx:atN L t i with
      |some j=>rfl
      |none =>
       dsimp only
       rw [if_neg]
       intro e
       rw [e] at h0
       exact ht h0
    ·rename_i h0
     split at h
     ·cases h
     ·rename_i h2
      obtain rfl:=Option.some.inj h
      rw [hF s.nm h0] at h2
      refine ⟨?_,fun t ht=>?_⟩
      ·unfold badS
       simp only [Bool.not_eq_true',Bool.not_eq_eq_eq_not,Bool.not_true] at h1
       rw [h1]
       simpa using fun _=>by simpa using h2
      ·rw [atN_succ hi]
       unfold putN
       by_cases e:t=s.nm
       ·subst e
        rw [if_pos rfl]
        cases hx:atN L s.nm i with
        |some j=>rw [hx] at h2; simp at h2
        |none=>simp
       ·rw [if_neg e,hF t ht]
        cases hx:atN L t i with
        |some j=>rfl
        |none =>
         dsimp only
         rw [if_neg (fun e2=>e e2.symm)]
   ·cases h
  have hno:stepS F s i=none→badS L i s=true:=by
   intro h
   unfold stepS at h
   unfold badS
   split at h
   ·split at h
    ·cases h
    ·rename_i h0
     split at h
     ·rename_i h2
      rw [hF s.nm h0] at h2
      simp [h0,h2]
     ·cases h
   ·rename_i h1
    rw [hall] at h1
    simp only [Bool.not_eq_true',Bool.not_eq_false] at h1
    rw [h1]
    simp
  unfold stdL
  cases hs:stepS F s i with
  |none =>
   dsimp only
   refine ⟨fun j h=>?_,fun G h=>(by cases h)⟩
   obtain rfl:=Sum.inl.inj h
   exact ⟨Nat.le_refl _,⟨s,hi,hno hs⟩,fun k h1 h2=>by omega⟩
  |some F' =>
   dsimp only
   obtain ⟨hb,hF'⟩:=hstep F' hs
   obtain ⟨h1,h2⟩:=std_doc L hok l (i+1) F' hd2 hF'
   refine ⟨fun j h=>?_,fun G h=>?_⟩
   ·obtain ⟨g1,g2,g3⟩:=h1 j h
    refine ⟨by omega,g2,fun k hk1 hk2 s' hs'=>?_⟩
    rcases Nat.eq_or_lt_of_le hk1 with e | e
    ·subst e
     rw [hi] at hs'
     obtain rfl:=Option.some.inj hs'
     exact hb
    ·exact g3 k e hk2 s' hs'
   ·obtain ⟨g1,g2⟩:=h2 G h
    refine ⟨fun k hk s' hs'=>?_,g2⟩
    rcases Nat.eq_or_lt_of_le hk with e | e
    ·subst e
     rw [hi] at hs'
     obtain rfl:=Option.some.inj hs'
     exact hb
    ·exact g1 k e s' hs'
theorem okS_names {L:List St} (h:L.all okS=true):∀ s∈L,∀ a∈s.ags,a.k=1→a.nm.size≠0:=by
 intro s hs a ha hk h0
 have h1:=(ok_parts (List.all_eq_true.1 h s hs)).2.2.2 a ha
 unfold mayA at h1
 rw [if_pos hk] at h1
 simp only [Bool.and_eq_true,isNm,decide_eq_true_eq] at h1
 omega
theorem ckE_ok {L:List St} (h:(ckE L).2=0):L.length≤4096∧L.all okS=true:=by
 unfold ckE at h
 split at h
 ·cases h
 ·rename_i h1
  split at h
  ·rename_i h2
   exact ⟨by omega,h2⟩
  ·cases h
theorem ord_bad {L:List St} {i:Nat} {s:St} (hc:(ckE L).2=0) (hn:∀ k,k < i→∀ s,L[k]?=some s→badS L k s=false) (hi:L[i]?=some s) (hb:badS L i s=true):ordE L=((i:Int),401):=by
 obtain ⟨h1,h2⟩:=std_doc L (okS_names (ckE_ok hc).2) L 0 noN rfl (fun t _=>(atN_zero L t).symm)
 unfold ordE
 rw [if_neg (by rw [hc]; simp)]
 cases hs:stdL L 0 noN with
 |inl j =>
  obtain ⟨_,⟨s',hs',hb'⟩,g3⟩:=h1 j hs
  dsimp only
  rcases Nat.lt_trichotomy i j with h | h | h
  ·rw [g3 i (Nat.zero_le _) h s hi] at hb
   cases hb
  ·rw [h]
  ·rw [hn j h s' hs'] at hb'
   cases hb'
 |inr G =>
  rw [(h2 G hs).1 i (Nat.zero_le _) s hi] at hb
  cases hb
theorem ord_good {L:List St} (hc:(ckE L).2=0) (hn:∀ k,k < L.length→∀ s,L[k]?=some s→badS L k s=false):ordE L=((L.length:Int),0)∧∃ G,stdL L 0 noN=.inr G∧∀ t:ByteArray,t.size≠0→G t=atN L t L.length:=by
 obtain ⟨h1,h2⟩:=std_doc L (okS_names (ckE_ok hc).2) L 0 noN rfl (fun t _=>(atN_zero L t).symm)
 unfold ordE
 rw [if_neg (by rw [hc]; simp)]
 cases hs:stdL L 0 noN with
 |inl j =>
  obtain ⟨_,⟨s',hs',hb'⟩,g3⟩:=h1 j hs
  rw [hn j (List.getElem?_eq_some_iff.1 hs').1 s' hs'] at hb'
  cases hb'
 |inr G=>exact ⟨rfl,G,rfl,(h2 G hs).2⟩
def atI (L:List St) (nm:ByteArray) (k:Nat):Int:=match atN L nm k with
 |some i=>i
 |none=>-1
theorem atI_none {L:List St} {nm:ByteArray} {k:Nat} (h:atN L nm k=none):atI L nm k=-1:=by
 unfold atI
 rw [h]
theorem atI_some {L:List St} {nm:ByteArray} {k i:Nat} (h:atN L nm k=some i):atI L nm k=i:=by
 unfold atI
 rw [h]
theorem atN_found {L:List St} {nm:ByteArray} {i:Nat} (h0:atN L nm i=none) {s:St} (hi:L[i]?=some s) (hs:s.nm=nm):∀ k,i < k→k≤L.length→atN L nm k=some i:=by
 intro k
 induction k with
 |zero=>intro h; omega
 |succ k ih =>
  intro h1 h2
  obtain ⟨t,ht⟩:∃ t,L[k]?=some t:=⟨_,List.getElem?_eq_getElem (by omega)⟩
  rw [atN_succ ht]
  rcases Nat.eq_or_lt_of_le (Nat.le_of_lt_succ h1) with e | e
  ·subst e
   rw [h0]
   rw [hi] at ht
   obtain rfl:=Option.some.inj ht
   simp [hs]
  ·rw [ih e (by omega)]
theorem atN_miss {L:List St} {nm:ByteArray} {i:Nat} (h0:atN L nm i=none) {s:St} (hi:L[i]?=some s) (hs:¬ s.nm=nm):atN L nm (i+1)=none:=by
 rw [atN_succ hi,h0]
 simp [hs]
theorem atN_less {L:List St} {nm:ByteArray} {j:Nat}:∀ {k:Nat},k≤L.length→atN L nm k=some j→∀ i,j < i→i≤k→atN L nm i=some j:=by
 intro k hk h i h1 h2
 have hmono:∀ d i,i+d=k→j < i→atN L nm i=some j:=by
  intro d
  induction d with
  |zero=>intro i hi _; obtain rfl:i=k:=by omega
         exact h
  |succ d ih =>
   intro i hi hj
   have h3:=ih (i+1) (by omega) (by omega)
   obtain ⟨t,ht⟩:∃ t,L[i]?=some t:=⟨_,List.getElem?_eq_getElem (by omega)⟩
   rw [atN_succ ht] at h3
   cases hx:atN L nm i with
   |some q=>rw [hx] at h3; exact h3
   |none =>
    rw [hx] at h3
    dsimp only at h3
    split at h3
    ·have:=Option.some.inj h3
     omega
    ·cases h3
 exact hmono (k - i) i (by omega) h1
theorem rat_any (w:World) (v:Value) (L:List St) (nm:ByteArray) (k:Nat) (ki:Int) (hki:ki=k) (hv:Sts w v L) (hl:L.length≤1000000000000000) (hk:k≤L.length) :
    Calls Tryz.prog 53 #[v,.string nm,.int .i64 ki] w fun e w'=>e=.returned (.int .i64 (atI L nm k))∧w.grownBy w' none:=by
 obtain ⟨ab,c,rfl,HR⟩:=hv.reads
 have HR1:Hid (∀ w',w.grownBy w' none→∀ i s,L[i]?=some s→∃ B off u,ab=some ⟨B,off,none⟩∧StAt w' B (off+i*3) s u∧L.length≤c):=HR
 have HFd:Hid (∀ i s,atN L nm i=none→L[i]?=some s→s.nm=nm→i < k→atI L nm k=i):=fun i s h0 hi hs hik=>atI_some (atN_found h0 hi hs k hik hk)
 have HMs:Hid (∀ i s,atN L nm i=none→L[i]?=some s→¬ s.nm=nm→atN L nm (i+1)=none):=fun i s h0 hi hs=>atN_miss h0 hi hs
 have HZ:Hid (atN L nm 0=none):=atN_zero _ _
 have HNo:Hid (atN L nm k=none→atI L nm k=-1):=atI_none
 generalize atI L nm k=r at *
 obtain ⟨n,hn⟩:∃ n,L.length=n:=⟨_,rfl⟩
 have HLn:Unit→L.length=n:=fun _=>hn
 rw [hn] at hl hk ⊢
 simp only [hn] at HR1
 clear hn HR hv
 subst hki
 have hnI:(n:Int)≤1000000000000000:=by omega
 have hkI:(k:Int)≤n:=by omega
 go_enter Tryz.func53,Tryz.ntmps53
 go_wp2_with fail
 go_loopw [7] (fun s7 wr=>∃ i:Nat,i≤k∧s7=.int .i64 i∧atN L nm i=none∧w.grownBy wr none) (fun s _=>match s with | .int _ i=>k - i.toNat | _=>0)
 case atStart=>exact ⟨0,by omega,rfl,HZ.out,grow0 _⟩
 case round =>
  obtain ⟨i,hi,rfl,hp,hg⟩:=hrel
  have HP:Hid (atN L nm i=none):=hp
  have HG:Hid (w.grownBy wr none):=hg
  clear hp hg
  by_cases hlt:i < k
  ·have hlt':i < L.length:=by rw [HLn ()]; omega
   obtain ⟨s,his⟩:∃ s,L[i]?=some s:=⟨_,List.getElem?_eq_getElem hlt'⟩
   obtain ⟨B,off,u,rfl,hat,hnc⟩:=HR1.out wr HG.out i _ his
   have HF2:Hid (s.nm=nm→r=i):=fun h=>HFd.out i s HP.out his h hlt
   have HM2:Hid (¬ s.nm=nm→atN L nm (i+1)=none):=HMs.out i s HP.out his
   obtain ⟨k0,k1,k2,hA⟩:=hat
   have hxe:(s.nm.toList == nm.toList)=decide (s.nm=nm):=by
    rw [Bool.eq_iff_iff,beq_iff_eq,decide_eq_true_eq]
    exact ⟨fun h=>by rw [ByteArray.toList_eq,ByteArray.toList_eq] at h; exact ba_eq h,fun h=>by rw [h]⟩
   have hltI:(i:Int) < k:=by omega
   have hltJ:(i:Int) < n:=by omega
   clear hlt' his hA HFd HMs HR1
   generalize s.nm=sn at *
   by_cases hs:sn=nm
   ·have hr:r=i:=HF2.out hs
    have hxt:(sn.toList == nm.toList)=true:=by rw [hxe]; exact decide_eq_true hs
    clear hs hxe HF2 HM2
    go_wp2_with fail
    go_ret
    exact ⟨by rw [hr]; first | done | rfl,HG.out⟩
   ·have HT:Hid (atN L nm (i+1)=none):=HM2.out hs
    have hxt:(sn.toList == nm.toList)=false:=by rw [hxe]; exact decide_eq_false hs
    clear hs hxe HF2 HM2
    go_wp2_with fail
    go_roundw
    case rel=>exact ⟨i+1,by omega,num_eq (by omega),HT.out,HG.out⟩
    case measure=>simp <;> omega
  ·have e:i=k:=by omega
   subst e
   have hr:r=-1:=HNo.out HP.out
   go_wp2_with fail
   go_ret
   exact ⟨by rw [hr]; first | done | rfl,HG.out⟩
def badA (L:List St) (i:Nat) (a:Ag):Bool:=decide (a.k=1) && (atN L a.nm i).isNone
theorem badS_is (L:List St) (i:Nat) (s:St):badS L i s=((decide (s.nm.size≠0) && (atN L s.nm i).isSome) || s.ags.any (badA L i)):=rfl
theorem anyG_take {f:Ag→Bool} {L:List Ag} {i:Nat} {a:Ag} (h:(L.take i).any f=false) (hi:L[i]?=some a) (hf:f a=false):(L.take (i+1)).any f=false:=by
 rw [List.take_add_one,hi,List.any_append,h]
 simpa using hf
theorem anyG_yes {f:Ag→Bool} {L:List Ag} {i:Nat} {a:Ag} (hi:L[i]?=some a) (hf:f a=true):L.any f=true :=
 List.any_eq_true.2 ⟨a,List.mem_of_getElem? hi,hf⟩
theorem rord_any (w:World) (v:Value) (L:List St) (hv:Sts w v L) (hl:L.length≤4096) (hf:∀ s∈L,s.Fit) :
    Calls Tryz.prog 24 #[v] w fun e w'=>e=.returned (.tuple #[.int .i64 (ordE L).1,.int .i64 (ordE L).2])∧w.grownBy w' none:=by
 have HAt:Hid (∀ W nm k,w.grownBy W none→k≤L.length→Calls Tryz.prog 53 #[v,.string nm,.int .i64 (k:Nat)] W fun e w'=>e=.returned (.int .i64 (atI L nm k))∧W.grownBy w' none):=fun W nm k hg hk=>rat_any W v L nm k _ rfl (hv.kept hg) (by omega) hk
 obtain ⟨ab,c,rfl,HR⟩:=hv.reads
 have HR1:Hid (∀ w',w.grownBy w' none→∀ i s,L[i]?=some s→∃ B off u,ab=some ⟨B,off,none⟩∧StAt w' B (off+i*3) s u∧L.length≤c):=HR
 have HF:Hid (∀ s∈L,s.Fit):=hf
 have HB1:Hid (∀ i s,(L.take i).all okS=true→L[i]?=some s→okS s=false→ordE L=((i:Int),2)):=fun i s hp hi hs=>by
  obtain ⟨h2,h3⟩:=ckP_at hp hi hs
  have e:ckE L=((i:Int),2):=by
   unfold ckE
   rw [if_neg (by omega),if_neg (by rw [h3]; simp),h2]
  unfold ordE
  rw [e]
  rfl
 have HCk:Hid (L.all okS=true→(ckE L).2=0):=fun h=>by
  unfold ckE
  rw [if_neg (by omega),if_pos h]
 have HB2:Hid ((ckE L).2=0→∀ i s,(∀ k,k < i→∀ s,L[k]?=some s→badS L k s=false)→L[i]?=some s→badS L i s=true→ordE L=((i:Int),401)):=fun hc i s hn hi hb=>ord_bad hc hn hi hb
 have HGd:Hid ((ckE L).2=0→(∀ k,k < L.length→∀ s,L[k]?=some s→badS L k s=false)→ordE L=((L.length:Int),0)):=fun hc hn=>(ord_good hc hn).1
 generalize ordE L=r at *
 obtain ⟨n,hn⟩:∃ n,L.length=n:=⟨_,rfl⟩
 have HLn:Unit→L.length=n:=fun _=>hn
 rw [hn] at hl
 simp only [hn] at HR1 HAt HGd ⊢
 clear hn HR hv hf
 obtain ⟨r1,r2⟩:=r
 have hnI:(n:Int)≤4096:=by omega
 go_enter Tryz.func24,Tryz.ntmps24
 go_wp2_with fail
 go_loopw [4] (fun s4 wr=>∃ i:Nat,i≤n∧s4=.int .i64 i∧(L.take i).all okS=true∧w.grownBy wr none) (fun s _=>match s with | .int _ i=>n - i.toNat | _=>0)
 case atStart=>exact ⟨0,by omega,rfl,rfl,grow0 _⟩
 case round =>
  obtain ⟨i,hi,rfl,hp,hg⟩:=hrel
  have HP:Hid ((L.take i).all okS=true):=hp
  have HG:Hid (w.grownBy wr none):=hg
  clear hp hg
  by_cases hlt:i < n
  ·have hlt':i < L.length:=by rw [HLn ()]; exact hlt
   obtain ⟨s,his⟩:∃ s,L[i]?=some s:=⟨_,List.getElem?_eq_getElem hlt'⟩
   obtain ⟨B,off,u,rfl,hat,hnc⟩:=HR1.out wr HG.out i _ his
   have hfit:=HF.out s (List.mem_of_getElem? his)
   have HT:Hid (okS s=true→(L.take (i+1)).all okS=true):=fun h=>allS_take HP.out his h
   have HX:Hid (okS s=false→(r1,r2)=((i:Int),(2:Int))):=HB1.out i s HP.out his
   obtain ⟨k0,k1,k2,hA⟩:=hat
   obtain ⟨ab2,c2,rfl⟩:=hA.form
   have HC:Hid (∀ W,wr.grownBy W none→Calls Tryz.prog 16 #[.agg #[.string s.vb,.string s.nm,.slice ab2 s.ags.length c2]] W fun e w'=>e=.returned (.int .i64 (chkS s))∧W.grownBy w' none):=fun W hg=>rCheck_any W _ s ⟨_,rfl,hA.kept hg⟩ hfit
   have hltI:(i:Int) < n:=by omega
   clear hlt' his hA hfit
   generalize s.ags.length=m at *
   cases hb:okS s
   ·have hc2:chkS s=2:=by
      unfold chkS
      rw [hb]
      rfl
    rw [hc2] at HC
    have HX2:Hid ((r1,r2)=((i:Int),(2:Int))):=HX.out hb
    clear hb HX HT hc2
    go_wp2_with fail
    refine (HC.out _ (grow0 _)).mono ?_
    rintro e w1 ⟨rfl,hg⟩
    have HG1:Hid (w.grownBy w1 none):=grownBy_trans HG.out hg
    clear hg HC
    go_wp2_with fail
    refine bodyPost_ret (results_tmp2 rfl _ _ _) rfl ?_
    refine ⟨?_,HG1.out⟩
    obtain ⟨rfl,rfl⟩:=Prod.mk.inj HX2.out
    rfl
   ·have hc0:chkS s=0:=by
      unfold chkS
      rw [hb]
      rfl
    rw [hc0] at HC
    have HT2:Hid ((L.take (i+1)).all okS=true):=HT.out hb
    clear hb HX HT hc0
    go_wp2_with fail
    refine (HC.out _ (grow0 _)).mono ?_
    rintro e w1 ⟨rfl,hg⟩
    have HG1:Hid (w.grownBy w1 none):=grownBy_trans HG.out hg
    clear hg HC
    go_wp2_with fail
    go_roundw
    case rel=>exact ⟨i+1,by omega,num_eq (by omega),HT2.out,HG1.out⟩
    case measure=>simp <;> omega
  ·obtain rfl:i=n:=by omega
   have HC0:Hid ((ckE L).2=0):=by
    show _=_
    have h2:=HP.out
    rw [← HLn (),List.take_length] at h2
    exact HCk.out h2
   have HB3:Hid (∀ k s,(∀ k',k' < k→∀ s,L[k']?=some s→badS L k' s=false)→L[k]?=some s→badS L k s=true→(r1,r2)=((k:Int),(401:Int))):=HB2.out HC0.out
   have HGd3:Hid ((∀ k,k < i→∀ s,L[k]?=some s→badS L k s=false)→(r1,r2)=((i:Int),(0:Int))):=HGd.out HC0.out
   have hlI:decide ((i:Int) < (i:Int))=false:=decide_eq_false (by omega)
   clear HB1 HB2 HCk HGd HP HC0
   go_wp2_with fail
   clear hlI
   obtain ⟨w5,hw5⟩:∃ w5,w5=wr:=⟨_,rfl⟩
   subst hw5
   have HG5:Hid (w.grownBy w5 none):=HG.out
   clear HG hi
   have hiN:Unit→i≤4096:=fun _=>hl
   go_loopw [5] (fun s5 wr=>∃ k:Nat,k≤i∧s5=.int .i64 k∧(∀ k',k' < k→∀ s,L[k']?=some s→badS L k' s=false)∧w.grownBy wr none) (fun s _=>match s with | .int _ k=>i - k.toNat | _=>0)
   case atStart=>exact ⟨0,by omega,rfl,fun k' h=>by omega,HG5.out⟩
   case round =>
    obtain ⟨k,hk,rfl,hp,hg⟩:=hrel
    have HP:Hid (∀ k',k' < k→∀ s,L[k']?=some s→badS L k' s=false):=hp
    have HG:Hid (w.grownBy wr none):=hg
    clear hp hg
    by_cases hlt:k < i
    ·have hlt':k < L.length:=by rw [HLn ()]; exact hlt
     obtain ⟨s,his⟩:∃ s,L[k]?=some s:=⟨_,List.getElem?_eq_getElem hlt'⟩
     obtain ⟨B,off,u,rfl,hat,hnc⟩:=HR1.out wr HG.out k _ his
     have hfit:=HF.out s (List.mem_of_getElem? his)
     have HT:Hid (badS L k s=false→∀ k',k' < k+1→∀ s,L[k']?=some s→badS L k' s=false):=fun h k' hk' s' hs'=>by
      rcases Nat.lt_succ_iff_lt_or_eq.1 hk' with h1 | rfl
      ·exact HP.out k' h1 s' hs'
      ·rw [his] at hs'
       obtain rfl:=Option.some.inj hs'
       exact h
     have HX:Hid (badS L k s=true→(r1,r2)=((k:Int),(401:Int))):=HB3.out k s HP.out his
     rw [badS_is] at HT HX
     have HS:Hid (StAt wr B (off+k*3) s u):=hat
     obtain ⟨ab2,c2,rfl,HRa⟩:=hat.a.reads
     have HRA:Hid (∀ w',wr.grownBy w' none→∀ j a,s.ags[j]?=some a→∃ B off wv,ab2=some ⟨B,off,none⟩∧AgAt w' B (off+j*12) a wv∧Ints w' wv a.wd∧s.ags.length≤c2):=HRa
     have hltI:(k:Int) < i:=by omega
     have hmI:(s.ags.length:Int)≤1000000000000:=by
      have:=hfit.len
      omega
     have k1:=hat.c1
     clear hlt' his hat HRa hfit
     obtain ⟨vb,nm,ags⟩:=s
     simp only at HT HX HRA k1 hmI
     have hcase:nm.size=0∨(nm.size≠0∧atN L nm k=none)∨(nm.size≠0∧∃ p,atN L nm k=some p):=by
      by_cases h0:nm.size=0
      ·exact .inl h0
      ·cases h:atN L nm k with
       |none=>exact .inr (.inl ⟨h0,rfl⟩)
       |some p=>exact .inr (.inr ⟨h0,p,rfl⟩)
     rcases hcase with h0 | ⟨h0,hat⟩ | ⟨h0,p,hat⟩
     case' inr.inr =>
      have HX2:Hid ((r1,r2)=((k:Int),(401:Int))):=HX.out (by rw [hat]; simp [h0])
      have he:=isEmpty_of h0
      have HC:=HAt.out wr nm k HG.out (by omega)
      rw [atI_some hat] at HC
      have hpI:(0:Int)≤p:=by omega
      clear h0 hat HX HT
      go_wp2_with fail
      refine HC.mono ?_
      rintro e w1 ⟨rfl,hg⟩
      have HG1:Hid (w.grownBy w1 none):=grownBy_trans HG.out hg
      clear hg HC
      go_wp2_with fail
      refine bodyPost_ret (results_tmp2 rfl _ _ _) rfl ?_
      refine ⟨?_,HG1.out⟩
      obtain ⟨rfl,rfl⟩:=Prod.mk.inj HX2.out
      rfl
     case' inl =>
      have HT2:Hid (ags.any (badA L k)=false→∀ k',k' < k+1→∀ s,L[k']?=some s→badS L k' s=false):=fun h=>HT.out (by rw [h]; simp [h0])
      have HX2:Hid (ags.any (badA L k)=true→(r1,r2)=((k:Int),(401:Int))):=fun h=>HX.out (by rw [h]; simp)
      obtain rfl:=empty_of_size h0
      clear h0 HX HT
      go_upto_region 13 with fail
      have HG1:Hid (w.grownBy wr none):=HG.out
      have HG2:Hid (wr.grownBy wr none):=grow0 _
      obtain ⟨w1,hw1⟩:∃ w1,w1=wr:=⟨_,rfl⟩
      have HG1:Hid (w.grownBy w1 none):=by rw [hw1]; exact HG.out
      have HG2:Hid (wr.grownBy w1 none):=by rw [hw1]; exact grow0 _
      rw [← hw1]
      clear hw1 HG
     case' inr.inl =>
      have HT2:Hid (ags.any (badA L k)=false→∀ k',k' < k+1→∀ s,L[k']?=some s→badS L k' s=false):=fun h=>HT.out (by rw [h,hat]; simp)
      have HX2:Hid (ags.any (badA L k)=true→(r1,r2)=((k:Int),(401:Int))):=fun h=>HX.out (by rw [h]; simp)
      have he:=isEmpty_of h0
      have HC:=HAt.out wr nm k HG.out (by omega)
      rw [atI_none hat] at HC
      clear h0 hat HX HT
      go_wp2_with fail
      refine HC.mono ?_
      rintro e w1 ⟨rfl,hg⟩
      have HG1:Hid (w.grownBy w1 none):=grownBy_trans HG.out hg
      have HG2:Hid (wr.grownBy w1 none):=hg
      clear hg HC HG
      go_upto_region 13 with fail
     all_goals (
      clear k1
      have HS1:=HS.out.kept HG2.out
      obtain ⟨m,hm⟩:∃ m,ags.length=m:=⟨_,rfl⟩
      have HLm:Unit→ags.length=m:=fun _=>hm
      simp only [hm] at HRA HS1 hmI
      have HSk:Hid (StAt w1 B (off+k*3) ⟨vb,_,ags⟩ (.slice ab2 m c2)):=HS1
      clear hm HS HS1
      go_wp2_with fail
      go_loopw [6] (fun s6 wx=>∃ j:Nat,j≤m∧s6=.int .i64 j∧(ags.take j).any (badA L k)=false∧w1.grownBy wx none) (fun s _=>match s with | .int _ j=>m - j.toNat | _=>0)
      case atStart=>exact ⟨0,by omega,rfl,rfl,grow0 _⟩
      case round =>
       obtain ⟨j,hj,rfl,hp,hg⟩:=hrel
       have HP2:Hid ((ags.take j).any (badA L k)=false):=hp
       have HG3:Hid (w1.grownBy wr none):=hg
       have hS:=HSk.out.kept hg
       have b2:=hS.c2
       clear hp hg hS
       by_cases hltj:j < m
       ·have hltj':j < ags.length:=by rw [HLm ()]; exact hltj
        obtain ⟨a,hja⟩:∃ a,ags[j]?=some a:=⟨_,List.getElem?_eq_getElem hltj'⟩
        obtain ⟨B2,off2,wv,rfl,hat,hin,hnc2⟩:=HRA.out wr (grownBy_trans HG2.out HG3.out) j _ hja
        have HT3:Hid (badA L k a=false→(ags.take (j+1)).any (badA L k)=false):=fun h=>anyG_take HP2.out hja h
        have HX3:Hid (badA L k a=true→(r1,r2)=((k:Int),(401:Int))):=fun h=>HX2.out (anyG_yes hja h)
        have HBa:Hid (badA L k a=(decide (a.k=1) && (atN L a.nm k).isNone)):=rfl
        obtain ⟨l0,l1,l2,l3,l4,l5,l6,l7,l8,l9,l10,l11⟩:=hat
        obtain ⟨ab3,c3,rfl⟩:=hin.form
        generalize a.wd.length=m3 at *
        have hltjI:(j:Int) < m:=by omega
        have hjI:(j:Int)≤1000000000000:=by omega
        have HG4:Hid (w.grownBy (wr.alloc (.cells (agc a (.slice ab3 m3 c3)) 45)) none):=grownBy_trans HG1.out (grownBy_trans HG3.out (grow1 _ _))
        have HG6:Hid (w1.grownBy (wr.alloc (.cells (agc a (.slice ab3 m3 c3)) 45)) none):=grownBy_trans HG3.out (grow1 _ _)
        clear hltj' hja hin HRA
        obtain ⟨ak,anm,z,wd,ct⟩:=a
        simp only at l0 l1 l2 l3 l4 l5 l6 l7 l8 l9 l10 l11 HBa
        have HC0:=HAt.out _ anm k HG4.out (by omega)
        by_cases hk1:ak=1
        ·subst hk1
         cases hst:atN L anm k with
         |none =>
          have HX4:Hid ((r1,r2)=((k:Int),(401:Int))):=HX3.out (by rw [HBa.out,hst]; rfl)
          rw [atI_none hst] at HC0
          clear HX3 HT3 HBa HX2 HT2 hst
          go_wp2_with fail
          refine HC0.mono ?_
          rintro e w7 ⟨rfl,hg⟩
          have HG7:Hid (w.grownBy w7 none):=grownBy_trans HG4.out hg
          clear hg HC0
          go_wp2_with fail
          refine bodyPost_ret (results_tmp2 rfl _ _ _) rfl ?_
          refine ⟨?_,HG7.out⟩
          obtain ⟨rfl,rfl⟩:=Prod.mk.inj HX4.out
          rfl
         |some p =>
          have HT4:Hid ((ags.take (j+1)).any (badA L k)=false):=HT3.out (by rw [HBa.out,hst]; rfl)
          rw [atI_some hst] at HC0
          have hpI:(0:Int)≤p:=by omega
          clear HX3 HT3 HBa hst
          go_wp2_with fail
          refine HC0.mono ?_
          rintro e w7 ⟨rfl,hg⟩
          have HG7:Hid (w1.grownBy w7 none):=grownBy_trans HG6.out hg
          clear hg HC0
          go_wp2_with fail
          go_roundw
          case rel=>exact ⟨j+1,by omega,num_eq (by omega),HT4.out,HG7.out⟩
          case measure=>simp <;> omega
        ·have hkb:(ak == 1)=false:=by simpa using hk1
         have HT4:Hid ((ags.take (j+1)).any (badA L k)=false):=HT3.out (by rw [HBa.out]; simp [hk1])
         clear HX3 HT3 HBa hk1 HC0
         go_wp2_with fail
         go_roundw
         case rel=>exact ⟨j+1,by omega,num_eq (by omega),HT4.out,HG6.out⟩
         case measure=>simp <;> omega
       ·have hmj:decide ((j:Int) < (m:Int))=false:=decide_eq_false (by omega)
        have HT5:Hid (∀ k',k' < k+1→∀ s,L[k']?=some s→badS L k' s=false):=by
         have h:=HP2.out
         rw [List.take_of_length_le (by rw [HLm ()]; omega)] at h
         exact HT2.out h
        have HG8:Hid (w.grownBy wr none):=grownBy_trans HG1.out HG3.out
        clear HT2 HX2
        go_wp2_with fail
        go_roundw
        case rel=>exact ⟨k+1,by omega,num_eq (by omega),HT5.out,HG8.out⟩
        case measure=>simp <;> omega)
    ·obtain rfl:k=i:=by omega
     have HX:Hid ((r1,r2)=((k:Int),(0:Int))):=HGd3.out HP.out
     have hlI:decide ((k:Int) < (k:Int))=false:=decide_eq_false (by omega)
     go_wp2_with fail
     refine bodyPost_ret (results_tmp2 rfl _ _ _) rfl ?_
     refine ⟨?_,HG.out⟩
     obtain ⟨rfl,rfl⟩:=Prod.mk.inj HX.out
     rfl
theorem stdL_empty (t:ByteArray) (ht:t.size=0):∀ (L:List St) (i:Nat) (F G:NmF),stdL L i F=.inr G→F t=none→G t=none
 |[],i,F,G,h,hF=>by
  simp only [stdL] at h
  obtain rfl:=Sum.inr.inj h
  exact hF
 |s :: L,i,F,G,h,hF=>by
  unfold stdL at h
  cases hs:stepS F s i with
  |none=>rw [hs] at h; cases h
  |some F' =>
   rw [hs] at h
   refine stdL_empty t ht L (i+1) F' G h ?_
   unfold stepS at hs
   split at hs
   ·split at hs
    ·obtain rfl:=Option.some.inj hs
     exact hF
    ·rename_i h0
     split at hs
     ·cases hs
     ·obtain rfl:=Option.some.inj hs
      unfold putN
      rw [if_neg]
      ·exact hF
      ·rintro rfl
       exact h0 ht
   ·cases hs
theorem nd_facts {L:List St} (hck:(ordE L).2=0) (hl:L.length≤4096):∃ F,stdL L 0 noN=.inr F∧(∀ t j,F t=some j→j < L.length)∧(∀ t:ByteArray,t.size=0→F t=none)∧(∀ t:ByteArray,t.size≠0→F t=atN L t L.length) ∧
    (∀ k s,L[k]?=some s→∀ a∈s.ags,a.k=1→∃ j,F a.nm=some j∧j < k∧atN L a.nm k=some j):=by
 have hce:(ckE L).2=0:=by
  unfold ordE at hck
  by_cases h:(ckE L).2≠0
  ·rw [if_pos h] at hck
   exact hck
  ·exact Classical.not_not.1 h
 obtain ⟨F,hs⟩:∃ F,stdL L 0 noN=.inr F:=by
  unfold ordE at hck
  rw [if_neg (by simpa using hce)] at hck
  cases h:stdL L 0 noN with
  |inl i=>rw [h] at hck; cases hck
  |inr F=>exact ⟨F,rfl⟩
 obtain ⟨-,hsp1,hsp2⟩:=stdL_spec L 0 noN F hs (fun t j h=>by cases h)
 have hnm:=okS_names (ckE_ok hce).2
 have hat:=((std_doc L hnm L 0 noN rfl (fun t _=>(atN_zero L t).symm)).2 F hs).2
 refine ⟨F,hs,fun t j h=>by have:=hsp1 t j h; omega,fun t ht=>stdL_empty t ht L 0 noN F hs rfl,hat,fun k s h a ha h1=>?_⟩
 obtain ⟨j,h2,h3⟩:=hsp2 k s h a ha h1
 have hk:=(List.getElem?_eq_some_iff.1 h).1
 refine ⟨j,h2,by omega,atN_less (Nat.le_refl _) (by rw [← hat a.nm (hnm s (List.mem_of_getElem? h) a ha h1)]; exact h2) k (by omega) (by omega)⟩
theorem set_left {V Z:List Bool} {p:Nat} (h:p < V.length):(V++Z).set p true=V.set p true++Z:=List.set_append_left _ _ h
theorem rneeds_any (w:World) (v:Value) (L:List St) (nm:ByteArray) (hv:Sts w v L) (hl:L.length≤4096) (hf:∀ s∈L,s.Fit) (hnm:nm.size≤maxLen) :
    Calls Tryz.prog 26 #[v,.string nm] w fun e w'=>(∃ u,e=.returned (.tuple #[u,.int .i64 (ndE L nm).2])∧Ints w' u (ndE L nm).1)∧w.grownBy w' none:=by
 have HO:Hid (Calls Tryz.prog 24 #[v] w fun e w'=>e=.returned (.tuple #[.int .i64 (ordE L).1,.int .i64 (ordE L).2])∧w.grownBy w' none):=rord_any w v L hv hl hf
 have HAt:Hid (∀ W nm k,w.grownBy W none→k≤L.length→Calls Tryz.prog 53 #[v,.string nm,.int .i64 (k:Nat)] W fun e w'=>e=.returned (.int .i64 (atI L nm k))∧W.grownBy w' none):=fun W nm k hg hk=>rat_any W v L nm k _ rfl (hv.kept hg) (by omega) hk
 obtain ⟨ab,c,rfl,HR⟩:=hv.reads
 have HR1:Hid (∀ w',w.grownBy w' none→∀ i s,L[i]?=some s→∃ B off u,ab=some ⟨B,off,none⟩∧StAt w' B (off+i*3) s u∧L.length≤c):=HR
 have HF:Hid (∀ s∈L,s.Fit):=hf
 by_cases hck:(ordE L).2=0
 case neg =>
  have hE:ndE L nm=([],(ordE L).2):=by
   unfold ndE
   rw [if_pos hck]
  rw [hE]
  generalize ordE L=r at *
  obtain ⟨r1,r2⟩:=r
  simp only at hck HO ⊢
  have hr2:(r2 != 0)=true:=by simpa using hck
  clear hck HR hv hf HR1 HF hl hE HAt
  generalize L.length=n at *
  go_enter Tryz.func26,Tryz.ntmps26
  go_wp2_with fail
  refine HO.out.mono ?_
  rintro e w1 ⟨rfl,hg⟩
  have HG:Hid (w.grownBy w1 none):=hg
  clear hg HO
  go_wp2_with fail
  refine bodyPost_ret (results_tmp2 rfl _ _ _) rfl ?_
  exact ⟨⟨_,rfl,Ints.nil _⟩,HG.out⟩
 case pos =>
  obtain ⟨F,hs,hlt,hem,hat,har⟩:=nd_facts hck hl
  have HLt:Hid (∀ t j,F t=some j→j < L.length):=hlt
  have HAr:Hid (∀ k s,L[k]?=some s→∀ a∈s.ags,a.k=1→∃ j,F a.nm=some j∧j < k∧atI L a.nm k=j):=fun k s h a ha h1=>by
   obtain ⟨j,h2,h3,h4⟩:=har k s h a ha h1
   exact ⟨j,h2,h3,atI_some h4⟩
  have hE:ndE L nm=match F nm with
   |none=>([],401)
   |some q=>(idxT 0 (needV F L q),0):=by
   unfold ndE
   rw [if_neg (by simpa using hck),hs]
   first | done | rfl
  rw [hE]
  rw [hck] at HO
  have hnmc:(nm.size=0∧F nm=none)∨(nm.size≠0∧F nm=none∧atI L nm L.length=-1)∨(nm.size≠0∧∃ q,F nm=some q∧atI L nm L.length=q):=by
   by_cases h0:nm.size=0
   ·exact .inl ⟨h0,hem nm h0⟩
   ·cases h:F nm with
    |none=>exact .inr (.inl ⟨h0,rfl,atI_none (by rw [← hat nm h0]; exact h)⟩)
    |some q=>exact .inr (.inr ⟨h0,q,rfl,atI_some (by rw [← hat nm h0]; exact h)⟩)
  have HAtL:Hid (∃ z:Int,atI L nm L.length=z):=⟨_,rfl⟩
  generalize (ordE L).1=r1 at *
  obtain ⟨n,hn⟩:∃ n,L.length=n:=⟨_,rfl⟩
  have HLn:Unit→L.length=n:=fun _=>hn
  simp only [hn] at HR1 HO HLt HAt hl hnmc HAtL ⊢
  have hnI:(n:Int)≤4096:=by omega
  clear hn HR hv hf hck hs hE hat har hem hlt
  rcases hnmc with ⟨h0,hF⟩ | ⟨h0,hF,ha⟩ | ⟨h0,q,hF,ha⟩
  ·obtain rfl:=empty_of_size h0
   have HC:=fun W hg=>HAt.out W ByteArray.empty n hg (Nat.le_refl _)
   rw [hF]
   simp only
   obtain ⟨z,hz⟩:=HAtL.out
   rw [hz] at HC
   clear hz h0 hF HAr HLt
   by_cases hzc:z < 0
   ·go_enter Tryz.func26,Tryz.ntmps26
    go_wp2_with fail
    refine HO.out.mono ?_
    rintro e w1 ⟨rfl,hg⟩
    have HG:Hid (w.grownBy w1 none):=hg
    clear hg HO
    go_wp2_with fail
    refine (HC _ HG.out).mono ?_
    rintro e w2 ⟨rfl,hg⟩
    have HG2:Hid (w.grownBy w2 none):=grownBy_trans HG.out hg
    clear hg
    go_wp2_with fail
    refine bodyPost_ret (results_tmp2 rfl _ _ _) rfl ?_
    exact ⟨⟨_,rfl,Ints.nil _⟩,HG2.out⟩
   ·go_enter Tryz.func26,Tryz.ntmps26
    go_wp2_with fail
    refine HO.out.mono ?_
    rintro e w1 ⟨rfl,hg⟩
    have HG:Hid (w.grownBy w1 none):=hg
    clear hg HO
    go_wp2_with fail
    refine (HC _ HG.out).mono ?_
    rintro e w2 ⟨rfl,hg⟩
    have HG2:Hid (w.grownBy w2 none):=grownBy_trans HG.out hg
    clear hg
    go_wp2_with fail
    refine bodyPost_ret (results_tmp2 rfl _ _ _) rfl ?_
    exact ⟨⟨_,rfl,Ints.nil _⟩,HG2.out⟩
  ·have HC:=fun W hg=>HAt.out W nm n hg (Nat.le_refl _)
   rw [ha] at HC
   rw [hF]
   simp only
   clear ha hF h0 HAr HLt
   go_enter Tryz.func26,Tryz.ntmps26
   go_wp2_with fail
   refine HO.out.mono ?_
   rintro e w1 ⟨rfl,hg⟩
   have HG:Hid (w.grownBy w1 none):=hg
   clear hg HO
   go_wp2_with fail
   refine (HC _ HG.out).mono ?_
   rintro e w2 ⟨rfl,hg⟩
   have HG2:Hid (w.grownBy w2 none):=grownBy_trans HG.out hg
   clear hg
   go_wp2_with fail
   refine bodyPost_ret (results_tmp2 rfl _ _ _) rfl ?_
   exact ⟨⟨_,rfl,Ints.nil _⟩,HG2.out⟩
  ·have HC:=fun W hg=>HAt.out W nm n hg (Nat.le_refl _)
   rw [ha] at HC
   rw [hF]
   simp only
   have he:=isEmpty_of h0
   obtain ⟨R,hR⟩:∃ R,needV F L q=R:=⟨_,rfl⟩
   have HRl:Hid (R.length=q+1):=by
    show _=_
    rw [← hR]
    exact needV_len F L q
   have HR0:Hid (downN F L (q+1) ((List.replicate (q+1) false).set q true)=R):=hR
   rw [hR]
   have hqn:q < n:=HLt.out _ _ hF
   have hqI:(q:Int)≤4096:=by omega
   have hqN:q≤4096:=by omega
   have hqnI:(q:Int) < n:=by omega
   have hq0:(0:Int)≤q:=by omega
   clear hR ha hF h0
   go_enter Tryz.func26,Tryz.ntmps26
   go_wp2_with fail
   refine HO.out.mono ?_
   rintro e w0 ⟨rfl,hg⟩
   have HG0:Hid (w.grownBy w0 none):=hg
   clear hg HO
   go_wp2_with fail
   refine (HC _ HG0.out).mono ?_
   rintro e w1 ⟨rfl,hg⟩
   have HG1:Hid (w.grownBy w1 none):=grownBy_trans HG0.out hg
   clear hg HC HG0
   have hmk:(Instr.makeSlice 104 (.int .i64 (n:Int)) (.int .i64 (n:Int))).run Tryz.prog w1=.ok (.slice (some ⟨w1.heap.size,0,none⟩) n n) (w1.alloc (.cells ((List.replicate n false).map Value.bool).toArray 4)):=make_bools w1 n (by omega)
   have HB0:Hid (BoB (w1.alloc (.cells ((List.replicate n false).map Value.bool).toArray 4)) w1.heap.size (List.replicate n false)):=heap_alloc_new _ _
   have HG4:Hid (w1.grownBy (w1.alloc (.cells ((List.replicate n false).map Value.bool).toArray 4)) none):=grow1 _ _
   generalize w1.alloc (.cells ((List.replicate n false).map Value.bool).toArray 4)=w4 at *
   have hc4:w4.cell? ⟨w1.heap.size,q,none⟩=some (.bool false):=HB0.out.cell q false (by simp [hqn])
   have hf4:w4.frozen? ⟨w1.heap.size,q,none⟩=false:=HB0.out.fr q
   obtain ⟨Z,hZ⟩:∃ Z,List.replicate (n - (q+1)) false=Z:=⟨_,rfl⟩
   have HB5:Hid (BoB (w4.setCell ⟨w1.heap.size,q,none⟩ (.bool true)) w1.heap.size ((List.replicate (q+1) false).set q true++Z)):=by
    have h:=HB0.out.set q true
    have e:List.replicate n false=List.replicate (q+1) false++List.replicate (n - (q+1)) false:=by
     rw [List.replicate_append_replicate]
     congr 1
     omega
    rw [e,set_left (by simp),hZ] at h
    exact h
   have HG5:Hid (w1.grownBy (w4.setCell ⟨w1.heap.size,q,none⟩ (.bool true)) none):=grown_set HG4.out (Nat.le_refl _)
   clear hZ
   go_wp2_with fail
   clear hc4 hf4 HB0 HG4 hmk
   change Code.wp _ _ _ _ (w4.setCell ⟨w1.heap.size,q,none⟩ (.bool true))
   generalize w4.setCell ⟨w1.heap.size,q,none⟩ (.bool true)=w5 at *
   have hbz:w1.heap.size≤w1.heap.size:=Nat.le_refl _
   go_loopw [10] (fun s10 wr=>∃ (r:Nat) (k:Int) (V:List Bool),s10=.int .i64 k∧(k=(r:Int) - 1∧r≤q+1∧V.length=q+1∧downN F L r V=R)∧BoB wr w1.heap.size (V++Z)∧w1.grownBy wr none) (fun s _=>match s with | .int _ i=>(i+1).toNat | _=>0)
   case atStart=>exact ⟨q+1,_,_,rfl,⟨by omega,Nat.le_refl _,by simp,HR0.out⟩,HB5.out,HG5.out⟩
   case round =>
    obtain ⟨r,k,V,rfl,⟨hk,hr,hVl,hd⟩,hB,hg⟩:=hrel
    have HB:Hid (BoB wr w1.heap.size (V++Z)):=hB
    have HG:Hid (w1.grownBy wr none):=hg
    have HD:Hid (downN F L r V=R):=hd
    have HVl:Hid (V.length=q+1):=hVl
    clear hB hg hd hVl
    cases r with
    |zero =>
     obtain rfl:k=-1:=by omega
     clear hk hr
     have HVR:Hid (V=R):=HD.out
     have HBR:Hid (BoB wr w1.heap.size (R++Z)):=by
      show BoB _ _ _
      rw [← HVR.out]
      exact HB.out
     clear HB HVl HD HVR
     go_wp2_with fail
     obtain ⟨w6,hw6⟩:∃ w6,w6=wr:=⟨_,rfl⟩
     have HB6:Hid (BoB w6 w1.heap.size (R++Z)):=by rw [hw6]; exact HBR
     have HG6:Hid (w1.grownBy w6 none):=by rw [hw6]; exact HG
     have HW6:Hid (w6.grownBy wr none):=by rw [hw6]; exact grow0 _
     have HO6:Hid (OwI wr w6.heap.size (.slice none 0 0) []):=OwI.nil _ _
     clear HBR HG hw6
     go_loopw [12,13] (fun s12 s13 wr=>∃ (j:Nat) (A:List Int),j≤q+1∧s13=.int .i64 j∧(A.length≤j∧A++idxT j (R.drop j)=idxT 0 R)∧OwI wr w6.heap.size s12 A∧w6.grownBy wr none) (fun _ s _=>match s with | .int _ j=>q+1 - j.toNat | _=>0)
     case atStart=>exact ⟨0,[],by omega,rfl,⟨by simp,rfl⟩,HO6.out,HW6.out⟩
     case round =>
      obtain ⟨j,A,hj,rfl,⟨hAl,hA⟩,hO,hg⟩:=hrel
      obtain ⟨ab5,c5,rfl⟩:=hO.form
      obtain ⟨na,hna⟩:∃ na,A.length=na:=⟨_,rfl⟩
      have HAn:Unit→A.length=na:=fun _=>hna
      rw [hna] at hO hAl ⊢
      have HO7:Hid (OwI wr w6.heap.size (.slice ab5 na c5) A):=hO
      have HG7:Hid (w6.grownBy wr none):=hg
      have HA7:Hid (A++idxT j (R.drop j)=idxT 0 R):=hA
      clear hna hO hg hA
      by_cases hltj:j < q+1
      ·obtain ⟨x,hx⟩:∃ x,R[j]?=some x:=⟨_,List.getElem?_eq_getElem (by rw [HRl.out]; exact hltj)⟩
       have hcx:wr.cell? ⟨w1.heap.size,j,none⟩=some (.bool x):=(HB6.out.kept HG7.out).cell j x (by rw [List.getElem?_append_left (by rw [HRl.out]; exact hltj)]; exact hx)
       have HN:Hid (A++((if x then [(j:Int)] else [])++idxT (j+1) (R.drop (j+1)))=idxT 0 R):=by
        show _=_
        rw [← idxT_step j R x hx]
        exact HA7.out
       have hltjI:(j:Int) < (q:Int)+1:=by omega
       have hljI:(j:Int)≤(q:Int):=by omega
       have hljn:(j:Int) < n:=by omega
       clear hx HA7
       cases x
       ·have HN2:Hid (A++idxT (j+1) (R.drop (j+1))=idxT 0 R):=HN.out
        clear HN
        go_wp2_with fail
        go_roundw
        case rel=>exact ⟨j+1,A,by omega,num_eq (by omega),⟨by rw [HAn ()]; omega,HN2.out⟩,HO7.out,HG7.out⟩
        case measure=>simp <;> omega
       ·have HN2:Hid ((A++[(j:Int)])++idxT (j+1) (R.drop (j+1))=idxT 0 R):=by
          have:=HN.out
          rw [List.append_assoc]
          exact this
        clear HN
        have HI1:=ints_lit wr (j:Int)
        have hsz6:=HG7.out.size
        go_wp2_with (at_builtin; refine wpList_append_ints rfl _ _ rfl w6.heap.size (.slice ab5 na c5) A rfl (HO7.out.kept0 (grow1 _ _)) (.slice (some ⟨wr.heap.size,0,none⟩) 1 1) [(j:Int)] rfl HI1 (by simp; rw [HAn ()]; omega) (by simp; omega) ?_)
        intro v' w' hO' hg'
        have HO':Hid (OwI w' w6.heap.size v' (A++[(j:Int)])):=hO'
        have HG':Hid (w6.grownBy w' none):=grownBy_owi (grownBy_trans HG7.out (grow1 _ _)) (HO7.out.kept0 (grow1 _ _)) hg'
        clear hO' hg'
        go_wp2_with fail
        go_roundw
        case rel=>exact ⟨j+1,_,by omega,num_eq (by omega),⟨by simp; rw [HAn ()]; omega,HN2.out⟩,HO'.out,HG'.out⟩
        case measure=>simp <;> omega
      ·have e:j=q+1:=by omega
       have HE:Hid (A=idxT 0 R):=by
        have h:=HA7.out
        rw [idxT_end j R (by rw [HRl.out]; omega),List.append_nil] at h
        exact h
       have hI:Ints wr (.slice ab5 na c5) (idxT 0 R):=by
        rw [← HE.out]
        exact HO7.out.ints
       have HIn:Hid (Ints wr (.slice ab5 na c5) (idxT 0 R)):=hI
       have HGe:Hid (w.grownBy wr none):=grownBy_trans HG1.out (grownBy_trans HG6.out HG7.out)
       clear HE HA7 hI
       subst e
       go_wp2_with fail
       refine bodyPost_ret (results_tmp2 rfl _ _ _) rfl ?_
       exact ⟨⟨_,rfl,HIn.out⟩,HGe.out⟩
    |succ i =>
     obtain rfl:k=(i:Int):=by omega
     have hiq:i≤q:=by omega
     have hiI:(i:Int)≤q:=by omega
     have hin:(i:Int) < n:=by omega
     have hiN:i≤n:=by omega
     clear hk hr
     obtain ⟨x,hx⟩:∃ x,V[i]?=some x:=⟨_,List.getElem?_eq_getElem (by rw [HVl.out]; omega)⟩
     have hlt':i < L.length:=by rw [HLn ()]; omega
     obtain ⟨s,his⟩:∃ s,L[i]?=some s:=⟨_,List.getElem?_eq_getElem hlt'⟩
     obtain ⟨B,off,u,rfl,hat0,hnc⟩:=HR1.out w (grow0 _) i _ his
     have HS0:Hid (StAt w B (off+i*3) s u):=hat0
     have hfit:=HF.out s (List.mem_of_getElem? his)
     have HA1:Hid (∀ a∈s.ags,a.k=1→∃ j,F a.nm=some j∧j < i∧atI L a.nm i=j):=HAr.out i s his
     have HDx:Hid (downN F L i (if x=true then markA F (s.ags.drop 0) V else V)=R):=by
      show _=_
      have:=HD.out
      unfold downN at this
      rw [hx] at this
      cases x
      ·exact this
      ·rw [his] at this
       exact this
     obtain ⟨ab2,c2,rfl,HRa⟩:=hat0.a.reads
     have HRA:Hid (∀ w',w.grownBy w' none→∀ j a,s.ags[j]?=some a→∃ B off wv,ab2=some ⟨B,off,none⟩∧AgAt w' B (off+j*12) a wv∧Ints w' wv a.wd∧s.ags.length≤c2):=HRa
     have hmI:(s.ags.length:Int)≤1000000000000:=by
      have:=hfit.len
      omega
     clear hlt' hat0 HRa his hfit
     obtain ⟨vb,nm2,ags⟩:=s
     simp only at HA1 HDx HRA hmI
     obtain ⟨m,hm⟩:∃ m,ags.length=m:=⟨_,rfl⟩
     have HLm:Unit→ags.length=m:=fun _=>hm
     have HSm:Hid (StAt w B (off+i*3) ⟨vb,nm2,ags⟩ (.slice ab2 m c2)):=by
      show StAt _ _ _ _ _
      rw [← hm]
      exact HS0.out
     simp only [hm] at HRA hmI
     clear hm HS0
     cases x
     ·have HD2:Hid (downN F L i V=R):=HDx.out
      have HVi:Hid (V[i]?=some false):=hx
      clear hx HDx HRA
      go_wp2_with fail
      obtain ⟨w6,hw6⟩:∃ w6,w6=wr:=⟨_,rfl⟩
      subst hw6
      go_loopw [11] (fun s11 wr=>s11=.int .i64 0∧BoB wr w1.heap.size (V++Z)∧w1.grownBy wr none) (fun _ _=>0)
      case atStart=>exact ⟨rfl,HB.out,HG.out⟩
      case round =>
       obtain ⟨rfl,hB,hg⟩:=hrel
       have HB7:Hid (BoB wr w1.heap.size (V++Z)):=hB
       have HG7:Hid (w1.grownBy wr none):=hg
       have hcx:wr.cell? ⟨w1.heap.size,i,none⟩=some (.bool false):=hB.cell i false (by rw [List.getElem?_append_left (by rw [HVl.out]; omega)]; exact HVi.out)
       have k2:=(HSm.out.kept (grownBy_trans HG1.out hg)).c2
       clear hB hg
       by_cases hm0:0 < m
       ·have hm0I:(0:Int) < m:=by omega
        go_wp2_with fail
        go_roundw
        case rel=>exact ⟨i,_,V,rfl,⟨by omega,by omega,HVl.out,HD2.out⟩,HB7.out,HG7.out⟩
        case measure=>simp <;> omega
       ·have hm0I:decide ((0:Int) < m)=false:=decide_eq_false (by omega)
        go_wp2_with fail
        go_roundw
        case rel=>exact ⟨i,_,V,rfl,⟨by omega,by omega,HVl.out,HD2.out⟩,HB7.out,HG7.out⟩
        case measure=>simp <;> omega
     ·have HVi:Hid (V[i]?=some true):=hx
      obtain ⟨M,hM⟩:∃ M,markA F (ags.drop 0) V=M:=⟨_,rfl⟩
      have HM0:Hid (markA F (ags.drop 0) V=M):=hM
      have HD2:Hid (downN F L i M=R):=by
       have h:=HDx.out
       simp only [if_true] at h
       rw [hM] at h
       exact h
      clear hM HDx hx
      go_wp2_with fail
      obtain ⟨w6,hw6⟩:∃ w6,w6=wr:=⟨_,rfl⟩
      subst hw6
      go_loopw [11] (fun s11 wr=>∃ (j:Nat) (V:List Bool),j≤m∧s11=.int .i64 j∧(V.length=q+1∧V[i]?=some true∧markA F (ags.drop j) V=M)∧BoB wr w1.heap.size (V++Z)∧w1.grownBy wr none) (fun s _=>match s with | .int _ j=>m - j.toNat | _=>0)
      case atStart=>exact ⟨0,V,by omega,rfl,⟨HVl.out,HVi.out,HM0.out⟩,HB.out,HG.out⟩
      case round =>
       obtain ⟨j,V2,hj,rfl,⟨hV2l,hV2i,hV2⟩,hB2,hg2⟩:=hrel
       have HB2:Hid (BoB wr w1.heap.size (V2++Z)):=hB2
       have HG2:Hid (w1.grownBy wr none):=hg2
       have HV2l:Hid (V2.length=q+1):=hV2l
       have HV2i:Hid (V2[i]?=some true):=hV2i
       have HV2:Hid (markA F (ags.drop j) V2=M):=hV2
       have k2:=(HSm.out.kept (grownBy_trans HG1.out hg2)).c2
       have hcx:wr.cell? ⟨w1.heap.size,i,none⟩=some (.bool true):=hB2.cell i true (by rw [List.getElem?_append_left (by rw [HV2l.out]; omega)]; exact HV2i.out)
       clear hV2l hV2 hB2 hg2 hV2i
       by_cases hltj:j < m
       ·have hltj':j < ags.length:=by rw [HLm ()]; exact hltj
        obtain ⟨a,hja⟩:∃ a,ags[j]?=some a:=⟨_,List.getElem?_eq_getElem hltj'⟩
        obtain ⟨B2,off2,wv,rfl,hat,hin2,hnc2⟩:=HRA.out wr (grownBy_trans HG1.out HG2.out) j _ hja
        have HS2:Hid (markA F (ags.drop (j+1)) (if a.k=1 then V2.set ((F a.nm).getD 0) true else V2)=M):=by
         show _=_
         rw [← markA_step F ags j a V2 hja]
         exact HV2.out
        have HAa:=HA1.out a (List.mem_of_getElem? hja)
        obtain ⟨l0,l1,l2,l3,l4,l5,l6,l7,l8,l9,l10,l11⟩:=hat
        have hltjI:(j:Int) < m:=by omega
        have hjI:(j:Int)≤1000000000000:=by omega
        clear hltj' hja hin2 l2 l3 l4 l5 l6 l7 l8 l9 l10 l11
        obtain ⟨ak,anm,z,wd,ct⟩:=a
        simp only at l0 l1 HS2 HAa
        by_cases hk:ak=1
        ·subst hk
         obtain ⟨p,hp,hpi,hpa⟩:=HAa rfl
         have HS3:Hid (markA F (ags.drop (j+1)) (V2.set p true)=M):=by
          have:=HS2.out
          rw [if_pos rfl,hp] at this
          exact this
         have hpq:p < q+1:=by omega
         have hpI:(p:Int) < n:=by omega
         have hp0:(0:Int)≤p:=by omega
         have HCa:=HAt.out wr anm i (grownBy_trans HG1.out HG2.out) hiN
         rw [hpa] at HCa
         clear HS2 HAa hp hpa
         obtain ⟨y,hy⟩:∃ y,V2[p]?=some y:=⟨_,List.getElem?_eq_getElem (by rw [HV2l.out]; omega)⟩
         have HP:Hid (∀ wz:World,BoB wz w1.heap.size (V2++Z)→wz.cell? ⟨w1.heap.size,p,none⟩=some (.bool y)∧wz.frozen? ⟨w1.heap.size,p,none⟩=false∧BoB (wz.setCell ⟨w1.heap.size,p,none⟩ (.bool true)) w1.heap.size (V2.set p true++Z)):=fun wz h=>⟨h.cell p y (by rw [List.getElem?_append_left (by rw [HV2l.out]; omega)]; exact hy),h.fr p,by
          have h2:=h.set p true
          rw [set_left (by rw [HV2l.out]; omega)] at h2
          exact h2⟩
         have HVp:Hid ((V2.set p true).length=q+1∧(V2.set p true)[i]?=some true):=⟨by rw [List.length_set]; exact HV2l.out,by
          rw [List.getElem?_set_ne (by omega)]
          exact HV2i.out⟩
         clear hy hpi
         have hsz1:w1.heap.size≤w1.heap.size:=Nat.le_refl _
         go_wp2_with fail
         refine HCa.mono ?_
         rintro e w7 ⟨rfl,hg⟩
         obtain ⟨p1,p2,p3⟩:=HP.out w7 (HB2.out.kept hg)
         have HP3:Hid (BoB (w7.setCell ⟨w1.heap.size,p,none⟩ (.bool true)) w1.heap.size (V2.set p true++Z)):=p3
         have HGz:Hid (w1.grownBy (w7.setCell ⟨w1.heap.size,p,none⟩ (.bool true)) none):=grown_set (grownBy_trans HG2.out hg) hsz1
         clear p3 hg HCa
         go_wp2_with fail
         go_roundw
         case rel=>exact ⟨j+1,V2.set p true,by omega,num_eq (by omega),⟨HVp.out.1,HVp.out.2,HS3.out⟩,HP3.out,HGz.out⟩
         case measure=>simp <;> omega
        ·have hkb:(ak == 1)=false:=by simpa using hk
         have HS3:Hid (markA F (ags.drop (j+1)) V2=M):=by
          have:=HS2.out
          rw [if_neg hk] at this
          exact this
         clear HS2 HAa hk
         go_wp2_with fail
         go_roundw
         case rel=>exact ⟨j+1,V2,by omega,num_eq (by omega),⟨HV2l.out,HV2i.out,HS3.out⟩,HB2.out,HG2.out⟩
         case measure=>simp <;> omega
       ·have e:j=m:=by omega
        subst e
        have HE:Hid (V2=M):=by
         have h:=HV2.out
         rw [← HLm (),List.drop_length] at h
         exact h
        have HDe:Hid (downN F L i V2=R):=by
         show _=_
         rw [HE.out]
         exact HD2.out
        have hmj:decide ((j:Int) < (j:Int))=false:=decide_eq_false (by omega)
        go_wp2_with fail
        go_roundw
        case rel=>exact ⟨i,_,V2,rfl,⟨by omega,by omega,HV2l.out,HDe.out⟩,HB2.out,HG2.out⟩
        case measure=>simp <;> omega
end Go.Proofs.YtdcadiaeaclpgaaGreatDoor
