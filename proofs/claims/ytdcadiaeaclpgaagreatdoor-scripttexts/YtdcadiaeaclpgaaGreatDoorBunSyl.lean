/-
  The law ScriptNeeds: its walk.
  The law ScriptTexts: its walk.
-/
import Derived.Test.YtdcadiaeaclpgaaGreatDoorBunSye
import Derived.BigQuiet
import Derived.Test.YtdcadiaeaclpgaaGreatDoorBunSoc
import Derived.Test.YtdcadiaeaclpgaaGreatDoorBunSyo
import Derived.Test.YtdcadiaeaclpgaaGreatDoorBunSyr
namespace Go.Proofs.YtdcadiaeaclpgaaGreatDoor
open Go Go.RowKit Go.Lib Go.Sort
set_option linter.unusedVariables false
set_option linter.unusedSimpArgs false
set_option maxHeartbeats 6400000
set_option maxRecDepth 1000000
theorem ckE_er (L:List St):(ckE L).2=0∨(ckE L).2=2∨(ckE L).2=3:=by
 unfold ckE
 split
 ·exact .inr (.inr rfl)
 ·split
  ·exact .inl rfl
  ·exact .inr (.inl rfl)
theorem ordE_er (L:List St):(ordE L).2=0∨(ordE L).2=2∨(ordE L).2=3∨(ordE L).2=401:=by
 unfold ordE
 split
 ·rcases ckE_er L with h | h | h
  ·exact .inl h
  ·exact .inr (.inl h)
  ·exact .inr (.inr (.inl h))
 ·split
  ·exact .inr (.inr (.inr rfl))
  ·exact .inl rfl
theorem ndE_er (L:List St) (nm:ByteArray):(ndE L nm).2=0∨((ndE L nm).1=[]∧((ndE L nm).2=2∨(ndE L nm).2=3∨(ndE L nm).2=401)):=by
 unfold ndE
 split
 ·rename_i h
  rcases ordE_er L with h1 | h1
  ·exact absurd h1 h
  ·exact .inr ⟨rfl,h1⟩
 ·split
  ·exact .inr ⟨rfl,.inr (.inr rfl)⟩
  ·split
   ·exact .inr ⟨rfl,.inr (.inr rfl)⟩
   ·exact .inl rfl
theorem need_at {L S:List St} {N:List Int} (h:N.map (fun x=>L[x.toNat]?)=S.map some):N.length=S.length∧∀ (i:Nat) (x:Int),N[i]?=some x→∃ s,L[x.toNat]?=some s∧S[i]?=some s:=by
 have hl:N.length=S.length:=by
  have:=congrArg List.length h
  simpa using this
 refine ⟨hl,fun i x hx=>?_⟩
 have hi:i < S.length:=by
  rw [← hl]
  exact (List.getElem?_eq_some_iff.1 hx).1
 have h1:=congrArg (·[i]?) h
 simp only [List.getElem?_map,hx,List.getElem?_eq_getElem hi,Option.map_some,Option.some.injEq] at h1
 exact ⟨_,h1,List.getElem?_eq_getElem hi⟩
theorem RowS.some3 {w:World} {base:Nat} {v:Value} {P:List ByteArray} (h:RowS w base v P) (h0:P≠[]):∃ g c,v=.slice (some ⟨g,0,none⟩) P.length c∧base≤g:=by
 rcases h.2 with ⟨_,h1⟩ | ⟨g,c,cur,rfl,hb,_⟩
 ·exact absurd (List.length_eq_zero_iff.1 h1) h0
 ·exact ⟨g,c,rfl,hb⟩
theorem namL_at {L:List St} {k:Nat} {s:St} (h:L[k]?=some s) (h0:¬ s.nm.size=0):(namL L)[(namL (L.take k)).length]?=some s.nm:=by
 have hk:=(List.getElem?_eq_some_iff.1 h).1
 have e:namL L=namL (L.take k)++namL (L.drop k):=by
  unfold namL
  rw [← List.map_append,← List.filter_append,List.take_append_drop]
 have e2:L.drop k=s :: L.drop (k+1):=by
  rw [List.drop_eq_getElem_cons hk]
  congr 1
  exact (List.getElem?_eq_some_iff.1 h).2
 rw [e,List.getElem?_append_right (Nat.le_refl _),Nat.sub_self,e2]
 unfold namL
 rw [List.filter_cons_of_pos (by simpa using h0)]
 rfl
theorem slaw_texts (w:World) (v:Value) (L:List St) (nm:ByteArray) (hv:Sts w v L) (hl:L.length≤1000000000000000) (hf:∀ s∈L,s.FitW) (hnm:nm.size≤maxLen) (ht:Tab w) (he:Errs w) :
    Calls Tryz.prog 5 #[v,.string nm] w fun e w'=>e=.returned (.bool true)∧w.grownBy w' none:=by
 have HKn:Hid (∀ W,w.grownBy W none→Calls Tryz.prog 10 #[] W fun e w'=>e=.returned (.bool true)∧W.grownBy w' none):=fun W hg=>sknown_any W (ht.kept hg) (he.kept hg)
 have HLg:Hid (∀ W,w.grownBy W none→Calls Tryz.prog 20 #[v] W fun e w'=>e=.returned (.bool (bigL L))∧W.grownBy w' none):=fun W hg=>large_any W _ L (hv.kept hg) hl hf
 cases hb:bigL L
 case true =>
  rw [hb] at HLg
  obtain ⟨ab,c,rfl,_⟩:=hv.reads
  generalize L.length=n at *
  clear hv hl hf hnm ht he hb
  go_enter Tryz.func5,Tryz.ntmps5
  go_wp2_with fail
  refine (HLg.out _ (grow0 _)).mono ?_
  rintro e w3 ⟨rfl,g3⟩
  have G3:Hid (w.grownBy w3 none):=g3
  clear g3
  go_wp2_with fail
  refine (HKn.out _ G3.out).mono ?_
  rintro e w4 ⟨rfl,g4⟩
  have G4:Hid (w.grownBy w4 none):=grownBy_trans G3.out g4
  clear g4
  go_wp2_with fail
  go_ret
  exact ⟨rfl,G4.out⟩
 case false =>
  rw [hb] at HLg
  obtain ⟨h40,hbs⟩:=bigL_few hb
  have hfit:∀ s∈L,s.Fit:=fun s hs=>bigS_fit (hbs s hs)
  have hfew:∀ s∈L,∀ a∈s.ags,a.Few:=fun s hs=>(bigS_few (hbs s hs)).2.1
  have HTx:Hid (∀ W,w.grownBy W none→Calls Tryz.prog 21 #[v] W fun e w'=>e=.returned (.tuple #[.string (txE L).1,.int .i64 (txE L).2.1,.int .i64 (txE L).2.2])∧W.grownBy w' none):=fun W hg=>text_any W v L (hv.kept hg) h40 hfit hfew (ht.kept hg)
  have HTr:Hid (∀ W,w.grownBy W none→Calls Tryz.prog 22 #[v] W fun e w'=>e=.returned (.tuple #[.string (txE L).1,.int .i64 (txE L).2.1,.int .i64 (txE L).2.2])∧W.grownBy w' none):=fun W hg=>rtext_any W v L (hv.kept hg) h40 hfit hfew (ht.kept hg)
  have HOr:Hid (∀ W,w.grownBy W none→Calls Tryz.prog 23 #[v] W fun e w'=>e=.returned (.tuple #[.int .i64 (ordE L).1,.int .i64 (ordE L).2])∧W.grownBy w' none):=fun W hg=>order_scene W v L (hv.kept hg) hl hfit
  have HOd:Hid (∀ W,w.grownBy W none→Calls Tryz.prog 24 #[v] W fun e w'=>e=.returned (.tuple #[.int .i64 (ordE L).1,.int .i64 (ordE L).2])∧W.grownBy w' none):=fun W hg=>rord_any W v L (hv.kept hg) (by omega) hfit
  have HNd:Hid (∀ W,w.grownBy W none→Calls Tryz.prog 25 #[v,.string nm] W fun e w'=>(∃ u,e=.returned (.tuple #[u,.int .i64 (ndE L nm).2])∧Ints w' u (ndE L nm).1)∧W.grownBy w' none):=fun W hg=>needs_any W v L nm (hv.kept hg) hl hfit hnm
  have HNr:Hid (∀ W,w.grownBy W none→Calls Tryz.prog 26 #[v,.string nm] W fun e w'=>(∃ u,e=.returned (.tuple #[u,.int .i64 (ndE L nm).2])∧Ints w' u (ndE L nm).1)∧W.grownBy w' none):=fun W hg=>rneeds_any W v L nm (hv.kept hg) (by omega) hfit hnm
  have HNm:Hid (∀ W,w.grownBy W none→Calls Tryz.prog 28 #[v] W fun e w'=>∃ u,e=.returned u∧RowS w' W.heap.size u (namL L)∧W.grownBy w' none):=fun W hg=>names_any W v L (hv.kept hg) (by omega)
  have HNl:Hid ((ndE L nm).1.length≤4096):=by
   show _≤_
   rcases ndE_er L nm with h | ⟨h,_⟩
   ·have h2:ndE L nm=((ndE L nm).1,0):=by rw [← h]
    obtain ⟨S,h3,_,_,_,h4,_⟩:=need_scene h2
    have h5:=(need_at h3).1
    omega
   ·rw [h]
    simp
  have HSi:Hid (∀ W u v,Ints W u (ndE L nm).1→Ints W v (ndE L nm).1→Calls Tryz.prog 27 #[u,v] W fun e w'=>e=.returned (.bool true)∧W.grownBy w' none):=fun W u v hu hv=>by
   have h:=sameInts_any W u v _ _ hu hv (by have:=HNl.out; omega) (by have:=HNl.out; omega)
   exact h.mono fun e w' hh=>by
    rw [decide_eq_true rfl] at hh
    exact hh
  obtain ⟨ab,c,rfl,HR⟩:=hv.reads
  have HR1:Hid (∀ w',w.grownBy w' none→∀ i s,L[i]?=some s→∃ B off u,ab=some ⟨B,off,none⟩∧StAt w' B (off+i*3) s u∧L.length≤c):=HR
  have HNat:Hid (∀ k s,L[k]?=some s→¬ s.nm.size=0→(namL L)[(namL (L.take k)).length]?=some s.nm):=fun k s h h0=>namL_at h h0
  have HNst:Hid (∀ i s,L[i]?=some s→namL (L.take (i+1))=namL (L.take i)++(if s.nm.size=0 then [] else [s.nm])):=fun i s h=>namL_step h
  have HNe:Hid (namL (L.take L.length)=namL L):=by
   show _=_
   rw [List.take_length]
  have HNn:Hid (∀ i,(namL (L.take i)).length≤40):=fun i=>by
   have h1:=namL_len (L.take i)
   rw [List.length_take] at h1
   omega
  clear hv hfit hfew hbs hb hf hnm ht he HR
  obtain ⟨n,hn⟩:∃ n,L.length=n:=⟨_,rfl⟩
  have HLn:Unit→L.length=n:=fun _=>hn
  simp only [hn] at HR1 HLg HTx HTr HOr HOd HNd HNr HNm HNe h40 ⊢
  have hnI:(n:Int)≤40:=by omega
  clear hn hl
  generalize (txE L).1=tx at *
  generalize (txE L).2.1=tn at *
  generalize (txE L).2.2=te at *
  generalize ordE L=od at *
  obtain ⟨on,oe⟩:=od
  generalize ndE L nm=nd at *
  obtain ⟨nl,ne⟩:=nd
  simp only at HOr HOd HNd HNr HSi HNl
  clear HNl
  go_enter Tryz.func5,Tryz.ntmps5
  go_wp2_with fail
  refine (HLg.out _ (grow0 _)).mono ?_
  rintro e w1 ⟨rfl,g⟩
  have G1:Hid (w.grownBy w1 none):=g
  clear g HLg
  go_wp2_with fail
  refine (HTx.out _ G1.out).mono ?_
  rintro e w2 ⟨rfl,g⟩
  have G2:Hid (w.grownBy w2 none):=grownBy_trans G1.out g
  clear g G1 HTx
  go_wp2_with fail
  refine (HTr.out _ G2.out).mono ?_
  rintro e w3 ⟨rfl,g⟩
  have G3:Hid (w.grownBy w3 none):=grownBy_trans G2.out g
  clear g G2 HTr
  go_wp2_with fail
  refine (HOr.out _ G3.out).mono ?_
  rintro e w4 ⟨rfl,g⟩
  have G4:Hid (w.grownBy w4 none):=grownBy_trans G3.out g
  clear g G3 HOr
  go_wp2_with fail
  refine (HOd.out _ G4.out).mono ?_
  rintro e w5 ⟨rfl,g⟩
  have G5:Hid (w.grownBy w5 none):=grownBy_trans G4.out g
  clear g G4 HOd
  go_wp2_with fail
  refine (HNd.out _ G5.out).mono ?_
  rintro e w6 ⟨⟨u6,rfl,hI6⟩,g⟩
  have HI6:Hid (Ints w6 u6 nl):=hI6
  obtain ⟨ab6,c6,rfl⟩:=hI6.form
  have G6:Hid (w.grownBy w6 none):=grownBy_trans G5.out g
  clear g G5 HNd hI6
  go_wp2_with fail
  refine (HNr.out _ G6.out).mono ?_
  rintro e w7 ⟨⟨u7,rfl,hI7⟩,g⟩
  have HI7:Hid (Ints w7 u7 nl):=hI7
  obtain ⟨ab7,c7,rfl⟩:=hI7.form
  have HI6':Hid (Ints w7 (.slice ab6 nl.length c6) nl):=HI6.out.kept g
  have G7:Hid (w.grownBy w7 none):=grownBy_trans G6.out g
  clear g G6 HNr hI7 HI6
  generalize nl.length=nll at *
  go_wp2_with fail
  refine (HSi.out _ _ _ HI6'.out HI7.out).mono ?_
  rintro e w8 ⟨rfl,g⟩
  have G8:Hid (w.grownBy w8 none):=grownBy_trans G7.out g
  clear g G7 HSi HI6' HI7
  go_wp2_with fail
  refine (HNm.out _ G8.out).mono ?_
  rintro e w9 ⟨u9,rfl,hR9,g⟩
  have G9:Hid (w.grownBy w9 none):=grownBy_trans G8.out g
  have HR9:Hid (RowS w9 w8.heap.size u9 (namL L)):=hR9
  obtain ⟨ab9,c9,rfl⟩:=hR9.form
  obtain ⟨q,hq⟩:∃ q,(namL L).length=q:=⟨_,rfl⟩
  have HQ:Hid ((namL L).length=q):=hq
  simp only [hq] at HR9 ⊢
  have hq40:q≤40:=by
   have:=HNn.out n
   rw [HNe.out] at this
   omega
  have hqI:(q:Int)≤40:=by omega
  clear g G8 HNm hR9 hq
  go_wp2_with fail
  go_loopw [20,21] (fun s20 s21 wr=>∃ k:Nat,k≤n∧s21=.int .i64 k∧s20=.int .i64 ((namL (L.take k)).length:Nat)∧w9.grownBy wr none) (fun _ s _=>match s with | .int _ k=>n - k.toNat | _=>0)
  case atStart=>exact ⟨0,by omega,rfl,rfl,grow0 _⟩
  case round =>
   obtain ⟨k,hk,rfl,rfl,hg⟩:=hrel
   have HG:Hid (w9.grownBy wr none):=hg
   have hp40:=HNn.out k
   clear hg
   by_cases hlt:k < n
   ·have hlt':k < L.length:=by rw [HLn ()]; exact hlt
    obtain ⟨s,his⟩:∃ s,L[k]?=some s:=⟨_,List.getElem?_eq_getElem hlt'⟩
    obtain ⟨B,off,u,rfl,hat,hnc⟩:=HR1.out wr (grownBy_trans G9.out HG.out) k _ his
    have HS:Hid (StAt wr B (off+k*3) s u):=hat
    have k1:=hat.c1
    have HN1:Hid (¬ s.nm.size=0→(namL L)[(namL (L.take k)).length]?=some s.nm):=HNat.out k s his
    have HN2:Hid ((namL (L.take (k+1))).length=(namL (L.take k)).length+(if s.nm.size=0 then 0 else 1)):=by
     show _=_
     rw [HNst.out k s his,List.length_append]
     congr 1
     split <;> rfl
    have hltI:(k:Int) < n:=by omega
    clear hlt' his hat
    obtain ⟨vb,snm,ags⟩:=s
    simp only at k1 HN1 HN2
    obtain ⟨p,hp⟩:∃ p,(namL (L.take k)).length=p:=⟨_,rfl⟩
    simp only [hp] at HN1 HN2 hp40 ⊢
    clear hp
    by_cases h0:snm.size=0
    ·have HN3:Hid ((p:Int)=((namL (L.take (k+1))).length:Nat)):=by
       show _=_
       rw [HN2.out,if_pos h0]
       rfl
     obtain rfl:=empty_of_size h0
     clear h0 HN1 HN2
     go_wp2_with fail
     go_roundw
     case rel=>exact ⟨k+1,by omega,num_eq (by omega),num_eq HN3.out,HG.out⟩
     case measure=>simp <;> omega
    ·have hpa:=HN1.out h0
     have hpq:p < q:=by
      have:=(List.getElem?_eq_some_iff.1 hpa).1
      have:=HQ.out
      omega
     have HN3:Hid (((p:Int)+1)=((namL (L.take (k+1))).length:Nat)):=by
      show _=_
      rw [HN2.out,if_neg h0]
      omega
     have he:=isEmpty_of h0
     obtain ⟨g9,cp9,e9,-⟩:=RowS.some3 HR9.out (by intro h; rw [h] at hpa; cases hpa)
     injection e9 with e1 e2 e3
     subst e1
     have ln:wr.cell? ⟨g9,p,none⟩=some (.string snm):=RowS.cell (HR9.out.kept HG.out) p snm hpa
     have hpqI:(p:Int) < q:=by omega
     have hpqG:decide ((q:Int)≤(p:Int))=false:=decide_eq_false (by omega)
     clear h0 HN1 HN2 e2 e3 hpa
     go_upto_region 17 with fail
     go_quiet (fail)
     have GQ:wr.grownBy (wr.drewN nq) none:=grownBy_drewN (World.grownBy.refl _ _) _
     generalize wr.drewN nq=wq at *
     have GQ9:Hid (w9.grownBy wq none):=grownBy_trans HG.out GQ
     clear GQ
     go_wp2_with fail
     go_roundw
     case rel=>exact ⟨k+1,by omega,num_eq (by omega),num_eq HN3.out,GQ9.out⟩
     case measure=>simp <;> omega
   ·obtain rfl:k=n:=by omega
    have hlI:decide ((k:Int) < (k:Int))=false:=decide_eq_false (by omega)
    have hpq:(namL (L.take k)).length=q:=by
     rw [HNe.out]
     exact HQ.out
    simp only [hpq]
    have HGe:Hid (w.grownBy wr none):=grownBy_trans G9.out HG.out
    clear hpq hp40
    go_wp2_with fail
    refine (HKn.out _ HGe.out).mono ?_
    rintro e wz ⟨rfl,g⟩
    have Gz:Hid (w.grownBy wz none):=grownBy_trans HGe.out g
    clear g
    go_wp2_with fail
    go_ret
    exact ⟨rfl,Gz.out⟩
end Go.Proofs.YtdcadiaeaclpgaaGreatDoor
