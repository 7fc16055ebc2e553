/- The program's line of a statement that may be. -/
import Derived.Test.YtdcadiaeaclpgaaGreatDoorBunScp
import Derived.Test.YtdcadiaeaclpgaaGreatDoorBunQrd
namespace Go.Proofs.YtdcadiaeaclpgaaGreatDoor
open Go.RowKit Go.Lib Go.Sort
set_option linter.unusedVariables false
set_option linter.unusedSimpArgs false
set_option maxHeartbeats 6400000
set_option maxRecDepth 1000000
noncomputable def lineL (s:St):List ByteArray:=(if s.nm.size=0 then [s.vb]else [s.vb,⟨#[61]⟩++s.nm])++s.ags.map agT
noncomputable def lnB (s:St):ByteArray:=⟨(Lib.join ((lineL s).map (·.data.toList)) [32]).toArray⟩
structure St.Few (s:St):Prop where
 ok:okS s=true
 ags:∀a∈s.ags,a.Few
theorem RowS.grown2 {w wr w':World} {base:Nat} {v:Value} {L:List ByteArray} (hg:w.grownBy wr none) (hR:RowS wr base v L) (hb:w.heap.size≤base) (k:wr.grownBy w' v.ownBlock):w.grownBy w' none:=by
 rcases hR.2 with ⟨e,_⟩|⟨g,cap,cur,e,hb2,_⟩
 ·rw [e]at k
  exact Za hg k
 ·rw [e]at k
  exact Zq hg (Nat.le_trans hb hb2) k
theorem J1 (M:Nat) (xs:List (List UInt8)) (h:∀x∈xs,x.length≤M):(Lib.join xs [32]).length≤(M+1)*xs.length:=by
 induction xs with
 |nil=>simp [Lib.join,List.intercalate]
 |cons a l ih =>
  cases l with
  |nil =>
   have:=h a (by simp)
   simp [Lib.join,List.intercalate]
   omega
  |cons b l =>
   have h1:=h a (by simp)
   have h2:=ih (fun x hx=>h x (by simp at hx ⊢;exact .inr hx))
   simp only [Lib.join,List.intercalate,List.intersperse,List.flatten_cons,List.length_append,List.length_cons,List.length_nil]at h2 ⊢
   have e:(M+1)*(l.length+1+1)=(M+1)*(l.length+1)+(M+1):=Nat.mul_succ _ _
   rw [e]
   omega
theorem ZJ {s:St} (h:okS s=true):isVb s.vb=true∧(s.nm.size=0∨isNm s.nm=true)∧s.ags.length≤64∧∀a∈s.ags,mayA a=true:=by
 simp only [okS,Bool.and_eq_true,Bool.or_eq_true,decide_eq_true_eq,List.all_eq_true]at h
 exact⟨h.1,h.2.1,h.2.2.1,h.2.2.2⟩
theorem ZdB {s:St} (hs:s.Few):∀x∈lineL s,x.size≤1000000:=by
 obtain⟨h1,h2,h3,h4⟩:=ZJ hs.ok
 have hv:s.vb.size≤16:=by
  simp only [isVb,Bool.and_eq_true,decide_eq_true_eq]at h1
  omega
 intro x hx
 unfold lineL at hx
 rw [List.mem_append]at hx
 rcases hx with hx|hx
 ·split at hx
  ·simp at hx
   subst hx
   omega
  ·rename_i hn
   simp at hx
   rcases hx with rfl|rfl
   ·omega
   ·have:s.nm.size≤32:=by
      rcases h2 with h2|h2
      ·exact absurd h2 hn
      ·simp only [isNm,Bool.and_eq_true,decide_eq_true_eq]at h2
       omega
    have e1:(⟨#[61]⟩:ByteArray).size=1:=rfl
    rw [ByteArray.size_append,e1]
    omega
 ·obtain⟨a,ha,rfl⟩:=List.mem_map.1 hx
  exact ZfL (h4 a ha) (hs.ags a ha)
theorem ZdD {s:St} (hs:s.Few):(lineL s).length≤66:=by
 have h:=(ZJ hs.ok).2.2.1
 unfold lineL
 rw [List.length_append,List.length_map]
 split<;>simp<;>omega
theorem Zd7 {s:St} (hs:s.Few):(Lib.join ((lineL s).map (·.data.toList)) [32]).length≤70000000:=by
 have h1:=J1 1000000 ((lineL s).map (·.data.toList)) (fun x hx=>by
  obtain⟨y,hy,rfl⟩:=List.mem_map.1 hx
  have:=ZdB hs y hy
  show y.data.toList.length≤_
  rw [Array.length_toList]
  exact this)
 have h2:=ZdD hs
 rw [List.length_map]at h1
 have:(1000000+1)*(lineL s).length≤(1000000+1)*66:=Nat.mul_le_mul_left _ h2
 omega
theorem line_0 (w:World) (v:Value) (s:St) (hv:Stv w v s) (hs:s.Few) (ht:Tab w) (h0:s.nm.size=0) :
    Calls Tryz.prog 34 #[v] w fun e w'=>e=.returned (.string (lnB s))∧w.grownBy w' none:=by
 obtain⟨u,rfl,hA⟩:=hv
 obtain⟨ab,c,rfl,HR⟩:=hA.reads
 obtain⟨vb,nm,ags⟩:=s
 simp only at HR h0
 obtain rfl:=Zi h0
 have HR1:Hid (∀w',w.grownBy w' none→∀i a,ags[i]?=some a→∃B off wv,ab=some ⟨B,off,none⟩∧AgAt w' B (off+i*12) a wv∧Ints w' wv a.wd∧ags.length≤c):=HR
 have HM:Hid (∀a∈ags,mayA a=true∧a.Few):=fun a ha=>⟨(ZJ hs.ok).2.2.2 a ha,hs.ags a ha⟩
 have HL64:Hid (ags.length≤64):=(ZJ hs.ok).2.2.1
 have HJl:Hid ((Lib.join ((lineL ⟨vb,ByteArray.empty,ags⟩).map (·.data.toList)) [32]).length≤70000000):=Zd7 hs
 have HTb:Hid (Tab w):=ht
 have HHd:Hid ([vb]++ags.map agT=lineL ⟨vb,ByteArray.empty,ags⟩):=by
  show [vb]++ags.map agT=(if ByteArray.empty.size=0 then [vb]else [vb,⟨#[61]⟩++ByteArray.empty])++ags.map agT
  rw [if_pos (show ByteArray.empty.size=0 from rfl)]
 simp only
 obtain⟨n,hn⟩:∃n,ags.length=n:=⟨_,rfl⟩
 have HLn:Unit→ags.length=n:=fun _=>hn
 have hnI:(n:Int)≤64:=by have:=HL64.out;omega
 rw [hn]at HL64 ⊢
 simp only [hn]at HR1
 clear hn hA HR hs ht
 have HRow:Hid (∀w1:World,RowS (w1.alloc (.cells #[.string vb] 9)) w1.heap.size (.slice (some ⟨w1.heap.size,0,none⟩) 1 1) [vb]):=fun w1=>World.ownsRow_lit _ _ _ (Nat.le_refl _) (by decide) rfl
 have HRow2:Hid (RowS ((w.alloc (sObj vb ByteArray.empty (.slice ab n c))).alloc (.cells #[.string vb] 9)) (w.heap.size+1) (.slice (some ⟨w.heap.size+1,0,none⟩) 1 1) [vb]):=by
  show RowS _ _ _ _
  have:=HRow.out (w.alloc (sObj vb ByteArray.empty (.slice ab n c)))
  simpa using this
 clear HRow
 go_enter Tryz.func34,Tryz.ntmps34
 go_wp2_with fail
 go_loopw [3,21] (fun s3 ix wr=>∃i:Nat,i≤n∧ix=.int .i64 i∧RowS wr (w.heap.size+1) s3 ([vb]++(ags.take i).map agT)∧w.grownBy wr none) (fun _ ix _=>match ix with|.int _ i=>n-i.toNat|_=>0)
 case atStart=>exact⟨0,by omega,rfl,HRow2.out,grow2 _ _ _⟩
 case round =>
  obtain⟨i,hi,rfl,hR,hg⟩:=hrel
  obtain⟨ao,cp,rfl⟩:=hR.form
  have HG:Hid (w.grownBy wr none):=hg
  obtain⟨L,hL⟩:∃L,[vb]++(ags.take i).map agT=L:=⟨_,rfl⟩
  have HLl:Unit→[vb]++(ags.take i).map agT=L:=fun _=>hL
  rw [hL]at hR ⊢
  obtain⟨ln,hln⟩:∃ln,L.length=ln:=⟨_,rfl⟩
  have HLn2:Unit→L.length=ln:=fun _=>hln
  rw [hln]at hR ⊢
  have HRw:Hid (RowS wr (w.heap.size+1) (.slice ao ln cp) L):=hR
  have hl66:ln≤66:=by
   rw [←hln,←hL]
   have h64:=HL64.out
   simp
   omega
  have hsz:=hg.size
  clear hR hg hL hln
  by_cases hlt:i<n
  ·have hlt':i<ags.length:=by rw [HLn ()];exact hlt
   obtain⟨a,hia⟩:∃a,ags[i]?=some a:=⟨_,List.getElem?_eq_getElem hlt'⟩
   obtain⟨B,off,wv,rfl,hat,hin,hnc⟩:=HR1.out wr HG.out i _ hia
   have hma:=HM.out a (List.mem_of_getElem? hia)
   have HNx:Hid ([vb]++(ags.take (i+1)).map agT=L++[agT a]):=by
    show _=_
    rw [←HLl (),List.take_add_one,hia]
    simp
   have HC:Hid (∀W,wr.grownBy W none→Calls Tryz.prog 58 #[agv a wv] W fun e w'=>e=.returned (.string (agT a))∧W.grownBy w' none):=fun W hg=>VW W a wv (hin.kept hg) hma.1 hma.2 (HTb.out.kept (Za HG.out hg))
   generalize agT a=tx at *
   obtain⟨ab2,c2,rfl⟩:=hin.form
   generalize a.wd.length=n2 at *
   obtain⟨k0,k1,k2,k3,k4,k5,k6,k7,k8,k9,k10,k11⟩:=hat
   have hltI:(i:Int)<n:=by omega
   clear hin hma hlt' hia
   go_wp2_with fail
   refine(HC.out _ (grow1 _ _)).mono ?_
   rintro e w1 ⟨rfl,hg1⟩
   have HG1:Hid (wr.grownBy w1 none):=Za (grow1 _ _) hg1
   have hsz1:=HG1.out.size
   clear hg1 k0 k1 k2 k3 k4 k5 k6 k7 k8 k9 k10 k11
   go_wp2_with (at_builtin;refine ZN rfl _ _ rfl (w.heap.size+1) (.slice ao ln cp) L tx rfl ((HRw.out.kept HG1.out).alloc _) (by rw [HLn2 ()];omega) (by simp;omega) ⟨w1.heap.size,0,none⟩ rfl (by simp) ?_)
   intro v' w' hR' hg'
   have HR':Hid (RowS w' (w.heap.size+1) v' ([vb]++(ags.take (i+1)).map agT)):=by
    show RowS _ _ _ _
    rw [HNx.out]
    exact hR'
   have HG':Hid (w.grownBy w' none):=RowS.grown2 (Za HG.out (Za HG1.out (grow1 _ _))) ((HRw.out.kept HG1.out).alloc _) (by omega) hg'
   clear hR' hg'
   go_wp2_with fail
   go_roundw
   case rel=>exact⟨i+1,by omega,Zl (by omega),HR'.out,HG'.out⟩
   case measure=>simp;omega
  ·have e:i=n:=by omega
   subst e
   have hfull:L=lineL ⟨vb,ByteArray.empty,ags⟩:=by
    rw [←HLl (),←HLn (),List.take_length]
    exact HHd.out
   have hrow:=HRw.out
   rcases hrow.2 with ⟨e1,e2⟩|⟨g,cap,cur,e1,hb,hgc,hlc,_⟩
   ·exfalso
    have:L.length=0:=e2
    rw [←HLl ()]at this
    simp at this
   ·have e3:(Value.slice ao ln cp)=Value.slice (some ⟨g,0,none⟩) L.length cap:=e1
    simp only [Value.slice.injEq]at e3
    obtain⟨rfl,e4,rfl⟩:=e3
    have hJ:=Tryz.strings_Join g 0 cp L ⟨#[32]⟩ wr (fun j x hx=>by rw [Nat.zero_add];exact RowS.cell hrow j x hx) (Array.getElem?_eq_some_iff.1 hgc).1 (by rw [HLn2 ()];omega) hlc (by
     rw [hfull]
     have:=HJl.out
     show(Lib.join _ [32]).length≤_
     omega)
    have HE2:Hid ((⟨(Lib.join (L.map (·.data.toList)) ({ data:=#[32] }:ByteArray).data.toList).toArray⟩:ByteArray)=lnB ⟨vb,ByteArray.empty,ags⟩):=by
     show _=_
     rw [hfull]
     rfl
    rw [HE2.out,HLn2 ()]at hJ
    clear hrow e1 e4 hgc hlc hfull HE2
    obtain⟨tx,htx⟩:∃tx,lnB ⟨vb,ByteArray.empty,ags⟩=tx:=⟨_,rfl⟩
    have HTx:Hid (lnB ⟨vb,ByteArray.empty,ags⟩=tx):=htx
    rw [htx]at hJ
    clear htx
    go_wp2_with fail
    refine hJ.mono ?_
    rintro e w3 ⟨rfl,hB⟩
    have HG3:Hid (w.grownBy w3 none):=Za HG.out (ZG hB)
    clear hB
    go_wp2_with fail
    go_ret
    refine⟨?_,HG3.out⟩
    rw [HTx.out]
    rfl
theorem line_1 (w:World) (v:Value) (s:St) (hv:Stv w v s) (hs:s.Few) (ht:Tab w) (h0:¬s.nm.size=0) :
    Calls Tryz.prog 34 #[v] w fun e w'=>e=.returned (.string (lnB s))∧w.grownBy w' none:=by
 obtain⟨u,rfl,hA⟩:=hv
 obtain⟨ab,c,rfl,HR⟩:=hA.reads
 obtain⟨vb,nm,ags⟩:=s
 simp only at HR h0
 have he:=Zu h0
 have HR1:Hid (∀w',w.grownBy w' none→∀i a,ags[i]?=some a→∃B off wv,ab=some ⟨B,off,none⟩∧AgAt w' B (off+i*12) a wv∧Ints w' wv a.wd∧ags.length≤c):=HR
 have HM:Hid (∀a∈ags,mayA a=true∧a.Few):=fun a ha=>⟨(ZJ hs.ok).2.2.2 a ha,hs.ags a ha⟩
 have HL64:Hid (ags.length≤64):=(ZJ hs.ok).2.2.1
 have HJl:Hid ((Lib.join ((lineL ⟨vb,nm,ags⟩).map (·.data.toList)) [32]).length≤70000000):=Zd7 hs
 have HTb:Hid (Tab w):=ht
 have HHd:Hid ([vb,⟨#[61]⟩++nm]++ags.map agT=lineL ⟨vb,nm,ags⟩):=by
  show [vb,⟨#[61]⟩++nm]++ags.map agT=(if nm.size=0 then [vb]else [vb,⟨#[61]⟩++nm])++ags.map agT
  rw [if_neg h0]
 have hnz:nm.size≤32:=by
  rcases(ZJ hs.ok).2.1 with h|h
  ·exact absurd h h0
  ·simp only [isNm,Bool.and_eq_true,decide_eq_true_eq]at h
   omega
 have hz1:¬9223372036854775807<1+nm.size:=by omega
 have hz2:¬9223372036854775807<(⟨#[61]⟩:ByteArray).size+nm.size:=by
  have:(⟨#[61]⟩:ByteArray).size=1:=rfl
  omega
 simp only
 obtain⟨n,hn⟩:∃n,ags.length=n:=⟨_,rfl⟩
 have HLn:Unit→ags.length=n:=fun _=>hn
 have hnI:(n:Int)≤64:=by have:=HL64.out;omega
 rw [hn]at HL64 ⊢
 simp only [hn]at HR1
 clear hn hA HR hs ht h0 hnz
 have HRow:Hid (∀w1:World,RowS (w1.alloc (.cells #[.string vb] 9)) w1.heap.size (.slice (some ⟨w1.heap.size,0,none⟩) 1 1) [vb]):=fun w1=>World.ownsRow_lit _ _ _ (Nat.le_refl _) (by decide) rfl
 have HRow2:Hid (RowS ((w.alloc (sObj vb nm (.slice ab n c))).alloc (.cells #[.string vb] 9)) (w.heap.size+1) (.slice (some ⟨w.heap.size+1,0,none⟩) 1 1) [vb]):=by
  show RowS _ _ _ _
  have:=HRow.out (w.alloc (sObj vb nm (.slice ab n c)))
  simpa using this
 clear HRow
 have hb0:((w.alloc (sObj vb nm (.slice ab n c))).alloc (.cells #[.string vb] 9)).heap[w.heap.size]?=some (sObj vb nm (.slice ab n c)):=Zx _ _ _
 have HG2:Hid (w.grownBy ((w.alloc (sObj vb nm (.slice ab n c))).alloc (.cells #[.string vb] 9)) none):=grow2 _ _ _
 have hsz2:((w.alloc (sObj vb nm (.slice ab n c))).alloc (.cells #[.string vb] 9)).heap.size ≥ w.heap.size+1:=by simp
 go_enter Tryz.func34,Tryz.ntmps34
 generalize h3:Code.region 3 _ _=c3
 go_wp2_with fail
 change Code.wp _ _ _ _ ((w.alloc (sObj vb nm (.slice ab n c))).alloc (.cells #[.string vb] 9))
 generalize(w.alloc (sObj vb nm (.slice ab n c))).alloc (.cells #[.string vb] 9)=w2 at *
 have b1:w2.cell? ⟨w.heap.size,1,none⟩=some (.string nm):=by simp [World.cell?,hb0]
 have b2:w2.cell? ⟨w.heap.size,2,none⟩=some (.slice ab n c):=by simp [World.cell?,hb0]
 clear hb0
 subst h3
 go_wp2_with (at_builtin;refine ZN rfl _ _ rfl (w.heap.size+1) (.slice (some ⟨w.heap.size+1,0,none⟩) 1 1) [vb] (⟨#[61]⟩++nm) rfl (HRow2.out.alloc _) (by simp) (by simp;omega) ⟨w2.heap.size,0,none⟩ rfl (by simp) ?_)
 intro v0 w0 hR0 hg0
 have HR0:Hid (RowS w0 (w.heap.size+1) v0 [vb,⟨#[61]⟩++nm]):=hR0
 have HG0:Hid (w.grownBy w0 none):=RowS.grown2 (Za HG2.out (grow1 _ _)) (HRow2.out.alloc _) (by omega) hg0
 have hbox:w0.cell? ⟨w.heap.size,2,none⟩=some (.slice ab n c):=by
  exact Zd hg0 (Zd (grow1 _ _) b2 (by simp)) (by simp [Value.ownBlock])
 clear hR0 hg0 HRow2 b1 b2 hsz2
 go_wp2_with fail
 go_loopw [3,21] (fun s3 ix wr=>∃i:Nat,i≤n∧ix=.int .i64 i∧RowS wr (w.heap.size+1) s3 ([vb,⟨#[61]⟩++nm]++(ags.take i).map agT)∧w.grownBy wr none) (fun _ ix _=>match ix with|.int _ i=>n-i.toNat|_=>0)
 case atStart=>exact⟨0,by omega,rfl,HR0.out,HG0.out⟩
 case round =>
  obtain⟨i,hi,rfl,hR,hg⟩:=hrel
  obtain⟨ao,cp,rfl⟩:=hR.form
  have HG:Hid (w.grownBy wr none):=hg
  obtain⟨L,hL⟩:∃L,[vb,⟨#[61]⟩++nm]++(ags.take i).map agT=L:=⟨_,rfl⟩
  have HLl:Unit→[vb,⟨#[61]⟩++nm]++(ags.take i).map agT=L:=fun _=>hL
  rw [hL]at hR ⊢
  obtain⟨ln,hln⟩:∃ln,L.length=ln:=⟨_,rfl⟩
  have HLn2:Unit→L.length=ln:=fun _=>hln
  rw [hln]at hR ⊢
  have HRw:Hid (RowS wr (w.heap.size+1) (.slice ao ln cp) L):=hR
  have hl66:ln≤66:=by
   rw [←hln,←hL]
   have h64:=HL64.out
   simp
   omega
  have hsz:=hg.size
  clear hR hg hL hln
  by_cases hlt:i<n
  ·have hlt':i<ags.length:=by rw [HLn ()];exact hlt
   obtain⟨a,hia⟩:∃a,ags[i]?=some a:=⟨_,List.getElem?_eq_getElem hlt'⟩
   obtain⟨B,off,wv,rfl,hat,hin,hnc⟩:=HR1.out wr HG.out i _ hia
   have hma:=HM.out a (List.mem_of_getElem? hia)
   have HNx:Hid ([vb,⟨#[61]⟩++nm]++(ags.take (i+1)).map agT=L++[agT a]):=by
    show _=_
    rw [←HLl (),List.take_add_one,hia]
    simp
   have HC:Hid (∀W,wr.grownBy W none→Calls Tryz.prog 58 #[agv a wv] W fun e w'=>e=.returned (.string (agT a))∧W.grownBy w' none):=fun W hg=>VW W a wv (hin.kept hg) hma.1 hma.2 (HTb.out.kept (Za HG.out hg))
   generalize agT a=tx at *
   obtain⟨ab2,c2,rfl⟩:=hin.form
   generalize a.wd.length=n2 at *
   obtain⟨k0,k1,k2,k3,k4,k5,k6,k7,k8,k9,k10,k11⟩:=hat
   have hltI:(i:Int)<n:=by omega
   clear hin hma hlt' hia
   go_wp2_with fail
   refine(HC.out _ (grow1 _ _)).mono ?_
   rintro e w1 ⟨rfl,hg1⟩
   have HG1:Hid (wr.grownBy w1 none):=Za (grow1 _ _) hg1
   have hsz1:=HG1.out.size
   clear hg1 k0 k1 k2 k3 k4 k5 k6 k7 k8 k9 k10 k11
   go_wp2_with (at_builtin;refine ZN rfl _ _ rfl (w.heap.size+1) (.slice ao ln cp) L tx rfl ((HRw.out.kept HG1.out).alloc _) (by rw [HLn2 ()];omega) (by simp;omega) ⟨w1.heap.size,0,none⟩ rfl (by simp) ?_)
   intro v' w' hR' hg'
   have HR':Hid (RowS w' (w.heap.size+1) v' ([vb,⟨#[61]⟩++nm]++(ags.take (i+1)).map agT)):=by
    show RowS _ _ _ _
    rw [HNx.out]
    exact hR'
   have HG':Hid (w.grownBy w' none):=RowS.grown2 (Za HG.out (Za HG1.out (grow1 _ _))) ((HRw.out.kept HG1.out).alloc _) (by omega) hg'
   clear hR' hg'
   go_wp2_with fail
   go_roundw
   case rel=>exact⟨i+1,by omega,Zl (by omega),HR'.out,HG'.out⟩
   case measure=>simp;omega
  ·have e:i=n:=by omega
   subst e
   have hfull:L=lineL ⟨vb,nm,ags⟩:=by
    rw [←HLl (),←HLn (),List.take_length]
    exact HHd.out
   have hrow:=HRw.out
   rcases hrow.2 with ⟨e1,e2⟩|⟨g,cap,cur,e1,hb,hgc,hlc,_⟩
   ·exfalso
    have:L.length=0:=e2
    rw [←HLl ()]at this
    simp at this
   ·have e3:(Value.slice ao ln cp)=Value.slice (some ⟨g,0,none⟩) L.length cap:=e1
    simp only [Value.slice.injEq]at e3
    obtain⟨rfl,e4,rfl⟩:=e3
    have hJ:=Tryz.strings_Join g 0 cp L ⟨#[32]⟩ wr (fun j x hx=>by rw [Nat.zero_add];exact RowS.cell hrow j x hx) (Array.getElem?_eq_some_iff.1 hgc).1 (by rw [HLn2 ()];omega) hlc (by
     rw [hfull]
     have:=HJl.out
     show(Lib.join _ [32]).length≤_
     omega)
    have HE2:Hid ((⟨(Lib.join (L.map (·.data.toList)) ({ data:=#[32] }:ByteArray).data.toList).toArray⟩:ByteArray)=lnB ⟨vb,nm,ags⟩):=by
     show _=_
     rw [hfull]
     rfl
    rw [HE2.out,HLn2 ()]at hJ
    clear hrow e1 e4 hgc hlc hfull HE2
    obtain⟨tx,htx⟩:∃tx,lnB ⟨vb,nm,ags⟩=tx:=⟨_,rfl⟩
    have HTx:Hid (lnB ⟨vb,nm,ags⟩=tx):=htx
    rw [htx]at hJ
    clear htx
    go_wp2_with fail
    refine hJ.mono ?_
    rintro e w3 ⟨rfl,hB⟩
    have HG3:Hid (w.grownBy w3 none):=Za HG.out (ZG hB)
    clear hB
    go_wp2_with fail
    go_ret
    refine⟨?_,HG3.out⟩
    rw [HTx.out]
    rfl
theorem ZeX (w:World) (v:Value) (s:St) (hv:Stv w v s) (hs:s.Few) (ht:Tab w) :
    Calls Tryz.prog 34 #[v] w fun e w'=>e=.returned (.string (lnB s))∧w.grownBy w' none:=by
 by_cases h0:s.nm.size=0
 ·exact line_0 w v s hv hs ht h0
 ·exact line_1 w v s hv hs ht h0
noncomputable def lineB (s:St):ByteArray:=if okS s=true then lnB s else eS
theorem ZdW (w:World) (v:Value) (s:St) (hv:Stv w v s) (hs:s.Fit) (hf:∀a∈s.ags,a.Few) (ht:Tab w) :
    Calls Tryz.prog 12 #[v] w fun e w'=>e=.returned (.tuple #[.string (lineB s),.int .i64 (chkS s)])∧w.grownBy w' none:=by
 have HC:Hid (∀W,w.grownBy W none→Calls Tryz.prog 15 #[v] W fun e w'=>e=.returned (.int .i64 (chkS s))∧W.grownBy w' none):=fun W hg=>Zcc W v s (hv.kept hg) hs
 have HL:Hid (okS s=true→∀W,w.grownBy W none→Calls Tryz.prog 34 #[v] W fun e w'=>e=.returned (.string (lnB s))∧W.grownBy w' none):=fun h W hg=>ZeX W v s (hv.kept hg) ⟨h,hf⟩ (ht.kept hg)
 have HB:Hid (lineB s=if okS s=true then lnB s else eS):=rfl
 have HK:Hid (chkS s=if okS s then 0 else 2):=rfl
 obtain⟨u,rfl,hA⟩:=hv
 obtain⟨ab,c,rfl,_⟩:=hA.reads
 generalize s.ags.length=n at *
 generalize s.vb=vb at *
 generalize s.nm=nm at *
 clear hA hs hf ht
 generalize lineB s=lb at *
 generalize lnB s=ln at *
 generalize chkS s=ck at *
 generalize okS s=b at *
 cases b
 ·have hck:ck=2:=HK.out
  have hlb:lb=eS:=HB.out
  subst hck hlb
  go_enter Tryz.func12,Tryz.ntmps12
  go_wp2_with fail
  refine(HC.out _ (grow1 _ _)).mono ?_
  rintro e w1 ⟨rfl,hg⟩
  have HG:Hid (w.grownBy w1 none):=Za (grow1 _ _) hg
  clear hg
  go_wp2_with fail
  go_ret2
  exact⟨rfl,HG.out⟩
 ·have hck:ck=0:=HK.out
  have hlb:lb=ln:=HB.out
  subst hck hlb
  go_enter Tryz.func12,Tryz.ntmps12
  go_wp2_with fail
  refine(HC.out _ (grow1 _ _)).mono ?_
  rintro e w1 ⟨rfl,hg⟩
  have HG:Hid (w.grownBy w1 none):=Za (grow1 _ _) hg
  have hb:w1.heap[w.heap.size]?=some (sObj vb nm (.slice ab n c)):=(hg.block _ (by simp) (by simp)).trans (heap_alloc_new _ _)
  have b0:w1.cell? ⟨w.heap.size,0,none⟩=some (.string vb):=by simp [World.cell?,hb]
  have b1:w1.cell? ⟨w.heap.size,1,none⟩=some (.string nm):=by simp [World.cell?,hb]
  have b2:w1.cell? ⟨w.heap.size,2,none⟩=some (.slice ab n c):=by simp [World.cell?,hb]
  clear hg hb
  go_wp2_with fail
  refine(HL.out trivial _ HG.out).mono ?_
  rintro e w2 ⟨rfl,hg⟩
  have HG2:Hid (w.grownBy w2 none):=Za HG.out hg
  clear hg
  go_wp2_with fail
  go_ret2
  exact⟨rfl,HG2.out⟩
theorem rArg_1 (w:World) (a:Ag) (u:Value) (hu:Ints w u a.wd) (hk:a.k=1) :
    Calls Tryz.prog 35 #[agv a u] w fun e w'=>e=.returned (.string (agT a))∧w.grownBy w' none:=by
 have HT:Hid (agT a=a.nm):=by
  show _=_
  simp [agT,hk]
 obtain⟨ab,c,rfl⟩:=hu.form
 obtain⟨k,nm,z,wd,ct⟩:=a
 simp only at hk
 subst hk
 simp only at HT
 clear hu
 generalize wd.length=n at *
 go_enter Tryz.func35,Tryz.ntmps35
 go_wp2_with fail
 go_ret
 rw [HT.out]
 exact⟨rfl,grow1 _ _⟩
theorem rArg_3 (w:World) (a:Ag) (u:Value) (hu:Ints w u a.wd) (hk:a.k=3) :
    Calls Tryz.prog 35 #[agv a u] w fun e w'=>e=.returned (.string (agT a))∧w.grownBy w' none:=by
 have HT:Hid (agT a=⟨#[40,105,110,102,41]⟩):=by
  show _=_
  simp [agT,hk]
 obtain⟨ab,c,rfl⟩:=hu.form
 obtain⟨k,nm,z,wd,ct⟩:=a
 simp only at hk
 subst hk
 clear hu
 generalize wd.length=n at *
 go_enter Tryz.func35,Tryz.ntmps35
 go_wp2_with fail
 go_ret
 rw [HT.out]
 exact⟨rfl,grow1 _ _⟩
theorem rArg_5 (w:World) (a:Ag) (u:Value) (hu:Ints w u a.wd) (hk:a.k=5) (hct:isCt a.ct=true) (ht:Tab w) :
    Calls Tryz.prog 35 #[agv a u] w fun e w'=>e=.returned (.string (agT a))∧w.grownBy w' none:=by
 have HT:Hid (agT a=⟨#[35]⟩++itB a.ct):=by
  show _=_
  simp [agT,hk]
 have h64:i64 a.ct:=by
  simp only [isCt,Bool.and_eq_true,decide_eq_true_eq]at hct
  exact⟨by omega,by omega⟩
 have HC:Hid (∀W,w.grownBy W none→Calls Tryz.prog 61 #[.int .i64 a.ct,.int .i64 10] W fun e w'=>e=.returned (.string (itB a.ct))∧W.grownBy w' none):=fun W hg=>UD _ h64 W (ht.kept hg)
 have hsz:=Xv _ h64
 obtain⟨ab,c,rfl⟩:=hu.form
 obtain⟨k,nm,z,wd,ct⟩:=a
 simp only at hk
 subst hk
 simp only at HT HC hsz
 clear hu ht hct h64
 have hz:¬9223372036854775807<1+(itB ct).size:=by omega
 have hz2:¬9223372036854775807<(⟨#[35]⟩:ByteArray).size+(itB ct).size:=by
  have:(⟨#[35]⟩:ByteArray).size=1:=rfl
  omega
 clear hsz
 generalize itB ct=tx at *
 generalize wd.length=n at *
 go_enter Tryz.func35,Tryz.ntmps35
 go_wp2_with fail
 refine(HC.out _ (grow1 _ _)).mono ?_
 rintro e w1 ⟨rfl,hg⟩
 have HG:Hid (w.grownBy w1 none):=Za (grow1 _ _) hg
 clear hg
 go_wp2_with fail
 go_ret
 rw [HT.out]
 exact⟨rfl,HG.out⟩
theorem Jr (c:UInt8) (xs:List (List UInt8)) (y:List UInt8) (h:xs≠[]):Lib.join (xs++[y]) [c]=Lib.join xs [c]++c::y:=by
 induction xs with
 |nil=>exact absurd rfl h
 |cons a l ih =>
  cases l with
  |nil=>simp [Lib.join,List.intercalate]
  |cons b l =>
   have:=ih (by simp)
   simp only [Lib.join,List.intercalate,List.cons_append,List.intersperse,List.flatten_cons]at this ⊢
   rw [this]
   simp
theorem ba_eq {a b:ByteArray} (h:a.data.toList=b.data.toList):a=b:=ByteArray.ext (Array.toList_inj.1 h)
def ptB (wd:List Int) (i:Nat):ByteArray:=⟨#[91]⟩++ltB (wd.take i)
theorem ptB_0 (wd:List Int) (x:Int) (h:wd[0]?=some x):⟨#[91]⟩++itB x=ptB wd 1:=by
 unfold ptB
 rw [List.take_add_one,h]
 simp [ltB,itB,Lib.join,List.intercalate]
theorem ptB_s (wd:List Int) (i:Nat) (x:Int) (hi:0<i) (h:wd[i]?=some x):ptB wd i++⟨#[46]⟩++itB x=ptB wd (i+1):=by
 have hlt:i<wd.length:=(List.getElem?_eq_some_iff.1 h).1
 have hj:=Jr 46 ((wd.take i).map Lib.itoa) (Lib.itoa x) (by
  intro e
  have:=congrArg List.length e
  rw [List.length_map,List.length_take,List.length_nil]at this
  omega)
 have e:ltB (wd.take (i+1))=ltB (wd.take i)++⟨#[46]⟩++itB x:=by
  apply ba_eq
  unfold ltB itB
  rw [List.take_add_one,h]
  simp only [Option.toList_some,List.map_append,List.map_cons,List.map_nil,hj,ByteArray.data_append,Array.toList_append]
  simp
 unfold ptB
 rw [e]
 simp [ByteArray.append_assoc]
theorem rArg_4 (w:World) (a:Ag) (u:Value) (hu:Ints w u a.wd) (hk:a.k=4) (hwd:isWd a.wd=true) (ht:Tab w) :
    Calls Tryz.prog 35 #[agv a u] w fun e w'=>e=.returned (.string (agT a))∧w.grownBy w' none:=by
 have HT:Hid (agT a=⟨#[91]⟩++ltB a.wd++⟨#[93]⟩):=by
  show _=_
  simp [agT,hk]
 have HTb:Hid (Tab w):=ht
 have hkk:a.wd.length≤4096∧∀x∈a.wd,isLt x=true:=by
  simp only [isWd,Bool.and_eq_true,decide_eq_true_eq,List.all_eq_true]at hwd
  exact hwd
 obtain⟨ab,c,rfl,HR⟩:=hu.reads
 obtain⟨k,nm,z,wd,ct⟩:=a
 simp only at hk
 subst hk
 have HR1:Hid (∀w',w.grownBy w' none→∀i,i<wd.length→∃B off,ab=some ⟨B,off,none⟩∧w'.cell? ⟨B,off+i,none⟩=some (.int .i64 (wd[i]?.getD 0))∧wd.length≤c):=HR
 simp only at HT hkk
 have HLn:Hid (∀x∈wd,isLt x=true):=hkk.2
 obtain⟨n,hn⟩:∃n,wd.length=n:=⟨_,rfl⟩
 have HN:Unit→wd.length=n:=fun _=>hn
 have hnI:(n:Int)≤4096:=by have:=hkk.1;omega
 simp only
 rw [hn]at HR1 ⊢
 clear hn hkk hwd hu HR ht
 have HSz:Hid (∀i,i≤n→(ptB wd i).size≤100000):=fun i hi=>by
  have h:=VU ((wd.take i).map Lib.itoa) (fun x hx=>by
   obtain⟨y,hy,rfl⟩:=List.mem_map.1 hx
   have:=YH (HLn.out y (List.mem_of_mem_take hy))
   exact Lib.itoa_length_le y (by omega) (by omega))
  rw [List.length_map,List.length_take]at h
  have e:(ptB wd i).size=1+(Lib.join ((wd.take i).map Lib.itoa) [46]).length:=by
   simp [ptB,ltB,ByteArray.size_append,ByteArray.size]
   omega
  omega
 have HFin:Hid (agT ⟨4,nm,z,wd,ct⟩=ptB wd n++⟨#[93]⟩):=by
  show _=_
  rw [HT.out]
  unfold ptB
  rw [←HN (),List.take_length]
 clear HT
 go_enter Tryz.func35,Tryz.ntmps35
 go_wp2_with fail
 go_loopw [3,4] (fun s3 ix wr=>∃i:Nat,i≤n∧ix=.int .i64 i∧s3=.string (ptB wd i)∧(w.alloc (.cells (agc ⟨4,nm,z,wd,ct⟩ (.slice ab n c)) 45)).grownBy wr none) (fun _ ix _=>match ix with|.int _ i=>n-i.toNat|_=>0)
 case atStart=>exact⟨0,by omega,rfl,by(show Value.string _=Value.string _;congr 1),grow0 _⟩
 case round =>
  obtain⟨i,hi,rfl,rfl,hg⟩:=hrel
  have HGb:Hid ((w.alloc (.cells (agc ⟨4,nm,z,wd,ct⟩ (.slice ab n c)) 45)).grownBy wr none):=hg
  have HG:Hid (w.grownBy wr none):=Za (grow1 _ _) hg
  have hA:ABk wr w.heap.size ⟨4,nm,z,wd,ct⟩ (.slice ab n c):=ABk.kept (heap_alloc_new _ _) hg
  have a10:=hA.at.c10
  simp only [Nat.zero_add]at a10
  have hsz:=HSz.out i hi
  clear hg hA
  by_cases hlt:i<n
  ·obtain⟨B1,off,rfl,hc,hnc⟩:=HR1.out wr HG.out i hlt
   have hltI:(i:Int)<n:=by omega
   have hlt':i<wd.length:=by rw [HN ()];exact hlt
   obtain⟨x,hx⟩:∃x,wd[i]?=some x:=⟨_,List.getElem?_eq_getElem hlt'⟩
   have hxr:=YH (HLn.out x (List.mem_of_getElem? hx))
   have h64:i64 x:=⟨by omega,by omega⟩
   have hxs:=Xv x h64
   have HC:=UD x h64 wr (HTb.out.kept HG.out)
   rw [hx]at hc
   simp only [Option.getD_some]at hc
   have HS0:Hid (i=0→ptB wd i++itB x=ptB wd (i+1)):=fun e=>by
    subst e
    have:=ptB_0 wd x hx
    rw [←this]
    have e0:ptB wd 0=⟨#[91]⟩:=by
     unfold ptB
     rw [List.take_zero]
     rfl
    rw [e0]
   have HS1:Hid (0<i→ptB wd i++⟨#[46]⟩++itB x=ptB wd (i+1)):=fun e=>ptB_s wd i x e hx
   have hz0:¬9223372036854775807<(ptB wd i).size+(itB x).size:=by omega
   have hz1:¬9223372036854775807<(ptB wd i).size+1:=by omega
   have hz2:¬9223372036854775807<(ptB wd i).size+1+(itB x).size:=by omega
   clear hlt' hx hxr h64 hxs hsz
   generalize ptB wd i=pb at *
   generalize itB x=xb at *
   by_cases h0:i=0
   ·have HS:Hid (pb++xb=ptB wd (i+1)):=HS0.out h0
    subst h0
    simp only [Nat.add_zero]at hc
    go_wp2_with fail
    refine HC.mono ?_
    rintro e w1 ⟨rfl,hg⟩
    have HG1:Hid ((w.alloc (.cells (agc ⟨4,nm,z,wd,ct⟩ (.slice (some ⟨B1,off,none⟩) n c)) 45)).grownBy w1 none):=Za HGb.out hg
    clear hg
    go_wp2_with fail
    go_roundw
    case rel=>exact⟨1,by omega,rfl,by rw [HS.out],HG1.out⟩
    case measure=>simp;omega
   ·have HS:Hid (pb++⟨#[46]⟩++xb=ptB wd (i+1)):=HS1.out (by omega)
    have h0I:(0:Int)<i:=by omega
    clear h0
    go_wp2_with fail
    refine HC.mono ?_
    rintro e w1 ⟨rfl,hg⟩
    have HG1:Hid ((w.alloc (.cells (agc ⟨4,nm,z,wd,ct⟩ (.slice (some ⟨B1,off,none⟩) n c)) 45)).grownBy w1 none):=Za HGb.out hg
    clear hg
    go_wp2_with fail
    go_roundw
    case rel=>exact⟨i+1,by omega,Zl (by omega),by rw [HS.out],HG1.out⟩
    case measure=>simp;omega
  ·have e:i=n:=by omega
   subst e
   have hz1:¬9223372036854775807<(ptB wd i).size+1:=by omega
   clear hsz
   generalize ptB wd i=pb at *
   go_wp2_with fail
   go_ret
   refine⟨?_,HG.out⟩
   rw [HFin.out]
   rfl
def cB (xs:List ByteArray):ByteArray:=⟨(Lib.join (xs.map (·.data.toList)) [32]).toArray⟩
theorem ZaM (xs:List ByteArray) (y:ByteArray) (h:xs≠[]):cB (xs++[y])=cB xs++⟨#[32]⟩++y:=by
 have hj:=Jr 32 (xs.map (·.data.toList)) y.data.toList (by simpa using h)
 apply ba_eq
 unfold cB
 simp only [List.map_append,List.map_cons,List.map_nil,hj,ByteArray.data_append,Array.toList_append]
 simp
theorem cB_one (x:ByteArray):cB [x]=x:=by
 apply ba_eq
 simp [cB,Lib.join,List.intercalate]
theorem cB_two (x y:ByteArray):x++⟨#[32,61]⟩++y=cB [x,⟨#[61]⟩++y]:=by
 have h:=ZaM [x] (⟨#[61]⟩++y) (by simp)
 simp only [List.cons_append,List.nil_append]at h
 rw [h,cB_one]
 apply ba_eq
 simp
theorem Zd2 {xs:List ByteArray} (hl:xs.length≤66) (h:∀x∈xs,x.size≤1000000):(cB xs).size≤70000000:=by
 have h1:=J1 1000000 (xs.map (·.data.toList)) (fun x hx=>by
  obtain⟨y,hy,rfl⟩:=List.mem_map.1 hx
  have:=h y hy
  show y.data.toList.length≤_
  rw [Array.length_toList]
  exact this)
 rw [List.length_map]at h1
 have h2:(1000000+1)*xs.length≤(1000000+1)*66:=Nat.mul_le_mul_left _ hl
 have e:(cB xs).size=(Lib.join (xs.map (·.data.toList)) [32]).length:=by
  show(List.toArray _).size=_
  rw [List.size_toArray]
 omega
theorem ZeJ (w:World) (v:Value) (s:St) (hv:Stv w v s) (hft:s.Fit) (hs:okS s=false) :
    Calls Tryz.prog 13 #[v] w fun e w'=>e=.returned (.tuple #[.string (lineB s),.int .i64 (chkS s)])∧w.grownBy w' none:=by
 have e2:chkS s=2:=by
  unfold chkS
  rw [hs]
  rfl
 have e3:lineB s=eS:=by
  unfold lineB
  rw [hs]
  rfl
 have HC:Hid (∀W,w.grownBy W none→Calls Tryz.prog 16 #[v] W fun e w'=>e=.returned (.int .i64 2)∧W.grownBy w' none):=fun W hg=>by
  have h:=XO W v s (hv.kept hg) hft
  rw [e2]at h
  exact h
 rw [e2,e3]
 obtain⟨u,rfl,hA⟩:=hv
 obtain⟨ab,c,rfl,_⟩:=hA.reads
 generalize s.ags.length=n at *
 generalize s.vb=vb at *
 generalize s.nm=nm at *
 clear hA hs hft e2 e3
 go_enter Tryz.func13,Tryz.ntmps13
 go_wp2_with fail
 refine(HC.out _ (grow1 _ _)).mono ?_
 rintro e w1 ⟨rfl,hg⟩
 have HG:Hid (w.grownBy w1 none):=Za (grow1 _ _) hg
 clear hg
 go_wp2_with fail
 go_ret2
 exact⟨rfl,HG.out⟩
def eqAs:List Ag→List Ag→Bool
 |[],[]=>true
 |x::l,y::m=>x.eqb y && eqAs l m
 |_,_=>false
theorem XA:∀ {l m:List Ag},eqAs l m=true ↔ l=m
 |[],[]=>by simp [eqAs]
 |[],y::m=>by simp [eqAs]
 |x::l,[]=>by simp [eqAs]
 |x::l,y::m=>by simp [eqAs,Ag.eqb_iff,XA (l:=l) (m:=m)]
def St.eqb (s t:St):Bool:=decide (s.vb=t.vb) && (decide (s.nm=t.nm) && eqAs s.ags t.ags)
theorem St.eqb_iff {s t:St}:s.eqb t=true ↔ s=t:=by
 cases s;cases t
 simp [St.eqb,XA]
theorem ZeU {l m:List Ag} (h:l.length≠m.length):eqAs l m=false:=by
 cases hq:eqAs l m
 ·rfl
 ·exact absurd (congrArg List.length (XA.1 hq)) h
theorem Ze6 {l m:List Ag} (hl:l.length=m.length) (h:∀j,j<l.length→l[j]?=m[j]?):l=m:=by
 apply List.ext_getElem?
 intro j
 by_cases hj:j<l.length
 ·exact h j hj
 ·rw [List.getElem?_eq_none (by omega),List.getElem?_eq_none (by omega)]
end Go.Proofs.YtdcadiaeaclpgaaGreatDoor
