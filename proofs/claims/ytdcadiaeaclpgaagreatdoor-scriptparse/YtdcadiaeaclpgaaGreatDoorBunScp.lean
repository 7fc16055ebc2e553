/- The program's text of a word's letters. -/
import Derived.Test.YtdcadiaeaclpgaaGreatDoorBunSlj
import Derived.Test.YtdcadiaeaclpgaaGreatDoorBunCut
namespace Go.Proofs.YtdcadiaeaclpgaaGreatDoor
open Go.RowKit Go.Lib Go.Sort
set_option linter.unusedVariables false
set_option linter.unusedSimpArgs false
set_option maxHeartbeats 6400000
set_option maxRecDepth 1000000
def ltB (L:List Int):ByteArray:=⟨(Lib.join (L.map Lib.itoa) [46]).toArray⟩
def SB (w:World) (g:Nat) (xs:List ByteArray):Prop:=w.heap[g]?=some (.cells (xs.map Value.string).toArray 9 (0,0))
theorem SB.cell {w:World} {g:Nat} {xs:List ByteArray} (h:SB w g xs) (j:Nat) (x:ByteArray) (hx:xs[j]?=some x):w.cell? ⟨g,j,none⟩=some (.string x):=by
 unfold SB at h
 simp [World.cell?,h,hx]
theorem SB.fr {w:World} {g:Nat} {xs:List ByteArray} (h:SB w g xs) (j:Nat):w.frozen? ⟨g,j,none⟩=false:=by
 unfold SB at h
 simp [World.frozen?,h]
theorem SB.set {w:World} {g:Nat} {xs:List ByteArray} (h:SB w g xs) (j:Nat) (x:ByteArray):SB (w.setCell ⟨g,j,none⟩ (.string x)) g (xs.set j x):=by
 unfold SB at *
 simp [World.setCell,Array.getElem?_modify,h,List.map_set]
theorem SB.kept {w w':World} {g:Nat} {xs:List ByteArray} (h:SB w g xs) (hg:w.grownBy w' none):SB w' g xs :=
 (hg.block g (Array.getElem?_eq_some_iff.1 h).1 (by simp)).trans h
theorem ZcM (w:World) (n:Nat) (hn:n≤1000000):(Instr.makeSlice 66 (.int .i64 (n:Int)) (.int .i64 (n:Int))).run Tryz.prog w=.ok (.slice (some ⟨w.heap.size,0,none⟩) n n) (w.alloc (.cells ((List.replicate n (⟨#[]⟩:ByteArray)).map Value.string).toArray 9)):=by
 obtain⟨i0,hi,hz0,hz1,hz2⟩:=info_parts Tryz.infoStr
 have hr:=run_make (P:=Tryz.prog) w 66 9 i0 (.string ⟨#[]⟩) Tryz.underlying66 hi hz0 .i64 .i64 n n (by omega) (by omega) (by rw [hz2];omega) (by omega)
 rw [hr,Int.toNat_natCast,hz1]
 have e:madeCells (Value.string ⟨#[]⟩).cells (n*1)=((List.replicate n (⟨#[]⟩:ByteArray)).map Value.string).toArray:=by
  apply Array.ext
  ·simp [madeCells]
  ·intro i h1 h2
   simp [madeCells,Value.cells,Nat.mod_one]
 rw [e]
theorem VU (xs:List (List UInt8)) (h:∀x∈xs,x.length≤21):(Lib.join xs [46]).length≤22*xs.length:=by
 induction xs with
 |nil=>simp [Lib.join,List.intercalate]
 |cons a l ih =>
  cases l with
  |nil =>
   have:=h a (by simp)
   simp [Lib.join,List.intercalate]
   omega
  |cons b l =>
   have h1:=h a (by simp)
   have h2:=ih (fun x hx=>h x (by simp at hx ⊢;exact .inr hx))
   simp only [Lib.join,List.intercalate,List.intersperse,List.flatten_cons,List.length_append,List.length_cons,List.length_nil]at h2 ⊢
   omega
theorem YH {x:Int} (h:isLt x=true):-4096≤x∧x≤4096:=by
 simp [isLt]at h
 omega
theorem Zaz (w:World) (v:Value) (L:List Int) (h:Ints w v L) (hok:isWd L=true) (ht:Tab w) :
    Calls Tryz.prog 83 #[v] w fun e w'=>e=.returned (.string (ltB L))∧w.grownBy w' none:=by
 have HT:Hid (Tab w):=ht
 obtain⟨ab,c,rfl,HR⟩:=h.reads
 have HR1:Hid (∀w',w.grownBy w' none→∀i,i<L.length→∃B off,ab=some ⟨B,off,none⟩∧w'.cell? ⟨B,off+i,none⟩=some (.int .i64 (L[i]?.getD 0))∧L.length≤c):=HR
 have hk:L.length≤4096∧∀x∈L,isLt x=true:=by
  simp only [isWd,Bool.and_eq_true,decide_eq_true_eq,List.all_eq_true]at hok
  exact hok
 have HLn:Hid (∀x∈L,isLt x=true):=hk.2
 obtain⟨n,hn⟩:∃n,L.length=n:=⟨_,rfl⟩
 have HN:Unit→L.length=n:=fun _=>hn
 have hnI:(n:Int)≤4096:=by have:=hk.1;omega
 rw [hn]at HR1 ⊢
 clear hn hk hok h HR ht
 have hmk:=ZcM w n (by omega)
 have HS0:Hid (SB (w.alloc (.cells ((List.replicate n (⟨#[]⟩:ByteArray)).map Value.string).toArray 9)) w.heap.size (List.replicate n ⟨#[]⟩)):=heap_alloc_new _ _
 have HG2:Hid (w.grownBy (w.alloc (.cells ((List.replicate n (⟨#[]⟩:ByteArray)).map Value.string).toArray 9)) none):=grow1 _ _
 have hsz:w.heap.size≤w.heap.size:=Nat.le_refl _
 generalize w.alloc (.cells ((List.replicate n (⟨#[]⟩:ByteArray)).map Value.string).toArray 9)=w2 at *
 go_enter Tryz.func83,Tryz.ntmps83
 go_wp2_with fail
 go_loopw [11] (fun s wr=>∃(i:Nat) (xs:List ByteArray),i≤n∧s=.int .i64 i∧(xs.length=n∧∀j,j<i→xs[j]?.getD ⟨#[]⟩=itB (L[j]?.getD 0))∧SB wr w.heap.size xs∧w.grownBy wr none) (fun s _=>match s with|.int _ i=>n-i.toNat|_=>0)
 case atStart=>exact⟨0,_,by omega,rfl,⟨by simp,fun j hj=>by omega⟩,HS0.out,HG2.out⟩
 case round =>
  obtain⟨i,xs,hi,rfl,hxs,hS,hG⟩:=hrel
  have HX:Hid (xs.length=n∧∀j,j<i→xs[j]?.getD ⟨#[]⟩=itB (L[j]?.getD 0)):=hxs
  have HS:Hid (SB wr w.heap.size xs):=hS
  have HG:Hid (w.grownBy wr none):=hG
  clear hxs hS hG
  by_cases hlt:i<n
  ·obtain⟨B,off,rfl,hc,hnc⟩:=HR1.out wr HG.out i hlt
   have hlt':i<L.length:=by rw [HN ()];exact hlt
   have hxn:=YH (HLn.out _ (List.getElem_mem hlt'))
   have hx:L[i]?.getD 0=L[i]:=by rw [List.getElem?_eq_getElem hlt'];rfl
   rw [←hx]at hxn
   have HIt:=Za8 (L[i]?.getD 0) ⟨by omega,by omega⟩ wr (HT.out.kept HG.out)
   have HNx:Hid (∀wn,wr.grownBy wn none→wn.cell? ⟨w.heap.size,i,none⟩=some (.string (xs[i]?.getD ⟨#[]⟩))∧wn.frozen? ⟨w.heap.size,i,none⟩=false∧SB (wn.setCell ⟨w.heap.size,i,none⟩ (.string (itB (L[i]?.getD 0)))) w.heap.size (xs.set i (itB (L[i]?.getD 0)))):=by
    intro wn hg
    have hs:=HS.out.kept hg
    refine⟨hs.cell i _ ?_,hs.fr i,hs.set i _⟩
    rw [List.getElem?_eq_getElem (by rw [HX.out.1];exact hlt)]
    rfl
   have HX2:Hid ((xs.set i (itB (L[i]?.getD 0))).length=n∧∀j,j<i+1→(xs.set i (itB (L[i]?.getD 0)))[j]?.getD ⟨#[]⟩=itB (L[j]?.getD 0)):=by
    refine⟨by rw [List.length_set];exact HX.out.1,fun j hj=>?_⟩
    rw [List.getElem?_set]
    by_cases e:i=j
    ·subst e
     rw [if_pos rfl,if_pos (by rw [HX.out.1];exact hlt)]
     rfl
    ·rw [if_neg e]
     exact HX.out.2 j (by omega)
   have hltI:(i:Int)<n:=by omega
   clear hx hxn
   generalize itB (L[i]?.getD 0)=tt at *
   generalize hxx:L[i]?.getD 0=x at *
   clear hxx
   go_wp2_with fail
   refine HIt.mono ?_
   rintro e wn ⟨rfl,hgn⟩
   obtain⟨k1,k2,k3⟩:=HNx.out wn hgn
   have HK3:Hid (SB (wn.setCell ⟨w.heap.size,i,none⟩ (.string tt)) w.heap.size (xs.set i tt)):=k3
   have HGn:Hid (w.grownBy (wn.setCell ⟨w.heap.size,i,none⟩ (.string tt)) none):=Zb (Za HG.out hgn) hsz
   clear k3 hgn
   go_wp2_with fail
   go_roundw
   case rel=>exact⟨i+1,_,by omega,Zl (by omega),HX2.out,HK3.out,HGn.out⟩
   case measure=>simp;omega
  ·have e:i=n:=by omega
   subst e
   have HXe:Hid (xs=L.map itB):=by
    apply List.ext_getElem (by rw [HX.out.1,List.length_map,HN ()])
    intro j h1 h2
    have:=HX.out.2 j (by rw [HX.out.1]at h1;exact h1)
    rw [List.getElem?_eq_getElem h1,List.getElem?_eq_getElem (by simpa using h2)]at this
    simpa using this
   have hS:=HS.out
   have hJ:=Tryz.strings_Join w.heap.size 0 i xs ⟨#[46]⟩ wr (fun j x hx=>by rw [Nat.zero_add];exact hS.cell j x hx) (Array.getElem?_eq_some_iff.1 hS).1 (by rw [HX.out.1];omega) (by rw [HX.out.1];omega) (by
    rw [HXe.out,List.map_map]
    have:=VU (L.map Lib.itoa) (fun x hx=>by
     obtain⟨y,hy,rfl⟩:=List.mem_map.1 hx
     have:=YH (HLn.out y hy)
     exact Lib.itoa_length_le y (by omega) (by omega))
    rw [List.length_map,HN ()]at this
    have e2:(L.map ((fun x:ByteArray=>x.data.toList) ∘ itB))=L.map Lib.itoa:=by
     apply List.map_congr_left
     intro y _
     rfl
    rw [e2]
    show(Lib.join (L.map Lib.itoa) [46]).length≤_
    omega)
   have e2:xs.map (fun x:ByteArray=>x.data.toList)=L.map Lib.itoa:=by
    rw [HXe.out,List.map_map]
    apply List.map_congr_left
    intro y _
    rfl
   rw [e2,HX.out.1]at hJ
   clear hS e2
   go_wp2_with fail
   refine hJ.mono ?_
   rintro e w3 ⟨rfl,hB⟩
   have HG3:Hid (w.grownBy w3 none):=Za HG.out (ZG hB)
   clear hB
   have HE:Hid ((⟨(Lib.join (L.map Lib.itoa) [46]).toArray⟩:ByteArray)=ltB L):=rfl
   have HE2:Hid (ltB L=⟨(Lib.join (L.map Lib.itoa) ({ data:=#[46] }:ByteArray).data.toList).toArray⟩):=rfl
   rw [←HE2.out]
   obtain⟨tx,htx⟩:∃tx,ltB L=tx:=⟨_,rfl⟩
   have HTx:Hid (ltB L=tx):=htx
   rw [htx]
   clear HE2 HE htx
   go_wp2_with fail
   go_ret
   refine⟨?_,HG3.out⟩
   rw [HTx.out]
   rfl
noncomputable def agT (a:Ag):ByteArray :=
 if a.k=2 then⟨#[40]⟩++qT a.z.a a.z.b a.z.c a.z.d++⟨#[44]⟩++qT a.z.e a.z.f a.z.g a.z.h++⟨#[41]⟩
 else if a.k=3 then⟨#[40,105,110,102,41]⟩
 else if a.k=4 then⟨#[91]⟩++ltB a.wd++⟨#[93]⟩
 else if a.k=5 then⟨#[35]⟩++itB a.ct
 else a.nm
structure Ag.Few (a:Ag):Prop where
 b:a.z.b.size≤200
 d:a.z.d.size≤200
 f:a.z.f.size≤200
 h:a.z.h.size≤200
theorem may_k1 {a:Ag} (h:mayA a=true) (hk:a.k=1):isNm a.nm=true:=by
 rw [may_1 a hk,Bool.and_eq_true]at h
 exact h.1
theorem Zbl {a:Ag} (h:mayA a=true) (hk:a.k=2):mayZ a.z=true:=by
 rw [may_2 a hk,Bool.and_eq_true]at h
 exact h.1
theorem ZbR {a:Ag} (h:mayA a=true) (hk:a.k=4):isWd a.wd=true:=by
 rw [may_4 a hk,Bool.and_eq_true]at h
 exact h.1
theorem ZbN {a:Ag} (h:mayA a=true) (hk:a.k=5):isCt a.ct=true:=by
 rw [may_5 a hk,Bool.and_eq_true]at h
 exact h.1
theorem may_k {a:Ag} (h:mayA a=true):a.k=1∨a.k=2∨a.k=3∨a.k=4∨a.k=5:=by
 unfold mayA at h
 split at h
 ·exact .inl (by assumption)
 split at h
 ·exact .inr (.inl (by assumption))
 split at h
 ·exact .inr (.inr (.inl (by assumption)))
 split at h
 ·exact .inr (.inr (.inr (.inl (by assumption))))
 split at h
 ·exact .inr (.inr (.inr (.inr (by assumption))))
 ·cases h
theorem Zev (w:World) (a:Ag) (u:Value) (hu:Ints w u a.wd) (hk:a.k=1) :
    Calls Tryz.prog 58 #[agv a u] w fun e w'=>e=.returned (.string (agT a))∧w.grownBy w' none:=by
 have HT:Hid (agT a=a.nm):=by
  show _=_
  simp [agT,hk]
 obtain⟨ab,c,rfl⟩:=hu.form
 obtain⟨k,nm,z,wd,ct⟩:=a
 simp only at hk
 subst hk
 simp only at HT
 clear hu
 generalize wd.length=n at *
 go_enter Tryz.func58,Tryz.ntmps58
 go_wp2_with fail
 go_ret
 rw [HT.out]
 exact⟨rfl,grow1 _ _⟩
theorem ZdE (w:World) (a:Ag) (u:Value) (hu:Ints w u a.wd) (hk:a.k=3) :
    Calls Tryz.prog 58 #[agv a u] w fun e w'=>e=.returned (.string (agT a))∧w.grownBy w' none:=by
 have HT:Hid (agT a=⟨#[40,105,110,102,41]⟩):=by
  show _=_
  simp [agT,hk]
 obtain⟨ab,c,rfl⟩:=hu.form
 obtain⟨k,nm,z,wd,ct⟩:=a
 simp only at hk
 subst hk
 clear hu
 generalize wd.length=n at *
 go_enter Tryz.func58,Tryz.ntmps58
 go_wp2_with fail
 go_ret
 rw [HT.out]
 exact⟨rfl,grow1 _ _⟩
theorem Zc5 (w:World) (a:Ag) (u:Value) (hu:Ints w u a.wd) (hk:a.k=5) (hct:isCt a.ct=true) (ht:Tab w) :
    Calls Tryz.prog 58 #[agv a u] w fun e w'=>e=.returned (.string (agT a))∧w.grownBy w' none:=by
 have HT:Hid (agT a=⟨#[35]⟩++itB a.ct):=by
  show _=_
  simp [agT,hk]
 have h64:i64 a.ct:=by
  simp only [isCt,Bool.and_eq_true,decide_eq_true_eq]at hct
  exact⟨by omega,by omega⟩
 have HC:Hid (∀W,w.grownBy W none→Calls Tryz.prog 84 #[.int .i64 a.ct] W fun e w'=>e=.returned (.string (itB a.ct))∧W.grownBy w' none):=fun W hg=>Za8 _ h64 W (ht.kept hg)
 have hsz:=Xv _ h64
 obtain⟨ab,c,rfl⟩:=hu.form
 obtain⟨k,nm,z,wd,ct⟩:=a
 simp only at hk
 subst hk
 simp only at HT HC hsz
 clear hu ht hct h64
 have hz:¬9223372036854775807<1+(itB ct).size:=by omega
 have hz2:¬9223372036854775807<(⟨#[35]⟩:ByteArray).size+(itB ct).size:=by
  have:(⟨#[35]⟩:ByteArray).size=1:=rfl
  omega
 clear hsz
 generalize itB ct=tx at *
 generalize wd.length=n at *
 go_enter Tryz.func58,Tryz.ntmps58
 go_wp2_with fail
 refine(HC.out _ (grow1 _ _)).mono ?_
 rintro e w1 ⟨rfl,hg⟩
 have HG:Hid (w.grownBy w1 none):=Za (grow1 _ _) hg
 clear hg
 go_wp2_with fail
 go_ret
 rw [HT.out]
 exact⟨rfl,HG.out⟩
theorem Je (L:List Int) (h:isWd L=true):(ltB L).size≤100000:=by
 have hk:L.length≤4096∧∀x∈L,isLt x=true:=by
  simp only [isWd,Bool.and_eq_true,decide_eq_true_eq,List.all_eq_true]at h
  exact h
 have:=VU (L.map Lib.itoa) (fun x hx=>by
  obtain⟨y,hy,rfl⟩:=List.mem_map.1 hx
  have:=YH (hk.2 y hy)
  exact Lib.itoa_length_le y (by omega) (by omega))
 rw [List.length_map]at this
 have e:(ltB L).size=(Lib.join (L.map Lib.itoa) [46]).length:=by simp [ltB,ByteArray.size]
 omega
theorem ZdY (w:World) (a:Ag) (u:Value) (hu:Ints w u a.wd) (hk:a.k=4) (hwd:isWd a.wd=true) (ht:Tab w) :
    Calls Tryz.prog 58 #[agv a u] w fun e w'=>e=.returned (.string (agT a))∧w.grownBy w' none:=by
 have HT:Hid (agT a=⟨#[91]⟩++ltB a.wd++⟨#[93]⟩):=by
  show _=_
  simp [agT,hk]
 have HC:Hid (∀W,w.grownBy W none→Calls Tryz.prog 83 #[u] W fun e w'=>e=.returned (.string (ltB a.wd))∧W.grownBy w' none):=fun W hg=>Zaz W u a.wd (hu.kept hg) hwd (ht.kept hg)
 have hsz:=Je _ hwd
 obtain⟨ab,c,rfl⟩:=hu.form
 obtain⟨k,nm,z,wd,ct⟩:=a
 simp only at hk
 subst hk
 simp only at HT HC hsz
 clear hu ht hwd
 have hz:¬9223372036854775807<1+(ltB wd).size:=by omega
 have hz2:¬9223372036854775807<1+(ltB wd).size+1:=by omega
 have hz3:¬9223372036854775807<(⟨#[91]⟩:ByteArray).size+(ltB wd).size:=by
  have:(⟨#[91]⟩:ByteArray).size=1:=rfl
  omega
 have hz4:¬9223372036854775807<(⟨#[91]⟩:ByteArray).size+(ltB wd).size+1:=by
  have:(⟨#[91]⟩:ByteArray).size=1:=rfl
  omega
 clear hsz
 generalize ltB wd=tx at *
 generalize wd.length=n at *
 go_enter Tryz.func58,Tryz.ntmps58
 go_wp2_with fail
 refine(HC.out _ (grow1 _ _)).mono ?_
 rintro e w1 ⟨rfl,hg⟩
 have HG:Hid (w.grownBy w1 none):=Za (grow1 _ _) hg
 clear hg
 go_wp2_with fail
 go_ret
 rw [HT.out]
 exact⟨rfl,HG.out⟩
theorem Ja {n d:Bool} {s t:ByteArray} (h:mayQ n s d t=true) (h1:s.size≤200) (h2:t.size≤200):(qT n s d t).size≤100000:=by
 have hq:=YW h
 have zx:Sz 200 (num n s) n s:=Xf (hq.zn.may (by decide)) h1
 have zy:Sz 200 (num d t) d t:=Xf (hq.zd.may (by decide)) h2
 obtain⟨a,ha,hal⟩:=Jc (by decide) zx
 obtain⟨b,hb,hbl⟩:=Jc (by decide) zy
 by_cases h4:num d t=1
 ·rw [qT_is (.inl ⟨h4,ha⟩)]
  omega
 ·rw [qT_is (.inr ⟨h4,a,b,ha,hb,rfl⟩)]
  have:=Ze (a++⟨#[47]⟩++b)
  rw [Z3]at this
  simp [Ze]at this
  simp
  omega
theorem Zd4 (w:World) (a:Ag) (u:Value) (hu:Ints w u a.wd) (hk:a.k=2) (hm:mayZ a.z=true) (hf:a.Few) (ht:Tab w) :
    Calls Tryz.prog 58 #[agv a u] w fun e w'=>e=.returned (.string (agT a))∧w.grownBy w' none:=by
 have HT:Hid (agT a=⟨#[40]⟩++qT a.z.a a.z.b a.z.c a.z.d++⟨#[44]⟩++qT a.z.e a.z.f a.z.g a.z.h++⟨#[41]⟩):=by
  show _=_
  simp [agT,hk]
 simp only [mayZ,Bool.and_eq_true]at hm
 have HB:Hid (∀n s d t W,((n=a.z.a∧s=a.z.b∧d=a.z.c∧t=a.z.d)∨(n=a.z.e∧s=a.z.f∧d=a.z.g∧t=a.z.h))→w.grownBy W none→Calls Tryz.prog 82 #[frac n s d t] W fun e w'=>e=.returned (.string (qT n s d t))∧W.grownBy w' none):=by
  intro n s d t W h hg
  have:mayQ n s d t=true∧s.size≤200∧t.size≤200:=by
   rcases h with ⟨rfl,rfl,rfl,rfl⟩|⟨rfl,rfl,rfl,rfl⟩
   ·exact⟨hm.1,hf.b,hf.d⟩
   ·exact⟨hm.2,hf.f,hf.h⟩
  refine(Jn n d s t this.1 this.2.1 this.2.2 W (ht.kept hg)).mono ?_
  rintro e w' ⟨rfl,_,h⟩
  exact⟨rfl,h⟩
 have z1:=Ja hm.1 hf.b hf.d
 have z2:=Ja hm.2 hf.f hf.h
 obtain⟨ab,c,rfl⟩:=hu.form
 obtain⟨k,nm,⟨ra,rb,rc,rd,re,rf,rg,rh⟩,wd,ct⟩:=a
 simp only at hk
 subst hk
 simp only at HT HB z1 z2
 clear hu ht hm hf
 have hz1:¬9223372036854775807<1+(qT ra rb rc rd).size:=by omega
 have hz2:¬9223372036854775807<1+(qT ra rb rc rd).size+1:=by omega
 have hz3:¬9223372036854775807<1+(qT ra rb rc rd).size+1+(qT re rf rg rh).size:=by omega
 have hz4:¬9223372036854775807<1+(qT ra rb rc rd).size+1+(qT re rf rg rh).size+1:=by omega
 have e1:(⟨#[40]⟩:ByteArray).size=1:=rfl
 clear z1 z2
 generalize wd.length=n at *
 have HY:Hid (∀w',(w.alloc (.cells (agc ⟨2,nm,⟨ra,rb,rc,rd,re,rf,rg,rh⟩,wd,ct⟩ (.slice ab n c)) 45)).grownBy w' none→w'.cell? ⟨w.heap.size,2,none⟩=some (Value.bool ra)∧w'.cell? ⟨w.heap.size,3,none⟩=some (Value.string rb)∧w'.cell? ⟨w.heap.size,4,none⟩=some (Value.bool rc)∧w'.cell? ⟨w.heap.size,5,none⟩=some (Value.string rd)∧w'.cell? ⟨w.heap.size,6,none⟩=some (Value.bool re)∧w'.cell? ⟨w.heap.size,7,none⟩=some (Value.string rf)∧w'.cell? ⟨w.heap.size,8,none⟩=some (Value.bool rg)∧w'.cell? ⟨w.heap.size,9,none⟩=some (Value.string rh)):=fun w' h=>by
  have hA:ABk w' w.heap.size ⟨2,nm,⟨ra,rb,rc,rd,re,rf,rg,rh⟩,wd,ct⟩ (.slice ab n c):=ABk.kept (heap_alloc_new _ _) h
  have:=hA.at
  obtain⟨_,_,c2,c3,c4,c5,c6,c7,c8,c9,_,_⟩:=this
  simp only [Nat.zero_add]at c2 c3 c4 c5 c6 c7 c8 c9
  exact⟨c2,c3,c4,c5,c6,c7,c8,c9⟩
 go_enter Tryz.func58,Tryz.ntmps58
 go_wp2_with fail
 obtain⟨k0,k1,k2,k3,k4,k5,k6,k7⟩:=HY.out _ (World.grownBy.refl _ _)
 go_region_held3 (fun w'=>w'.cell? ⟨w.heap.size,2,none⟩=some (Value.bool ra)∧w'.cell? ⟨w.heap.size,3,none⟩=some (Value.string rb)∧w'.cell? ⟨w.heap.size,4,none⟩=some (Value.bool rc)∧w'.cell? ⟨w.heap.size,5,none⟩=some (Value.string rd)∧w'.cell? ⟨w.heap.size,6,none⟩=some (Value.bool re)∧w'.cell? ⟨w.heap.size,7,none⟩=some (Value.string rf)∧w'.cell? ⟨w.heap.size,8,none⟩=some (Value.bool rg)∧w'.cell? ⟨w.heap.size,9,none⟩=some (Value.string rh))
  (first|(go_keep;done)|with_reducible exact HY.out _ (by assumption)|with_reducible exact HY.out _ (Zf (World.grownBy.refl _ _))|fail)
  (first
   |(go_at_call 82;refine(HB.out _ _ _ _ _ (by first|exact .inl ⟨rfl,rfl,rfl,rfl⟩|exact .inr ⟨rfl,rfl,rfl,rfl⟩) (by first|exact Za (grow1 _ _) GA|exact grow1 _ _|exact Zf (grow1 _ _)|exact Zf (Za (grow1 _ _) GA))).mono ?_;rintro e wA ⟨rfl,gA⟩;have GA:(w.alloc (.cells (agc ⟨2,nm,⟨ra,rb,rc,rd,re,rf,rg,rh⟩,wd,ct⟩ (.slice ab n c)) 45)).grownBy wA none:=(by first|exact gA|exact Zj gA|exact Za GA gA);clear gA)
   |fail)
 all_goals (
  have HG4:Hid (w.grownBy _ none):=Za (grow1 _ _) GA
  go_wp2_with fail
  go_ret
  rw [HT.out]
  exact⟨rfl,HG4.out⟩)
theorem VW (w:World) (a:Ag) (u:Value) (hu:Ints w u a.wd) (hm:mayA a=true) (hf:a.Few) (ht:Tab w) :
    Calls Tryz.prog 58 #[agv a u] w fun e w'=>e=.returned (.string (agT a))∧w.grownBy w' none:=by
 rcases may_k hm with hk|hk|hk|hk|hk
 ·exact Zev w a u hu hk
 ·exact Zd4 w a u hu hk (Zbl hm hk) hf ht
 ·exact ZdE w a u hu hk
 ·exact ZdY w a u hu hk (ZbR hm hk) ht
 ·exact Zc5 w a u hu hk (ZbN hm hk) ht
theorem ZfL {a:Ag} (hm:mayA a=true) (hf:a.Few):(agT a).size≤1000000:=by
 rcases may_k hm with hk|hk|hk|hk|hk
 ·have h:=may_k1 hm hk
  have e:agT a=a.nm:=by simp [agT,hk]
  simp only [isNm,Bool.and_eq_true,decide_eq_true_eq]at h
  rw [e]
  omega
 ·have h:=Zbl hm hk
  simp only [mayZ,Bool.and_eq_true]at h
  have z1:=Ja h.1 hf.b hf.d
  have z2:=Ja h.2 hf.f hf.h
  have e:agT a=⟨#[40]⟩++qT a.z.a a.z.b a.z.c a.z.d++⟨#[44]⟩++qT a.z.e a.z.f a.z.g a.z.h++⟨#[41]⟩:=by simp [agT,hk]
  have e1:(⟨#[40]⟩:ByteArray).size=1:=rfl
  have e2:(⟨#[44]⟩:ByteArray).size=1:=rfl
  have e3:(⟨#[41]⟩:ByteArray).size=1:=rfl
  rw [e]
  simp only [ByteArray.size_append,e1,e2,e3]
  omega
 ·have e:agT a=⟨#[40,105,110,102,41]⟩:=by simp [agT,hk]
  rw [e]
  decide
 ·have z:=Je _ (ZbR hm hk)
  have e:agT a=⟨#[91]⟩++ltB a.wd++⟨#[93]⟩:=by simp [agT,hk]
  have e1:(⟨#[91]⟩:ByteArray).size=1:=rfl
  have e2:(⟨#[93]⟩:ByteArray).size=1:=rfl
  rw [e]
  simp only [ByteArray.size_append,e1,e2]
  omega
 ·have h:=ZbN hm hk
  simp only [isCt,Bool.and_eq_true,decide_eq_true_eq]at h
  have z:=Xv a.ct ⟨by omega,by omega⟩
  have e:agT a=⟨#[35]⟩++itB a.ct:=by simp [agT,hk]
  have e1:(⟨#[35]⟩:ByteArray).size=1:=rfl
  rw [e]
  simp only [ByteArray.size_append,e1]
  omega
end Go.Proofs.YtdcadiaeaclpgaaGreatDoor
