/-
  The document's Text of any fraction that may be; its Line of any statement, however long its numbers.
-/
import Derived.Test.YtdcadiaeaclpgaaGreatDoorBunScs
namespace Go.Proofs.YtdcadiaeaclpgaaGreatDoor
open Go Go.RowKit Go.Lib Go.Sort
set_option linter.unusedVariables false
set_option linter.unusedSimpArgs false
set_option maxHeartbeats 6400000
set_option maxRecDepth 1000000
theorem text_exW {k:Nat} {x:Int} {n:Bool} {s:ByteArray} (hk:k≤1024) (h:Sz k x n s):∃ a,TextOf x a∧a.size≤40000:=by
 rw [← h.num]
 by_cases h0:s.size=0
 ·obtain rfl:=empty_of_size h0
  obtain rfl:=may_empty (h.may (by omega))
  exact ⟨_,text_nought,by decide⟩
 ·have hv:x.natAbs=val (bN s):=by
    have:=h.num
    rw [← this]
    cases n
    ·rw [num_f]; simp
    ·rw [num_t]; simp
  have hpos:0 < val (bN s):=by
   rw [← hv]
   refine Nat.pos_of_ne_zero fun e=>h0 ?_
   have hx:x=0:=Int.natAbs_eq_zero.1 e
   subst hx
   have:=whole_inj (h.1.one zero_z)
   rw [this.2]; rfl
  have hlt:val (bN s) < 10 ^ (3*k):=by rw [← hv]; exact Nat.lt_of_lt_of_le h.2 (pow_dec k)
  obtain ⟨D,d1,d2,d3,d4,d5⟩:=dgs_ex _ _ hpos hlt
  have hb:bN (strOf (ints ((if n then [45] else [])++D)))=(if n then [45] else [])++D:=bN_strOf _ (by
   intro b hb
   rcases List.mem_append.1 hb with hb | hb
   ·cases n <;> simp at hb; subst hb; decide
   ·have:=d1 b hb; unfold isDig at this; omega)
  refine ⟨_,text_digits hb d1 d2 d3 d4,?_⟩
  have hl:=bN_length (strOf (ints ((if n then [45] else [])++D)))
  rw [hb] at hl
  rw [← hl]
  cases n <;> simp <;> omega
theorem rfracTextW (n d:Bool) (s t:ByteArray) (h:mayQ n s d t=true) (w:World) :
    Calls Tryz.prog 60 #[frac n s d t] w fun e w'=>e=.returned (.string (qT n s d t))∧w.grownBy w' none:=by
 have hq:=mayQ_is h
 obtain ⟨a,ha,hal⟩:=text_exW (by decide) hq.zn
 obtain ⟨b,hb,hbl⟩:=text_exW (by decide) hq.zd
 refine (rtextq_any hq w (fun a' h'=>by rw [h'.one ha]; omega) (fun b' h'=>by rw [h'.one hb]; omega)).mono ?_
 rintro e w' ⟨x,rfl,hx,hg⟩
 rw [qT_is hx]
 exact ⟨rfl,hg⟩
theorem qT_sizeW {n d:Bool} {s t:ByteArray} (h:mayQ n s d t=true):(qT n s d t).size≤100000:=by
 have hq:=mayQ_is h
 obtain ⟨a,ha,hal⟩:=text_exW (by decide) hq.zn
 obtain ⟨b,hb,hbl⟩:=text_exW (by decide) hq.zd
 by_cases h4:num d t=1
 ·rw [qT_is (.inl ⟨h4,ha⟩)]
  omega
 ·rw [qT_is (.inr ⟨h4,a,b,ha,hb,rfl⟩)]
  have:=bN_length (a++⟨#[47]⟩++b)
  rw [bN_parts] at this
  simp [bN_length] at this
  simp
  omega
theorem agT_sizeW {a:Ag} (hm:mayA a=true):(agT a).size≤1000000:=by
 rcases may_k hm with hk | hk | hk | hk | hk
 ·have h:=may_k1 hm hk
  have e:agT a=a.nm:=by simp [agT,hk]
  simp only [isNm,Bool.and_eq_true,decide_eq_true_eq] at h
  rw [e]
  omega
 ·have h:=may_k2 hm hk
  simp only [mayZ,Bool.and_eq_true] at h
  have z1:=qT_sizeW h.1
  have z2:=qT_sizeW h.2
  have e:agT a=⟨#[40]⟩++qT a.z.a a.z.b a.z.c a.z.d++⟨#[44]⟩++qT a.z.e a.z.f a.z.g a.z.h++⟨#[41]⟩:=by simp [agT,hk]
  have e1:(⟨#[40]⟩:ByteArray).size=1:=rfl
  have e2:(⟨#[44]⟩:ByteArray).size=1:=rfl
  have e3:(⟨#[41]⟩:ByteArray).size=1:=rfl
  rw [e]
  simp only [ByteArray.size_append,e1,e2,e3]
  omega
 ·have e:agT a=⟨#[40,105,110,102,41]⟩:=by simp [agT,hk]
  rw [e]
  decide
 ·have z:=ltB_size _ (may_k4 hm hk)
  have e:agT a=⟨#[91]⟩++ltB a.wd++⟨#[93]⟩:=by simp [agT,hk]
  have e1:(⟨#[91]⟩:ByteArray).size=1:=rfl
  have e2:(⟨#[93]⟩:ByteArray).size=1:=rfl
  rw [e]
  simp only [ByteArray.size_append,e1,e2]
  omega
 ·have h:=may_k5 hm hk
  simp only [isCt,Bool.and_eq_true,decide_eq_true_eq] at h
  have z:=itB_size a.ct ⟨by omega,by omega⟩
  have e:agT a=⟨#[35]⟩++itB a.ct:=by simp [agT,hk]
  have e1:(⟨#[35]⟩:ByteArray).size=1:=rfl
  rw [e]
  simp only [ByteArray.size_append,e1]
  omega
theorem part_sizeW {s:St} (hs:okS s=true):∀ x∈lineL s,x.size≤1000000:=by
 obtain ⟨h1,h2,h3,h4⟩:=ok_parts hs
 have hv:s.vb.size≤16:=by
  simp only [isVb,Bool.and_eq_true,decide_eq_true_eq] at h1
  omega
 intro x hx
 unfold lineL at hx
 rw [List.mem_append] at hx
 rcases hx with hx | hx
 ·split at hx
  ·simp at hx
   subst hx
   omega
  ·rename_i hn
   simp at hx
   rcases hx with rfl | rfl
   ·omega
   ·have:s.nm.size≤32:=by
      rcases h2 with h2 | h2
      ·exact absurd h2 hn
      ·simp only [isNm,Bool.and_eq_true,decide_eq_true_eq] at h2
       omega
    have e1:(⟨#[61]⟩:ByteArray).size=1:=rfl
    rw [ByteArray.size_append,e1]
    omega
 ·obtain ⟨a,ha,rfl⟩:=List.mem_map.1 hx
  exact agT_sizeW (h4 a ha)
theorem rArg_2W (w:World) (a:Ag) (u:Value) (hu:Ints w u a.wd) (hk:a.k=2) (hm:mayZ a.z=true) (ht:Tab w) :
    Calls Tryz.prog 35 #[agv a u] w fun e w'=>e=.returned (.string (agT a))∧w.grownBy w' none:=by
 have HT:Hid (agT a=⟨#[40]⟩++qT a.z.a a.z.b a.z.c a.z.d++⟨#[44]⟩++qT a.z.e a.z.f a.z.g a.z.h++⟨#[41]⟩):=by
  show _=_
  simp [agT,hk]
 simp only [mayZ,Bool.and_eq_true] at hm
 have HB:Hid (∀ n s d t W,((n=a.z.a∧s=a.z.b∧d=a.z.c∧t=a.z.d)∨(n=a.z.e∧s=a.z.f∧d=a.z.g∧t=a.z.h))→w.grownBy W none→Calls Tryz.prog 60 #[frac n s d t] W fun e w'=>e=.returned (.string (qT n s d t))∧W.grownBy w' none):=by
  intro n s d t W h hg
  have:mayQ n s d t=true:=by
   rcases h with ⟨rfl,rfl,rfl,rfl⟩ | ⟨rfl,rfl,rfl,rfl⟩
   ·exact hm.1
   ·exact hm.2
  exact rfracTextW n d s t this W
 have z1:=qT_sizeW hm.1
 have z2:=qT_sizeW hm.2
 obtain ⟨ab,c,rfl⟩:=hu.form
 obtain ⟨k,nm,⟨ra,rb,rc,rd,re,rf,rg,rh⟩,wd,ct⟩:=a
 simp only at hk
 subst hk
 simp only at HT HB z1 z2
 clear hu ht hm
 have hz1:¬ 9223372036854775807 < 1+(qT ra rb rc rd).size:=by omega
 have hz2:¬ 9223372036854775807 < 1+(qT ra rb rc rd).size+1:=by omega
 have hz3:¬ 9223372036854775807 < 1+(qT ra rb rc rd).size+1+(qT re rf rg rh).size:=by omega
 have hz4:¬ 9223372036854775807 < 1+(qT ra rb rc rd).size+1+(qT re rf rg rh).size+1:=by omega
 have e1:(⟨#[40]⟩:ByteArray).size=1:=rfl
 clear z1 z2
 generalize wd.length=n at *
 have HY:Hid (∀ w',(w.alloc (.cells (agc ⟨2,nm,⟨ra,rb,rc,rd,re,rf,rg,rh⟩,wd,ct⟩ (.slice ab n c)) 45)).grownBy w' none→w'.cell? ⟨w.heap.size,2,none⟩=some (Value.bool ra)∧w'.cell? ⟨w.heap.size,3,none⟩=some (Value.string rb)∧w'.cell? ⟨w.heap.size,4,none⟩=some (Value.bool rc)∧w'.cell? ⟨w.heap.size,5,none⟩=some (Value.string rd)∧w'.cell? ⟨w.heap.size,6,none⟩=some (Value.bool re)∧w'.cell? ⟨w.heap.size,7,none⟩=some (Value.string rf)∧w'.cell? ⟨w.heap.size,8,none⟩=some (Value.bool rg)∧w'.cell? ⟨w.heap.size,9,none⟩=some (Value.string rh)):=fun w' h=>by
  have hA:ABk w' w.heap.size ⟨2,nm,⟨ra,rb,rc,rd,re,rf,rg,rh⟩,wd,ct⟩ (.slice ab n c):=ABk.kept (heap_alloc_new _ _) h
  have:=hA.at
  obtain ⟨_,_,c2,c3,c4,c5,c6,c7,c8,c9,_,_⟩:=this
  simp only [Nat.zero_add] at c2 c3 c4 c5 c6 c7 c8 c9
  exact ⟨c2,c3,c4,c5,c6,c7,c8,c9⟩
 go_enter Tryz.func35,Tryz.ntmps35
 go_wp2_with fail
 obtain ⟨k0,k1,k2,k3,k4,k5,k6,k7⟩:=HY.out _ (World.grownBy.refl _ _)
 go_region_held3 (fun w'=>w'.cell? ⟨w.heap.size,2,none⟩=some (Value.bool ra)∧w'.cell? ⟨w.heap.size,3,none⟩=some (Value.string rb)∧w'.cell? ⟨w.heap.size,4,none⟩=some (Value.bool rc)∧w'.cell? ⟨w.heap.size,5,none⟩=some (Value.string rd)∧w'.cell? ⟨w.heap.size,6,none⟩=some (Value.bool re)∧w'.cell? ⟨w.heap.size,7,none⟩=some (Value.string rf)∧w'.cell? ⟨w.heap.size,8,none⟩=some (Value.bool rg)∧w'.cell? ⟨w.heap.size,9,none⟩=some (Value.string rh))
  (first | (go_keep; done) | with_reducible exact HY.out _ (by assumption) | with_reducible exact HY.out _ (grow_drew (World.grownBy.refl _ _)) | fail)
  (first
   |(go_at_call 60; refine (HB.out _ _ _ _ _ (by first | exact .inl ⟨rfl,rfl,rfl,rfl⟩ | exact .inr ⟨rfl,rfl,rfl,rfl⟩) (by first | exact grownBy_trans (grow1 _ _) GA | exact grow1 _ _ | exact grow_drew (grow1 _ _) | exact grow_drew (grownBy_trans (grow1 _ _) GA))).mono ?_; rintro e wA ⟨rfl,gA⟩; have GA:(w.alloc (.cells (agc ⟨2,nm,⟨ra,rb,rc,rd,re,rf,rg,rh⟩,wd,ct⟩ (.slice ab n c)) 45)).grownBy wA none:=(by first | exact gA | exact grownBy_undrew gA | exact grownBy_trans GA gA); clear gA)
   |fail)
 all_goals (
  have HG4:Hid (w.grownBy _ none):=grownBy_trans (grow1 _ _) GA
  go_wp2_with fail
  go_ret
  rw [HT.out]
  exact ⟨rfl,HG4.out⟩)
theorem rArg_anyW (w:World) (a:Ag) (u:Value) (hu:Ints w u a.wd) (hm:mayA a=true) (ht:Tab w) :
    Calls Tryz.prog 35 #[agv a u] w fun e w'=>e=.returned (.string (agT a))∧w.grownBy w' none:=by
 rcases may_k hm with hk | hk | hk | hk | hk
 ·exact rArg_1 w a u hu hk
 ·exact rArg_2W w a u hu hk (may_k2 hm hk) ht
 ·exact rArg_3 w a u hu hk
 ·exact rArg_4 w a u hu hk (may_k4 hm hk) ht
 ·exact rArg_5 w a u hu hk (may_k5 hm hk) ht
theorem rLine_0W (w:World) (v:Value) (s:St) (hv:Stv w v s) (hft:s.Fit) (hs:okS s=true) (ht:Tab w) (h0:s.nm.size=0) :
    Calls Tryz.prog 13 #[v] w fun e w'=>e=.returned (.tuple #[.string (lineB s),.int .i64 (chkS s)])∧w.grownBy w' none:=by
 have HC:Hid (∀ W,w.grownBy W none→Calls Tryz.prog 16 #[v] W fun e w'=>e=.returned (.int .i64 0)∧W.grownBy w' none):=fun W hg=>by
  have h:=rCheck_any W v s (hv.kept hg) hft
  have e:chkS s=0:=by
   unfold chkS
   rw [hs]
   rfl
  rw [e] at h
  exact h
 have HK0:Hid (chkS s=0):=by
  show _=_
  unfold chkS
  rw [hs]
  rfl
 have HLb:Hid (lineB s=lnB s):=by
  show _=_
  unfold lineB
  rw [if_pos hs]
 obtain ⟨u,rfl,hA⟩:=hv
 obtain ⟨ab,c,rfl,HR⟩:=hA.reads
 obtain ⟨vb,nm,ags⟩:=s
 simp only at HR h0
 obtain rfl:=empty_of_size h0
 have HR1:Hid (∀ w',w.grownBy w' none→∀ i a,ags[i]?=some a→∃ B off wv,ab=some ⟨B,off,none⟩∧AgAt w' B (off+i*12) a wv∧Ints w' wv a.wd∧ags.length≤c):=HR
 have HM:Hid (∀ a∈ags,mayA a=true):=fun a ha=>(ok_parts hs).2.2.2 a ha
 have h64:ags.length≤64:=(ok_parts hs).2.2.1
 have HTb:Hid (Tab w):=ht
 have hps:=part_sizeW hs
 have hvz:vb.size≤16:=by
  have h:=(ok_parts hs).1
  simp only [isVb,Bool.and_eq_true,decide_eq_true_eq] at h
  omega
 have HHd:Hid ([vb]++ags.map agT=lineL ⟨vb,ByteArray.empty,ags⟩):=by
  show [vb]++ags.map agT=(if ByteArray.empty.size=0 then [vb] else [vb,⟨#[61]⟩++ByteArray.empty])++ags.map agT
  rw [if_pos (show ByteArray.empty.size=0 from rfl)]
 have HSz:Hid (∀ i,(cB ([vb]++(ags.take i).map agT)).size≤70000000):=fun i=>cB_size (by simp; omega) (fun x hx=>hps x (by
  rw [← HHd.out]
  rw [List.mem_append] at hx ⊢
  rcases hx with hx | hx
  ·exact .inl hx
  ·obtain ⟨a,ha,rfl⟩:=List.mem_map.1 hx
   exact .inr (List.mem_map.2 ⟨a,List.mem_of_mem_take ha,rfl⟩)))
 simp only at HC ⊢
 obtain ⟨n,hn⟩:∃ n,ags.length=n:=⟨_,rfl⟩
 have HLn:Unit→ags.length=n:=fun _=>hn
 have hnI:(n:Int)≤64:=by omega
 rw [hn] at HC ⊢
 simp only [hn] at HR1
 clear hn hA HR hs ht hft h64 hps
 go_enter Tryz.func13,Tryz.ntmps13
 go_wp2_with fail
 refine (HC.out _ (grow1 _ _)).mono ?_
 rintro e w1 ⟨rfl,hg⟩
 have HG0:Hid ((w.alloc (sObj vb ByteArray.empty (.slice ab n c))).grownBy w1 none):=hg
 have hb:w1.heap[w.heap.size]?=some (sObj vb ByteArray.empty (.slice ab n c)):=(hg.block _ (by simp) (by simp)).trans (heap_alloc_new _ _)
 have b0:w1.cell? ⟨w.heap.size,0,none⟩=some (.string vb):=by simp [World.cell?,hb]
 have b1:w1.cell? ⟨w.heap.size,1,none⟩=some (.string ByteArray.empty):=by simp [World.cell?,hb]
 clear hg hb
 go_wp2_with fail
 go_loopw [4,5] (fun s4 ix wr=>∃ i:Nat,i≤n∧ix=.int .i64 i∧s4=.string (cB ([vb]++(ags.take i).map agT))∧(w.alloc (sObj vb ByteArray.empty (.slice ab n c))).grownBy wr none) (fun _ ix _=>match ix with | .int _ i=>n - i.toNat | _=>0)
 case atStart=>exact ⟨0,by omega,rfl,by (show Value.string _=Value.string _; congr 1; exact (cB_one vb).symm),HG0.out⟩
 case round =>
  obtain ⟨i,hi,rfl,rfl,hg⟩:=hrel
  have HGb:Hid ((w.alloc (sObj vb ByteArray.empty (.slice ab n c))).grownBy wr none):=hg
  have HG:Hid (w.grownBy wr none):=grownBy_trans (grow1 _ _) hg
  have s2:=sObj_2 hg
  have hsz:=HSz.out i
  clear hg
  by_cases hlt:i < n
  ·have hlt':i < ags.length:=by rw [HLn ()]; exact hlt
   obtain ⟨a,hia⟩:∃ a,ags[i]?=some a:=⟨_,List.getElem?_eq_getElem hlt'⟩
   obtain ⟨B,off,wv,rfl,hat,hin,hnc⟩:=HR1.out wr HG.out i _ hia
   have hma:=HM.out a (List.mem_of_getElem? hia)
   have hts:=agT_sizeW hma
   have HNx:Hid (cB ([vb]++(ags.take i).map agT)++⟨#[32]⟩++agT a=cB ([vb]++(ags.take (i+1)).map agT)):=by
    show _=_
    rw [List.take_add_one,hia]
    simp only [Option.toList_some,List.map_append,List.map_cons,List.map_nil]
    rw [← List.append_assoc]
    exact (cB_snoc _ _ (by simp)).symm
   have HC:Hid (Calls Tryz.prog 35 #[agv a wv] wr fun e w'=>e=.returned (.string (agT a))∧wr.grownBy w' none):=rArg_anyW wr a wv hin hma (HTb.out.kept HG.out)
   have hz1:¬ 9223372036854775807 < (cB ([vb]++(ags.take i).map agT)).size+1:=by omega
   have hz2:¬ 9223372036854775807 < (cB ([vb]++(ags.take i).map agT)).size+1+(agT a).size:=by omega
   clear hsz hts
   obtain ⟨pb,hpb⟩:∃ pb,cB ([vb]++(ags.take i).map agT)=pb:=⟨_,rfl⟩
   rw [hpb] at hz1 hz2 HNx ⊢
   clear hpb
   generalize agT a=tx at *
   obtain ⟨ab2,c2,rfl⟩:=hin.form
   generalize a.wd.length=n2 at *
   obtain ⟨k0,k1,k2,k3,k4,k5,k6,k7,k8,k9,k10,k11⟩:=hat
   have hltI:(i:Int) < n:=by omega
   clear hin hma hlt' hia
   go_wp2_with fail
   refine HC.out.mono ?_
   rintro e w1 ⟨rfl,hg1⟩
   have HG1:Hid ((w.alloc (sObj vb ByteArray.empty (.slice (some ⟨B,off,none⟩) n c))).grownBy w1 none):=grownBy_trans HGb.out hg1
   clear hg1 k0 k1 k2 k3 k4 k5 k6 k7 k8 k9 k10 k11
   go_wp2_with fail
   go_roundw
   case rel=>exact ⟨i+1,by omega,num_eq (by omega),by rw [HNx.out],HG1.out⟩
   case measure=>simp; omega
  ·have e:i=n:=by omega
   subst e
   have HF:Hid (cB ([vb]++(ags.take i).map agT)=lnB ⟨vb,ByteArray.empty,ags⟩):=by
    show _=_
    rw [← HLn (),List.take_length,HHd.out]
    rfl
   rw [HF.out]
   clear hsz
   obtain ⟨tx,htx⟩:∃ tx,lnB ⟨vb,ByteArray.empty,ags⟩=tx:=⟨_,rfl⟩
   have HTx:Hid (lineB ⟨vb,ByteArray.empty,ags⟩=tx):=by
    show _=_
    rw [← htx]
    exact HLb.out
   rw [htx]
   clear htx
   go_wp2_with fail
   go_ret2
   refine ⟨?_,HG.out⟩
   rw [HTx.out,HK0.out]
   rfl
theorem rLine_1W (w:World) (v:Value) (s:St) (hv:Stv w v s) (hft:s.Fit) (hs:okS s=true) (ht:Tab w) (h0:¬ s.nm.size=0) :
    Calls Tryz.prog 13 #[v] w fun e w'=>e=.returned (.tuple #[.string (lineB s),.int .i64 (chkS s)])∧w.grownBy w' none:=by
 have HC:Hid (∀ W,w.grownBy W none→Calls Tryz.prog 16 #[v] W fun e w'=>e=.returned (.int .i64 0)∧W.grownBy w' none):=fun W hg=>by
  have h:=rCheck_any W v s (hv.kept hg) hft
  have e:chkS s=0:=by
   unfold chkS
   rw [hs]
   rfl
  rw [e] at h
  exact h
 have HK0:Hid (chkS s=0):=by
  show _=_
  unfold chkS
  rw [hs]
  rfl
 have HLb:Hid (lineB s=lnB s):=by
  show _=_
  unfold lineB
  rw [if_pos hs]
 obtain ⟨u,rfl,hA⟩:=hv
 obtain ⟨ab,c,rfl,HR⟩:=hA.reads
 obtain ⟨vb,nm,ags⟩:=s
 simp only at HR h0
 have he:=isEmpty_of h0
 have HR1:Hid (∀ w',w.grownBy w' none→∀ i a,ags[i]?=some a→∃ B off wv,ab=some ⟨B,off,none⟩∧AgAt w' B (off+i*12) a wv∧Ints w' wv a.wd∧ags.length≤c):=HR
 have HM:Hid (∀ a∈ags,mayA a=true):=fun a ha=>(ok_parts hs).2.2.2 a ha
 have h64:ags.length≤64:=(ok_parts hs).2.2.1
 have HTb:Hid (Tab w):=ht
 have hps:=part_sizeW hs
 have hvz:vb.size≤16:=by
  have h:=(ok_parts hs).1
  simp only [isVb,Bool.and_eq_true,decide_eq_true_eq] at h
  omega
 have HHd:Hid ([vb,⟨#[61]⟩++nm]++ags.map agT=lineL ⟨vb,nm,ags⟩):=by
  show [vb,⟨#[61]⟩++nm]++ags.map agT=(if nm.size=0 then [vb] else [vb,⟨#[61]⟩++nm])++ags.map agT
  rw [if_neg h0]
 have hnz:nm.size≤32:=by
  rcases (ok_parts hs).2.1 with h | h
  ·exact absurd h h0
  ·simp only [isNm,Bool.and_eq_true,decide_eq_true_eq] at h
   omega
 have hz1:¬ 9223372036854775807 < vb.size+2:=by omega
 have hz2:¬ 9223372036854775807 < vb.size+2+nm.size:=by omega
 have HSz:Hid (∀ i,(cB ([vb,⟨#[61]⟩++nm]++(ags.take i).map agT)).size≤70000000):=fun i=>cB_size (by simp; omega) (fun x hx=>hps x (by
  rw [← HHd.out]
  rw [List.mem_append] at hx ⊢
  rcases hx with hx | hx
  ·exact .inl hx
  ·obtain ⟨a,ha,rfl⟩:=List.mem_map.1 hx
   exact .inr (List.mem_map.2 ⟨a,List.mem_of_mem_take ha,rfl⟩)))
 simp only at HC ⊢
 obtain ⟨n,hn⟩:∃ n,ags.length=n:=⟨_,rfl⟩
 have HLn:Unit→ags.length=n:=fun _=>hn
 have hnI:(n:Int)≤64:=by omega
 rw [hn] at HC ⊢
 simp only [hn] at HR1
 clear hn hA HR hs ht hft h64 hps
 go_enter Tryz.func13,Tryz.ntmps13
 go_wp2_with fail
 refine (HC.out _ (grow1 _ _)).mono ?_
 rintro e w1 ⟨rfl,hg⟩
 have HG0:Hid ((w.alloc (sObj vb nm (.slice ab n c))).grownBy w1 none):=hg
 have hb:w1.heap[w.heap.size]?=some (sObj vb nm (.slice ab n c)):=(hg.block _ (by simp) (by simp)).trans (heap_alloc_new _ _)
 have b0:w1.cell? ⟨w.heap.size,0,none⟩=some (.string vb):=by simp [World.cell?,hb]
 have b1:w1.cell? ⟨w.heap.size,1,none⟩=some (.string nm):=by simp [World.cell?,hb]
 clear hg hb
 go_wp2_with fail
 go_loopw [4,5] (fun s4 ix wr=>∃ i:Nat,i≤n∧ix=.int .i64 i∧s4=.string (cB ([vb,⟨#[61]⟩++nm]++(ags.take i).map agT))∧(w.alloc (sObj vb nm (.slice ab n c))).grownBy wr none) (fun _ ix _=>match ix with | .int _ i=>n - i.toNat | _=>0)
 case atStart=>exact ⟨0,by omega,rfl,by (show Value.string _=Value.string _; congr 1; exact cB_two vb nm),HG0.out⟩
 case round =>
  obtain ⟨i,hi,rfl,rfl,hg⟩:=hrel
  have HGb:Hid ((w.alloc (sObj vb nm (.slice ab n c))).grownBy wr none):=hg
  have HG:Hid (w.grownBy wr none):=grownBy_trans (grow1 _ _) hg
  have s2:=sObj_2 hg
  have hsz:=HSz.out i
  clear hg
  by_cases hlt:i < n
  ·have hlt':i < ags.length:=by rw [HLn ()]; exact hlt
   obtain ⟨a,hia⟩:∃ a,ags[i]?=some a:=⟨_,List.getElem?_eq_getElem hlt'⟩
   obtain ⟨B,off,wv,rfl,hat,hin,hnc⟩:=HR1.out wr HG.out i _ hia
   have hma:=HM.out a (List.mem_of_getElem? hia)
   have hts:=agT_sizeW hma
   have HNx:Hid (cB ([vb,⟨#[61]⟩++nm]++(ags.take i).map agT)++⟨#[32]⟩++agT a=cB ([vb,⟨#[61]⟩++nm]++(ags.take (i+1)).map agT)):=by
    show _=_
    rw [List.take_add_one,hia]
    simp only [Option.toList_some,List.map_append,List.map_cons,List.map_nil]
    rw [← List.append_assoc]
    exact (cB_snoc _ _ (by simp)).symm
   have HC:Hid (Calls Tryz.prog 35 #[agv a wv] wr fun e w'=>e=.returned (.string (agT a))∧wr.grownBy w' none):=rArg_anyW wr a wv hin hma (HTb.out.kept HG.out)
   have hz1:¬ 9223372036854775807 < (cB ([vb,⟨#[61]⟩++nm]++(ags.take i).map agT)).size+1:=by omega
   have hz2:¬ 9223372036854775807 < (cB ([vb,⟨#[61]⟩++nm]++(ags.take i).map agT)).size+1+(agT a).size:=by omega
   clear hsz hts
   obtain ⟨pb,hpb⟩:∃ pb,cB ([vb,⟨#[61]⟩++nm]++(ags.take i).map agT)=pb:=⟨_,rfl⟩
   rw [hpb] at hz1 hz2 HNx ⊢
   clear hpb
   generalize agT a=tx at *
   obtain ⟨ab2,c2,rfl⟩:=hin.form
   generalize a.wd.length=n2 at *
   obtain ⟨k0,k1,k2,k3,k4,k5,k6,k7,k8,k9,k10,k11⟩:=hat
   have hltI:(i:Int) < n:=by omega
   clear hin hma hlt' hia
   go_wp2_with fail
   refine HC.out.mono ?_
   rintro e w1 ⟨rfl,hg1⟩
   have HG1:Hid ((w.alloc (sObj vb nm (.slice (some ⟨B,off,none⟩) n c))).grownBy w1 none):=grownBy_trans HGb.out hg1
   clear hg1 k0 k1 k2 k3 k4 k5 k6 k7 k8 k9 k10 k11
   go_wp2_with fail
   go_roundw
   case rel=>exact ⟨i+1,by omega,num_eq (by omega),by rw [HNx.out],HG1.out⟩
   case measure=>simp; omega
  ·have e:i=n:=by omega
   subst e
   have HF:Hid (cB ([vb,⟨#[61]⟩++nm]++(ags.take i).map agT)=lnB ⟨vb,nm,ags⟩):=by
    show _=_
    rw [← HLn (),List.take_length,HHd.out]
    rfl
   rw [HF.out]
   clear hsz
   obtain ⟨tx,htx⟩:∃ tx,lnB ⟨vb,nm,ags⟩=tx:=⟨_,rfl⟩
   have HTx:Hid (lineB ⟨vb,nm,ags⟩=tx):=by
    show _=_
    rw [← htx]
    exact HLb.out
   rw [htx]
   clear htx
   go_wp2_with fail
   go_ret2
   refine ⟨?_,HG.out⟩
   rw [HTx.out,HK0.out]
   rfl
theorem rLine_anyW (w:World) (v:Value) (s:St) (hv:Stv w v s) (hft:s.Fit) (ht:Tab w) :
    Calls Tryz.prog 13 #[v] w fun e w'=>e=.returned (.tuple #[.string (lineB s),.int .i64 (chkS s)])∧w.grownBy w' none:=by
 cases hok:okS s
 ·exact rLine_no w v s hv hft hok
 ·by_cases h0:s.nm.size=0
  ·exact rLine_0W w v s hv hft hok ht h0
  ·exact rLine_1W w v s hv hft hok ht h0
end Go.Proofs.YtdcadiaeaclpgaaGreatDoor
