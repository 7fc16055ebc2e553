/- The document's Text of any fraction that may be; its Line of any statement, however long its numbers. -/
import Derived.Test.YtdcadiaeaclpgaaGreatDoorBunScs
import Derived.Test.YtdcadiaeaclpgaaGreatDoorBunSon
import Derived.Test.YtdcadiaeaclpgaaGreatDoorBunSya
namespace Go.Proofs.YtdcadiaeaclpgaaGreatDoor
open Go Go.RowKit Go.Lib Go.Sort
set_option linter.unusedVariables false
set_option linter.unusedSimpArgs false
set_option maxHeartbeats 12800000
set_option maxRecDepth 1000000
theorem Vm {k:Nat} {x:Int} {n:Bool} {s:ByteArray} (hk:k≤1024) (h:Sz k x n s):∃a,TextOf x a∧a.size≤40000:=by
 rw [←h.num]
 by_cases h0:s.size=0
 ·obtain rfl:=Zi h0
  obtain rfl:=Yf (h.may (by omega))
  exact⟨_,Z5,by decide⟩
 ·have hv:x.natAbs=val (bN s):=by
    have:=h.num
    rw [←this]
    cases n
    ·rw [num_f];simp
    ·rw [num_t];simp
  have hpos:0<val (bN s):=by
   rw [←hv]
   refine Nat.pos_of_ne_zero fun e=>h0 ?_
   have hx:x=0:=Int.natAbs_eq_zero.1 e
   subst hx
   have:=ZU (h.1.one Zem)
   rw [this.2];rfl
  have hlt:val (bN s)<10 ^ (3*k):=by rw [←hv];exact Nat.lt_of_lt_of_le h.2 (ZaQ k)
  obtain⟨D,d1,d2,d3,d4,d5⟩:=Zbh _ _ hpos hlt
  have hb:bN (strOf (ints ((if n then [45]else [])++D)))=(if n then [45]else [])++D:=Yk _ (by
   intro b hb
   rcases List.mem_append.1 hb with hb|hb
   ·cases n<;>simp at hb;subst hb;decide
   ·have:=d1 b hb;unfold isDig at this;omega)
  refine⟨_,Yo hb d1 d2 d3 d4,?_⟩
  have hl:=Ze (strOf (ints ((if n then [45]else [])++D)))
  rw [hb]at hl
  rw [←hl]
  cases n<;>simp<;>omega
theorem ZcR (n d:Bool) (s t:ByteArray) (h:mayQ n s d t=true) (w:World) :
    Calls Tryz.prog 60 #[frac n s d t] w fun e w'=>e=.returned (.string (qT n s d t))∧w.grownBy w' none:=by
 have hq:=YW h
 obtain⟨a,ha,hal⟩:=Vm (by decide) hq.zn
 obtain⟨b,hb,hbl⟩:=Vm (by decide) hq.zd
 refine(XP hq w (fun a' h'=>by rw [h'.one ha];omega) (fun b' h'=>by rw [h'.one hb];omega)).mono ?_
 rintro e w' ⟨x,rfl,hx,hg⟩
 rw [qT_is hx]
 exact⟨rfl,hg⟩
theorem Vh {n d:Bool} {s t:ByteArray} (h:mayQ n s d t=true):(qT n s d t).size≤100000:=by
 have hq:=YW h
 obtain⟨a,ha,hal⟩:=Vm (by decide) hq.zn
 obtain⟨b,hb,hbl⟩:=Vm (by decide) hq.zd
 by_cases h4:num d t=1
 ·rw [qT_is (.inl ⟨h4,ha⟩)]
  omega
 ·rw [qT_is (.inr ⟨h4,a,b,ha,hb,rfl⟩)]
  have:=Ze (a++⟨#[47]⟩++b)
  rw [Z3]at this
  simp [Ze]at this
  simp
  omega
theorem VG {a:Ag} (hm:mayA a=true):(agT a).size≤1000000:=by
 rcases may_k hm with hk|hk|hk|hk|hk
 ·have h:=may_k1 hm hk
  have e:agT a=a.nm:=by simp [agT,hk]
  simp only [isNm,Bool.and_eq_true,decide_eq_true_eq]at h
  rw [e]
  omega
 ·have h:=Zbl hm hk
  simp only [mayZ,Bool.and_eq_true]at h
  have z1:=Vh h.1
  have z2:=Vh h.2
  have e:agT a=⟨#[40]⟩++qT a.z.a a.z.b a.z.c a.z.d++⟨#[44]⟩++qT a.z.e a.z.f a.z.g a.z.h++⟨#[41]⟩:=by simp [agT,hk]
  have e1:(⟨#[40]⟩:ByteArray).size=1:=rfl
  have e2:(⟨#[44]⟩:ByteArray).size=1:=rfl
  have e3:(⟨#[41]⟩:ByteArray).size=1:=rfl
  rw [e]
  simp only [ByteArray.size_append,e1,e2,e3]
  omega
 ·have e:agT a=⟨#[40,105,110,102,41]⟩:=by simp [agT,hk]
  rw [e]
  decide
 ·have z:=Je _ (ZbR hm hk)
  have e:agT a=⟨#[91]⟩++ltB a.wd++⟨#[93]⟩:=by simp [agT,hk]
  have e1:(⟨#[91]⟩:ByteArray).size=1:=rfl
  have e2:(⟨#[93]⟩:ByteArray).size=1:=rfl
  rw [e]
  simp only [ByteArray.size_append,e1,e2]
  omega
 ·have h:=ZbN hm hk
  simp only [isCt,Bool.and_eq_true,decide_eq_true_eq]at h
  have z:=Xv a.ct ⟨by omega,by omega⟩
  have e:agT a=⟨#[35]⟩++itB a.ct:=by simp [agT,hk]
  have e1:(⟨#[35]⟩:ByteArray).size=1:=rfl
  rw [e]
  simp only [ByteArray.size_append,e1]
  omega
theorem UI {s:St} (hs:okS s=true):∀x∈lineL s,x.size≤1000000:=by
 obtain⟨h1,h2,h3,h4⟩:=ZJ hs
 have hv:s.vb.size≤16:=by
  simp only [isVb,Bool.and_eq_true,decide_eq_true_eq]at h1
  omega
 intro x hx
 unfold lineL at hx
 rw [List.mem_append]at hx
 rcases hx with hx|hx
 ·split at hx
  ·simp at hx
   subst hx
   omega
  ·rename_i hn
   simp at hx
   rcases hx with rfl|rfl
   ·omega
   ·have:s.nm.size≤32:=by
      rcases h2 with h2|h2
      ·exact absurd h2 hn
      ·simp only [isNm,Bool.and_eq_true,decide_eq_true_eq]at h2
       omega
    have e1:(⟨#[61]⟩:ByteArray).size=1:=rfl
    rw [ByteArray.size_append,e1]
    omega
 ·obtain⟨a,ha,rfl⟩:=List.mem_map.1 hx
  exact VG (h4 a ha)
theorem rArg_2W (w:World) (a:Ag) (u:Value) (hu:Ints w u a.wd) (hk:a.k=2) (hm:mayZ a.z=true) (ht:Tab w) :
    Calls Tryz.prog 35 #[agv a u] w fun e w'=>e=.returned (.string (agT a))∧w.grownBy w' none:=by
 have HT:Hid (agT a=⟨#[40]⟩++qT a.z.a a.z.b a.z.c a.z.d++⟨#[44]⟩++qT a.z.e a.z.f a.z.g a.z.h++⟨#[41]⟩):=by
  show _=_
  simp [agT,hk]
 simp only [mayZ,Bool.and_eq_true]at hm
 have HB:Hid (∀n s d t W,((n=a.z.a∧s=a.z.b∧d=a.z.c∧t=a.z.d)∨(n=a.z.e∧s=a.z.f∧d=a.z.g∧t=a.z.h))→w.grownBy W none→Calls Tryz.prog 60 #[frac n s d t] W fun e w'=>e=.returned (.string (qT n s d t))∧W.grownBy w' none):=by
  intro n s d t W h hg
  have:mayQ n s d t=true:=by
   rcases h with ⟨rfl,rfl,rfl,rfl⟩|⟨rfl,rfl,rfl,rfl⟩
   ·exact hm.1
   ·exact hm.2
  exact ZcR n d s t this W
 have z1:=Vh hm.1
 have z2:=Vh hm.2
 obtain⟨ab,c,rfl⟩:=hu.form
 obtain⟨k,nm,⟨ra,rb,rc,rd,re,rf,rg,rh⟩,wd,ct⟩:=a
 simp only at hk
 subst hk
 simp only at HT HB z1 z2
 clear hu ht hm
 have hz1:¬9223372036854775807<1+(qT ra rb rc rd).size:=by omega
 have hz2:¬9223372036854775807<1+(qT ra rb rc rd).size+1:=by omega
 have hz3:¬9223372036854775807<1+(qT ra rb rc rd).size+1+(qT re rf rg rh).size:=by omega
 have hz4:¬9223372036854775807<1+(qT ra rb rc rd).size+1+(qT re rf rg rh).size+1:=by omega
 have e1:(⟨#[40]⟩:ByteArray).size=1:=rfl
 clear z1 z2
 generalize wd.length=n at *
 have HY:Hid (∀w',(w.alloc (.cells (agc ⟨2,nm,⟨ra,rb,rc,rd,re,rf,rg,rh⟩,wd,ct⟩ (.slice ab n c)) 45)).grownBy w' none→w'.cell? ⟨w.heap.size,2,none⟩=some (Value.bool ra)∧w'.cell? ⟨w.heap.size,3,none⟩=some (Value.string rb)∧w'.cell? ⟨w.heap.size,4,none⟩=some (Value.bool rc)∧w'.cell? ⟨w.heap.size,5,none⟩=some (Value.string rd)∧w'.cell? ⟨w.heap.size,6,none⟩=some (Value.bool re)∧w'.cell? ⟨w.heap.size,7,none⟩=some (Value.string rf)∧w'.cell? ⟨w.heap.size,8,none⟩=some (Value.bool rg)∧w'.cell? ⟨w.heap.size,9,none⟩=some (Value.string rh)):=fun w' h=>by
  have hA:ABk w' w.heap.size ⟨2,nm,⟨ra,rb,rc,rd,re,rf,rg,rh⟩,wd,ct⟩ (.slice ab n c):=ABk.kept (heap_alloc_new _ _) h
  have:=hA.at
  obtain⟨_,_,c2,c3,c4,c5,c6,c7,c8,c9,_,_⟩:=this
  simp only [Nat.zero_add]at c2 c3 c4 c5 c6 c7 c8 c9
  exact⟨c2,c3,c4,c5,c6,c7,c8,c9⟩
 go_enter Tryz.func35,Tryz.ntmps35
 go_wp2_with fail
 obtain⟨k0,k1,k2,k3,k4,k5,k6,k7⟩:=HY.out _ (World.grownBy.refl _ _)
 go_region_held3 (fun w'=>w'.cell? ⟨w.heap.size,2,none⟩=some (Value.bool ra)∧w'.cell? ⟨w.heap.size,3,none⟩=some (Value.string rb)∧w'.cell? ⟨w.heap.size,4,none⟩=some (Value.bool rc)∧w'.cell? ⟨w.heap.size,5,none⟩=some (Value.string rd)∧w'.cell? ⟨w.heap.size,6,none⟩=some (Value.bool re)∧w'.cell? ⟨w.heap.size,7,none⟩=some (Value.string rf)∧w'.cell? ⟨w.heap.size,8,none⟩=some (Value.bool rg)∧w'.cell? ⟨w.heap.size,9,none⟩=some (Value.string rh))
  (first|(go_keep;done)|with_reducible exact HY.out _ (by assumption)|with_reducible exact HY.out _ (Zf (World.grownBy.refl _ _))|fail)
  (first
   |(go_at_call 60;refine(HB.out _ _ _ _ _ (by first|exact .inl ⟨rfl,rfl,rfl,rfl⟩|exact .inr ⟨rfl,rfl,rfl,rfl⟩) (by first|exact Za (grow1 _ _) GA|exact grow1 _ _|exact Zf (grow1 _ _)|exact Zf (Za (grow1 _ _) GA))).mono ?_;rintro e wA ⟨rfl,gA⟩;have GA:(w.alloc (.cells (agc ⟨2,nm,⟨ra,rb,rc,rd,re,rf,rg,rh⟩,wd,ct⟩ (.slice ab n c)) 45)).grownBy wA none:=(by first|exact gA|exact Zj gA|exact Za GA gA);clear gA)
   |fail)
 all_goals (
  have HG4:Hid (w.grownBy _ none):=Za (grow1 _ _) GA
  go_wp2_with fail
  go_ret
  rw [HT.out]
  exact⟨rfl,HG4.out⟩)
theorem JI (w:World) (a:Ag) (u:Value) (hu:Ints w u a.wd) (hm:mayA a=true) (ht:Tab w) :
    Calls Tryz.prog 35 #[agv a u] w fun e w'=>e=.returned (.string (agT a))∧w.grownBy w' none:=by
 rcases may_k hm with hk|hk|hk|hk|hk
 ·exact rArg_1 w a u hu hk
 ·exact rArg_2W w a u hu hk (Zbl hm hk) ht
 ·exact rArg_3 w a u hu hk
 ·exact rArg_4 w a u hu hk (ZbR hm hk) ht
 ·exact rArg_5 w a u hu hk (ZbN hm hk) ht
theorem Zfs (w:World) (v:Value) (s:St) (hv:Stv w v s) (hft:s.Fit) (hs:okS s=true) (ht:Tab w) (h0:s.nm.size=0) :
    Calls Tryz.prog 13 #[v] w fun e w'=>e=.returned (.tuple #[.string (lineB s),.int .i64 (chkS s)])∧w.grownBy w' none:=by
 have HC:Hid (∀W,w.grownBy W none→Calls Tryz.prog 16 #[v] W fun e w'=>e=.returned (.int .i64 0)∧W.grownBy w' none):=fun W hg=>by
  have h:=XO W v s (hv.kept hg) hft
  have e:chkS s=0:=by
   unfold chkS
   rw [hs]
   rfl
  rw [e]at h
  exact h
 have HK0:Hid (chkS s=0):=by
  show _=_
  unfold chkS
  rw [hs]
  rfl
 have HLb:Hid (lineB s=lnB s):=by
  show _=_
  unfold lineB
  rw [if_pos hs]
 obtain⟨u,rfl,hA⟩:=hv
 obtain⟨ab,c,rfl,HR⟩:=hA.reads
 obtain⟨vb,nm,ags⟩:=s
 simp only at HR h0
 obtain rfl:=Zi h0
 have HR1:Hid (∀w',w.grownBy w' none→∀i a,ags[i]?=some a→∃B off wv,ab=some ⟨B,off,none⟩∧AgAt w' B (off+i*12) a wv∧Ints w' wv a.wd∧ags.length≤c):=HR
 have HM:Hid (∀a∈ags,mayA a=true):=fun a ha=>(ZJ hs).2.2.2 a ha
 have h64:ags.length≤64:=(ZJ hs).2.2.1
 have HTb:Hid (Tab w):=ht
 have hps:=UI hs
 have hvz:vb.size≤16:=by
  have h:=(ZJ hs).1
  simp only [isVb,Bool.and_eq_true,decide_eq_true_eq]at h
  omega
 have HHd:Hid ([vb]++ags.map agT=lineL ⟨vb,ByteArray.empty,ags⟩):=by
  show [vb]++ags.map agT=(if ByteArray.empty.size=0 then [vb]else [vb,⟨#[61]⟩++ByteArray.empty])++ags.map agT
  rw [if_pos (show ByteArray.empty.size=0 from rfl)]
 have HSz:Hid (∀i,(cB ([vb]++(ags.take i).map agT)).size≤70000000):=fun i=>Zd2 (by simp;omega) (fun x hx=>hps x (by
  rw [←HHd.out]
  rw [List.mem_append]at hx ⊢
  rcases hx with hx|hx
  ·exact .inl hx
  ·obtain⟨a,ha,rfl⟩:=List.mem_map.1 hx
   exact .inr (List.mem_map.2 ⟨a,List.mem_of_mem_take ha,rfl⟩)))
 simp only at HC ⊢
 obtain⟨n,hn⟩:∃n,ags.length=n:=⟨_,rfl⟩
 have HLn:Unit→ags.length=n:=fun _=>hn
 have hnI:(n:Int)≤64:=by omega
 rw [hn]at HC ⊢
 simp only [hn]at HR1
 clear hn hA HR hs ht hft h64 hps
 go_enter Tryz.func13,Tryz.ntmps13
 go_wp2_with fail
 refine(HC.out _ (grow1 _ _)).mono ?_
 rintro e w1 ⟨rfl,hg⟩
 have HG0:Hid ((w.alloc (sObj vb ByteArray.empty (.slice ab n c))).grownBy w1 none):=hg
 have hb:w1.heap[w.heap.size]?=some (sObj vb ByteArray.empty (.slice ab n c)):=(hg.block _ (by simp) (by simp)).trans (heap_alloc_new _ _)
 have b0:w1.cell? ⟨w.heap.size,0,none⟩=some (.string vb):=by simp [World.cell?,hb]
 have b1:w1.cell? ⟨w.heap.size,1,none⟩=some (.string ByteArray.empty):=by simp [World.cell?,hb]
 clear hg hb
 go_wp2_with fail
 go_loopw [4,5] (fun s4 ix wr=>∃i:Nat,i≤n∧ix=.int .i64 i∧s4=.string (cB ([vb]++(ags.take i).map agT))∧(w.alloc (sObj vb ByteArray.empty (.slice ab n c))).grownBy wr none) (fun _ ix _=>match ix with|.int _ i=>n-i.toNat|_=>0)
 case atStart=>exact⟨0,by omega,rfl,by(show Value.string _=Value.string _;congr 1;exact(cB_one vb).symm),HG0.out⟩
 case round =>
  obtain⟨i,hi,rfl,rfl,hg⟩:=hrel
  have HGb:Hid ((w.alloc (sObj vb ByteArray.empty (.slice ab n c))).grownBy wr none):=hg
  have HG:Hid (w.grownBy wr none):=Za (grow1 _ _) hg
  have s2:=UF hg
  have hsz:=HSz.out i
  clear hg
  by_cases hlt:i<n
  ·have hlt':i<ags.length:=by rw [HLn ()];exact hlt
   obtain⟨a,hia⟩:∃a,ags[i]?=some a:=⟨_,List.getElem?_eq_getElem hlt'⟩
   obtain⟨B,off,wv,rfl,hat,hin,hnc⟩:=HR1.out wr HG.out i _ hia
   have hma:=HM.out a (List.mem_of_getElem? hia)
   have hts:=VG hma
   have HNx:Hid (cB ([vb]++(ags.take i).map agT)++⟨#[32]⟩++agT a=cB ([vb]++(ags.take (i+1)).map agT)):=by
    show _=_
    rw [List.take_add_one,hia]
    simp only [Option.toList_some,List.map_append,List.map_cons,List.map_nil]
    rw [←List.append_assoc]
    exact(ZaM _ _ (by simp)).symm
   have HC:Hid (Calls Tryz.prog 35 #[agv a wv] wr fun e w'=>e=.returned (.string (agT a))∧wr.grownBy w' none):=JI wr a wv hin hma (HTb.out.kept HG.out)
   have hz1:¬9223372036854775807<(cB ([vb]++(ags.take i).map agT)).size+1:=by omega
   have hz2:¬9223372036854775807<(cB ([vb]++(ags.take i).map agT)).size+1+(agT a).size:=by omega
   clear hsz hts
   obtain⟨pb,hpb⟩:∃pb,cB ([vb]++(ags.take i).map agT)=pb:=⟨_,rfl⟩
   rw [hpb]at hz1 hz2 HNx ⊢
   clear hpb
   generalize agT a=tx at *
   obtain⟨ab2,c2,rfl⟩:=hin.form
   generalize a.wd.length=n2 at *
   obtain⟨k0,k1,k2,k3,k4,k5,k6,k7,k8,k9,k10,k11⟩:=hat
   have hltI:(i:Int)<n:=by omega
   clear hin hma hlt' hia
   go_wp2_with fail
   refine HC.out.mono ?_
   rintro e w1 ⟨rfl,hg1⟩
   have HG1:Hid ((w.alloc (sObj vb ByteArray.empty (.slice (some ⟨B,off,none⟩) n c))).grownBy w1 none):=Za HGb.out hg1
   clear hg1 k0 k1 k2 k3 k4 k5 k6 k7 k8 k9 k10 k11
   go_wp2_with fail
   go_roundw
   case rel=>exact⟨i+1,by omega,Zl (by omega),by rw [HNx.out],HG1.out⟩
   case measure=>simp;omega
  ·have e:i=n:=by omega
   subst e
   have HF:Hid (cB ([vb]++(ags.take i).map agT)=lnB ⟨vb,ByteArray.empty,ags⟩):=by
    show _=_
    rw [←HLn (),List.take_length,HHd.out]
    rfl
   rw [HF.out]
   clear hsz
   obtain⟨tx,htx⟩:∃tx,lnB ⟨vb,ByteArray.empty,ags⟩=tx:=⟨_,rfl⟩
   have HTx:Hid (lineB ⟨vb,ByteArray.empty,ags⟩=tx):=by
    show _=_
    rw [←htx]
    exact HLb.out
   rw [htx]
   clear htx
   go_wp2_with fail
   go_ret2
   refine⟨?_,HG.out⟩
   rw [HTx.out,HK0.out]
   rfl
theorem ZfI (w:World) (v:Value) (s:St) (hv:Stv w v s) (hft:s.Fit) (hs:okS s=true) (ht:Tab w) (h0:¬s.nm.size=0) :
    Calls Tryz.prog 13 #[v] w fun e w'=>e=.returned (.tuple #[.string (lineB s),.int .i64 (chkS s)])∧w.grownBy w' none:=by
 have HC:Hid (∀W,w.grownBy W none→Calls Tryz.prog 16 #[v] W fun e w'=>e=.returned (.int .i64 0)∧W.grownBy w' none):=fun W hg=>by
  have h:=XO W v s (hv.kept hg) hft
  have e:chkS s=0:=by
   unfold chkS
   rw [hs]
   rfl
  rw [e]at h
  exact h
 have HK0:Hid (chkS s=0):=by
  show _=_
  unfold chkS
  rw [hs]
  rfl
 have HLb:Hid (lineB s=lnB s):=by
  show _=_
  unfold lineB
  rw [if_pos hs]
 obtain⟨u,rfl,hA⟩:=hv
 obtain⟨ab,c,rfl,HR⟩:=hA.reads
 obtain⟨vb,nm,ags⟩:=s
 simp only at HR h0
 have he:=Zu h0
 have HR1:Hid (∀w',w.grownBy w' none→∀i a,ags[i]?=some a→∃B off wv,ab=some ⟨B,off,none⟩∧AgAt w' B (off+i*12) a wv∧Ints w' wv a.wd∧ags.length≤c):=HR
 have HM:Hid (∀a∈ags,mayA a=true):=fun a ha=>(ZJ hs).2.2.2 a ha
 have h64:ags.length≤64:=(ZJ hs).2.2.1
 have HTb:Hid (Tab w):=ht
 have hps:=UI hs
 have hvz:vb.size≤16:=by
  have h:=(ZJ hs).1
  simp only [isVb,Bool.and_eq_true,decide_eq_true_eq]at h
  omega
 have HHd:Hid ([vb,⟨#[61]⟩++nm]++ags.map agT=lineL ⟨vb,nm,ags⟩):=by
  show [vb,⟨#[61]⟩++nm]++ags.map agT=(if nm.size=0 then [vb]else [vb,⟨#[61]⟩++nm])++ags.map agT
  rw [if_neg h0]
 have hnz:nm.size≤32:=by
  rcases(ZJ hs).2.1 with h|h
  ·exact absurd h h0
  ·simp only [isNm,Bool.and_eq_true,decide_eq_true_eq]at h
   omega
 have hz1:¬9223372036854775807<vb.size+2:=by omega
 have hz2:¬9223372036854775807<vb.size+2+nm.size:=by omega
 have HSz:Hid (∀i,(cB ([vb,⟨#[61]⟩++nm]++(ags.take i).map agT)).size≤70000000):=fun i=>Zd2 (by simp;omega) (fun x hx=>hps x (by
  rw [←HHd.out]
  rw [List.mem_append]at hx ⊢
  rcases hx with hx|hx
  ·exact .inl hx
  ·obtain⟨a,ha,rfl⟩:=List.mem_map.1 hx
   exact .inr (List.mem_map.2 ⟨a,List.mem_of_mem_take ha,rfl⟩)))
 simp only at HC ⊢
 obtain⟨n,hn⟩:∃n,ags.length=n:=⟨_,rfl⟩
 have HLn:Unit→ags.length=n:=fun _=>hn
 have hnI:(n:Int)≤64:=by omega
 rw [hn]at HC ⊢
 simp only [hn]at HR1
 clear hn hA HR hs ht hft h64 hps
 go_enter Tryz.func13,Tryz.ntmps13
 go_wp2_with fail
 refine(HC.out _ (grow1 _ _)).mono ?_
 rintro e w1 ⟨rfl,hg⟩
 have HG0:Hid ((w.alloc (sObj vb nm (.slice ab n c))).grownBy w1 none):=hg
 have hb:w1.heap[w.heap.size]?=some (sObj vb nm (.slice ab n c)):=(hg.block _ (by simp) (by simp)).trans (heap_alloc_new _ _)
 have b0:w1.cell? ⟨w.heap.size,0,none⟩=some (.string vb):=by simp [World.cell?,hb]
 have b1:w1.cell? ⟨w.heap.size,1,none⟩=some (.string nm):=by simp [World.cell?,hb]
 clear hg hb
 go_wp2_with fail
 go_loopw [4,5] (fun s4 ix wr=>∃i:Nat,i≤n∧ix=.int .i64 i∧s4=.string (cB ([vb,⟨#[61]⟩++nm]++(ags.take i).map agT))∧(w.alloc (sObj vb nm (.slice ab n c))).grownBy wr none) (fun _ ix _=>match ix with|.int _ i=>n-i.toNat|_=>0)
 case atStart=>exact⟨0,by omega,rfl,by(show Value.string _=Value.string _;congr 1;exact cB_two vb nm),HG0.out⟩
 case round =>
  obtain⟨i,hi,rfl,rfl,hg⟩:=hrel
  have HGb:Hid ((w.alloc (sObj vb nm (.slice ab n c))).grownBy wr none):=hg
  have HG:Hid (w.grownBy wr none):=Za (grow1 _ _) hg
  have s2:=UF hg
  have hsz:=HSz.out i
  clear hg
  by_cases hlt:i<n
  ·have hlt':i<ags.length:=by rw [HLn ()];exact hlt
   obtain⟨a,hia⟩:∃a,ags[i]?=some a:=⟨_,List.getElem?_eq_getElem hlt'⟩
   obtain⟨B,off,wv,rfl,hat,hin,hnc⟩:=HR1.out wr HG.out i _ hia
   have hma:=HM.out a (List.mem_of_getElem? hia)
   have hts:=VG hma
   have HNx:Hid (cB ([vb,⟨#[61]⟩++nm]++(ags.take i).map agT)++⟨#[32]⟩++agT a=cB ([vb,⟨#[61]⟩++nm]++(ags.take (i+1)).map agT)):=by
    show _=_
    rw [List.take_add_one,hia]
    simp only [Option.toList_some,List.map_append,List.map_cons,List.map_nil]
    rw [←List.append_assoc]
    exact(ZaM _ _ (by simp)).symm
   have HC:Hid (Calls Tryz.prog 35 #[agv a wv] wr fun e w'=>e=.returned (.string (agT a))∧wr.grownBy w' none):=JI wr a wv hin hma (HTb.out.kept HG.out)
   have hz1:¬9223372036854775807<(cB ([vb,⟨#[61]⟩++nm]++(ags.take i).map agT)).size+1:=by omega
   have hz2:¬9223372036854775807<(cB ([vb,⟨#[61]⟩++nm]++(ags.take i).map agT)).size+1+(agT a).size:=by omega
   clear hsz hts
   obtain⟨pb,hpb⟩:∃pb,cB ([vb,⟨#[61]⟩++nm]++(ags.take i).map agT)=pb:=⟨_,rfl⟩
   rw [hpb]at hz1 hz2 HNx ⊢
   clear hpb
   generalize agT a=tx at *
   obtain⟨ab2,c2,rfl⟩:=hin.form
   generalize a.wd.length=n2 at *
   obtain⟨k0,k1,k2,k3,k4,k5,k6,k7,k8,k9,k10,k11⟩:=hat
   have hltI:(i:Int)<n:=by omega
   clear hin hma hlt' hia
   go_wp2_with fail
   refine HC.out.mono ?_
   rintro e w1 ⟨rfl,hg1⟩
   have HG1:Hid ((w.alloc (sObj vb nm (.slice (some ⟨B,off,none⟩) n c))).grownBy w1 none):=Za HGb.out hg1
   clear hg1 k0 k1 k2 k3 k4 k5 k6 k7 k8 k9 k10 k11
   go_wp2_with fail
   go_roundw
   case rel=>exact⟨i+1,by omega,Zl (by omega),by rw [HNx.out],HG1.out⟩
   case measure=>simp;omega
  ·have e:i=n:=by omega
   subst e
   have HF:Hid (cB ([vb,⟨#[61]⟩++nm]++(ags.take i).map agT)=lnB ⟨vb,nm,ags⟩):=by
    show _=_
    rw [←HLn (),List.take_length,HHd.out]
    rfl
   rw [HF.out]
   clear hsz
   obtain⟨tx,htx⟩:∃tx,lnB ⟨vb,nm,ags⟩=tx:=⟨_,rfl⟩
   have HTx:Hid (lineB ⟨vb,nm,ags⟩=tx):=by
    show _=_
    rw [←htx]
    exact HLb.out
   rw [htx]
   clear htx
   go_wp2_with fail
   go_ret2
   refine⟨?_,HG.out⟩
   rw [HTx.out,HK0.out]
   rfl
theorem Zcu (w:World) (v:Value) (s:St) (hv:Stv w v s) (hft:s.Fit) (ht:Tab w) :
    Calls Tryz.prog 13 #[v] w fun e w'=>e=.returned (.tuple #[.string (lineB s),.int .i64 (chkS s)])∧w.grownBy w' none:=by
 cases hok:okS s
 ·exact ZeJ w v s hv hft hok
 ·by_cases h0:s.nm.size=0
  ·exact Zfs w v s hv hft hok ht h0
  ·exact ZfI w v s hv hft hok ht h0
theorem Zd3 (L:List UInt8) (hL:L.length≤6000) (w:World) :
    Calls Tryz.prog 48 #[.string (bA L)] w fun e w'=>gsQ L w' w.heap.size e∧w.grownBy w' none:=by
 by_cases hq:L=[40,105,110,102,41]
 ·subst hq
  exact ZdJ w
 by_cases hn:L=[]
 ·subst hn
  exact Zdd w
 by_cases h40:L.head?=some 40
 ·exact JN L hL hq h40 w
 by_cases h91:L.head?=some 91
 ·exact ZcE L hL hq h91 w
 by_cases h35:L.head?=some 35
 ·exact Zar L (by omega) hq h35 w
 ·exact ZcK L (by omega) hq hn h40 h91 h35 w
theorem UR {s:ByteArray} {x:Fq} (h:rdF s=some x):x.p.size≤maxLen∧x.q.size≤maxLen:=by
 have h1:=(Zak h).1
 simp only [mayQ,Bool.and_eq_true,decide_eq_true_eq]at h1
 unfold maxLen
 omega
theorem wdG_len {L:List UInt8} {n:Nat} (h:L.length≤n):(wdG L).length≤n+1:=by
 unfold wdG
 split
 ·simp
 ·rw [List.length_map]
  exact Xy h
theorem Gz.zero_fit:Gz.zero.Fit:=⟨by decide,by decide,by decide,by decide⟩
theorem gsA_fit {L:List UInt8} (hL:L.length≤6000):(gsA L).Fit:=by
 have e0:eS.size≤maxLen:=by decide
 unfold gsA
 split
 ·exact⟨e0,Gz.zero_fit,by simp⟩
 split
 ·exact⟨e0,Gz.zero_fit,by simp⟩
 split
 ·split
  ·rename_i z hz
   refine⟨e0,?_,by simp⟩
   unfold gzG at hz
   split at hz
   ·split at hz
    ·cases hz
    ·rename_i x hx
     split at hz
     ·cases hz
     ·rename_i y hy
      obtain rfl:=Option.some.inj hz
      exact⟨(UR hx).1,(UR hx).2,(UR hy).1,(UR hy).2⟩
   ·cases hz
  ·exact⟨e0,Gz.zero_fit,by simp⟩
 split
 ·refine⟨e0,Gz.zero_fit,?_⟩
  have:=wdG_len (L:=inB L) (n:=6000) (by unfold inB;simp;omega)
  show(wdG (inB L)).length≤_
  omega
 split
 ·exact⟨e0,Gz.zero_fit,by simp⟩
 ·refine⟨?_,Gz.zero_fit,by simp⟩
  show(bA L).size≤_
  rw [Zo]
  unfold maxLen
  omega
theorem RowS.ne_ag {w:World} {b b' g n c:Nat} {v:Value} {P:List ByteArray} {Q:List (Ag × Value)} (hO:RowA w b v Q) (hR:RowS w b' (.slice (some ⟨g,0,none⟩) n c) P):v.ownBlock≠some g:=by
 intro h
 obtain⟨cur,hg⟩:=hO.tag h
 rcases hR.2 with ⟨e2,_⟩|⟨g2,cap2,cur2,e2,hb2,hg2,_⟩
 ·cases e2
 ·injection e2 with h3
  have h4:=Option.some.inj h3
  injection h4 with h5
  rw [h5,hg2]at hg
  injection hg with hg
  injection hg with _ h6
  revert h6
  decide
theorem Zco (w:World) (g:Nat) (t:TypeId) (a b c:Value) (fr:Nat × Nat) (hg:w.heap[g]?=some (.cells #[a,b,c] t fr)):(loadVar 24 ⟨g,0,none⟩).run Tryz.prog w=.ok (.agg #[a,b,c]) w :=
 run_loadVar_row w g t 24 #[a,b,c] fr _ hg Tryz.underlying24 rfl Tryz.sizeSt
theorem Xe {fn:Func} {p u:Tmp} (h:fn.results=#[.cell p 24,.tmp u]) (tmps:Array Value) (w:World) (g:Nat) (t:TypeId) (a b c:Value) (fr:Nat × Nat)
    (hp:tmps.getD p undef=.pointer (some ⟨g,0,none⟩)) (hg:w.heap[g]?=some (.cells #[a,b,c] t fr)):(results fn tmps).run Tryz.prog w=.ok (.tuple #[.agg #[a,b,c],tmps.getD u undef]) w:=by
 rw [results_cell_tmp h,hp]
 simp [asAddr,Result.andThen,Zco w g t a b c fr hg]
theorem ZdG {L:List UInt8} (hL:L.length≤6000):(stG L).Fit:=by
 have hsl:=XS (m:=32) L
 have hb:∀p:List UInt8,p.length≤6000→(bA p).size≤maxLen:=fun p h=>by
  rw [Zo]
  unfold maxLen
  omega
 have hf:∀P:List (List UInt8),(∀p∈P,p.length≤6000)→∀a∈(P.take 66).map gsA,a.Fit:=fun P h a ha=>by
  obtain⟨p,hp,rfl⟩:=List.mem_map.1 ha
  have:=h p (List.mem_of_mem_take hp)
  exact gsA_fit (by omega)
 have hl:∀P:List (List UInt8),((P.take 66).map gsA).length≤1000000000000:=fun P=>by
  rw [List.length_map,List.length_take]
  omega
 unfold stG
 cases hs:spl 32 L with
 |nil=>exact absurd hs (X3 _ _)
 |cons v ps =>
  have hv:=hsl v (by rw [hs];simp)
  have hp:∀p∈ps,p.length≤6000:=fun p hp=>by
   have:=hsl p (by rw [hs];simp [hp])
   omega
  dsimp only
  split
  ·refine⟨hb _ (by omega),hb _ ?_,hl _,hf _ (fun p h=>hp p (List.mem_of_mem_tail h))⟩
   rw [List.length_tail]
   cases ps with
   |nil=>simp
   |cons p ps2 =>
    have:=hp p (by simp)
    simp
    omega
  ·exact⟨hb _ (by omega),(show eS.size≤maxLen by decide),hl _,hf _ hp⟩
structure RJ (w wx:World) (B:Nat) (vb nm:ByteArray) (v:Value):Prop where
 r:wx.heap[w.heap.size]?=some stZ
 d:DB wx B vb nm v
 b:w.heap.size<B
 g:w.grownBy wx none
theorem RJ.kept {w wx wy:World} {B:Nat} {vb nm:ByteArray} {v:Value} (h:RJ w wx B vb nm v) (hg:wx.grownBy wy none):RJ w wy B vb nm v :=
 ⟨(hg.block _ (Zg h.r) (by simp)).trans h.r,h.d.kept hg (by simp),h.b,Za h.g hg⟩
theorem ZeH (L:List UInt8) (hL:L.length≤6000) (w:World) (ht:Tab w) :
    Calls Tryz.prog 19 #[.string (bA L)] w fun e w'=>rdA L w' (w.heap.size+1) e∧w.grownBy w' none:=by
 have HT:Hid (Tab w):=ht
 have hsl:∀p∈spl 32 L,p.length≤L.length:=XS _
 have HGs:Hid (∀p∈spl 32 L,∀W,Calls Tryz.prog 48 #[.string (bA p)] W fun e w'=>gsQ p w' W.heap.size e∧W.grownBy w' none):=fun p hp W=>Zd3 p (by have:=hsl p hp;omega) W
 have HPn:Hid (spl 32 L≠[]):=X3 _ _
 have HCt:Hid ((spl 32 L).length≤6001):=Xy hL
 have HCu:Hid (∀W,Calls Tryz.prog 47 #[.string (bA L),.int .u8 32] W fun e w'=>∃v,e=.returned v∧RowS w' W.heap.size v ((spl 32 L).map bA)∧W.grownBy w' none):=fun W=>U2 L (by omega) 32 32 (by decide) W
 have HFit:Hid ((stG L).Fit):=ZdG hL
 have HLn:Hid (∀W v,w.grownBy W none→Stv W v (stG L)→Calls Tryz.prog 13 #[v] W fun e w'=>e=.returned (.tuple #[.string (lineB (stG L)),.int .i64 (chkS (stG L))])∧W.grownBy w' none):=fun W v hg hv=>Zcu W v (stG L) hv HFit.out (ht.kept hg)
 have HEnd:Hid (stU L=if okS (stG L)=true∧(lnB (stG L)).data.toList=L then some (stG L)else none):=(JA L).symm
 have hsz:=Zo L
 obtain⟨v,ps,hvp⟩:∃v ps,spl 32 L=v::ps:=by
  cases h:spl 32 L with
  |nil=>exact absurd h HPn.out
  |cons v ps=>exact⟨v,ps,rfl⟩
 have HSG:Hid (stG L=if(ps.headD []).head?=some 61∧1<(ps.headD []).length then⟨bA v,bA (ps.headD []).tail,(ps.tail.take 66).map gsA⟩else⟨bA v,eS,(ps.take 66).map gsA⟩):=by
  show _=_
  unfold stG
  rw [hvp]
 have HPs:Hid (∀p∈ps,p.length≤6000):=fun p hp=>by
  have:=hsl p (by rw [hvp];simp [hp])
  omega
 simp only [hvp]at HCu HCt
 have HGs2:Hid (∀p∈ps,∀W,Calls Tryz.prog 48 #[.string (bA p)] W fun e w'=>gsQ p w' W.heap.size e∧W.grownBy w' none):=fun p hp=>HGs.out p (by rw [hvp];simp [hp])
 clear ht hsl HGs HPn hvp
 go_enter Tryz.func19,Tryz.ntmps19
 go_wp2_with fail
 refine(HCu.out _).mono ?_
 rintro e w1 ⟨v1,rfl,hr1,g1⟩
 obtain⟨g,cp,rfl,hbg⟩:=RowS.some1 hr1 (by simp)
 obtain⟨n,hn⟩:∃n,ps.length=n:=⟨_,rfl⟩
 have HLn2:Unit→ps.length=n:=fun _=>hn
 have hn3:n+1≤6001:=by
  have:=HCt.out
  simp at this
  omega
 have hnI:((n+1:Nat):Int)≤6001:=by omega
 have hml:((v::ps).map bA).length=n+1:=by simp [hn]
 rw [hml]at hr1 ⊢
 have HR1:Hid (RowS w1 (w.heap.size+1) (.slice (some ⟨g,0,none⟩) (n+1) cp) ((v::ps).map bA)):=by
  have e:(w.alloc stZ).heap.size=w.heap.size+1:=by simp
  have h:RowS _ _ _ _:=hr1
  rw [e]at h
  exact h
 have HBg:Hid (w.heap.size<g):=by
  have e:(w.alloc stZ).heap.size=w.heap.size+1:=by simp
  have h:=hbg
  rw [e]at h
  exact h
 have HZ1:Hid (w1.heap[w.heap.size]?=some stZ):=(g1.block _ (by simp) (by simp)).trans (heap_alloc_new _ _)
 have G1:Hid (w.grownBy w1 none):=Za (grow1 _ _) g1
 have l0:w1.cell? ⟨g,0,none⟩=some (.string (bA v)):=RowS.cell HR1.out 0 (bA v) rfl
 clear hr1 hbg hml g1 HCt HCu hn
 go_upto_region 4 with fail
 change Code.wp _ _ _ _ (w1.alloc (sObj (bA v) eS (.slice none 0 0)))
 have H2:Hid (RJ w (w1.alloc (sObj (bA v) eS (.slice none 0 0))) w1.heap.size (bA v) eS (.slice none 0 0)) :=
  ⟨((grow1 w1 _).block _ (Zg HZ1.out) (by simp)).trans HZ1.out,heap_alloc_new _ _,Zg HZ1.out,Za G1.out (grow1 _ _)⟩
 have R2:Hid (RowS (w1.alloc (sObj (bA v) eS (.slice none 0 0))) (w.heap.size+1) (.slice (some ⟨g,0,none⟩) (n+1) cp) ((v::ps).map bA)):=HR1.out.kept (grow1 _ _)
 have HgB:Hid (g<w1.heap.size):=(World.ownsRow.lt HR1.out g rfl).2
 generalize w1.alloc (sObj (bA v) eS (.slice none 0 0))=w2 at *
 generalize w1.heap.size=B3 at *
 clear HZ1 G1 HR1 l0
 have HTail:Hid (∀p:List UInt8,p∈ps→(bA p).extract 1 p.length=bA p.tail):=fun p _=>by
  have:=Xq p 1
  rw [Zo]at this
  rw [this,List.drop_one]
 rcases hps:ps with _|⟨p,ps2⟩
 case' nil =>
  have hn0:n=0:=by
   rw [←HLn2 (),hps]
   rfl
  have hnle:(n:Int)≤0:=by omega
  have hn0Z:¬0<n:=by omega
  have hn0b:decide ((1:Int)<(n:Int)+1)=false:=decide_eq_false (by omega)
  clear hn0
  have HSG2:Hid (stG L=⟨bA v,eS,(ps.take 66).map gsA⟩):=by
   show _=_
   rw [HSG.out,hps]
   rfl
  clear hps
  go_upto_region 7 with fail
  clear hnle hn0Z hn0b
  obtain⟨nm,fr,q,HD,HSq,HSp,HfrI⟩:∃(nm:ByteArray) (fr:Nat) (q:List (List UInt8)),Hid (RJ w w2 B3 (bA v) nm (.slice none 0 0))∧Hid (stG L=⟨bA v,nm,(q.take 66).map gsA⟩)∧Hid (q=(v::ps).drop fr∧fr+q.length=n+1∧∀x∈q,x∈ps)∧fr=1:=⟨eS,1,ps,H2,HSG2,⟨rfl,by have:=HLn2 ();omega,fun x hx=>hx⟩,rfl⟩
  have hfr:(fr:Int)=1:=by omega
  have RZ:=R2
  generalize hwz:w2=wz at *
  clear hwz H2 HSG2 R2 HfrI
 case' cons =>
  have hpm:p∈ps:=by
   rw [hps]
   simp
  have l1:w2.cell? ⟨g,1,none⟩=some (.string (bA p)):=RowS.cell R2.out 1 (bA p) (by rw [hps];rfl)
  have hn1:1≤n:=by
   rw [←HLn2 (),hps]
   simp
  have hn1I:(1:Int)<((n+1:Nat):Int):=by omega
  have hxt:=HTail.out p hpm
  have hpz:=Zo p
  have hp3:=HPs.out p hpm
  have hx0:∀h:0<(bA p).size,p[0]?=some (bA p)[0]:=fun h=>bA_at h
  have hps2:ps=p::ps2:=hps
  obtain⟨m,hm⟩:∃m,p.length=m:=⟨_,rfl⟩
  rw [hm]at hxt hpz hp3
  have hmI:(m:Int)≤6000:=by omega
  by_cases hm1:m≤1
  case' pos =>
   have hm1I:decide ((1:Int)<(m:Int))=false:=decide_eq_false (by omega)
   have hm1N:¬1<m:=by omega
   have HSG2:Hid (stG L=⟨bA v,eS,(ps.take 66).map gsA⟩):=by
    show _=_
    rw [HSG.out,if_neg]
    rintro⟨_,h⟩
    rw [hps2]at h
    simp at h
    omega
   clear hps hx0 hps2 hm hpm
   generalize bA p=sp at *
   go_upto_region 7 with fail
   clear hxt hpz hp3 l1
   obtain⟨nm,fr,q,HD,HSq,HSp,HfrI⟩:∃(nm:ByteArray) (fr:Nat) (q:List (List UInt8)),Hid (RJ w w2 B3 (bA v) nm (.slice none 0 0))∧Hid (stG L=⟨bA v,nm,(q.take 66).map gsA⟩)∧Hid (q=(v::ps).drop fr∧fr+q.length=n+1∧∀x∈q,x∈ps)∧fr=1:=⟨eS,1,ps,H2,HSG2,⟨rfl,by have:=HLn2 ();omega,fun x hx=>hx⟩,rfl⟩
   have hfr:(fr:Int)=1:=by omega
   have RZ:=R2
   generalize hwz:w2=wz at *
   clear hwz H2 HSG2 R2 HfrI
  case' neg =>
   have hm1I:(1:Int)<(m:Int):=by omega
   have hs1:0<(bA p).size:=by omega
   have hs1I:(0:Int)<(bA p).size:=by omega
   have hx:=hx0 hs1
   by_cases h61:p.head?=some 61
   case' pos =>
    have hc:(bA p)[0]=61:=by
     rw [List.head?_eq_getElem?,hx]at h61
     exact Option.some.inj h61
    have HSG2:Hid (stG L=⟨bA v,bA p.tail,(ps2.take 66).map gsA⟩):=by
     show _=_
     rw [HSG.out,if_pos]
     ·rw [hps2]
      rfl
     ·rw [hps2]
      exact⟨h61,by show 1<p.length;omega⟩
    have H2b:Hid (RJ w (w2.setCell ⟨B3,1,none⟩ (.string (bA p.tail))) B3 (bA v) (bA p.tail) (.slice none 0 0)) :=
     ⟨by
      have:=H2.out.r
      have hb:=H2.out.b
      have e1:¬(B3=w.heap.size):=by omega
      simp [World.setCell,Array.getElem?_modify,this,e1],H2.out.d.put1 _,H2.out.b,Zb H2.out.g (by have:=H2.out.b;omega)⟩
    have R2b:Hid (RowS (w2.setCell ⟨B3,1,none⟩ (.string (bA p.tail))) (w.heap.size+1) (.slice (some ⟨g,0,none⟩) (n+1) cp) ((v::ps).map bA)):=World.ownsRow.kept R2.out (Zc _ _ _ _) (.inr (fun e=>by
     have h1:g=B3:=Option.some.inj e
     have:=HgB.out
     omega))
    have d1:=H2.out.d.c1
    have f1:=H2.out.d.fr 1
    generalize bA p.tail=spt at *
    clear hps hx0 hm hpm hx h61
    generalize bA p=sp at *
    go_upto_region 7 with fail
    obtain⟨nm,fr,q,HD,HSq,HSp,HfrI⟩:∃(nm:ByteArray) (fr:Nat) (q:List (List UInt8)),Hid (RJ w (w2.setCell ⟨B3,1,none⟩ (.string spt)) B3 (bA v) nm (.slice none 0 0))∧Hid (stG L=⟨bA v,nm,(q.take 66).map gsA⟩)∧Hid (q=(v::ps).drop fr∧fr+q.length=n+1∧∀x∈q,x∈ps)∧fr=2:=⟨spt,2,ps2,H2b,HSG2,⟨by rw [hps2];rfl,by have h1:=HLn2 ();rw [hps2]at h1;simp at h1;omega,fun x hx=>by rw [hps2];simp [hx]⟩,rfl⟩
    have hfr:(fr:Int)=2:=by omega
    have RZ:=R2b
    generalize hwz:w2.setCell ⟨B3,1,none⟩ (.string spt)=wz at *
    clear hwz H2 HSG2 R2 HfrI hxt hpz hp3 l1 H2b R2b d1 f1 hps2
   case' neg =>
    have h61p:¬((bA p)[0].toNat:Int)=61:=fun h=>by
     apply h61
     rw [List.head?_eq_getElem?,hx]
     congr 1
     apply UInt8.toNat_inj.1
     have:(61:UInt8).toNat=61:=by decide
     omega
    have HSG2:Hid (stG L=⟨bA v,eS,(ps.take 66).map gsA⟩):=by
     show _=_
     rw [HSG.out,if_neg]
     rintro⟨h,_⟩
     rw [hps2]at h
     exact h61 h
    clear hps hx0 hps2 hm hpm hx h61
    generalize bA p=sp at *
    go_upto_region 7 with fail
    generalize(sp[0].toNat:Int)=x61 at *
    have hx61:(x61 == 61)=false:=by
     first
      |assumption
      |exact beq_eq_false_iff_ne.2 h61p
    clear hs1 hs1I hpz
    simp only [hx61]
    clear hx61 h61p
    clear hxt hp3 l1
    obtain⟨nm,fr,q,HD,HSq,HSp,HfrI⟩:∃(nm:ByteArray) (fr:Nat) (q:List (List UInt8)),Hid (RJ w w2 B3 (bA v) nm (.slice none 0 0))∧Hid (stG L=⟨bA v,nm,(q.take 66).map gsA⟩)∧Hid (q=(v::ps).drop fr∧fr+q.length=n+1∧∀x∈q,x∈ps)∧fr=1:=⟨eS,1,ps,H2,HSG2,⟨rfl,by have:=HLn2 ();omega,fun x hx=>hx⟩,rfl⟩
    have hfr:(fr:Int)=1:=by omega
    have RZ:=R2
    generalize hwz:w2=wz at *
    clear hwz H2 HSG2 R2 HfrI
 all_goals (
  have HQ1:=HSp.out.1
  have HQ:Hid (∀j x,q[j]?=some x→((v::ps).map bA)[fr+j]?=some (bA x)):=fun j x hx=>by
   rw [HQ1,List.getElem?_drop]at hx
   rw [List.getElem?_map,hx]
   rfl
  have HQin:Hid (∀x∈q,∀W,Calls Tryz.prog 48 #[.string (bA x)] W fun e w'=>gsQ x w' W.heap.size e∧W.grownBy w' none):=fun x hx=>HGs2.out x (HSp.out.2.2 x hx)
  have hql:=HSp.out.2.1
  obtain⟨lq,hlq⟩:∃lq,q.length=lq:=⟨_,rfl⟩
  have HLq:Unit→q.length=lq:=fun _=>hlq
  rw [hlq]at hql
  have hqlI:(fr:Int)+lq=(n:Int)+1:=by omega
  clear HQ1 hlq HSp HGs2 HPs HTail HSG HLn2
  go_wp2_with fail
  have HA0:Hid (RowA wz (B3+1) (.slice none 0 0) []):=RowA.nil _ _
  go_loopw [7] (fun s7 wr=>∃(j:Nat) (P:List (Ag × Value)) (ab:Option Addr) (c:Nat),(j≤lq∧j≤66)∧s7=.int .i64 ((fr+j:Nat):Int)∧P.length=j∧P.map (·.1)=(q.take j).map gsA∧RJ w wr B3 (bA v) nm (.slice ab j c)∧RowA wr (B3+1) (.slice ab j c) P∧RowS wr (w.heap.size+1) (.slice (some ⟨g,0,none⟩) (n+1) cp) ((v::ps).map bA)) (fun s7 _=>match s7 with|.int _ i=>n+1-i.toNat|_=>0)
  case atStart=>exact⟨0,[],none,0,⟨by omega,by omega⟩,Zl (by omega),rfl,rfl,HD.out,HA0.out,RZ.out⟩
  case round =>
   clear hfr
   obtain⟨j,P,ab,c,⟨hj,hj66⟩,rfl,hPl,hPm,hJ,hA,hR⟩:=hrel
   have HPl:Hid (P.length=j):=hPl
   have HPm:Hid (P.map (·.1)=(q.take j).map gsA):=hPm
   have HJ:Hid (RJ w wr B3 (bA v) nm (.slice ab j c)):=hJ
   have HA:Hid (RowA wr (B3+1) (.slice ab j c) P):=hA
   have HR:Hid (RowS wr (w.heap.size+1) (.slice (some ⟨g,0,none⟩) (n+1) cp) ((v::ps).map bA)):=hR
   have HNE:Hid ((Value.slice ab j c).ownBlock≠some g):=RowS.ne_ag hA hR
   have b0:=hJ.d.c0
   have b1:=hJ.d.c1
   have b2:=hJ.d.c2
   have hjI:(j:Int)≤66:=by omega
   clear hPl hPm hJ hA hR HA0 HD RZ
   by_cases hgo:j<lq∧j<66
   ·obtain⟨x,hx⟩:∃x,q[j]?=some x:=⟨_,List.getElem?_eq_getElem (by rw [HLq ()];exact hgo.1)⟩
    have HC:=HQin.out x (List.mem_of_getElem? hx)
    have l0:wr.cell? ⟨g,fr+j,none⟩=some (.string (bA x)):=RowS.cell HR.out (fr+j) (bA x) (HQ.out j x hx)
    have hlt1:((fr+j:Nat):Int)<((n+1:Nat):Int):=by omega
    have hlt2:(j:Int)<66:=by omega
    have HNx:Hid (∀u:Value,(P++[(gsA x,u)]).map (·.1)=(q.take (j+1)).map gsA):=fun u=>by
     have e:q.take (j+1)=q.take j++q[j]?.toList:=List.take_add_one
     rw [List.map_append,HPm.out,e,hx]
     simp
    have HP1:Hid (∀u:Value,(P++[(gsA x,u)]).length=j+1):=fun u=>by
     rw [List.length_append,HPl.out]
     rfl
    have HGo:Hid (j<lq∧j<66):=hgo
    have HgsQ:Hid (∀w' base e,gsQ x w' base e→∃ab n c,e=.returned (agv (gsA x) (.slice ab n c))∧OwI w' base (.slice ab n c) (gsA x).wd):=fun _ _ _ h=>h
    clear hx hgo
    generalize bA x=sx at *
    generalize gsQ x=QX at *
    have l0':wr.cell? ⟨g,0+(fr+j),none⟩=some (.string sx):=by rw [Nat.zero_add];exact l0
    have hi0:(0:Int)≤(fr:Int)+(j:Int):=by omega
    have hi1:(fr:Int)+(j:Int)<(n:Int)+1:=by have:=HGo.out;omega
    have hi3:fr+j<n+1:=by omega
    have hi2:((fr:Int)+(j:Int)).toNat=fr+j:=by omega
    go_upto_region 10 with fail
    all_goals (
     go_region_law (first
      |(refine Y1 rfl _ _ rfl (B3+1) (.slice ab j c) P rfl (R6.out.kept0 (grow1 _ _)) (gsA x) ab2 n2 c2 w6.heap.size rfl (heap_alloc_new _ _) (O6.out.kept0 (grow1 _ _)) (by have:=HPl.out;omega) (by have:=Zg J6.out.d;simp;omega) ?_
        intro v7 w7 hR7 hg7
        obtain⟨ab3,c3,rfl⟩:=hR7.form
        rw [HP1.out]at hR7 ⊢
        have R7:Hid (RowA w7 (B3+1) (.slice ab3 (j+1) c3) (P++[(gsA x,.slice ab2 n2 c2)])):=hR7
        have G7:Hid (w.grownBy w7 none):=Vb (Za J6.out.g (grow1 _ _)) (R6.out.kept0 (grow1 _ _)) (by have:=J6.out.b;omega) hg7
        have D7:Hid (DB w7 B3 (bA v) nm (.slice ab j c)):=(J6.out.d.kept (grow1 _ _) (by simp)).kept hg7 (HA.out.ne (by omega))
        have Z7:Hid (w7.heap[w.heap.size]?=some stZ):=(hg7.block _ (by have:=Zg J6.out.r;simp;omega) (fun e=>HA.out.ne (k:=w.heap.size) (by have:=HJ.out.b;omega) e.symm)).trans (((grow1 w6 _).block _ (Zg J6.out.r) (by simp)).trans J6.out.r)
        have S7:Hid (RowS w7 (w.heap.size+1) (.slice (some ⟨g,0,none⟩) (n+1) cp) ((v::ps).map bA)):=World.ownsRow.kept (T6.out.kept (grow1 _ _)) hg7 (.inr (fun e=>HNE.out (by rw [←e];rfl)))
        have k8:=D7.out.c2
        have y8:=D7.out.fr 2
        clear hR7 hg7)
      |(go_simp
        go_at_call 48
        refine(HC _).mono ?_
        rintro e w6 ⟨hQ,hg6⟩
        obtain⟨ab2,n2,c2,rfl,hO⟩:=HgsQ.out _ _ _ hQ
        have g6:wr.grownBy w6 none:=by
         first|exact hg6|exact Zj hg6
        have J6:Hid (RJ w w6 B3 (bA v) nm (.slice ab j c)):=HJ.out.kept g6
        have R6:Hid (RowA w6 (B3+1) (.slice ab j c) P):=HA.out.kept0 g6
        have T6:Hid (RowS w6 (w.heap.size+1) (.slice (some ⟨g,0,none⟩) (n+1) cp) ((v::ps).map bA)):=HR.out.kept g6
        have O6:Hid (OwI w6 (B3+1) (.slice ab2 n2 c2) (gsA x).wd):=hO.mono (by have:=Zg HJ.out.d;simp;omega)
        have k6:=J6.out.d.c2
        have k7:=(J6.out.d.kept (grow1 w6 (.cells (agc (gsA x) (.slice ab2 n2 c2)) 45)) (by simp)).c2
        clear hQ hO hg6 g6
        dsimp only))
     all_goals (
      have J8:Hid (RJ w (w7.setCell ⟨B3,2,none⟩ (.slice ab3 (j+1) c3)) B3 (bA v) nm (.slice ab3 (j+1) c3)) :=
       ⟨by
        have h1:=Z7.out
        have hb:=HJ.out.b
        have e1:¬(B3=w.heap.size):=by omega
        simp [World.setCell,Array.getElem?_modify,h1,e1],D7.out.put2 _,HJ.out.b,Zb G7.out (by have:=HJ.out.b;omega)⟩
      have R8:Hid (RowA (w7.setCell ⟨B3,2,none⟩ (.slice ab3 (j+1) c3)) (B3+1) (.slice ab3 (j+1) c3) (P++[(gsA x,.slice ab2 n2 c2)])):=R7.out.keptB (by omega) (Zc _ _ _ _)
      have S8:Hid (RowS (w7.setCell ⟨B3,2,none⟩ (.slice ab3 (j+1) c3)) (w.heap.size+1) (.slice (some ⟨g,0,none⟩) (n+1) cp) ((v::ps).map bA)):=World.ownsRow.kept S7.out (Zc _ _ _ _) (.inr (fun e=>by
       have h1:g=B3:=Option.some.inj e
       have:=HgB.out
       omega))
      generalize w7.setCell ⟨B3,2,none⟩ (.slice ab3 (j+1) c3)=w8 at *
      go_wp2_with fail
      go_roundw
      case rel=>exact⟨j+1,_,ab3,c3,⟨by have:=HGo.out;omega,by have:=HGo.out;omega⟩,Zl (by omega),HP1.out _,HNx.out _,J8.out,R8.out,S8.out⟩
      case measure=>simp<;>omega))
   ·skip
    have HE:Hid (P.map (·.1)=(q.take 66).map gsA):=by
     show _=_
     rw [HPm.out]
     by_cases h66:j=66
     ·rw [h66]
     ·have hjl:j=lq:=by omega
      rw [List.take_of_length_le (by rw [HLq ()];omega),List.take_of_length_le (by rw [HLq ()];omega)]
    have HAg:Hid (AgsF wr (B3+1) (.slice ab j c) (stG L).ags):=by
     have h:=HA.out.told
     rw [HE.out]at h
     show AgsF _ _ _ _
     rw [HSq.out]
     exact h
    have HNm:Hid ((stG L).vb=bA v∧(stG L).nm=nm∧(stG L).ags.length=j):=by
     have h:=HSq.out
     have h2:=congrArg List.length HE.out
     rw [List.length_map,HPl.out]at h2
     refine⟨by rw [h],by rw [h],?_⟩
     rw [h]
     exact h2.symm
    have HSt:Hid (Stv wr (.agg #[.string (bA v),.string nm,.slice ab j c]) (stG L)):=⟨_,by rw [HNm.out.1,HNm.out.2.1],HAg.out.args⟩
    have HLw:=HLn.out wr _ HJ.out.g HSt.out
    have hsplit:fr+j=n+1∨(fr+j<n+1∧j=66):=by omega
    have HCase:Hid ((okS (stG L)=false∧stU L=none)∨(okS (stG L)=true∧((lnB (stG L)=bA L∧stU L=some (stG L))∨(¬lnB (stG L)=bA L∧stU L=none)))):=by
     have h:=HEnd.out
     show _∨_
     cases hok:okS (stG L)
     ·rw [hok,if_neg (by simp)]at h
      exact .inl ⟨rfl,h⟩
     ·rw [hok]at h
      refine .inr ⟨rfl,?_⟩
      by_cases hl:lnB (stG L)=bA L
      ·rw [if_pos ⟨rfl,by rw [hl,ZD]⟩]at h
       exact .inl ⟨hl,h⟩
      ·rw [if_neg (fun h2=>hl ((bA_of _).symm.trans (congrArg bA h2.2)))]at h
       exact .inr ⟨hl,h⟩
    clear hgo
    rcases hsplit with hs|⟨hs,h66⟩
    case' inl =>
     have hb1:decide ((fr:Int)+(j:Int)<(n:Int)+1)=false:=decide_eq_false (by omega)
     have hb2:¬fr+j<n+1:=by omega
     have hb3:¬((fr:Int)+(j:Int)<(n:Int)+1):=by omega
     clear hs
    case' inr =>
     have hb1:(fr:Int)+(j:Int)<(n:Int)+1:=by omega
     have hb2:decide ((j:Int)<66)=false:=decide_eq_false (by omega)
     have hb3:¬j<66:=by omega
     clear h66 hs
    all_goals (
     go_upto_region 11 with fail
     clear b0 b1 b2
     have b0:=HJ.out.d.c0
     have b1:=HJ.out.d.c1
     have b2:=HJ.out.d.c2
     rcases HCase.out with ⟨hok,hU⟩|⟨hok,⟨hl,hU⟩|⟨hl,hU⟩⟩
     case' inl =>
      have HR4:Hid (∀w' base,rdA L w' base (.returned (.tuple #[.agg #[.string eS,.string eS,.slice none 0 0],.int .i64 400]))):=fun w' base=>by
       unfold rdA
       rw [hU]
      have e1:lineB (stG L)=eS:=by
       unfold lineB
       rw [if_neg (by rw [hok];simp)]
      have e2:chkS (stG L)=2:=by
       unfold chkS
       rw [hok]
       rfl
      rw [e1,e2]at HLw
     case' inr.inr =>
      have HR4:Hid (∀w' base,rdA L w' base (.returned (.tuple #[.agg #[.string eS,.string eS,.slice none 0 0],.int .i64 400]))):=fun w' base=>by
       unfold rdA
       rw [hU]
      have e1:lineB (stG L)=lnB (stG L):=by
       unfold lineB
       rw [if_pos hok]
      have e2:chkS (stG L)=0:=by
       unfold chkS
       rw [hok]
       rfl
      rw [e1,e2]at HLw
      have hne:((lnB (stG L)).toList == (bA L).toList)=false:=by
       rw [beq_eq_false_iff_ne]
       intro h
       rw [ByteArray.toList_eq,ByteArray.toList_eq]at h
       exact hl (ba_eq h)
      generalize lnB (stG L)=back at *
     case' inr.inl =>
      have HR4:Hid (∀w' base,AgsF w' base (.slice ab j c) (stG L).ags→rdA L w' base (.returned (.tuple #[.agg #[.string (bA v),.string nm,.slice ab j c],.int .i64 0]))):=fun w' base h=>by
       unfold rdA
       rw [hU]
       exact⟨ab,c,by rw [HNm.out.1,HNm.out.2.1,HNm.out.2.2],by rw [HNm.out.2.2];exact h⟩
      have e1:lineB (stG L)=bA L:=by
       unfold lineB
       rw [if_pos hok,hl]
      have e2:chkS (stG L)=0:=by
       unfold chkS
       rw [hok]
       rfl
      rw [e1,e2]at HLw
      have hne:((bA L).toList == (bA L).toList)=true:=by simp
     all_goals (
      clear hok hU
      go_wp2_with fail
      refine HLw.mono ?_
      rintro e w9 ⟨rfl,g9⟩
      have J9:=HJ.out.kept g9
      have z0:w9.cell? ⟨w.heap.size,0,none⟩=some (.string eS):=by simp only [World.cell?,J9.r];rfl
      have z1:w9.cell? ⟨w.heap.size,1,none⟩=some (.string eS):=by simp only [World.cell?,J9.r];rfl
      have z2:w9.cell? ⟨w.heap.size,2,none⟩=some (.slice none 0 0):=by simp only [World.cell?,J9.r];rfl
      have y0:w9.frozen? ⟨w.heap.size,0,none⟩=false:=by simp only [World.frozen?,J9.r];rfl
      have y1:w9.frozen? ⟨w.heap.size,1,none⟩=false:=by simp only [World.frozen?,J9.r];rfl
      have y2:w9.frozen? ⟨w.heap.size,2,none⟩=false:=by simp only [World.frozen?,J9.r];rfl
      have c0:=J9.d.c0
      have c1:=J9.d.c1
      have c2:=J9.d.c2
      have G9:Hid (w.grownBy w9 none):=J9.g
      have JR:Hid (w9.heap[w.heap.size]?=some stZ):=J9.r
      have HA9:Hid (AgsF w9 (B3+1) (.slice ab j c) (stG L).ags):=HAg.out.kept g9
      have H5:Hid ((((w9.setCell ⟨w.heap.size,0,none⟩ (.string eS)).setCell ⟨w.heap.size,1,none⟩ (.string eS)).setCell ⟨w.heap.size,2,none⟩ (.slice none 0 0)).heap[w.heap.size]?=some (.cells #[.string eS,.string eS,.slice none 0 0] 24)):=by
       have h:=JR.out
       show _=_
       simp [World.setCell,Array.getElem?_modify,h]
      have H6:Hid ((((w9.setCell ⟨w.heap.size,0,none⟩ (.string (bA v))).setCell ⟨w.heap.size,1,none⟩ (.string nm)).setCell ⟨w.heap.size,2,none⟩ (.slice ab j c)).heap[w.heap.size]?=some (.cells #[.string (bA v),.string nm,.slice ab j c] 24)):=by
       have h:=JR.out
       show _=_
       simp [World.setCell,Array.getElem?_modify,h]
      clear g9 J9
      go_wp2_with fail
      first
       |(refine bodyPost_ret (Xe rfl _ _ w.heap.size _ (.string eS) (.string eS) (.slice none 0 0) _ rfl H5.out) rfl ?_
         exact⟨HR4.out _ _,Zb (Zb (Zb G9.out (Nat.le_refl _)) (Nat.le_refl _)) (Nat.le_refl _)⟩)
       |(refine bodyPost_ret (Xe rfl _ _ w.heap.size _ (.string (bA v)) (.string nm) (.slice ab j c) _ rfl H6.out) rfl ?_
         exact⟨HR4.out _ _ ((HA9.out.mono (by have:=HJ.out.b;omega)).moved (fun k hk=>by
          have e1:¬w.heap.size=k:=by omega
          simp [World.setCell,Array.getElem?_modify,e1])),Zb (Zb (Zb G9.out (Nat.le_refl _)) (Nat.le_refl _)) (Nat.le_refl _)⟩))))
noncomputable def rdS (L:List UInt8):St:=match stU L with
 |some s=>s
 |none=>⟨eS,eS,[]⟩
theorem rdS_fit {L:List UInt8} (hL:L.length≤6000):(rdS L).Fit:=by
 unfold rdS
 cases hs:stU L with
 |none=>exact⟨(show eS.size≤maxLen by decide),(show eS.size≤maxLen by decide),by simp,fun a ha=>by simp at ha⟩
 |some s =>
  have h:=JA L
  rw [hs]at h
  split at h
  ·obtain rfl:=Option.some.inj h
   exact ZdG hL
  ·cases h
theorem ln_get:∀ {R:List UInt8} {j:Nat},j<(lnP R).length→∃x,R[j]?=some x∧x≠10
 |[],j,h=>by simp [lnP]at h
 |c::R,j,h=>by
  by_cases hc:c=10
  ·subst hc
   have:lnP (10::R)=[]:=rfl
   rw [this]at h
   exact absurd h (Nat.not_lt_zero _)
  ·rw [JD hc,List.length_cons]at h
   cases j with
   |zero=>exact⟨c,rfl,hc⟩
   |succ j=>exact ln_get (R:=R) (by omega)
theorem ln_at {R:List UInt8} (h:ndP R=true):R[(lnP R).length]?=some 10:=by
 have e:(lnP R++10::rsP R)[(lnP R).length]?=some 10:=by
  rw [List.getElem?_append_right (Nat.le_refl _),Nat.sub_self]
  rfl
 rw [←YC h]at e
 exact e
theorem ln_take {R:List UInt8} (h:ndP R=true):(R.drop 0).take ((lnP R).length-0)=lnP R:=by
 have e:(lnP R++10::rsP R).take (lnP R).length=lnP R:=by simp
 rw [←YC h]at e
 exact e
theorem Zc9 {R:List UInt8} (h:ndP R=true):R.drop ((lnP R).length+1)=rsP R:=by
 have e:(lnP R++10::rsP R).drop ((lnP R).length+1)=rsP R:=by
  rw [←List.drop_drop,List.drop_left]
  rfl
 rw [←YC h]at e
 exact e
theorem Zbo (L:List UInt8) (hL:L.length≤6000) (w:World) (ht:Tab w) :
    Calls Tryz.prog 32 #[.string (bA L)] w fun e w'=>∃v left P,e=.returned (.tuple #[v,.string left])∧RowU w' w.heap.size v P∧P.map (·.1)=(alN L.length L).1∧decide (left.size=0)=(alN L.length L).2∧w.grownBy w' none:=by
 have HRd:Hid (∀(l:List UInt8) W,l.length≤6000→w.grownBy W none→Calls Tryz.prog 19 #[.string (bA l)] W fun e w'=>rdA l w' (W.heap.size+1) e∧W.grownBy w' none):=fun l W hl hg=>ZeH l hl W (ht.kept hg)
 generalize hA:alN L.length L=tot at *
 have HT0:Hid (alN L.length L=tot):=hA
 obtain⟨f0,hf0⟩:∃f0,L.length=f0:=⟨_,rfl⟩
 have HT1:Hid (L.length≤f0∧alN f0 L=tot):=⟨by omega,by rw [←hf0];exact hA⟩
 have hf6:f0≤6000:=by omega
 clear hA HT0 hf0 hL ht
 go_enter Tryz.func32,Tryz.ntmps32
 go_wp2_with fail
 go_loopw [0,4] (fun s0 s4 wr=>∃(f:Nat) (R:List UInt8) (P:List (St × Value)),s0=.string (bA R)∧(f≤f0∧P.length+f≤f0∧R.length≤f)∧(P.map (·.1)++(alN f R).1=tot.1∧(alN f R).2=tot.2)∧RowU wr w.heap.size s4 P∧w.grownBy wr none) (fun s0 _ _=>match s0 with|.string b=>b.size|_=>0)
 case atStart=>exact⟨f0,L,[],rfl,⟨Nat.le_refl _,by simp,HT1.out.1⟩,⟨by rw [HT1.out.2];rfl,by rw [HT1.out.2]⟩,RowU.nil _ _,grow0 _⟩
 case round =>
  obtain⟨f,R,P,rfl,⟨hff,hpf,hRf⟩,⟨htt,htb⟩,hRow,hg⟩:=hrel
  have HTt:Hid (P.map (·.1)++(alN f R).1=tot.1∧(alN f R).2=tot.2):=⟨htt,htb⟩
  obtain⟨ao,cp,rfl⟩:=hRow.form
  have HPl:Hid (∀Q:List (St × Value),Q=P→Q.length≤6000):=fun Q hQ=>by rw [hQ];omega
  have HRow:Hid (RowU wr w.heap.size (.slice ao P.length cp) P):=hRow
  have HG:Hid (w.grownBy wr none):=hg
  have hsz:=Zo R
  have hR6:R.length≤6000:=by omega
  have HRf:Hid (R.length≤f∧P.length+f≤f0):=⟨hRf,hpf⟩
  clear htt htb hRow hg hRf hpf
  by_cases h0:R=[]
  ·subst h0
   have hs0:(bA ([]:List UInt8)).size=0:=rfl
   have HE:Hid (P.map (·.1)=tot.1∧true=tot.2):=by
    have h:=HTt.out
    rw [U4,List.append_nil]at h
    exact h
   generalize bA ([]:List UInt8)=sv at *
   generalize P.length=ln at *
   have hsI:(sv.size:Int)=0:=by omega
   clear hsz HTt HRf
   go_wp2_with fail
   refine bodyPost_ret (results_tmp2 rfl _ _ _) rfl ?_
   exact⟨_,_,P,rfl,HRow.out,HE.out.1,HE.out.2,HG.out⟩
  ·have hpos:0<(bA R).size:=by
     rw [hsz]
     exact List.length_pos_iff.2 h0
   have hposI:(0:Int)<(bA R).size:=by omega
   have HAt:Hid (∀k (h:k<(bA R).size),R[k]?=some (bA R)[k]):=fun k h=>bA_at h
   have HCut:Hid (∀f k,(bA R).extract f k=bA ((R.drop f).take (k-f))):=ZeD R
   have HN0:Hid (R≠[]):=h0
   have hll:=ln_len R
   obtain⟨m,hm⟩:∃m,(lnP R).length=m:=⟨_,rfl⟩
   have HM:Hid ((lnP R).length=m):=hm
   rw [hm]at hll
   have HGet:Hid (∀j,j<m→∃x,R[j]?=some x∧x≠10):=fun j hj=>ln_get (by rw [hm];exact hj)
   have HSz:Hid ((bA R).size=R.length):=hsz
   generalize hsv:bA R=sv at *
   have HSv:Hid (bA R=sv):=hsv
   have hz:sv.size≤6000:=by omega
   have hmz:m≤sv.size:=by omega
   have hzI:(sv.size:Int)≤6000:=by omega
   clear h0 hm hsv hsz hR6
   go_wp2_with fail
   obtain⟨w5,hw5⟩:∃w5,w5=wr:=⟨_,rfl⟩
   subst hw5
   go_loopw [5] (fun s5 wr=>∃j:Nat,j≤m∧s5=.int .i64 j∧wr=w5) (fun s5 _=>match s5 with|.int _ j=>m-j.toNat|_=>0)
   case atStart=>exact⟨0,by omega,rfl,rfl⟩
   case round =>
    obtain⟨j,hj,rfl,rfl⟩:=hrel
    by_cases hjm:j<m
    ·obtain⟨x,hx,hx10⟩:=HGet.out j hjm
     have hlt:j<sv.size:=by omega
     have hltI:(j:Int)<sv.size:=by omega
     have hxx:=HAt.out j hlt
     rw [hx]at hxx
     have hx2:sv[j]=x:=(Option.some.inj hxx).symm
     have hxb:((sv[j].toNat:Int) != 10)=true:=by
      rw [hx2,bne_iff_ne]
      intro e
      apply hx10
      apply UInt8.toNat_inj.1
      have:(10:UInt8).toNat=10:=rfl
      omega
     clear hx hx10 hxx hx2
     go_wp2_with fail
     go_roundw
     case rel=>exact⟨j+1,by omega,Zl (by omega),by first|rfl|trivial⟩
     case measure=>simp<;>omega
    ·obtain rfl:j=m:=by omega
     cases hnd:ndP R
     ·have hjz:j=sv.size:=by
        have h1:=HM.out
        rw [ZdM hnd]at h1
        have:=HSz.out
        omega
      have HE:Hid (P.map (·.1)=tot.1∧false=tot.2):=by
       have h:=HTt.out
       rw [Jd HRf.out.1 HN0.out hnd,List.append_nil]at h
       exact h
      have hlf:decide ((j:Int)<(sv.size:Int))=false:=decide_eq_false (by omega)
      have heq:((j:Int) == (sv.size:Int))=true:=by rw [beq_iff_eq];omega
      have HLf:Hid (decide (sv.size=0)=false):=decide_eq_false (by omega)
      clear hnd hjz HGet HAt HCut HTt HRf HRd hj hjm hmz
      generalize P.length=ln at *
      go_wp2_with fail
      refine bodyPost_ret (results_tmp2 rfl _ _ _) rfl ?_
      exact⟨_,_,P,rfl,HRow.out,HE.out.1,HLf.out.trans HE.out.2,HG.out⟩
     ·have hat:=ln_at hnd
      rw [HM.out]at hat
      have hlt:j<sv.size:=by
       have:=(List.getElem?_eq_some_iff.1 hat).1
       have:=HSz.out
       omega
      have hltI:(j:Int)<sv.size:=by omega
      have hxx:=HAt.out j hlt
      rw [hat]at hxx
      have hx2:sv[j]=10:=(Option.some.inj hxx).symm
      have hxb:((sv[j].toNat:Int) != 10)=false:=by
       rw [hx2]
       rfl
      have heq:((j:Int) == (sv.size:Int))=false:=by rw [beq_eq_false_iff_ne];omega
      have hx:sv.extract 0 j=bA (lnP R):=by
       have h:=ln_take hnd
       rw [HM.out]at h
       rw [HCut.out,h]
      have hy:sv.extract (j+1) sv.size=bA (rsP R):=by
       have h:=Zc9 hnd
       rw [HM.out]at h
       have h2:=Xq R (j+1)
       rw [HSv.out,h]at h2
       exact h2
      have HC:Hid (Calls Tryz.prog 19 #[.string (sv.extract 0 j)] wr fun e w'=>rdA (lnP R) w' (wr.heap.size+1) e∧wr.grownBy w' none):=by
       show Calls _ _ _ _ _
       rw [hx]
       exact HRd.out _ _ (by rw [HM.out];omega) HG.out
      have HY:Hid (sv.extract (j+1) sv.size=bA (rsP R)):=hy
      have HRz:Hid ((rsP R).length<sv.size):=by
       have:=Jf hnd
       have:=HSz.out
       show _<_
       omega
      have hjI:(j:Int)+1≤sv.size:=by omega
      have hj2:j+1≤sv.size:=by omega
      have HNd:Hid (ndP R=true):=hnd
      clear hat hxx hx2 hx hy hnd HGet HAt HCut HRd hj hjm hmz
      cases hs:stU (lnP R)with
      |none =>
       have HE:Hid (P.map (·.1)=tot.1∧false=tot.2):=by
        have h:=HTt.out
        rw [Za0 HRf.out.1 HNd.out hs,List.append_nil]at h
        exact h
       have HLf:Hid (decide (sv.size=0)=false):=decide_eq_false (by omega)
       have HQ:Hid (∀w' base e,rdA (lnP R) w' base e→e=.returned (.tuple #[.agg #[.string eS,.string eS,.slice none 0 0],.int .i64 400])):=fun w' base e h=>by
        unfold rdA at h
        rw [hs]at h
        exact h
       generalize rdA (lnP R)=Q at *
       clear hs HTt HRf HRz HY
       generalize P.length=ln at *
       go_wp2_with fail
       refine HC.out.mono ?_
       rintro e w1 ⟨hq,hg⟩
       obtain rfl:=HQ.out _ _ _ hq
       have HG1:Hid (w.grownBy w1 none):=Za HG.out hg
       have HR1:Hid (RowU w1 w.heap.size (.slice ao ln cp) P):=HRow.out.kept0 hg
       clear hq hg HC
       go_wp2_with fail
       refine bodyPost_ret (results_tmp2 rfl _ _ _) rfl ?_
       exact⟨_,_,P,rfl,HR1.out.kept0 (grow1 _ _),HE.out.1,HLf.out.trans HE.out.2,Za HG1.out (grow1 _ _)⟩
      |some s =>
       obtain⟨f',hf',hl',he⟩:=U3 HRf.out.1 HNd.out hs
       have HN:Hid (∀u:Value,(P++[(s,u)]).map (·.1)++(alN f' (rsP R)).1=tot.1∧(alN f' (rsP R)).2=tot.2):=fun u=>by
        have h:=HTt.out
        rw [he]at h
        rw [List.map_append,List.append_assoc]
        exact h
       have HFf:Hid ((rsP R).length≤f'∧f'≤f0∧P.length+1+f'≤f0):=⟨hl',by omega,by have:=HRf.out.2;omega⟩
       have HQ:Hid (∀w' base e,rdA (lnP R) w' base e→∃ab c,e=.returned (.tuple #[.agg #[.string s.vb,.string s.nm,.slice ab s.ags.length c],.int .i64 0])∧AgsF w' base (.slice ab s.ags.length c) s.ags):=fun w' base e h=>by
        unfold rdA at h
        rw [hs]at h
        exact h
       generalize rdA (lnP R)=Q at *
       clear hs HTt HRf hf' hl' he
       obtain⟨ln,hln⟩:∃ln,P.length=ln:=⟨_,rfl⟩
       rw [hln]at HRow ⊢
       clear hln
       go_wp2_with fail
       refine HC.out.mono ?_
       rintro e w1 ⟨hq,hg⟩
       obtain⟨ab2,c2,rfl,hAg⟩:=HQ.out _ _ _ hq
       have hg0:=HG.out.size
       have HG1:Hid (w.grownBy w1 none):=Za HG.out hg
       have HR1:Hid (RowU w1 w.heap.size (.slice ao ln cp) P):=HRow.out.kept0 hg
       have HAg:Hid (AgsF w1 w.heap.size (.slice ab2 s.ags.length c2) s.ags):=hAg.mono (by omega)
       clear hq hg HC hAg hg0
       go_wp2_with (at_builtin;refine Vg rfl _ _ rfl w.heap.size (.slice ao ln cp) P rfl ((HR1.out.kept0 (grow1 _ _)).kept0 (grow1 _ _)) s (.slice ab2 s.ags.length c2) (w1.heap.size+1) rfl (heap_alloc2_new _ _ _) ((HAg.out.kept (grow1 _ _)).kept (grow1 _ _)) (by have:=HPl.out P rfl;omega) (by have:=HG1.out.size;simp;omega) ?_)
       intro v7 w7 hR7 hg7 _
       have HG7:Hid (w.grownBy w7 none):=X7 (Za HG1.out (Za (grow1 _ _) (grow1 _ _))) ((HR1.out.kept0 (grow1 _ _)).kept0 (grow1 _ _)) (Nat.le_refl _) hg7
       have HR7:Hid (RowU w7 w.heap.size v7 (P++[(s,.slice ab2 s.ags.length c2)])):=hR7
       clear hR7 hg7
       go_wp2_with fail
       go_roundw
       case rel=>exact⟨f',rsP R,_,by rw [HY.out],⟨HFf.out.2.1,by rw [List.length_append];exact HFf.out.2.2,HFf.out.1⟩,HN.out _,HR7.out,HG7.out⟩
       case measure =>
        have:=HRz.out
        have e1:=Zo (rsP R)
        rw [←HY.out]at e1
        simp only []at *
        show(sv.extract (j+1) sv.size).size<sv.size
        omega
theorem stU_nil:stU []=none:=by
 unfold stU
 rfl
theorem UU:∀(n:Nat) (R:List UInt8),R.length≤n→2*(alN n R).1.length≤R.length:=by
 intro n
 induction n with
 |zero=>intro R _;exact Nat.zero_le _
 |succ n ih =>
  intro R hn
  by_cases h0:R=[]
  ·subst h0
   rw [U4]
   exact Nat.zero_le _
  cases h:ndP R with
  |false =>
   rw [Jd hn h0 h]
   exact Nat.zero_le _
  |true =>
   cases hs:stU (lnP R)with
   |none =>
    rw [Za0 hn h hs]
    exact Nat.zero_le _
   |some s =>
    obtain⟨m,hm,hl,e⟩:=U3 hn h hs
    obtain rfl:m=n:=by omega
    rw [e]
    have h1:=ih (rsP R) hl
    have h2:=Jf h
    have h3:(lnP R).length≠0:=fun h3=>by
     rw [List.length_eq_zero_iff.1 h3,stU_nil]at hs
     cases hs
    simp only [List.length_cons]
    omega
theorem Zcx (s:ByteArray) (h:1048576<s.size) (hm:s.size≤maxLen) (w:World) :
    Calls Tryz.prog 30 #[.string s] w fun e w'=>e=.returned (.tuple #[.slice none 0 0,.int .i64 0,.int .i64 3])∧w.grownBy w' none:=by
 have hI:(1048576:Int)<s.size:=by omega
 clear hm
 go_enter Tryz.func30,Tryz.ntmps30
 go_wp2_with fail
 refine bodyPost_ret (results_tmp3 rfl _ _ _) rfl ?_
 exact⟨rfl,grow0 _⟩
def PaQ (w w':World) (S:List St) (b:Bool) (e:Ending):Prop:=∃v P,e=.returned (.tuple #[v,.int .i64 S.length,.int .i64 (if b=true then 0 else 400)])∧RowU w' w.heap.size v P∧P.map (·.1)=if b=true then S else []
theorem ZcG (L:List UInt8) (hL:L.length≤6000) (w:World) (ht:Tab w) :
    Calls Tryz.prog 30 #[.string (bA L)] w fun e w'=>PaQ w w' (alN L.length L).1 (alN L.length L).2 e∧w.grownBy w' none:=by
 have HA:=Zbo L hL w ht
 have hal:=UU L.length L (Nat.le_refl _)
 have hsz:=Zo L
 have hI:(((bA L).size:Nat):Int)≤6000:=by omega
 generalize alN L.length L=tot at *
 obtain⟨S,b⟩:=tot
 simp only at HA hal ⊢
 have HAl:Hid (S.length≤3000):=by
  show _≤_
  omega
 clear hsz hL hal ht
 generalize bA L=s at *
 go_enter Tryz.func30,Tryz.ntmps30
 go_wp2_with fail
 refine HA.mono ?_
 rintro e w1 ⟨v,left,P,rfl,hR,hP,hb,hg⟩
 obtain⟨ao,cp,rfl⟩:=hR.form
 have hPl:P.length=S.length:=by
  rw [←hP,List.length_map]
 have HR:Hid (RowU w1 w.heap.size (.slice ao P.length cp) P):=hR
 have HP:Hid (P.map (·.1)=S):=hP
 have HG:Hid (w.grownBy w1 none):=hg
 rw [hPl]at HR ⊢
 obtain⟨n,hn⟩:∃n,S.length=n:=⟨_,rfl⟩
 have HSn:Hid (S.length=n):=hn
 have hn3:n≤3000:=by
  rw [←hn]
  exact HAl.out
 rw [hn]at HR ⊢
 clear hR hP hg hPl HA hn HAl
 cases b
 ·have h0:¬left.size=0:=of_decide_eq_false hb
  have he:=Zu h0
  clear h0 hb
  go_wp2_with fail
  refine bodyPost_ret (results_tmp3 rfl _ _ _) rfl ?_
  exact⟨⟨_,[],by rw [HSn.out];rfl,RowU.nil _ _,rfl⟩,HG.out⟩
 ·obtain rfl:=Zi (of_decide_eq_true hb)
  have hnI:(n:Int)≤4096:=by omega
  clear hb
  go_wp2_with fail
  refine bodyPost_ret (results_tmp3 rfl _ _ _) rfl ?_
  exact⟨⟨_,P,by rw [HSn.out];rfl,HR.out,HP.out⟩,HG.out⟩
theorem Zcg (L:List UInt8) (hL:L.length≤6000) (w:World) :
    Calls Tryz.prog 54 #[.string (bA L)] w fun e w'=>e=.returned (.int .i64 (linesN L))∧w.grownBy w' none:=by
 have hsz:=Zo L
 have HC:Hid (∀W,Calls Tryz.prog 77 #[.string (bA L),.string ⟨#[10]⟩] W fun e w'=>e=.returned (.int .i64 (L.count 10:Nat))∧w'=W):=fun W=>(Tryz.strings_Count_one (bA L) 10 W).mono fun e w' h=>by
  rw [ZD]at h
  exact h
 have HS:Hid (∀W,Calls Tryz.prog 78 #[.string (bA L),.string ⟨#[10]⟩] W fun e w'=>e=.returned (.bool (decide (L.getLast?=some 10)))∧w'=W):=fun W=>(Tryz.strings_HasSuffix (bA L) ⟨#[10]⟩ W (by omega)).mono fun e w' h=>by
  rw [ZD]at h
  have e2:Lib.hasSuffix L (⟨#[10]⟩:ByteArray).data.toList=decide (L.getLast?=some 10):=sufx L
  rw [e2]at h
  exact h
 have hcount:L.count 10≤6000:=Nat.le_trans List.count_le_length hL
 have hcI:(((L.count 10:Nat)):Int)≤6000:=by omega
 have HD:Hid (linesN L=L.count 10+(if L≠[]∧¬L.getLast?=some 10 then 1 else 0)):=rfl
 generalize linesN L=n at *
 generalize L.count 10=k at *
 by_cases h0:L=[]
 ·have hn:n=k:=by rw [HD.out,if_neg (by simp [h0]),Nat.add_zero]
  have hb0:(bA L).size=0:=by rw [hsz,h0];rfl
  have hbe:=Zi hb0
  subst hn
  rw [hbe]at HC ⊢
  clear HS HD h0 hsz hb0 hL hcount hbe
  go_enter Tryz.func54,Tryz.ntmps54
  go_wp2_with fail
  refine(HC.out _).mono ?_
  rintro e w1 ⟨rfl,rfl⟩
  go_wp2_with fail
  go_ret
  exact⟨rfl,grow0 _⟩
 ·have hb0:¬(bA L).size=0:=by
    rw [hsz]
    exact fun h=>h0 (List.length_eq_zero_iff.1 h)
  have he:=Zu hb0
  by_cases hl:L.getLast?=some 10
  ·have hn:n=k:=by rw [HD.out,if_neg (by simp [hl]),Nat.add_zero]
   rw [decide_eq_true hl]at HS
   subst hn
   clear HD h0 hsz hb0 hL hcount hl
   generalize bA L=s at *
   go_enter Tryz.func54,Tryz.ntmps54
   go_wp2_with fail
   refine(HC.out _).mono ?_
   rintro e w1 ⟨rfl,rfl⟩
   go_wp2_with fail
   refine(HS.out _).mono ?_
   rintro e w1 ⟨rfl,rfl⟩
   go_wp2_with fail
   go_ret
   exact⟨rfl,grow0 _⟩
  ·have hn:n=k+1:=by rw [HD.out,if_pos ⟨h0,hl⟩]
   rw [decide_eq_false hl]at HS
   subst hn
   clear HD h0 hsz hb0 hL hcount hl
   generalize bA L=s at *
   go_enter Tryz.func54,Tryz.ntmps54
   go_wp2_with fail
   refine(HC.out _).mono ?_
   rintro e w1 ⟨rfl,rfl⟩
   go_wp2_with fail
   refine(HS.out _).mono ?_
   rintro e w1 ⟨rfl,rfl⟩
   go_wp2_with fail
   go_ret
   exact⟨by first|rfl|(congr 3),grow0 _⟩
end Go.Proofs.YtdcadiaeaclpgaaGreatDoor
