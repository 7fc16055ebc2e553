/- What is read, by the bytes: a number ahead, a sign ahead. The program's small. -/
import Derived.Test.YtdcadiaeaclpgaaGreatDoorSrf
import Derived.Test.YtdcadiaeaclpgaaGreatDoorBunSha
import Derived.Test.YtdcadiaeaclpgaaGreatDoorBunSca
namespace Go.Proofs.YtdcadiaeaclpgaaGreatDoor
open Go Go.RowKit Go.Lib Go.Sort
set_option linter.unusedVariables false
set_option linter.unusedSimpArgs false
set_option maxHeartbeats 3200000
set_option maxRecDepth 1000000
def bA (L:List UInt8):ByteArray:=⟨L.toArray⟩
theorem ZD (L:List UInt8):(bA L).data.toList=L:=by simp [bA]
theorem bA_of (s:ByteArray):bA s.data.toList=s:=by simp [bA]
theorem Zo (L:List UInt8):(bA L).size=L.length:=by simp [bA,ByteArray.size]
theorem bA_inj {L M:List UInt8} (h:bA L=bA M):L=M:=by rw [←ZD L,h,ZD]
theorem Zav (L:List UInt8) (k:Nat):(bA L).extract 0 k=bA (L.take k):=by
 rw [←bA_of ((bA L).extract 0 k)]
 congr 1
 simp [ZD]
theorem Xq (L:List UInt8) (k:Nat):(bA L).extract k (bA L).size=bA (L.drop k):=by
 rw [←bA_of ((bA L).extract k (bA L).size)]
 congr 1
 rw [Lib.extract_to_end,ZD]
theorem bN_bA (L:List UInt8):bN (bA L)=L.map UInt8.toNat:=by rw [Xj,ZD]
theorem bA_nil:bA []=ByteArray.empty:=rfl
theorem Zet {s:ByteArray} {i:Nat} (h:i≤s.size):i≤runD s i∧runD s i≤s.size:=by
 unfold runD
 have h1:=(List.takeWhile_sublist (l:=(bN s).drop i) (fun b=>decide (48≤b∧b≤57))).length_le
 rw [List.length_drop,Ze]at h1
 omega
theorem ZdS {s:ByteArray} {i lo hi:Nat} (h:nxt s i lo hi=true):i+1≤s.size:=by
 rcases Nat.lt_or_ge i s.size with h0|h0
 ·exact h0
 ·rw [ZaD (by omega)]at h
  cases h
theorem stT_le {s:ByteArray} {i k:Nat} (h:stT s i=some k):i+1≤k∧k≤s.size:=by
 unfold stT at h
 split at h
 ·rename_i hn
  cases h
  exact Zet (ZdS hn)
 ·cases h
theorem Zbm {s:ByteArray} {i k:Nat} {d:Bool} (h:stD s i d=some k):i+1≤k∧k≤s.size:=by
 unfold stD at h
 split at h
 ·rename_i hn
  have h1:=Zet (ZdS hn)
  unfold finD at h
  split at h
  ·have h2:=stT_le h
   omega
  ·cases h
   exact h1
 ·cases h
theorem UY {s:ByteArray} {k:Nat} (h:numE s=some k):1≤k∧k≤s.size:=by
 unfold numE at h
 split at h
 ·have:=Zbm h
  omega
 ·split at h
  ·rename_i h2
   cases h
   have:=ZdS h2
   omega
  ·have:=Zbm h
   omega
def smlU (L:List UInt8):Option (Int × List UInt8) :=
 match numE (bA L)with
 |none=>none
 |some k=>match Lib.atoiAll (L.take k)with
  |.ok v=>some (v,L.drop k)
  |_=>none
theorem Zb0 {L r:List UInt8} {v:Int} (h:smlU L=some (v,r)):r.length<L.length:=by
 unfold smlU at h
 split at h
 ·cases h
 ·rename_i k hk
  have h1:=UY hk
  rw [Zo]at h1
  split at h
  ·cases h
   rw [List.length_drop]
   omega
  ·cases h
def smA (L:List UInt8) (e:Ending):Prop:=match smlU L with
 |some (v,r)=>e=.returned (.tuple #[.int .i64 v,.string (bA r)])
 |none=>e=upE
theorem Zcn (w:World):(binOp .eql 95 .nilIface .nilIface).run Tryz.prog w=.ok (.bool true) w:=by kernel_rfl
theorem Jv (t:TypeId) (p:Value) (w:World):(binOp .eql 95 (.iface t p) .nilIface).run Tryz.prog w=.ok (.bool false) w:=by kernel_rfl
theorem JF (L:List UInt8) (hL:L.length≤20000) (w:World) (he:Errs w) :
    Calls Tryz.prog 127 #[.string (bA L)] w fun e w'=>smA L e∧w.grownBy w' none:=by
 have HNu:=VJ (bA L) (by rw [Zo];omega) w
 cases hk:numE (bA L)with
 |none =>
  have HN:Hid (smA L upE):=by
   show smA L upE
   unfold smA smlU
   rw [hk]
  have HC:Hid (Calls Tryz.prog 149 #[.string (bA L)] w fun e w'=>e=upE∧w.grownBy w' none):=by
   refine HNu.mono ?_
   intro e w' h
   unfold NQ at h
   rw [hk]at h
   exact h
  clear HNu hk he
  generalize bA L=s at *
  go_enter Tryz.func127,Tryz.ntmps127
  go_wp2_with fail
  refine HC.out.mono ?_
  rintro e w1 ⟨rfl,g⟩
  have G:Hid (w.grownBy w1 none):=g
  clear g
  go_wp2_with fail
  simp only [bodyPost]
  exact⟨trivial,HN.out,G.out⟩
 |some k =>
  have hkl:=UY hk
  rw [Zo]at hkl
  have HC:Hid (Calls Tryz.prog 149 #[.string (bA L)] w fun e w'=>e=.returned (.tuple #[.string (bA (L.take k)),.string (bA (L.drop k))])∧w.grownBy w' none):=by
   refine HNu.mono ?_
   intro e w' h
   unfold NQ at h
   rw [hk]at h
   rw [←Zav,←Xq]
   exact h
  have HA:Hid (∀W,w.grownBy W none→Calls Tryz.prog 151 #[.string (bA (L.take k))] W fun e w'=>W.grownBy w' none∧((∃v,smA L (.returned (.tuple #[.int .i64 v,.string (bA (L.drop k))]))∧e=.returned (.tuple #[.int .i64 v,.nilIface]))∨(smA L upE∧∃v t p,e=.returned (.tuple #[.int .i64 v,.iface t (.pointer (some p))])))):=fun W hg=>by
   refine(Zfz (bA (L.take k)) (by rw [Zo,List.length_take];omega) W (he.kept hg)).mono ?_
   rintro e w' ⟨h1,h2⟩
   refine⟨h1,?_⟩
   rw [ZD]at h2
   rcases h2 with ⟨v,hv,rfl⟩|⟨hv,h3⟩
   ·refine .inl ⟨v,?_,rfl⟩
    unfold smA smlU
    simp only [hk,hv]
   ·refine .inr ⟨?_,h3⟩
    unfold smA smlU
    rw [hk]
    dsimp only
    split
    ·rename_i v r h
     split at h
     ·rename_i v' hv'
      exact absurd hv' (hv _)
     ·cases h
    ·rfl
  clear HNu hk he
  generalize smA L=R at *
  generalize bA L=s at *
  generalize bA (L.take k)=s1 at *
  generalize bA (L.drop k)=s2 at *
  have hm1:=Ya
  have hm2:=Yy
  go_enter Tryz.func127,Tryz.ntmps127
  go_wp2_with fail
  refine HC.out.mono ?_
  rintro e w1 ⟨rfl,g⟩
  have G1:Hid (w.grownBy w1 none):=g
  clear g
  go_wp2_with fail
  refine(HA.out w1 G1.out).mono ?_
  rintro e w2 ⟨g,hh⟩
  have G2:Hid (w.grownBy w2 none):=Za G1.out g
  clear g
  rcases hh with ⟨v,hR,rfl⟩|⟨hR,v,t,p,rfl⟩
  ·have HR:Hid (R (.returned (.tuple #[.int .i64 v,.string s2]))):=hR
   have hq:=Zcn
   clear hR
   go_wp2_with fail
   refine(hm1 _).mono ?_
   rintro e w3 ⟨rfl,hw⟩
   obtain rfl:=hw.symm
   clear hw
   go_wp2_with fail
   refine bodyPost_ret (results_tmp2 rfl _ _ _) rfl ?_
   exact⟨HR.out,G2.out⟩
  ·have HR:Hid (R upE):=hR
   have hq:=fun w=>Jv t (.pointer (some p)) w
   clear hR
   go_wp2_with fail
   refine(hm2 _).mono ?_
   rintro e w3 ⟨rfl,hw⟩
   obtain rfl:=hw.symm
   clear hw
   go_wp2_with fail
   simp only [bodyPost]
   exact⟨trivial,HR.out,G2.out⟩
theorem JY (L:List UInt8) (m:UInt8):hd1 (bA L) m=decide (L.head?=some m):=by
 unfold hd1
 rw [bN_bA]
 cases L with
 |nil=>simp
 |cons b l=>simp [UInt8.toNat_inj]
theorem Zd9 (L:List UInt8) (m:UInt8):tl1 (bA L) m=bA (if L.head?=some m then L.tail else L):=by
 unfold tl1
 rw [JY,Xq]
 by_cases h:L.head?=some m
 ·simp [h]
 ·simp [h]
def bhU (L:List UInt8) (m:UInt8):Option (List UInt8):=if L.head?=some m then some L.tail else none
def bhA (L:List UInt8) (m:UInt8) (e:Ending):Prop:=match bhU L m with
 |some r=>e=.returned (.string (bA r))
 |none=>e=upE
theorem Uv (L:List UInt8) (hL:L.length≤20000) (m:UInt8) (w:World) :
    Calls Tryz.prog 126 #[.string (bA L),.string ⟨#[m]⟩] w fun e w'=>bhA L m e∧w'=w:=by
 have hs:(bA L).size≤maxLen:=by
  rw [Zo]
  unfold maxLen
  omega
 by_cases h:L.head?=some m
 ·refine(Zb7 (bA L) hs m (by rw [JY];simpa using h) w).mono ?_
  rintro e w' ⟨rfl,rfl⟩
  refine⟨?_,rfl⟩
  unfold bhA bhU
  rw [Zd9,if_pos h,if_pos h]
 ·refine(Zdc (bA L) hs m (by rw [JY];simpa using h) w).mono ?_
  rintro e w' ⟨rfl,rfl⟩
  refine⟨?_,rfl⟩
  unfold bhA bhU
  rw [if_neg h]
def ctU (L:List UInt8):Option Int:=match smlU L with
 |some (n,[])=>if isCt n then some n else none
 |_=>none
def ctA (L:List UInt8) (e:Ending):Prop:=match ctU L with
 |some n=>e=.returned (.int .i64 n)
 |none=>e=upE
theorem Ji {L:List UInt8} {R:Ending→World→Prop} {w:World} (h:Calls Tryz.prog 127 #[.string (bA L)] w fun e w'=>smA L e∧w.grownBy w' none) :
    (smlU L=none∧Calls Tryz.prog 127 #[.string (bA L)] w fun e w'=>e=upE∧w.grownBy w' none)∨∃v r,smlU L=some (v,r)∧Calls Tryz.prog 127 #[.string (bA L)] w fun e w'=>e=.returned (.tuple #[.int .i64 v,.string (bA r)])∧w.grownBy w' none:=by
 cases hk:smlU L with
 |none =>
  refine .inl ⟨rfl,h.mono ?_⟩
  intro e w' h
  unfold smA at h
  rw [hk]at h
  exact h
 |some x =>
  obtain⟨v,r⟩:=x
  refine .inr ⟨v,r,rfl,h.mono ?_⟩
  intro e w' h
  unfold smA at h
  rw [hk]at h
  exact h
theorem ZdT (L:List UInt8) (hL:L.length≤20000) (w:World) (he:Errs w) :
    Calls Tryz.prog 98 #[.string (bA L)] w fun e w'=>ctA L e∧w.grownBy w' none:=by
 have hm1:=Ya
 have hm2:=Yy
 rcases Ji (R:=fun _ _=>True) (JF L hL w he)with ⟨hk,hc⟩|⟨v,r,hk,hc⟩
 ·have HN:Hid (ctA L upE):=by
    show ctA L upE
    unfold ctA ctU
    rw [hk]
  clear hk he
  generalize ctA L=R at *
  generalize bA L=s at *
  go_enter Tryz.func98,Tryz.ntmps98
  go_wp2_with fail
  refine hc.mono ?_
  rintro e w1 ⟨rfl,g⟩
  have G:Hid (w.grownBy w1 none):=g
  clear g
  go_wp2_with fail
  simp only [bodyPost]
  exact⟨trivial,HN.out,G.out⟩
 ·have HC:Hid _:=hc
  have hI:=VE v
  cases r with
  |nil =>
   cases hct:isCt v
   ·rw [hct]at hI
    have HN:Hid (ctA L upE):=by
     show ctA L upE
     unfold ctA ctU
     rw [hk]
     simp [hct]
    rw [bA_nil]at hc
    clear hk he hct
    generalize ctA L=R at *
    generalize bA L=s at *
    go_enter Tryz.func98,Tryz.ntmps98
    go_wp2_with fail
    refine hc.mono ?_
    rintro e w1 ⟨rfl,g⟩
    have G:Hid (w.grownBy w1 none):=g
    clear g
    go_wp2_with fail
    refine(hI _).mono ?_
    rintro e w2 ⟨rfl,hw⟩
    obtain rfl:=hw.symm
    clear hw
    go_wp2_with fail
    refine(hm2 _).mono ?_
    rintro e w2 ⟨rfl,hw⟩
    obtain rfl:=hw.symm
    clear hw
    go_wp2_with fail
    simp only [bodyPost]
    exact⟨trivial,HN.out,G.out⟩
   ·rw [hct]at hI
    have HN:Hid (ctA L (.returned (.int .i64 v))):=by
     show ctA L _
     unfold ctA ctU
     rw [hk]
     simp [hct]
    rw [bA_nil]at hc
    clear hk he hct
    generalize ctA L=R at *
    generalize bA L=s at *
    go_enter Tryz.func98,Tryz.ntmps98
    go_wp2_with fail
    refine hc.mono ?_
    rintro e w1 ⟨rfl,g⟩
    have G:Hid (w.grownBy w1 none):=g
    clear g
    go_wp2_with fail
    refine(hI _).mono ?_
    rintro e w2 ⟨rfl,hw⟩
    obtain rfl:=hw.symm
    clear hw
    go_wp2_with fail
    refine(hm1 _).mono ?_
    rintro e w2 ⟨rfl,hw⟩
    obtain rfl:=hw.symm
    clear hw
    go_wp2_with fail
    go_ret
    exact⟨HN.out,G.out⟩
  |cons b l =>
   have HN:Hid (ctA L upE):=by
    show ctA L upE
    unfold ctA ctU
    rw [hk]
   have hE:=Zu (s:=bA (b::l)) (by rw [Zo];simp)
   clear hk he
   generalize ctA L=R at *
   generalize bA L=s at *
   generalize bA (b::l)=s2 at *
   go_enter Tryz.func98,Tryz.ntmps98
   go_wp2_with fail
   refine hc.mono ?_
   rintro e w1 ⟨rfl,g⟩
   have G:Hid (w.grownBy w1 none):=g
   clear g
   go_wp2_with fail
   refine(hm2 _).mono ?_
   rintro e w2 ⟨rfl,hw⟩
   obtain rfl:=hw.symm
   clear hw
   go_wp2_with fail
   simp only [bodyPost]
   exact⟨trivial,HN.out,G.out⟩
structure Fq where
 n:Bool
 p:ByteArray
 d:Bool
 q:ByteArray
open Classical in
noncomputable def rdF (s:ByteArray):Option Fq:=if h:∃x:Fq,FrRes s x.n x.p x.d x.q 0 then some (Classical.choose h)else none
open Classical in
theorem VQ {s p q:ByteArray} {n d:Bool} (h:FrRes s n p d q 0):rdF s=some ⟨n,p,d,q⟩:=by
 have hx:∃x:Fq,FrRes s x.n x.p x.d x.q 0:=⟨⟨n,p,d,q⟩,h⟩
 unfold rdF
 rw [dif_pos hx]
 have h2:=Classical.choose_spec hx
 obtain⟨e1,e2,e3,e4,_⟩:=h2.one h
 generalize Classical.choose hx=x at *
 cases x
 simp_all
open Classical in
theorem rdF_no {s p q:ByteArray} {n d:Bool} {er:Int} (h:FrRes s n p d q er) (he:er≠0):rdF s=none:=by
 unfold rdF
 rw [dif_neg]
 rintro⟨x,hx⟩
 exact he (h.one hx).2.2.2.2
noncomputable def frU (L:List UInt8):Option (Fq × List UInt8):=match numE (bA L)with
 |none=>none
 |some k=>match rdF (bA (L.take k))with
  |some x=>some (x,L.drop k)
  |none=>none
theorem frU_len {L r:List UInt8} {x:Fq} (h:frU L=some (x,r)):r.length<L.length:=by
 unfold frU at h
 split at h
 ·cases h
 ·rename_i k hk
  have h1:=UY hk
  rw [Zo]at h1
  split at h
  ·cases h
   rw [List.length_drop]
   omega
  ·cases h
def frA (L:List UInt8) (e:Ending):Prop:=match frU L with
 |some (x,r)=>e=.returned (.tuple #[frac x.n x.p x.d x.q,.string (bA r)])
 |none=>e=upE
theorem ZcI {L:List UInt8} (hL:L.length≤20000) (w:World) :
    (numE (bA L)=none∧Calls Tryz.prog 149 #[.string (bA L)] w fun e w'=>e=upE∧w.grownBy w' none)∨∃k,numE (bA L)=some k∧k≤L.length∧Calls Tryz.prog 149 #[.string (bA L)] w fun e w'=>e=.returned (.tuple #[.string (bA (L.take k)),.string (bA (L.drop k))])∧w.grownBy w' none:=by
 have HNu:=VJ (bA L) (by rw [Zo];omega) w
 cases hk:numE (bA L)with
 |none =>
  refine .inl ⟨rfl,HNu.mono ?_⟩
  intro e w' h
  unfold NQ at h
  rw [hk]at h
  exact h
 |some k =>
  have hkl:=UY hk
  rw [Zo]at hkl
  refine .inr ⟨k,rfl,hkl.2,HNu.mono ?_⟩
  intro e w' h
  unfold NQ at h
  rw [hk]at h
  rw [←Zav,←Xq]
  exact h
theorem Va (L:List UInt8) (hL:L.length≤20000) (w:World) :
    Calls Tryz.prog 125 #[.string (bA L)] w fun e w'=>frA L e∧w.grownBy w' none:=by
 rcases ZcI hL (w.alloc (qObj false eS false eS))with ⟨hk,hc⟩|⟨k,hk,hkl,hc⟩
 ·have HN:Hid (frA L upE):=by
    show frA L upE
    unfold frA frU
    rw [hk]
  clear hk
  generalize frA L=R at *
  generalize bA L=s at *
  go_enter Tryz.func125,Tryz.ntmps125
  go_wp2_with fail
  refine hc.mono ?_
  rintro e w1 ⟨rfl,g⟩
  have G:Hid (w.grownBy w1 none):=Za (grow1 _ _) g
  clear g hc
  go_wp2_with fail
  simp only [bodyPost]
  exact⟨trivial,HN.out,G.out⟩
 ·have HF:Hid (∀W,Calls Tryz.prog 150 #[.string (bA (L.take k))] W fun e w'=>∃n p d q er,e=.returned (.tuple #[frac n p d q,.int .i64 er])∧(er=0→frA L (.returned (.tuple #[frac n p d q,.string (bA (L.drop k))])))∧(er≠0→frA L upE)∧W.grownBy w' none):=fun W=>by
    refine(ZdA (bA (L.take k)) (by rw [Zo,List.length_take];unfold maxLen;omega) W).mono ?_
    rintro e w' ⟨n,p,d,q,er,rfl,h,hg⟩
    refine⟨n,p,d,q,er,rfl,?_,?_,hg⟩
    ·rintro rfl
     unfold frA frU
     simp only [hk,VQ h]
    ·intro he
     unfold frA frU
     simp only [hk,rdF_no h he]
  have hm1:=Ya
  have hm2:=Yy
  have H0:Hid (QBlk (w.alloc (qObj false eS false eS)) w.heap.size (.bool false) (.string eS) (.bool false) (.string eS)):=heap_alloc_new _ _
  clear hk hkl
  generalize frA L=R at *
  generalize bA L=s at *
  generalize bA (L.take k)=s1 at *
  generalize bA (L.drop k)=s2 at *
  go_enter Tryz.func125,Tryz.ntmps125
  generalize hc3:Code.region 3 _ _=c3
  go_wp2_with fail
  refine hc.mono ?_
  rintro e w1 ⟨rfl,g⟩
  have G0:Hid ((w.alloc (qObj false eS false eS)).grownBy w1 none):=g
  have G1:Hid (w.grownBy w1 none):=Za (grow1 _ _) g
  clear g hc
  go_wp2_with fail
  refine(HF.out w1).mono ?_
  rintro e w2 ⟨n,p,d,q,er,rfl,h1,h2,g⟩
  have HY:Hid (er=0→R (.returned (.tuple #[frac n p d q,.string s2]))):=h1
  have HX:Hid (er≠0→R upE):=h2
  have G2:Hid (w.grownBy w2 none):=Za G1.out g
  have hR:QBlk w2 w.heap.size (.bool false) (.string eS) (.bool false) (.string eS):=(H0.out.kept G0.out (by simp)).kept g (by simp)
  clear g h1 h2
  have r0:=hR.c0
  have r1:=hR.c1
  have r2:=hR.c2
  have r3:=hR.c3
  have f0:=hR.fr 0
  have f1:=hR.fr 1
  have f2:=hR.fr 2
  have f3:=hR.fr 3
  have HR3:Hid (QBlk _ _ _ _ _ _):=hR.put (.bool n) (.string p) (.bool d) (.string q)
  have HG3:Hid (w.grownBy _ none):=Zy (B:=w.heap.size) (x:=.bool n) (y:=.string p) (z:=.bool d) (u:=.string q) G2.out (Nat.le_refl _)
  clear hR
  go_wp2_with fail
  change Code.wp _ _ _ _ ((((w2.setCell ⟨w.heap.size,0,none⟩ (.bool n)).setCell ⟨w.heap.size,1,none⟩ (.string p)).setCell ⟨w.heap.size,2,none⟩ (.bool d)).setCell ⟨w.heap.size,3,none⟩ (.string q))
  clear r0 r1 r2 r3 f0 f1 f2 f3
  generalize((((w2.setCell ⟨w.heap.size,0,none⟩ (.bool n)).setCell ⟨w.heap.size,1,none⟩ (.string p)).setCell ⟨w.heap.size,2,none⟩ (.bool d)).setCell ⟨w.heap.size,3,none⟩ (.string q))=w3 at *
  subst hc3
  by_cases he:er=0
  ·have HY2:Hid (R (.returned (.tuple #[frac n p d q,.string s2]))):=HY.out he
   subst he
   have hR:QBlk w3 w.heap.size (.bool n) (.string p) (.bool d) (.string q):=HR3
   have r0:=hR.c0
   have r1:=hR.c1
   have r2:=hR.c2
   have r3:=hR.c3
   have f0:=hR.fr 0
   have f1:=hR.fr 1
   have f2:=hR.fr 2
   have f3:=hR.fr 3
   go_wp2_with fail
   refine(hm1 _).mono ?_
   rintro e w4 ⟨rfl,hw⟩
   obtain rfl:=hw.symm
   clear hw
   go_wp2_with fail
   refine bodyPost_ret (Zs rfl _ _ w.heap.size _ _ _ _ _ _ rfl (hR.put _ _ _ _)) rfl ?_
   exact⟨HY2.out,Zy HG3.out (Nat.le_refl _)⟩
  ·have HX2:Hid (R upE):=HX.out he
   have hb:(er == 0)=false:=by simpa using he
   clear he
   go_wp2_with fail
   refine(hm2 _).mono ?_
   rintro e w4 ⟨rfl,hw⟩
   obtain rfl:=hw.symm
   clear hw
   go_wp2_with fail
   simp only [bodyPost]
   exact⟨trivial,HX2.out,HG3.out⟩
noncomputable def gzU (L:List UInt8):Option Gz:=match frU L with
 |none=>none
 |some (x,r)=>match bhU r 44 with
  |none=>none
  |some r1=>match frU r1 with
   |none=>none
   |some (y,r2)=>if r2=[41]then some ⟨x.n,x.p,x.d,x.q,y.n,y.p,y.d,y.q⟩else none
def gzA (L:List UInt8) (e:Ending):Prop:=match gzU L with
 |some z=>e=.returned (gzv z)
 |none=>e=upE
theorem JV {L:List UInt8} (hL:L.length≤20000) :
    (frU L=none∧∀w,Calls Tryz.prog 125 #[.string (bA L)] w fun e w'=>e=upE∧w.grownBy w' none)∨∃x r,frU L=some (x,r)∧∀w,Calls Tryz.prog 125 #[.string (bA L)] w fun e w'=>e=.returned (.tuple #[frac x.n x.p x.d x.q,.string (bA r)])∧w.grownBy w' none:=by
 cases hk:frU L with
 |none =>
  refine .inl ⟨rfl,fun w=>(Va L hL w).mono ?_⟩
  intro e w' h
  unfold frA at h
  rw [hk]at h
  exact h
 |some x =>
  obtain⟨x,r⟩:=x
  refine .inr ⟨x,r,rfl,fun w=>(Va L hL w).mono ?_⟩
  intro e w' h
  unfold frA at h
  rw [hk]at h
  exact h
theorem Tryz.sizeG:(Tryz.prog.info? 42).map (·.size)=some 8:=by kernel_rfl
theorem Zd5 {fn:Func} {p:Tmp} (h:fn.results=#[.cell p 42]) (tmps:Array Value) (w:World) (g:Nat) (t:TypeId) (z:Gz) (fr:Nat × Nat)
    (hp:tmps.getD p undef=.pointer (some ⟨g,0,none⟩)) (hg:w.heap[g]?=some (.cells #[.bool z.a,.string z.b,.bool z.c,.string z.d,.bool z.e,.string z.f,.bool z.g,.string z.h] t fr)):(results fn tmps).run Tryz.prog w=.ok (gzv z) w :=
 results_cell_row h tmps w g t #[.bool z.a,.string z.b,.bool z.c,.string z.d,.bool z.e,.string z.f,.bool z.g,.string z.h] fr _ hp hg Tryz.underlying42 rfl Tryz.sizeG
abbrev gObj:Obj:=.cells #[.bool false,.string eS,.bool false,.string eS,.bool false,.string eS,.bool false,.string eS] 42
theorem ZcF (L:List UInt8) (hL:L.length≤20000) (w:World) :
    Calls Tryz.prog 96 #[.string (bA L)] w fun e w'=>gzA L e∧w.grownBy w' none:=by
 have hm1:=Ya
 have hm2:=Yy
 rcases JV hL with ⟨h1,c1⟩|⟨x,r,h1,c1⟩
 ·have HN:Hid (gzA L upE):=by
    show gzA L upE
    unfold gzA gzU
    rw [h1]
  clear h1
  generalize gzA L=R at *
  generalize bA L=s at *
  go_enter Tryz.func96,Tryz.ntmps96
  go_wp2_with fail
  refine(c1 _).mono ?_
  rintro e w1 ⟨rfl,g⟩
  have G:Hid (w.grownBy w1 none):=Za (grow1 _ _) g
  clear g c1
  go_wp2_with fail
  simp only [bodyPost]
  exact⟨trivial,HN.out,G.out⟩
 ·have hrl:=frU_len h1
  have HB:=Uv r (by omega) 44
  cases hb:bhU r 44 with
  |none =>
   have HN:Hid (gzA L upE):=by
    show gzA L upE
    unfold gzA gzU
    simp only [h1,hb]
   have HC:Hid (∀W,Calls Tryz.prog 126 #[.string (bA r),.string ⟨#[44]⟩] W fun e w'=>e=upE∧w'=W):=fun W=>(HB W).mono fun e w' h=>by
    unfold bhA at h
    rw [hb]at h
    exact h
   clear h1 hb HB hrl
   generalize gzA L=R at *
   generalize bA L=s at *
   generalize bA r=s2 at *
   go_enter Tryz.func96,Tryz.ntmps96
   go_wp2_with fail
   refine(c1 _).mono ?_
   rintro e w1 ⟨rfl,g⟩
   have G:Hid (w.grownBy w1 none):=Za (grow1 _ _) g
   clear g c1
   go_wp2_with fail
   refine(HC.out _).mono ?_
   rintro e w2 ⟨rfl,rfl⟩
   go_wp2_with fail
   simp only [bodyPost]
   exact⟨trivial,HN.out,Za G.out (grow1 _ _)⟩
  |some r1 =>
   have HC:Hid (∀W,Calls Tryz.prog 126 #[.string (bA r),.string ⟨#[44]⟩] W fun e w'=>e=.returned (.string (bA r1))∧w'=W):=fun W=>(HB W).mono fun e w' h=>by
    unfold bhA at h
    rw [hb]at h
    exact h
   have hr1:r1.length≤r.length:=by
    unfold bhU at hb
    split at hb
    ·cases hb
     simp
    ·cases hb
   rcases JV (L:=r1) (by omega)with ⟨h2,c2⟩|⟨y,r2,h2,c2⟩
   ·have HN:Hid (gzA L upE):=by
      show gzA L upE
      unfold gzA gzU
      simp only [h1,hb,h2]
    clear h1 hb HB hrl h2 hr1
    generalize gzA L=R at *
    generalize bA L=s at *
    generalize bA r=s2 at *
    generalize bA r1=s3 at *
    go_enter Tryz.func96,Tryz.ntmps96
    go_wp2_with fail
    refine(c1 _).mono ?_
    rintro e w1 ⟨rfl,g⟩
    have G:Hid (w.grownBy w1 none):=Za (grow1 _ _) g
    clear g c1
    go_wp2_with fail
    refine(HC.out _).mono ?_
    rintro e w2 ⟨rfl,rfl⟩
    go_wp2_with fail
    refine(c2 _).mono ?_
    rintro e w3 ⟨rfl,g⟩
    have G2:Hid (w.grownBy w3 none):=Za (Za G.out (grow1 _ _)) g
    clear g c2
    go_wp2_with fail
    simp only [bodyPost]
    exact⟨trivial,HN.out,G2.out⟩
   ·have H0:Hid ((w.alloc gObj).heap[w.heap.size]?=some gObj):=heap_alloc_new _ _
    by_cases hq:r2=[41]
    ·have HN:Hid (gzA L (.returned (gzv ⟨x.n,x.p,x.d,x.q,y.n,y.p,y.d,y.q⟩))):=by
       show gzA L _
       unfold gzA gzU
       simp only [h1,hb,h2,hq,if_true]
     have e41:bA r2=⟨#[41]⟩:=by rw [hq];rfl
     rw [e41]at c2
     obtain⟨x1,x2,x3,x4⟩:=x
     obtain⟨y1,y2,y3,y4⟩:=y
     clear h1 hb HB hrl h2 hr1 hq e41
     generalize gzA L=R at *
     generalize bA L=s at *
     generalize bA r=s2 at *
     generalize bA r1=s3 at *
     go_enter Tryz.func96,Tryz.ntmps96
     generalize hc3:Code.region 3 _ _=c3
     go_wp2_with fail
     refine(c1 _).mono ?_
     rintro e w1 ⟨rfl,g⟩
     have G:Hid (w.grownBy w1 none):=Za (grow1 _ _) g
     have H1:Hid (w1.heap[w.heap.size]?=some gObj):=(g.block _ (by simp) (by simp)).trans H0.out
     clear g c1
     go_wp2_with fail
     refine(HC.out _).mono ?_
     rintro e w2 ⟨rfl,rfl⟩
     go_wp2_with fail
     refine(c2 _).mono ?_
     rintro e w3 ⟨rfl,g⟩
     have HB1:Hid (w1.heap.size<w3.heap.size):=by
      have:=g.size
      simp at this
      exact this
     have HG3:Hid (w.grownBy (w3.alloc (qObj y1 y2 y3 y4)) none):=Za (Za (Za G.out (grow1 _ _)) g) (grow1 _ _)
     have H2:Hid ((w3.alloc (qObj y1 y2 y3 y4)).heap[w1.heap.size]?=some (qObj x1 x2 x3 x4)):=by
      show _=_
      rw [(grow1 w3 (qObj y1 y2 y3 y4)).block _ HB1.out (by simp),g.block _ (by simp) (by simp)]
      exact heap_alloc_new _ _
     have hws:w.heap.size<w1.heap.size:=(Array.getElem?_eq_some_iff.1 H1.out).1
     have H3:Hid ((w3.alloc (qObj y1 y2 y3 y4)).heap[w.heap.size]?=some gObj):=by
      show _=_
      rw [(grow1 w3 (qObj y1 y2 y3 y4)).block _ (by have:=HB1.out;omega) (by simp),g.block _ (by simp;omega) (by simp),(grow1 w1 (qObj x1 x2 x3 x4)).block _ hws (by simp)]
      exact H1.out
     have H4:Hid ((w3.alloc (qObj y1 y2 y3 y4)).heap[w3.heap.size]?=some (qObj y1 y2 y3 y4)):=heap_alloc_new _ _
     clear g c2 H1 H0 hws
     go_wp2_with fail
     change Code.wp _ _ _ _ (w3.alloc (qObj y1 y2 y3 y4))
     generalize w3.alloc (qObj y1 y2 y3 y4)=w4 at *
     subst hc3
     go_wp2_with fail
     refine(hm1 _).mono ?_
     rintro e w5 ⟨rfl,hw⟩
     obtain rfl:=hw.symm
     clear hw
     have h2:=H2.out
     have h3:=H3.out
     have h4:=H4.out
     have a0:w4.cell? ⟨w1.heap.size,0,none⟩=some (.bool x1):=by simp [World.cell?,h2]
     have a1:w4.cell? ⟨w1.heap.size,1,none⟩=some (.string x2):=by simp [World.cell?,h2]
     have a2:w4.cell? ⟨w1.heap.size,2,none⟩=some (.bool x3):=by simp [World.cell?,h2]
     have a3:w4.cell? ⟨w1.heap.size,3,none⟩=some (.string x4):=by simp [World.cell?,h2]
     have b0:w4.cell? ⟨w3.heap.size,0,none⟩=some (.bool y1):=by simp [World.cell?,h4]
     have b1:w4.cell? ⟨w3.heap.size,1,none⟩=some (.string y2):=by simp [World.cell?,h4]
     have b2:w4.cell? ⟨w3.heap.size,2,none⟩=some (.bool y3):=by simp [World.cell?,h4]
     have b3:w4.cell? ⟨w3.heap.size,3,none⟩=some (.string y4):=by simp [World.cell?,h4]
     have d0:w4.cell? ⟨w.heap.size,0,none⟩=some (.bool false):=by simp [World.cell?,h3]
     have f0:w4.frozen? ⟨w.heap.size,0,none⟩=false:=by simp [World.frozen?,h3]
     have d1:w4.cell? ⟨w.heap.size,1,none⟩=some (.string eS):=by simp [World.cell?,h3]
     have f1:w4.frozen? ⟨w.heap.size,1,none⟩=false:=by simp [World.frozen?,h3]
     have d2:w4.cell? ⟨w.heap.size,2,none⟩=some (.bool false):=by simp [World.cell?,h3]
     have f2:w4.frozen? ⟨w.heap.size,2,none⟩=false:=by simp [World.frozen?,h3]
     have d3:w4.cell? ⟨w.heap.size,3,none⟩=some (.string eS):=by simp [World.cell?,h3]
     have f3:w4.frozen? ⟨w.heap.size,3,none⟩=false:=by simp [World.frozen?,h3]
     have d4:w4.cell? ⟨w.heap.size,4,none⟩=some (.bool false):=by simp [World.cell?,h3]
     have f4:w4.frozen? ⟨w.heap.size,4,none⟩=false:=by simp [World.frozen?,h3]
     have d5:w4.cell? ⟨w.heap.size,5,none⟩=some (.string eS):=by simp [World.cell?,h3]
     have f5:w4.frozen? ⟨w.heap.size,5,none⟩=false:=by simp [World.frozen?,h3]
     have d6:w4.cell? ⟨w.heap.size,6,none⟩=some (.bool false):=by simp [World.cell?,h3]
     have f6:w4.frozen? ⟨w.heap.size,6,none⟩=false:=by simp [World.frozen?,h3]
     have d7:w4.cell? ⟨w.heap.size,7,none⟩=some (.string eS):=by simp [World.cell?,h3]
     have f7:w4.frozen? ⟨w.heap.size,7,none⟩=false:=by simp [World.frozen?,h3]
     have H5:Hid (((((((((w4.setCell ⟨w.heap.size,0,none⟩ (.bool x1)).setCell ⟨w.heap.size,1,none⟩ (.string x2)).setCell ⟨w.heap.size,2,none⟩ (.bool x3)).setCell ⟨w.heap.size,3,none⟩ (.string x4)).setCell ⟨w.heap.size,4,none⟩ (.bool y1)).setCell ⟨w.heap.size,5,none⟩ (.string y2)).setCell ⟨w.heap.size,6,none⟩ (.bool y3)).setCell ⟨w.heap.size,7,none⟩ (.string y4)).heap[w.heap.size]?=some (.cells #[.bool x1,.string x2,.bool x3,.string x4,.bool y1,.string y2,.bool y3,.string y4] 42)):=by
      show _=_
      simp [World.setCell,Array.getElem?_modify,h3]
     have HG5:Hid (w.grownBy ((((((((w4.setCell ⟨w.heap.size,0,none⟩ (.bool x1)).setCell ⟨w.heap.size,1,none⟩ (.string x2)).setCell ⟨w.heap.size,2,none⟩ (.bool x3)).setCell ⟨w.heap.size,3,none⟩ (.string x4)).setCell ⟨w.heap.size,4,none⟩ (.bool y1)).setCell ⟨w.heap.size,5,none⟩ (.string y2)).setCell ⟨w.heap.size,6,none⟩ (.bool y3)).setCell ⟨w.heap.size,7,none⟩ (.string y4)) none):=(Zb (Zb (Zb (Zb (Zb (Zb (Zb (Zb HG3.out (Nat.le_refl _)) (Nat.le_refl _)) (Nat.le_refl _)) (Nat.le_refl _)) (Nat.le_refl _)) (Nat.le_refl _)) (Nat.le_refl _)) (Nat.le_refl _))
     clear h2 h3 h4
     go_wp2_with fail
     refine bodyPost_ret (Zd5 rfl _ _ w.heap.size _ ⟨x1,x2,x3,x4,y1,y2,y3,y4⟩ _ rfl H5.out) rfl ?_
     exact⟨HN.out,HG5.out⟩
    ·have HN:Hid (gzA L upE):=by
       show gzA L _
       unfold gzA gzU
       simp only [h1,hb,h2,hq,if_false]
     have hE:¬(bA r2).toList=[41]:=fun h=>hq (by
      rw [ByteArray.toList_eq]at h
      rw [←ZD r2]
      exact h)
     have hE2:((bA r2).toList == [41])=false:=by simpa using hE
     obtain⟨x1,x2,x3,x4⟩:=x
     obtain⟨y1,y2,y3,y4⟩:=y
     clear h1 hb HB hrl h2 hr1 hq
     generalize gzA L=R at *
     generalize bA L=s at *
     generalize bA r=s2 at *
     generalize bA r1=s3 at *
     generalize bA r2=s4 at *
     go_enter Tryz.func96,Tryz.ntmps96
     go_wp2_with fail
     refine(c1 _).mono ?_
     rintro e w1 ⟨rfl,g⟩
     have G:Hid (w.grownBy w1 none):=Za (grow1 _ _) g
     clear g c1
     go_wp2_with fail
     refine(HC.out _).mono ?_
     rintro e w2 ⟨rfl,rfl⟩
     go_wp2_with fail
     refine(c2 _).mono ?_
     rintro e w3 ⟨rfl,g⟩
     have G3:Hid (w.grownBy w3 none):=Za (Za G.out (grow1 _ _)) g
     clear g c2
     go_wp2_with fail
     refine(hm2 _).mono ?_
     rintro e w5 ⟨rfl,rfl⟩
     go_wp2_with fail
     simp only [bodyPost]
     exact⟨trivial,HN.out,Za G3.out (grow1 _ _)⟩
def wdU:Nat→List UInt8→List Int→Option (List Int)
 |0,_,_=>none
 |f+1,L,W=>match smlU L with
  |none=>none
  |some (k,r)=>if isLt k=true∧W.length<4096 then(if r=[93]then some (W++[k])else match bhU r 46 with
     |some r'=>wdU f r' (W++[k])
     |none=>none)else none
def wordU (L:List UInt8):Option (List Int):=if L=[93]then some []else wdU (L.length+1) L []
def wordA (L:List UInt8) (w:World) (base:Nat) (e:Ending):Prop:=match wordU L with
 |some W=>∃v,e=.returned v∧OwI w base v W
 |none=>e=upE
theorem Zc8 {L r:List UInt8} {m:UInt8} (h:bhU L m=some r):r.length≤L.length:=by
 unfold bhU at h
 split at h
 ·cases h
  simp
 ·cases h
theorem Zbb:∀(f g:Nat) (M:List UInt8) (W:List Int),M.length<f→M.length<g→wdU f M W=wdU g M W
 |0,_,_,_,h,_=>by omega
 |_,0,_,_,_,h=>by omega
 |f+1,g+1,M,W,h1,h2=>by
  unfold wdU
  split
  ·rfl
  ·rename_i k r hk
   have hl:=Zb0 hk
   split
   ·split
    ·rfl
    ·split
     ·rename_i r' hr
      have:=Zc8 hr
      exact Zbb f g r' _ (by omega) (by omega)
     ·rfl
   ·rfl
def wdA (A:Option (List Int)) (w:World) (base:Nat) (e:Ending):Prop:=match A with
 |some W=>∃v,e=.returned v∧OwI w base v W
 |none=>e=upE
theorem tl_ne {L:List UInt8} {b:UInt8} (h:¬L=[b]):((bA L).toList == [b])=false:=by
 have:¬(bA L).toList=[b]:=fun e=>h (by
  rw [ByteArray.toList_eq]at e
  rw [←ZD L]
  exact e)
 simpa using this
theorem Zb1 (w:World) (k:Int):Ints (w.alloc (.cells #[.int .i64 k] 3)) (.slice (some ⟨w.heap.size,0,none⟩) 1 1) [k]:=by
 refine .inr (.inl ⟨w.heap.size,0,1,rfl,Nat.le_refl _,fun j hj=>?_⟩)
 have hj0:j=0:=by simp at hj;omega
 subst hj0
 have h:=heap_alloc_new w (.cells #[.int .i64 k] 3)
 simp only [World.cell?,h]
 rfl
theorem Zd6 (L:List UInt8) (hL:L.length≤20000) (w:World) (he:Errs w) :
    Calls Tryz.prog 97 #[.string (bA L)] w fun e w'=>wordA L w' w.heap.size e∧w.grownBy w' none:=by
 by_cases hq:L=[93]
 ·subst hq
  have e93:bA [93]=⟨#[93]⟩:=rfl
  rw [e93]
  go_enter Tryz.func97,Tryz.ntmps97
  go_wp2_with fail
  go_ret
  refine⟨?_,grow0 _⟩
  unfold wordA wordU
  rw [if_pos rfl]
  exact⟨_,rfl,OwI.nil _ _⟩
 ·have hE:=tl_ne hq
  obtain⟨A,hA⟩:∃A,wdU (L.length+1) L []=A:=⟨_,rfl⟩
  have HA0:Hid (∀w' e,wdA A w' w.heap.size e→wordA L w' w.heap.size e):=fun w' e h=>by
   unfold wordA wordU
   rw [if_neg hq,hA]
   exact h
  have HA:Hid (wdU (L.length+1) L []=A):=hA
  have HEr:Hid (Errs w):=he
  have HL20:Hid (L.length≤20000):=hL
  have HOw:Hid (OwI w w.heap.size (.slice none 0 0) []):=OwI.nil _ _
  have hm1:=Ya
  have hm2:=Yy
  clear hq hA he hL
  go_enter Tryz.func97,Tryz.ntmps97
  go_wp2_with fail
  go_loopw [0,3] (fun v0 v3 wr=>∃(M:List UInt8) (W:List Int),v0=.string (bA M)∧(M.length≤20000∧W.length≤4096∧wdU (M.length+1) M W=A)∧OwI wr w.heap.size v3 W∧w.grownBy wr none) (fun v0 _ _=>match v0 with|.string s=>s.size|_=>0)
  case atStart=>exact⟨L,[],rfl,⟨HL20.out,by simp,HA.out⟩,HOw.out,grow0 _⟩
  case round =>
   obtain⟨M,W,rfl,⟨hM,hW,hw⟩,hO,hg⟩:=hrel
   obtain⟨ab,c,rfl⟩:=hO.form
   obtain⟨n,hn⟩:∃n,W.length=n:=⟨_,rfl⟩
   have HWn:Unit→W.length=n:=fun _=>hn
   rw [hn]at hO hW ⊢
   have HO:Hid (OwI wr w.heap.size (.slice ab n c) W):=hO
   have HG:Hid (w.grownBy wr none):=hg
   have hIs:=X9
   have hnI:(n:Int)≤4096:=by omega
   have HEw:Hid (Errs wr):=HEr.out.kept hg
   have HM:Hid (M.length≤20000):=hM
   have HD:Hid (wdU (M.length+1) M W=A):=hw
   have hMs:(bA M).size=M.length:=Zo M
   clear hn hO hg hw hM hE
   rcases Ji (R:=fun _ _=>True) (JF M HM.out wr HEw.out)with ⟨hk,hc⟩|⟨k,r,hk,hc⟩
   ·have HN:Hid (∀w',wordA L w' w.heap.size upE):=fun w'=>HA0.out _ _ (by
      have:=HD.out
      unfold wdU at this
      rw [hk]at this
      rw [←this]
      rfl)
    clear hk
    generalize bA M=s at *
    go_wp2_with fail
    refine hc.mono ?_
    rintro e w1 ⟨rfl,g⟩
    have G:Hid (w.grownBy w1 none):=Za HG.out g
    clear g hc
    go_wp2_with fail
    simp only [bodyPost]
    exact⟨trivial,HN.out _,G.out⟩
   ·have hrl:=Zb0 hk
    have HIs:=hIs k
    have HD2:Hid (A=if isLt k=true∧n<4096 then(if r=[93]then some (W++[k])else match bhU r 46 with
     |some r'=>wdU M.length r' (W++[k])
     |none=>none)else none):=by
     show A=_
     rw [←HD.out,wdU,hk,←HWn ()]
    have HRl:Hid (r.length<M.length):=hrl
    clear hk hrl hIs
    cases hlt:isLt k
    ·rw [hlt]at HIs HD2
     have HN:Hid (∀w',wordA L w' w.heap.size upE):=fun w'=>HA0.out _ _ (by rw [HD2.out];rfl)
     clear hlt
     generalize bA M=s at *
     generalize bA r=s2 at *
     go_wp2_with fail
     refine hc.mono ?_
     rintro e w1 ⟨rfl,g⟩
     have G:Hid (w.grownBy w1 none):=Za HG.out g
     clear g hc
     go_wp2_with fail
     refine(HIs _).mono ?_
     rintro e w2 ⟨rfl,rfl⟩
     go_wp2_with fail
     refine(hm2 _).mono ?_
     rintro e w3 ⟨rfl,rfl⟩
     go_wp2_with fail
     simp only [bodyPost]
     exact⟨trivial,HN.out _,G.out⟩
    ·rw [hlt]at HIs HD2
     clear hlt
     by_cases hn4:n<4096
     ·have hn4I:(n:Int)<4096:=by omega
      have HD3:Hid (A=if r=[93]then some (W++[k])else match bhU r 46 with
       |some r'=>wdU M.length r' (W++[k])
       |none=>none):=by
       show A=_
       rw [HD2.out,if_pos ⟨rfl,hn4⟩]
      have HI1:Hid (∀W0:World,Ints (W0.alloc (.cells #[.int .i64 k] 3)) (.slice (some ⟨W0.heap.size,0,none⟩) 1 1) [k]):=fun W0=>Zb1 W0 k
      have HWl:Hid (W.length≤4096):=by
       show _≤_
       rw [HWn ()]
       exact hW
      by_cases hr93:r=[93]
      ·have HN:Hid (∀w' v,OwI w' w.heap.size v (W++[k])→wordA L w' w.heap.size (.returned v)):=fun w' v h=>HA0.out _ _ (by
         rw [HD3.out,if_pos hr93]
         exact⟨v,rfl,h⟩)
       have e93:bA r=⟨#[93]⟩:=by rw [hr93];rfl
       rw [e93]at hc
       clear hn4 hr93 e93
       generalize bA M=s at *
       go_wp2_with fail
       refine hc.mono ?_
       rintro e w1 ⟨rfl,g⟩
       have G:Hid (w.grownBy w1 none):=Za HG.out g
       have HO1:Hid (OwI w1 w.heap.size (.slice ab n c) W):=HO.out.kept0 g
       clear g hc
       go_wp2_with fail
       refine(HIs _).mono ?_
       rintro e w2 ⟨rfl,hw2⟩
       obtain rfl:=hw2.symm
       clear hw2
       go_wp2_with fail
       refine(hm1 _).mono ?_
       rintro e w3 ⟨rfl,hw3⟩
       obtain rfl:=hw3.symm
       clear hw3
       have hsz:=G.out.size
       go_wp2_with (at_builtin;refine Z1 rfl _ _ rfl w.heap.size (.slice ab n c) W rfl (HO1.out.kept0 (grow1 _ _)) (.slice (some ⟨w1.heap.size,0,none⟩) 1 1) [k] rfl (HI1.out w1) (by simp;have:=HWl.out;omega) (by simp;omega) ?_)
       intro v' w' hO' hg'
       have HO':Hid (OwI w' w.heap.size v' (W++[k])):=hO'
       have HG':Hid (w.grownBy w' none):=Xm (Za G.out (grow1 _ _)) (HO1.out.kept0 (grow1 _ _)) hg'
       clear hO' hg'
       go_wp2_with fail
       go_ret
       exact⟨HN.out _ _ HO'.out,HG'.out⟩
      ·have hE:=tl_ne hr93
       have HB:=Uv r (by have:=HRl.out;have:=HM.out;omega) 46
       cases hb:bhU r 46 with
       |none =>
        have HN:Hid (∀w',wordA L w' w.heap.size upE):=fun w'=>HA0.out _ _ (by
         rw [HD3.out,if_neg hr93,hb]
         rfl)
        have HC:Hid (∀W,Calls Tryz.prog 126 #[.string (bA r),.string ⟨#[46]⟩] W fun e w'=>e=upE∧w'=W):=fun W=>(HB W).mono fun e w' h=>by
         unfold bhA at h
         rw [hb]at h
         exact h
        clear hn4 hr93 hb HB
        generalize bA M=s at *
        generalize bA r=s2 at *
        go_wp2_with fail
        refine hc.mono ?_
        rintro e w1 ⟨rfl,g⟩
        have G:Hid (w.grownBy w1 none):=Za HG.out g
        have HO1:Hid (OwI w1 w.heap.size (.slice ab n c) W):=HO.out.kept0 g
        clear g hc
        go_wp2_with fail
        refine(HIs _).mono ?_
        rintro e w2 ⟨rfl,hw2⟩
        obtain rfl:=hw2.symm
        clear hw2
        go_wp2_with fail
        refine(hm1 _).mono ?_
        rintro e w3 ⟨rfl,hw3⟩
        obtain rfl:=hw3.symm
        clear hw3
        have hsz:=G.out.size
        go_wp2_with (at_builtin;refine Z1 rfl _ _ rfl w.heap.size (.slice ab n c) W rfl (HO1.out.kept0 (grow1 _ _)) (.slice (some ⟨w1.heap.size,0,none⟩) 1 1) [k] rfl (HI1.out w1) (by simp;have:=HWl.out;omega) (by simp;omega) ?_)
        intro v' w' hO' hg'
        have HG':Hid (w.grownBy w' none):=Xm (Za G.out (grow1 _ _)) (HO1.out.kept0 (grow1 _ _)) hg'
        clear hO' hg'
        go_wp2_with fail
        refine(HC.out _).mono ?_
        rintro e w5 ⟨rfl,rfl⟩
        go_wp2_with fail
        simp only [bodyPost]
        exact⟨trivial,HN.out _,HG'.out⟩
       |some r1 =>
        have HC:Hid (∀W,Calls Tryz.prog 126 #[.string (bA r),.string ⟨#[46]⟩] W fun e w'=>e=.returned (.string (bA r1))∧w'=W):=fun W=>(HB W).mono fun e w' h=>by
         unfold bhA at h
         rw [hb]at h
         exact h
        have hbl:=Zc8 hb
        have HR1:Hid (r1.length<M.length∧r1.length≤20000):=⟨by have:=HRl.out;omega,by have:=HRl.out;have:=HM.out;omega⟩
        have HD4:Hid (wdU (r1.length+1) r1 (W++[k])=A):=by
         show _=A
         rw [HD3.out,if_neg hr93,hb]
         exact Zbb _ _ _ _ (by omega) HR1.out.1
        have hs1:(bA r1).size=r1.length:=Zo r1
        clear hn4 hr93 hb HB hbl
        generalize hgM:bA M=s at *
        generalize bA r=s2 at *
        go_wp2_with fail
        refine hc.mono ?_
        rintro e w1 ⟨rfl,g⟩
        have G:Hid (w.grownBy w1 none):=Za HG.out g
        have HO1:Hid (OwI w1 w.heap.size (.slice ab n c) W):=HO.out.kept0 g
        clear g hc
        go_wp2_with fail
        refine(HIs _).mono ?_
        rintro e w2 ⟨rfl,hw2⟩
        obtain rfl:=hw2.symm
        clear hw2
        go_wp2_with fail
        refine(hm1 _).mono ?_
        rintro e w3 ⟨rfl,hw3⟩
        obtain rfl:=hw3.symm
        clear hw3
        have hsz:=G.out.size
        go_wp2_with (at_builtin;refine Z1 rfl _ _ rfl w.heap.size (.slice ab n c) W rfl (HO1.out.kept0 (grow1 _ _)) (.slice (some ⟨w1.heap.size,0,none⟩) 1 1) [k] rfl (HI1.out w1) (by simp;have:=HWl.out;omega) (by simp;omega) ?_)
        intro v' w' hO' hg'
        have HO':Hid (OwI w' w.heap.size v' (W++[k])):=hO'
        have HG':Hid (w.grownBy w' none):=Xm (Za G.out (grow1 _ _)) (HO1.out.kept0 (grow1 _ _)) hg'
        clear hO' hg'
        go_wp2_with fail
        refine(HC.out _).mono ?_
        rintro e w5 ⟨rfl,hw5⟩
        obtain rfl:=hw5.symm
        clear hw5
        go_wp2_with fail
        go_roundw
        case rel=>exact⟨r1,W++[k],rfl,⟨HR1.out.2,by simp;rw [HWn ()];omega,HD4.out⟩,HO'.out,HG'.out⟩
        case measure=>simp;have:=HR1.out;omega
     ·have hn4I:decide ((n:Int)<4096)=false:=decide_eq_false (by omega)
      have HN:Hid (∀w',wordA L w' w.heap.size upE):=fun w'=>HA0.out _ _ (by
       rw [HD2.out,if_neg (fun h=>hn4 h.2)]
       rfl)
      clear hn4
      generalize bA M=s at *
      generalize bA r=s2 at *
      go_wp2_with fail
      refine hc.mono ?_
      rintro e w1 ⟨rfl,g⟩
      have G:Hid (w.grownBy w1 none):=Za HG.out g
      clear g hc
      go_wp2_with fail
      refine(HIs _).mono ?_
      rintro e w2 ⟨rfl,rfl⟩
      go_wp2_with fail
      refine(hm2 _).mono ?_
      rintro e w3 ⟨rfl,rfl⟩
      go_wp2_with fail
      simp only [bodyPost]
      exact⟨trivial,HN.out _,G.out⟩
noncomputable def agU (L:List UInt8):Option Ag :=
 if L=[40,105,110,102,41]then some ⟨3,eS,Gz.zero,[],0⟩
 else if L.head?=some 40 then(match gzU L.tail with|some z=>some ⟨2,eS,z,[],0⟩|none=>none)
 else if L.head?=some 91 then(match wordU L.tail with|some W=>some ⟨4,eS,Gz.zero,W,0⟩|none=>none)
 else if L.head?=some 35 then(match ctU L.tail with|some n=>some ⟨5,eS,Gz.zero,[],n⟩|none=>none)
 else if isNm (bA L)then some ⟨1,bA L,Gz.zero,[],0⟩else none
def agA (L:List UInt8) (w:World) (base:Nat) (e:Ending):Prop:=match agU L with
 |some a=>∃ab n c,e=.returned (agv a (.slice ab n c))∧OwI w base (.slice ab n c) a.wd
 |none=>e=upE
theorem Xt {L:List UInt8} {a:Ag} (h:agU L=some a) (w:World) (base:Nat) (ab:Option Addr) (n c:Nat) (hO:OwI w base (.slice ab n c) a.wd):agA L w base (.returned (agv a (.slice ab n c))):=by
 unfold agA
 rw [h]
 exact⟨ab,n,c,rfl,hO⟩
theorem Vj {L:List UInt8} (h:agU L=none) (w:World) (base:Nat):agA L w base upE:=by
 unfold agA
 rw [h]
theorem YB {L M:List UInt8} (h:¬L=M):((bA L).toList == M)=false:=by
 have:¬(bA L).toList=M:=fun e=>h (by
  rw [ByteArray.toList_eq]at e
  rw [←ZD L]
  exact e)
 simpa using this
theorem Za7 (L:List UInt8) (hL:L.length≤20000) (m:UInt8) (w:World) :
    Calls Tryz.prog 95 #[.string (bA L),.string ⟨#[m]⟩] w fun e w'=>e=.returned (.tuple #[.string (bA (if L.head?=some m then L.tail else L)),.bool (decide (L.head?=some m))])∧w'=w:=by
 have h:=XZ (bA L) (by rw [Zo];unfold maxLen;omega) m w
 rw [Zd9,JY]at h
 exact h
theorem Jb {L:List UInt8} (hL:L.length≤20000) {m:UInt8} (h:L.head?=some m) (w:World) :
    Calls Tryz.prog 95 #[.string (bA L),.string ⟨#[m]⟩] w fun e w'=>e=.returned (.tuple #[.string (bA L.tail),.bool true])∧w'=w:=by
 have h2:=Za7 L hL m w
 rw [if_pos h,decide_eq_true h]at h2
 exact h2
theorem XQ {L:List UInt8} (hL:L.length≤20000) {m:UInt8} (h:¬L.head?=some m) (w:World) :
    Calls Tryz.prog 95 #[.string (bA L),.string ⟨#[m]⟩] w fun e w'=>e=.returned (.tuple #[.string (bA L),.bool false])∧w'=w:=by
 have h2:=Za7 L hL m w
 rw [if_neg h,decide_eq_false h]at h2
 exact h2
theorem Tryz.sizeAg:(Tryz.prog.info? 45).map (·.size)=some 12:=by kernel_rfl
theorem Zz {fn:Func} {p:Tmp} (h:fn.results=#[.cell p 45]) (tmps:Array Value) (w:World) (g:Nat) (t:TypeId) (a:Ag) (v:Value) (fr:Nat × Nat)
    (hp:tmps.getD p undef=.pointer (some ⟨g,0,none⟩)) (hg:w.heap[g]?=some (.cells (agc a v) t fr)):(results fn tmps).run Tryz.prog w=.ok (agv a v) w :=
 results_cell_row h tmps w g t (agc a v) fr _ hp hg Tryz.underlying45 rfl Tryz.sizeAg
abbrev agZ:Obj:=.cells (agc ⟨0,eS,Gz.zero,[],0⟩ (.slice none 0 0)) 45
theorem arg_inf (w:World) :
    Calls Tryz.prog 73 #[.string (bA [40,105,110,102,41])] w fun e w'=>agA [40,105,110,102,41] w' w.heap.size e∧w.grownBy w' none:=by
 have HN:Hid (∀w' base,agA [40,105,110,102,41] w' base (.returned (agv ⟨3,eS,Gz.zero,[],0⟩ (.slice none 0 0)))):=fun w' base=>Xt (by unfold agU;rw [if_pos rfl]) _ _ _ _ _ (OwI.nil _ _)
 have e:bA [40,105,110,102,41]=⟨#[40,105,110,102,41]⟩:=rfl
 rw [e]
 generalize agA [40,105,110,102,41]=R at *
 clear e
 go_enter Tryz.func73,Tryz.ntmps73
 go_wp2_with fail
 refine bodyPost_ret (Zz rfl _ _ w.heap.size _ ⟨3,eS,Gz.zero,[],0⟩ _ _ rfl (heap_alloc_new _ _)) rfl ?_
 exact⟨HN.out _ _,grow1 _ _⟩
theorem Zcq (L:List UInt8) (hL:L.length≤20000) (hq:¬L=[40,105,110,102,41]) (h0:L.head?=some 40) (w:World) :
    Calls Tryz.prog 73 #[.string (bA L)] w fun e w'=>agA L w' w.heap.size e∧w.grownBy w' none:=by
 have hE:=YB hq
 have hC:=Jb hL h0
 have hN:=ZcF L.tail (by rw [List.length_tail];omega)
 cases hz:gzU L.tail with
 |none =>
  have HN:Hid (∀w',agA L w' w.heap.size upE):=fun w'=>Vj (by unfold agU;rw [if_neg hq,if_pos h0,hz]) _ _
  have HC:Hid (∀W,Calls Tryz.prog 96 #[.string (bA L.tail)] W fun e w'=>e=upE∧W.grownBy w' none):=fun W=>(hN W).mono fun e w' h=>by
   unfold gzA at h
   rw [hz]at h
   exact h
  clear hq h0 hz hN hL
  generalize agA L=R at *
  generalize bA L.tail=s2 at *
  generalize bA L=s at *
  go_enter Tryz.func73,Tryz.ntmps73
  go_wp2_with fail
  refine(hC _).mono ?_
  rintro e wq ⟨rfl,hwq⟩
  obtain rfl:=hwq.symm
  clear hwq
  go_wp2_with fail
  refine(HC.out _).mono ?_
  rintro e w1 ⟨rfl,g⟩
  have G:Hid (w.grownBy w1 none):=Za (grow1 _ _) g
  clear g
  go_wp2_with fail
  simp only [bodyPost]
  exact⟨trivial,HN.out _,G.out⟩
 |some z =>
  have HN:Hid (∀w',agA L w' w.heap.size (.returned (agv ⟨2,eS,z,[],0⟩ (.slice none 0 0)))):=fun w'=>Xt (by unfold agU;rw [if_neg hq,if_pos h0,hz]) _ _ _ _ _ (OwI.nil _ _)
  have HC:Hid (∀W,Calls Tryz.prog 96 #[.string (bA L.tail)] W fun e w'=>e=.returned (gzv z)∧W.grownBy w' none):=fun W=>(hN W).mono fun e w' h=>by
   unfold gzA at h
   rw [hz]at h
   exact h
  clear hq h0 hz hN hL
  generalize agA L=R at *
  generalize bA L.tail=s2 at *
  generalize bA L=s at *
  go_enter Tryz.func73,Tryz.ntmps73
  go_wp2_with fail
  refine(hC _).mono ?_
  rintro e wq ⟨rfl,hwq⟩
  obtain rfl:=hwq.symm
  clear hwq
  go_wp2_with fail
  refine(HC.out _).mono ?_
  rintro e w1 ⟨rfl,g⟩
  have G:Hid (w.grownBy w1 none):=Za (grow1 _ _) g
  have H1:Hid (w1.heap[w.heap.size]?=some agZ):=(g.block _ (by simp) (by simp)).trans (heap_alloc_new _ _)
  clear g
  have h1:=H1.out
  have d0:w1.cell? ⟨w.heap.size,0,none⟩=some (.int .i64 0):=by simp [World.cell?,h1,Gz.zero]
  have f0:w1.frozen? ⟨w.heap.size,0,none⟩=false:=by simp [World.frozen?,h1]
  have d1:w1.cell? ⟨w.heap.size,1,none⟩=some (.string eS):=by simp [World.cell?,h1,Gz.zero]
  have f1:w1.frozen? ⟨w.heap.size,1,none⟩=false:=by simp [World.frozen?,h1]
  have d2:w1.cell? ⟨w.heap.size,2,none⟩=some (.bool false):=by simp [World.cell?,h1,Gz.zero]
  have f2:w1.frozen? ⟨w.heap.size,2,none⟩=false:=by simp [World.frozen?,h1]
  have d3:w1.cell? ⟨w.heap.size,3,none⟩=some (.string eS):=by simp [World.cell?,h1,Gz.zero]
  have f3:w1.frozen? ⟨w.heap.size,3,none⟩=false:=by simp [World.frozen?,h1]
  have d4:w1.cell? ⟨w.heap.size,4,none⟩=some (.bool false):=by simp [World.cell?,h1,Gz.zero]
  have f4:w1.frozen? ⟨w.heap.size,4,none⟩=false:=by simp [World.frozen?,h1]
  have d5:w1.cell? ⟨w.heap.size,5,none⟩=some (.string eS):=by simp [World.cell?,h1,Gz.zero]
  have f5:w1.frozen? ⟨w.heap.size,5,none⟩=false:=by simp [World.frozen?,h1]
  have d6:w1.cell? ⟨w.heap.size,6,none⟩=some (.bool false):=by simp [World.cell?,h1,Gz.zero]
  have f6:w1.frozen? ⟨w.heap.size,6,none⟩=false:=by simp [World.frozen?,h1]
  have d7:w1.cell? ⟨w.heap.size,7,none⟩=some (.string eS):=by simp [World.cell?,h1,Gz.zero]
  have f7:w1.frozen? ⟨w.heap.size,7,none⟩=false:=by simp [World.frozen?,h1]
  have d8:w1.cell? ⟨w.heap.size,8,none⟩=some (.bool false):=by simp [World.cell?,h1,Gz.zero]
  have f8:w1.frozen? ⟨w.heap.size,8,none⟩=false:=by simp [World.frozen?,h1]
  have d9:w1.cell? ⟨w.heap.size,9,none⟩=some (.string eS):=by simp [World.cell?,h1,Gz.zero]
  have f9:w1.frozen? ⟨w.heap.size,9,none⟩=false:=by simp [World.frozen?,h1]
  have d10:w1.cell? ⟨w.heap.size,10,none⟩=some (.slice none 0 0):=by simp [World.cell?,h1,Gz.zero]
  have f10:w1.frozen? ⟨w.heap.size,10,none⟩=false:=by simp [World.frozen?,h1]
  have d11:w1.cell? ⟨w.heap.size,11,none⟩=some (.int .i64 0):=by simp [World.cell?,h1,Gz.zero]
  have f11:w1.frozen? ⟨w.heap.size,11,none⟩=false:=by simp [World.frozen?,h1]
  have H5:Hid (((((((((((((w1.setCell ⟨w.heap.size,0,none⟩ (.int .i64 2)).setCell ⟨w.heap.size,1,none⟩ (.string eS)).setCell ⟨w.heap.size,2,none⟩ (.bool z.a)).setCell ⟨w.heap.size,3,none⟩ (.string z.b)).setCell ⟨w.heap.size,4,none⟩ (.bool z.c)).setCell ⟨w.heap.size,5,none⟩ (.string z.d)).setCell ⟨w.heap.size,6,none⟩ (.bool z.e)).setCell ⟨w.heap.size,7,none⟩ (.string z.f)).setCell ⟨w.heap.size,8,none⟩ (.bool z.g)).setCell ⟨w.heap.size,9,none⟩ (.string z.h)).setCell ⟨w.heap.size,10,none⟩ (.slice none 0 0)).setCell ⟨w.heap.size,11,none⟩ (.int .i64 0)).heap[w.heap.size]?=some (.cells #[.int .i64 2,.string eS,.bool z.a,.string z.b,.bool z.c,.string z.d,.bool z.e,.string z.f,.bool z.g,.string z.h,.slice none 0 0,.int .i64 0] 45)):=by
   show _=_
   simp [World.setCell,Array.getElem?_modify,h1]
  have HG5:Hid (w.grownBy ((((((((((((w1.setCell ⟨w.heap.size,0,none⟩ (.int .i64 2)).setCell ⟨w.heap.size,1,none⟩ (.string eS)).setCell ⟨w.heap.size,2,none⟩ (.bool z.a)).setCell ⟨w.heap.size,3,none⟩ (.string z.b)).setCell ⟨w.heap.size,4,none⟩ (.bool z.c)).setCell ⟨w.heap.size,5,none⟩ (.string z.d)).setCell ⟨w.heap.size,6,none⟩ (.bool z.e)).setCell ⟨w.heap.size,7,none⟩ (.string z.f)).setCell ⟨w.heap.size,8,none⟩ (.bool z.g)).setCell ⟨w.heap.size,9,none⟩ (.string z.h)).setCell ⟨w.heap.size,10,none⟩ (.slice none 0 0)).setCell ⟨w.heap.size,11,none⟩ (.int .i64 0)) none):=(Zb (Zb (Zb (Zb (Zb (Zb (Zb (Zb (Zb (Zb (Zb (Zb G.out (Nat.le_refl _)) (Nat.le_refl _)) (Nat.le_refl _)) (Nat.le_refl _)) (Nat.le_refl _)) (Nat.le_refl _)) (Nat.le_refl _)) (Nat.le_refl _)) (Nat.le_refl _)) (Nat.le_refl _)) (Nat.le_refl _)) (Nat.le_refl _))
  have HG6:Hid (w1.grownBy ((((((((((((w1.setCell ⟨w.heap.size,0,none⟩ (.int .i64 2)).setCell ⟨w.heap.size,1,none⟩ (.string eS)).setCell ⟨w.heap.size,2,none⟩ (.bool z.a)).setCell ⟨w.heap.size,3,none⟩ (.string z.b)).setCell ⟨w.heap.size,4,none⟩ (.bool z.c)).setCell ⟨w.heap.size,5,none⟩ (.string z.d)).setCell ⟨w.heap.size,6,none⟩ (.bool z.e)).setCell ⟨w.heap.size,7,none⟩ (.string z.f)).setCell ⟨w.heap.size,8,none⟩ (.bool z.g)).setCell ⟨w.heap.size,9,none⟩ (.string z.h)).setCell ⟨w.heap.size,10,none⟩ (.slice none 0 0)).setCell ⟨w.heap.size,11,none⟩ (.int .i64 0)) (some w.heap.size)):=(Za (Za (Za (Za (Za (Za (Za (Za (Za (Za (Za (Zc _ _ _ _) (Zc _ _ _ _)) (Zc _ _ _ _)) (Zc _ _ _ _)) (Zc _ _ _ _)) (Zc _ _ _ _)) (Zc _ _ _ _)) (Zc _ _ _ _)) (Zc _ _ _ _)) (Zc _ _ _ _)) (Zc _ _ _ _)) (Zc _ _ _ _))
  clear h1
  go_wp2_with fail
  refine bodyPost_ret (Zz rfl _ _ w.heap.size _ ⟨2,eS,z,[],0⟩ _ _ rfl H5.out) rfl ?_
  exact⟨HN.out _,HG5.out⟩
theorem Zfw (L:List UInt8) (hL:L.length≤20000) (hq:¬L=[40,105,110,102,41]) (h0:L.head?=some 91) (w:World) (he:Errs w) :
    Calls Tryz.prog 73 #[.string (bA L)] w fun e w'=>agA L w' w.heap.size e∧w.grownBy w' none:=by
 have hE:=YB hq
 have n40:¬L.head?=some 40:=by rw [h0];decide
 have hC40:=XQ hL n40
 have hC:=Jb hL h0
 have hN:=Zd6 L.tail (by rw [List.length_tail];omega)
 have HEr:Hid (Errs w):=he
 cases hz:wordU L.tail with
 |none =>
  have HN:Hid (∀w',agA L w' w.heap.size upE):=fun w'=>Vj (by unfold agU;rw [if_neg hq,if_neg n40,if_pos h0,hz]) _ _
  have HC:Hid (∀W,Errs W→Calls Tryz.prog 97 #[.string (bA L.tail)] W fun e w'=>e=upE∧W.grownBy w' none):=fun W hW=>(hN W hW).mono fun e w' h=>by
   unfold wordA at h
   rw [hz]at h
   exact h
  clear hq h0 hz hN hL n40 he
  generalize agA L=R at *
  generalize bA L.tail=s2 at *
  generalize bA L=s at *
  go_enter Tryz.func73,Tryz.ntmps73
  go_wp2_with fail
  refine(hC40 _).mono ?_
  rintro e wq ⟨rfl,hwq⟩
  obtain rfl:=hwq.symm
  clear hwq
  go_wp2_with fail
  refine(hC _).mono ?_
  rintro e wq ⟨rfl,hwq⟩
  obtain rfl:=hwq.symm
  clear hwq
  go_wp2_with fail
  refine(HC.out _ (HEr.out.kept (grow1 _ _))).mono ?_
  rintro e w1 ⟨rfl,g⟩
  have G:Hid (w.grownBy w1 none):=Za (grow1 _ _) g
  clear g
  go_wp2_with fail
  simp only [bodyPost]
  exact⟨trivial,HN.out _,G.out⟩
 |some V =>
  have HN:Hid (∀w' ab n c,OwI w' w.heap.size (.slice ab n c) V→agA L w' w.heap.size (.returned (agv ⟨4,eS,Gz.zero,V,0⟩ (.slice ab n c)))):=fun w' ab n c hO=>Xt (by unfold agU;rw [if_neg hq,if_neg n40,if_pos h0,hz]) _ _ _ _ _ hO
  have HC:Hid (∀W,Errs W→Calls Tryz.prog 97 #[.string (bA L.tail)] W fun e w'=>(∃v,e=.returned v∧OwI w' W.heap.size v V)∧W.grownBy w' none):=fun W hW=>(hN W hW).mono fun e w' h=>by
   unfold wordA at h
   rw [hz]at h
   exact h
  clear hq h0 hz hN hL n40 he
  generalize agA L=R at *
  generalize bA L.tail=s2 at *
  generalize bA L=s at *
  go_enter Tryz.func73,Tryz.ntmps73
  go_wp2_with fail
  refine(hC40 _).mono ?_
  rintro e wq ⟨rfl,hwq⟩
  obtain rfl:=hwq.symm
  clear hwq
  go_wp2_with fail
  refine(hC _).mono ?_
  rintro e wq ⟨rfl,hwq⟩
  obtain rfl:=hwq.symm
  clear hwq
  go_wp2_with fail
  refine(HC.out _ (HEr.out.kept (grow1 _ _))).mono ?_
  rintro e w1 ⟨⟨v,rfl,hO⟩,g⟩
  have G:Hid (w.grownBy w1 none):=Za (grow1 _ _) g
  have H1:Hid (w1.heap[w.heap.size]?=some agZ):=(g.block _ (by simp) (by simp)).trans (heap_alloc_new _ _)
  obtain⟨ab,c,rfl⟩:=hO.form
  generalize V.length=n at *
  have HO:Hid (OwI w1 (w.heap.size+1) (.slice ab n c) V):=by
   show OwI _ _ _ _
   simpa using hO
  clear g hO
  have h1:=H1.out
  have d0:w1.cell? ⟨w.heap.size,0,none⟩=some (.int .i64 0):=by simp [World.cell?,h1,Gz.zero]
  have f0:w1.frozen? ⟨w.heap.size,0,none⟩=false:=by simp [World.frozen?,h1]
  have d1:w1.cell? ⟨w.heap.size,1,none⟩=some (.string eS):=by simp [World.cell?,h1,Gz.zero]
  have f1:w1.frozen? ⟨w.heap.size,1,none⟩=false:=by simp [World.frozen?,h1]
  have d2:w1.cell? ⟨w.heap.size,2,none⟩=some (.bool false):=by simp [World.cell?,h1,Gz.zero]
  have f2:w1.frozen? ⟨w.heap.size,2,none⟩=false:=by simp [World.frozen?,h1]
  have d3:w1.cell? ⟨w.heap.size,3,none⟩=some (.string eS):=by simp [World.cell?,h1,Gz.zero]
  have f3:w1.frozen? ⟨w.heap.size,3,none⟩=false:=by simp [World.frozen?,h1]
  have d4:w1.cell? ⟨w.heap.size,4,none⟩=some (.bool false):=by simp [World.cell?,h1,Gz.zero]
  have f4:w1.frozen? ⟨w.heap.size,4,none⟩=false:=by simp [World.frozen?,h1]
  have d5:w1.cell? ⟨w.heap.size,5,none⟩=some (.string eS):=by simp [World.cell?,h1,Gz.zero]
  have f5:w1.frozen? ⟨w.heap.size,5,none⟩=false:=by simp [World.frozen?,h1]
  have d6:w1.cell? ⟨w.heap.size,6,none⟩=some (.bool false):=by simp [World.cell?,h1,Gz.zero]
  have f6:w1.frozen? ⟨w.heap.size,6,none⟩=false:=by simp [World.frozen?,h1]
  have d7:w1.cell? ⟨w.heap.size,7,none⟩=some (.string eS):=by simp [World.cell?,h1,Gz.zero]
  have f7:w1.frozen? ⟨w.heap.size,7,none⟩=false:=by simp [World.frozen?,h1]
  have d8:w1.cell? ⟨w.heap.size,8,none⟩=some (.bool false):=by simp [World.cell?,h1,Gz.zero]
  have f8:w1.frozen? ⟨w.heap.size,8,none⟩=false:=by simp [World.frozen?,h1]
  have d9:w1.cell? ⟨w.heap.size,9,none⟩=some (.string eS):=by simp [World.cell?,h1,Gz.zero]
  have f9:w1.frozen? ⟨w.heap.size,9,none⟩=false:=by simp [World.frozen?,h1]
  have d10:w1.cell? ⟨w.heap.size,10,none⟩=some (.slice none 0 0):=by simp [World.cell?,h1,Gz.zero]
  have f10:w1.frozen? ⟨w.heap.size,10,none⟩=false:=by simp [World.frozen?,h1]
  have d11:w1.cell? ⟨w.heap.size,11,none⟩=some (.int .i64 0):=by simp [World.cell?,h1,Gz.zero]
  have f11:w1.frozen? ⟨w.heap.size,11,none⟩=false:=by simp [World.frozen?,h1]
  have H5:Hid (((((((((((((w1.setCell ⟨w.heap.size,0,none⟩ (.int .i64 4)).setCell ⟨w.heap.size,1,none⟩ (.string eS)).setCell ⟨w.heap.size,2,none⟩ (.bool false)).setCell ⟨w.heap.size,3,none⟩ (.string eS)).setCell ⟨w.heap.size,4,none⟩ (.bool false)).setCell ⟨w.heap.size,5,none⟩ (.string eS)).setCell ⟨w.heap.size,6,none⟩ (.bool false)).setCell ⟨w.heap.size,7,none⟩ (.string eS)).setCell ⟨w.heap.size,8,none⟩ (.bool false)).setCell ⟨w.heap.size,9,none⟩ (.string eS)).setCell ⟨w.heap.size,10,none⟩ (.slice ab n c)).setCell ⟨w.heap.size,11,none⟩ (.int .i64 0)).heap[w.heap.size]?=some (.cells #[.int .i64 4,.string eS,.bool false,.string eS,.bool false,.string eS,.bool false,.string eS,.bool false,.string eS,.slice ab n c,.int .i64 0] 45)):=by
   show _=_
   simp [World.setCell,Array.getElem?_modify,h1]
  have HG5:Hid (w.grownBy ((((((((((((w1.setCell ⟨w.heap.size,0,none⟩ (.int .i64 4)).setCell ⟨w.heap.size,1,none⟩ (.string eS)).setCell ⟨w.heap.size,2,none⟩ (.bool false)).setCell ⟨w.heap.size,3,none⟩ (.string eS)).setCell ⟨w.heap.size,4,none⟩ (.bool false)).setCell ⟨w.heap.size,5,none⟩ (.string eS)).setCell ⟨w.heap.size,6,none⟩ (.bool false)).setCell ⟨w.heap.size,7,none⟩ (.string eS)).setCell ⟨w.heap.size,8,none⟩ (.bool false)).setCell ⟨w.heap.size,9,none⟩ (.string eS)).setCell ⟨w.heap.size,10,none⟩ (.slice ab n c)).setCell ⟨w.heap.size,11,none⟩ (.int .i64 0)) none):=(Zb (Zb (Zb (Zb (Zb (Zb (Zb (Zb (Zb (Zb (Zb (Zb G.out (Nat.le_refl _)) (Nat.le_refl _)) (Nat.le_refl _)) (Nat.le_refl _)) (Nat.le_refl _)) (Nat.le_refl _)) (Nat.le_refl _)) (Nat.le_refl _)) (Nat.le_refl _)) (Nat.le_refl _)) (Nat.le_refl _)) (Nat.le_refl _))
  have HG6:Hid (w1.grownBy ((((((((((((w1.setCell ⟨w.heap.size,0,none⟩ (.int .i64 4)).setCell ⟨w.heap.size,1,none⟩ (.string eS)).setCell ⟨w.heap.size,2,none⟩ (.bool false)).setCell ⟨w.heap.size,3,none⟩ (.string eS)).setCell ⟨w.heap.size,4,none⟩ (.bool false)).setCell ⟨w.heap.size,5,none⟩ (.string eS)).setCell ⟨w.heap.size,6,none⟩ (.bool false)).setCell ⟨w.heap.size,7,none⟩ (.string eS)).setCell ⟨w.heap.size,8,none⟩ (.bool false)).setCell ⟨w.heap.size,9,none⟩ (.string eS)).setCell ⟨w.heap.size,10,none⟩ (.slice ab n c)).setCell ⟨w.heap.size,11,none⟩ (.int .i64 0)) (some w.heap.size)):=(Za (Za (Za (Za (Za (Za (Za (Za (Za (Za (Za (Zc _ _ _ _) (Zc _ _ _ _)) (Zc _ _ _ _)) (Zc _ _ _ _)) (Zc _ _ _ _)) (Zc _ _ _ _)) (Zc _ _ _ _)) (Zc _ _ _ _)) (Zc _ _ _ _)) (Zc _ _ _ _)) (Zc _ _ _ _)) (Zc _ _ _ _))
  clear h1
  go_wp2_with fail
  refine bodyPost_ret (Zz rfl _ _ w.heap.size _ ⟨4,eS,Gz.zero,V,0⟩ _ _ rfl H5.out) rfl ?_
  refine⟨HN.out _ _ _ _ ((HO.out.kept HG6.out ?_).mono (by omega)),HG5.out⟩
  rcases HO.out.cases with ⟨e,_⟩|⟨g,c',e,hb,_⟩
  ·exact .inl (by rw [e];rfl)
  ·refine .inr ?_
   rw [e]
   simp [Value.ownBlock]
   omega
theorem ZdO (L:List UInt8) (hL:L.length≤20000) (hq:¬L=[40,105,110,102,41]) (h0:L.head?=some 35) (w:World) (he:Errs w) :
    Calls Tryz.prog 73 #[.string (bA L)] w fun e w'=>agA L w' w.heap.size e∧w.grownBy w' none:=by
 have hE:=YB hq
 have n40:¬L.head?=some 40:=by rw [h0];decide
 have n91:¬L.head?=some 91:=by rw [h0];decide
 have hC40:=XQ hL n40
 have hC91:=XQ hL n91
 have hC:=Jb hL h0
 have hN:=ZdT L.tail (by rw [List.length_tail];omega)
 have HEr:Hid (Errs w):=he
 cases hz:ctU L.tail with
 |none =>
  have HN:Hid (∀w',agA L w' w.heap.size upE):=fun w'=>Vj (by unfold agU;rw [if_neg hq,if_neg n40,if_neg n91,if_pos h0,hz]) _ _
  have HC:Hid (∀W,Errs W→Calls Tryz.prog 98 #[.string (bA L.tail)] W fun e w'=>e=upE∧W.grownBy w' none):=fun W hW=>(hN W hW).mono fun e w' h=>by
   unfold ctA at h
   rw [hz]at h
   exact h
  clear hq h0 hz hN hL n40 n91 he
  generalize agA L=R at *
  generalize bA L.tail=s2 at *
  generalize bA L=s at *
  go_enter Tryz.func73,Tryz.ntmps73
  go_wp2_with fail
  refine(hC40 _).mono ?_
  rintro e wq ⟨rfl,hwq⟩
  obtain rfl:=hwq.symm
  clear hwq
  go_wp2_with fail
  refine(hC91 _).mono ?_
  rintro e wq ⟨rfl,hwq⟩
  obtain rfl:=hwq.symm
  clear hwq
  go_wp2_with fail
  refine(hC _).mono ?_
  rintro e wq ⟨rfl,hwq⟩
  obtain rfl:=hwq.symm
  clear hwq
  go_wp2_with fail
  refine(HC.out _ (HEr.out.kept (grow1 _ _))).mono ?_
  rintro e w1 ⟨rfl,g⟩
  have G:Hid (w.grownBy w1 none):=Za (grow1 _ _) g
  clear g
  go_wp2_with fail
  simp only [bodyPost]
  exact⟨trivial,HN.out _,G.out⟩
 |some k =>
  have HN:Hid (∀w',agA L w' w.heap.size (.returned (agv ⟨5,eS,Gz.zero,[],k⟩ (.slice none 0 0)))):=fun w'=>Xt (by unfold agU;rw [if_neg hq,if_neg n40,if_neg n91,if_pos h0,hz]) _ _ _ _ _ (OwI.nil _ _)
  have HC:Hid (∀W,Errs W→Calls Tryz.prog 98 #[.string (bA L.tail)] W fun e w'=>e=.returned (.int .i64 k)∧W.grownBy w' none):=fun W hW=>(hN W hW).mono fun e w' h=>by
   unfold ctA at h
   rw [hz]at h
   exact h
  clear hq h0 hz hN hL n40 n91 he
  generalize agA L=R at *
  generalize bA L.tail=s2 at *
  generalize bA L=s at *
  go_enter Tryz.func73,Tryz.ntmps73
  go_wp2_with fail
  refine(hC40 _).mono ?_
  rintro e wq ⟨rfl,hwq⟩
  obtain rfl:=hwq.symm
  clear hwq
  go_wp2_with fail
  refine(hC91 _).mono ?_
  rintro e wq ⟨rfl,hwq⟩
  obtain rfl:=hwq.symm
  clear hwq
  go_wp2_with fail
  refine(hC _).mono ?_
  rintro e wq ⟨rfl,hwq⟩
  obtain rfl:=hwq.symm
  clear hwq
  go_wp2_with fail
  refine(HC.out _ (HEr.out.kept (grow1 _ _))).mono ?_
  rintro e w1 ⟨rfl,g⟩
  have G:Hid (w.grownBy w1 none):=Za (grow1 _ _) g
  have H1:Hid (w1.heap[w.heap.size]?=some agZ):=(g.block _ (by simp) (by simp)).trans (heap_alloc_new _ _)
  clear g
  have h1:=H1.out
  have d0:w1.cell? ⟨w.heap.size,0,none⟩=some (.int .i64 0):=by simp [World.cell?,h1,Gz.zero]
  have f0:w1.frozen? ⟨w.heap.size,0,none⟩=false:=by simp [World.frozen?,h1]
  have d1:w1.cell? ⟨w.heap.size,1,none⟩=some (.string eS):=by simp [World.cell?,h1,Gz.zero]
  have f1:w1.frozen? ⟨w.heap.size,1,none⟩=false:=by simp [World.frozen?,h1]
  have d2:w1.cell? ⟨w.heap.size,2,none⟩=some (.bool false):=by simp [World.cell?,h1,Gz.zero]
  have f2:w1.frozen? ⟨w.heap.size,2,none⟩=false:=by simp [World.frozen?,h1]
  have d3:w1.cell? ⟨w.heap.size,3,none⟩=some (.string eS):=by simp [World.cell?,h1,Gz.zero]
  have f3:w1.frozen? ⟨w.heap.size,3,none⟩=false:=by simp [World.frozen?,h1]
  have d4:w1.cell? ⟨w.heap.size,4,none⟩=some (.bool false):=by simp [World.cell?,h1,Gz.zero]
  have f4:w1.frozen? ⟨w.heap.size,4,none⟩=false:=by simp [World.frozen?,h1]
  have d5:w1.cell? ⟨w.heap.size,5,none⟩=some (.string eS):=by simp [World.cell?,h1,Gz.zero]
  have f5:w1.frozen? ⟨w.heap.size,5,none⟩=false:=by simp [World.frozen?,h1]
  have d6:w1.cell? ⟨w.heap.size,6,none⟩=some (.bool false):=by simp [World.cell?,h1,Gz.zero]
  have f6:w1.frozen? ⟨w.heap.size,6,none⟩=false:=by simp [World.frozen?,h1]
  have d7:w1.cell? ⟨w.heap.size,7,none⟩=some (.string eS):=by simp [World.cell?,h1,Gz.zero]
  have f7:w1.frozen? ⟨w.heap.size,7,none⟩=false:=by simp [World.frozen?,h1]
  have d8:w1.cell? ⟨w.heap.size,8,none⟩=some (.bool false):=by simp [World.cell?,h1,Gz.zero]
  have f8:w1.frozen? ⟨w.heap.size,8,none⟩=false:=by simp [World.frozen?,h1]
  have d9:w1.cell? ⟨w.heap.size,9,none⟩=some (.string eS):=by simp [World.cell?,h1,Gz.zero]
  have f9:w1.frozen? ⟨w.heap.size,9,none⟩=false:=by simp [World.frozen?,h1]
  have d10:w1.cell? ⟨w.heap.size,10,none⟩=some (.slice none 0 0):=by simp [World.cell?,h1,Gz.zero]
  have f10:w1.frozen? ⟨w.heap.size,10,none⟩=false:=by simp [World.frozen?,h1]
  have d11:w1.cell? ⟨w.heap.size,11,none⟩=some (.int .i64 0):=by simp [World.cell?,h1,Gz.zero]
  have f11:w1.frozen? ⟨w.heap.size,11,none⟩=false:=by simp [World.frozen?,h1]
  have H5:Hid (((((((((((((w1.setCell ⟨w.heap.size,0,none⟩ (.int .i64 5)).setCell ⟨w.heap.size,1,none⟩ (.string eS)).setCell ⟨w.heap.size,2,none⟩ (.bool false)).setCell ⟨w.heap.size,3,none⟩ (.string eS)).setCell ⟨w.heap.size,4,none⟩ (.bool false)).setCell ⟨w.heap.size,5,none⟩ (.string eS)).setCell ⟨w.heap.size,6,none⟩ (.bool false)).setCell ⟨w.heap.size,7,none⟩ (.string eS)).setCell ⟨w.heap.size,8,none⟩ (.bool false)).setCell ⟨w.heap.size,9,none⟩ (.string eS)).setCell ⟨w.heap.size,10,none⟩ (.slice none 0 0)).setCell ⟨w.heap.size,11,none⟩ (.int .i64 k)).heap[w.heap.size]?=some (.cells #[.int .i64 5,.string eS,.bool false,.string eS,.bool false,.string eS,.bool false,.string eS,.bool false,.string eS,.slice none 0 0,.int .i64 k] 45)):=by
   show _=_
   simp [World.setCell,Array.getElem?_modify,h1]
  have HG5:Hid (w.grownBy ((((((((((((w1.setCell ⟨w.heap.size,0,none⟩ (.int .i64 5)).setCell ⟨w.heap.size,1,none⟩ (.string eS)).setCell ⟨w.heap.size,2,none⟩ (.bool false)).setCell ⟨w.heap.size,3,none⟩ (.string eS)).setCell ⟨w.heap.size,4,none⟩ (.bool false)).setCell ⟨w.heap.size,5,none⟩ (.string eS)).setCell ⟨w.heap.size,6,none⟩ (.bool false)).setCell ⟨w.heap.size,7,none⟩ (.string eS)).setCell ⟨w.heap.size,8,none⟩ (.bool false)).setCell ⟨w.heap.size,9,none⟩ (.string eS)).setCell ⟨w.heap.size,10,none⟩ (.slice none 0 0)).setCell ⟨w.heap.size,11,none⟩ (.int .i64 k)) none):=(Zb (Zb (Zb (Zb (Zb (Zb (Zb (Zb (Zb (Zb (Zb (Zb G.out (Nat.le_refl _)) (Nat.le_refl _)) (Nat.le_refl _)) (Nat.le_refl _)) (Nat.le_refl _)) (Nat.le_refl _)) (Nat.le_refl _)) (Nat.le_refl _)) (Nat.le_refl _)) (Nat.le_refl _)) (Nat.le_refl _)) (Nat.le_refl _))
  have HG6:Hid (w1.grownBy ((((((((((((w1.setCell ⟨w.heap.size,0,none⟩ (.int .i64 5)).setCell ⟨w.heap.size,1,none⟩ (.string eS)).setCell ⟨w.heap.size,2,none⟩ (.bool false)).setCell ⟨w.heap.size,3,none⟩ (.string eS)).setCell ⟨w.heap.size,4,none⟩ (.bool false)).setCell ⟨w.heap.size,5,none⟩ (.string eS)).setCell ⟨w.heap.size,6,none⟩ (.bool false)).setCell ⟨w.heap.size,7,none⟩ (.string eS)).setCell ⟨w.heap.size,8,none⟩ (.bool false)).setCell ⟨w.heap.size,9,none⟩ (.string eS)).setCell ⟨w.heap.size,10,none⟩ (.slice none 0 0)).setCell ⟨w.heap.size,11,none⟩ (.int .i64 k)) (some w.heap.size)):=(Za (Za (Za (Za (Za (Za (Za (Za (Za (Za (Za (Zc _ _ _ _) (Zc _ _ _ _)) (Zc _ _ _ _)) (Zc _ _ _ _)) (Zc _ _ _ _)) (Zc _ _ _ _)) (Zc _ _ _ _)) (Zc _ _ _ _)) (Zc _ _ _ _)) (Zc _ _ _ _)) (Zc _ _ _ _)) (Zc _ _ _ _))
  clear h1
  go_wp2_with fail
  refine bodyPost_ret (Zz rfl _ _ w.heap.size _ ⟨5,eS,Gz.zero,[],k⟩ _ _ rfl H5.out) rfl ?_
  exact⟨HN.out _,HG5.out⟩
theorem Zfq (L:List UInt8) (hL:L.length≤20000) (hq:¬L=[40,105,110,102,41]) (n40:¬L.head?=some 40) (n91:¬L.head?=some 91) (n35:¬L.head?=some 35) (w:World) :
    Calls Tryz.prog 73 #[.string (bA L)] w fun e w'=>agA L w' w.heap.size e∧w.grownBy w' none:=by
 have hE:=YB hq
 have hC40:=XQ hL n40
 have hC91:=XQ hL n91
 have hC35:=XQ hL n35
 have hI:=Y7 (bA L) (by rw [Zo];unfold maxLen;omega)
 have hm1:=Ya
 have hm2:=Yy
 cases hz:isNm (bA L)
 ·have HN:Hid (∀w',agA L w' w.heap.size upE):=fun w'=>Vj (by unfold agU;rw [if_neg hq,if_neg n40,if_neg n91,if_neg n35,hz];rfl) _ _
  rw [hz]at hI
  clear hq hz hL n40 n91 n35
  generalize agA L=R at *
  generalize bA L=s at *
  go_enter Tryz.func73,Tryz.ntmps73
  go_wp2_with fail
  refine(hC40 _).mono ?_
  rintro e wq ⟨rfl,hwq⟩
  obtain rfl:=hwq.symm
  clear hwq
  go_wp2_with fail
  refine(hC91 _).mono ?_
  rintro e wq ⟨rfl,hwq⟩
  obtain rfl:=hwq.symm
  clear hwq
  go_wp2_with fail
  refine(hC35 _).mono ?_
  rintro e wq ⟨rfl,hwq⟩
  obtain rfl:=hwq.symm
  clear hwq
  go_wp2_with fail
  refine(hI _).mono ?_
  rintro e wq ⟨rfl,hwq⟩
  obtain rfl:=hwq.symm
  clear hwq
  go_wp2_with fail
  refine(hm2 _).mono ?_
  rintro e w1 ⟨rfl,rfl⟩
  go_wp2_with fail
  simp only [bodyPost]
  exact⟨trivial,HN.out _,grow1 _ _⟩
 ·have HN:Hid (∀w',agA L w' w.heap.size (.returned (agv ⟨1,bA L,Gz.zero,[],0⟩ (.slice none 0 0)))):=fun w'=>Xt (by unfold agU;rw [if_neg hq,if_neg n40,if_neg n91,if_neg n35,hz];rfl) _ _ _ _ _ (OwI.nil _ _)
  rw [hz]at hI
  clear hq hz hL n40 n91 n35
  generalize agA L=R at *
  generalize bA L=s at *
  go_enter Tryz.func73,Tryz.ntmps73
  go_wp2_with fail
  refine(hC40 _).mono ?_
  rintro e wq ⟨rfl,hwq⟩
  obtain rfl:=hwq.symm
  clear hwq
  go_wp2_with fail
  refine(hC91 _).mono ?_
  rintro e wq ⟨rfl,hwq⟩
  obtain rfl:=hwq.symm
  clear hwq
  go_wp2_with fail
  refine(hC35 _).mono ?_
  rintro e wq ⟨rfl,hwq⟩
  obtain rfl:=hwq.symm
  clear hwq
  go_wp2_with fail
  refine(hI _).mono ?_
  rintro e wq ⟨rfl,hwq⟩
  obtain rfl:=hwq.symm
  clear hwq
  go_wp2_with fail
  refine(hm1 _).mono ?_
  rintro e wq ⟨rfl,hwq⟩
  obtain rfl:=hwq.symm
  clear hwq
  go_wp2_with fail
  refine bodyPost_ret (Zz rfl _ _ w.heap.size _ ⟨1,s,Gz.zero,[],0⟩ _ _ rfl (heap_alloc_new _ _)) rfl ?_
  exact⟨HN.out _,grow1 _ _⟩
theorem Vd (L:List UInt8) (hL:L.length≤20000) (w:World) (he:Errs w) :
    Calls Tryz.prog 73 #[.string (bA L)] w fun e w'=>agA L w' w.heap.size e∧w.grownBy w' none:=by
 by_cases hq:L=[40,105,110,102,41]
 ·subst hq
  exact arg_inf w
 by_cases h40:L.head?=some 40
 ·exact Zcq L hL hq h40 w
 by_cases h91:L.head?=some 91
 ·exact Zfw L hL hq h91 w he
 by_cases h35:L.head?=some 35
 ·exact ZdO L hL hq h35 w he
 exact Zfq L hL hq h40 h91 h35 w
end Go.Proofs.YtdcadiaeaclpgaaGreatDoor
