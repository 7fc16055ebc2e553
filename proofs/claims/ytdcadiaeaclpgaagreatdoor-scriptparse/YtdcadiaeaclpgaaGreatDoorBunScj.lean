/- The document's Named, SameArg; its May of exact complex numbers. -/
import Derived.Test.YtdcadiaeaclpgaaGreatDoorBunScd
import Derived.Test.YtdcadiaeaclpgaaGreatDoorBunFrm
namespace Go.Proofs.YtdcadiaeaclpgaaGreatDoor
open Go.RowKit Go.Lib Go.Sort
set_option linter.unusedVariables false
set_option linter.unusedSimpArgs false
set_option maxHeartbeats 6400000
set_option maxRecDepth 1000000
theorem UH (s:ByteArray) (hs:s.size≤maxLen) (w:World) :
    Calls Tryz.prog 41 #[.string s] w fun e w'=>e=.returned (.bool (isNm s))∧w'=w:=by
 unfold maxLen at hs
 by_cases h0:s.size=0
 ·obtain rfl:=Zi h0
  go_enter Tryz.func41,Tryz.ntmps41
  go_wp2
  go_ret
  exact⟨rfl,rfl⟩
 ·by_cases h1:s.size≤32
  ·obtain⟨n,hn⟩:∃n,s.size=n:=⟨_,rfl⟩
   have HB:Hid (∀i,i<n→∃b,b<256∧(bN s)[i]?=some b∧∃h:i<s.size,s[i].toNat=b):=fun i hi=>⟨_,UInt8.toNat_lt _,bN_at s i (by omega),by omega,rfl⟩
   have HV:Hid (isNm s=(smallB ((bN s)[0]?.getD 0) && (bN s).all nameB)):=by
    show _=_
    unfold isNm
    rw [decide_eq_true (by omega)]
    rfl
   have HL:Hid ((bN s).take n=bN s):=by
    show _=_
    rw [←hn,←Ze,List.take_length]
   have hnI:(n:Int)≤32:=by omega
   have hn1:(1:Int)≤n:=by omega
   obtain⟨a,ha,hai,hs1,hs2⟩:=HB.out 0 (by omega)
   have HA:Hid (smallB ((bN s)[0]?.getD 0)=smallB a):=by
    show _=_
    rw [hai]
    rfl
   have HA1:Hid (smallB a=true→((bN s).take 1).all nameB=true):=fun h=>by
    have:=Y8 (f:=nameB) (i:=0) (L:=bN s) rfl hai (by simp [nameB,h])
    exact this
   clear hai
   by_cases hsa:smallB a=true
   ·have hq:=hsa
    simp only [smallB,Bool.and_eq_true,decide_eq_true_eq]at hq
    have ha1:(97:Int)≤a:=by omega
    have ha2:(a:Int)≤122:=by omega
    have HA2:Hid (((bN s).take 1).all nameB=true):=HA1.out hsa
    rw [hsa]at HA
    clear hq hsa HA1
    go_enter Tryz.func41,Tryz.ntmps41
    go_wp2_with fail
    go_loopw [3] (fun s' wr=>∃i:Nat,1≤i∧i≤n∧s'=.int .i64 i∧((bN s).take i).all nameB=true∧wr=w) (fun s _=>match s with|.int _ i=>n-i.toNat|_=>0)
    case atStart=>exact⟨1,by omega,by omega,rfl,HA2.out,rfl⟩
    case round =>
     obtain⟨i,hi1,hi,rfl,hp,rfl⟩:=hrel
     have HP:Hid (((bN s).take i).all nameB=true):=hp
     clear hp hs1 hs2 ha ha1 ha2
     by_cases hlt:i<n
     ·obtain⟨b,hb,hbi,hs1,hs2⟩:=HB.out i hlt
      have HBI:Hid ((bN s)[i]?=some b):=hbi
      have hltI:(i:Int)<n:=by omega
      have hbI:(b:Int)<256:=by omega
      clear hbi
      go_wp2
      all_goals (rename_i g3 g2 g1;(try simp at g3);(try simp at g2);(try simp at g1);first
       |(go_ret
         refine⟨Zh ?_,rfl⟩
         have hq:nameB b=false:=by
          simp only [nameB,smallB]
          (simp<;>omega)
         rw [HV.out,UM HBI.out hq]
         simp)
       |(have hq:nameB b=true:=by
           simp only [nameB,smallB]
           (simp<;>omega)
         exact⟨⟨i+1,by omega,by omega,Zl (by omega),Y8 HP.out HBI.out hq,trivial⟩,by simp;omega⟩))
     ·have e:i=n:=by omega
      subst e
      go_wp2
      go_ret
      refine⟨Zh ?_,rfl⟩
      rw [HV.out,HA.out,←HL.out]
      simpa using HP.out.symm
   ·have hsa':smallB a=false:=by simpa using hsa
    have HF:Hid (isNm s=false):=by
     show _=_
     rw [HV.out,HA.out,hsa']
     rfl
    have hq:(a:Int)<97∨(122:Int)<a:=by
     simp only [smallB,Bool.and_eq_false_iff,decide_eq_false_iff_not]at hsa'
     omega
    clear hsa hsa'
    rcases hq with hq|hq
    ·go_enter Tryz.func41,Tryz.ntmps41
     go_wp2
     all_goals go_ret
     all_goals exact⟨Zh HF.out.symm,rfl⟩
    ·have hq2:(97:Int)≤a:=by omega
     go_enter Tryz.func41,Tryz.ntmps41
     go_wp2
     all_goals go_ret
     all_goals exact⟨Zh HF.out.symm,rfl⟩
  ·have h1I:(33:Int)≤s.size:=by omega
   have hsI:(s.size:Int)≤9223372036854775807:=by omega
   have HV:Hid (isNm s=false):=by
    show _=_
    unfold isNm
    rw [decide_eq_false (by omega)]
    rfl
   clear hs h0 h1
   go_enter Tryz.func41,Tryz.ntmps41
   go_wp2
   all_goals go_ret
   all_goals exact⟨Zh HV.out.symm,rfl⟩
theorem ZdF (z:Gz) (hz:z.Fit) (w:World) :
    Calls Tryz.prog 66 #[gzv z] w fun e w'=>e=.returned (.bool (mayZ z))∧w.grownBy w' none:=by
 have HA:Hid (∀w,Calls Tryz.prog 91 #[frac z.a z.b z.c z.d] w fun e w'=>e=.returned (.bool (mayQ z.a z.b z.c z.d))∧w.grownBy w' none):=fun w=>Xs _ _ _ _ hz.b hz.d w
 have HB:Hid (∀w,Calls Tryz.prog 91 #[frac z.e z.f z.g z.h] w fun e w'=>e=.returned (.bool (mayQ z.e z.f z.g z.h))∧w.grownBy w' none):=fun w=>Xs _ _ _ _ hz.f hz.h w
 have HM:Hid (mayZ z=(mayQ z.a z.b z.c z.d && mayQ z.e z.f z.g z.h)):=rfl
 generalize mayZ z=m at *
 generalize mayQ z.a z.b z.c z.d=p at *
 generalize mayQ z.e z.f z.g z.h=q at *
 clear hz
 cases p
 ·go_enter Tryz.func66,Tryz.ntmps66
  go_wp2_with fail
  refine(HA.out _).mono ?_
  rintro e w1 ⟨rfl,hg⟩
  have HG:Hid (w.grownBy w1 none):=Za (grow1 _ _) hg
  clear hg
  go_wp2_with fail
  go_ret
  exact⟨Zh HM.out.symm,HG.out⟩
 ·go_enter Tryz.func66,Tryz.ntmps66
  go_wp2_with fail
  refine(HA.out _).mono ?_
  rintro e w1 ⟨rfl,hg⟩
  have HG:Hid (w.grownBy w1 none):=Za (grow1 _ _) hg
  have h:w1.heap[w.heap.size]?=some (zObj z):=(hg.block _ (by simp) (by simp)).trans (heap_alloc_new _ _)
  have c4:w1.cell? ⟨w.heap.size,4,none⟩=some (.bool z.e):=by simp [World.cell?,h]
  have c5:w1.cell? ⟨w.heap.size,5,none⟩=some (.string z.f):=by simp [World.cell?,h]
  have c6:w1.cell? ⟨w.heap.size,6,none⟩=some (.bool z.g):=by simp [World.cell?,h]
  have c7:w1.cell? ⟨w.heap.size,7,none⟩=some (.string z.h):=by simp [World.cell?,h]
  clear hg h
  go_wp2_with fail
  refine(HB.out _).mono ?_
  rintro e w2 ⟨rfl,hg⟩
  have HG2:Hid (w.grownBy w2 none):=Za HG.out hg
  clear hg
  go_wp2_with fail
  go_ret
  exact⟨Zh HM.out.symm,HG2.out⟩
theorem ZX (w:World) (x y:Ag) (u v:Value) (hx:x.Fit) (hy:y.Fit) (hu:Ints w u x.wd) (hv:Ints w v y.wd) :
    Calls Tryz.prog 36 #[agv x u,agv y v] w fun e w'=>e=.returned (.bool (x.eqb y))∧w.grownBy w' none:=by
 have HE:Hid (∀W,w.grownBy W none→Calls Tryz.prog 27 #[u,v] W fun e w'=>e=.returned (.bool (decide (x.wd=y.wd)))∧W.grownBy w' none):=fun W hg=>Jg W u v _ _ (hu.kept hg) (hv.kept hg) hx.wd hy.wd
 have HNe:Hid (x.eqb y=true→x=y):=Ag.eqb_iff.1
 have HEq:Hid (x.eqb y=false→x≠y):=fun h e=>by rw [Ag.eqb_iff.2 e]at h;cases h
 clear hx hy hu hv
 generalize hq:x.eqb y=q at *
 clear hq
 by_cases hw:x.wd=y.wd
 ·have HE2:Hid (∀W,w.grownBy W none→Calls Tryz.prog 27 #[u,v] W fun e w'=>e=.returned (.bool true)∧W.grownBy w' none):=by
    rw [decide_eq_true hw]at HE
    exact HE
  clear HE
  have HW:Hid (x.wd=y.wd):=hw
  clear hw
  go_enter Tryz.func36,Tryz.ntmps36
  go_wp2_with fail
  refine(HE2.out _ (grow2 _ _ _)).mono ?_
  rintro e w1 ⟨rfl,hg⟩
  have HG:Hid (w.grownBy w1 none):=Za (grow2 _ _ _) hg
  have hA:ABk w1 w.heap.size x u:=(hg.block _ (by simp;omega) (by simp)).trans (Zx _ _ _)
  have hB:ABk w1 (w.heap.size+1) y v:=by
   have h0:=heap_alloc_new (w.alloc (.cells (agc x u) 45)) (.cells (agc y v) 45)
   have e:(w.alloc (.cells (agc x u) 45)).heap.size=w.heap.size+1:=by simp
   rw [e]at h0
   exact(hg.block _ (by simp) (by simp)).trans h0
  have a0:=hA.at.c0
  have b0:=hB.at.c0
  have a1:=hA.at.c1
  have b1:=hB.at.c1
  have a2:=hA.at.c2
  have b2:=hB.at.c2
  have a3:=hA.at.c3
  have b3:=hB.at.c3
  have a4:=hA.at.c4
  have b4:=hB.at.c4
  have a5:=hA.at.c5
  have b5:=hB.at.c5
  have a6:=hA.at.c6
  have b6:=hB.at.c6
  have a7:=hA.at.c7
  have b7:=hB.at.c7
  have a8:=hA.at.c8
  have b8:=hB.at.c8
  have a9:=hA.at.c9
  have b9:=hB.at.c9
  have a10:=hA.at.c10
  have b10:=hB.at.c10
  have a11:=hA.at.c11
  have b11:=hB.at.c11
  simp only [Nat.zero_add]at a0 a1 a2 a3 a4 a5 a6 a7 a8 a9 a10 a11 b0 b1 b2 b3 b4 b5 b6 b7 b8 b9 b10 b11
  clear hA hB hg a10 b10
  go_wp2_with fail
  rotate_left
  all_goals first
   |(go_ret
     refine⟨Zh ?_,HG.out⟩
     cases q
     ·rfl
     ·exfalso
      obtain rfl:=HNe.out rfl
      simp_all)
   |skip
  go_ret
  refine⟨Zh ?_,HG.out⟩
  clear a0 a1 a2 a3 a4 a5 a6 a7 a8 a9 a11 b0 b1 b2 b3 b4 b5 b6 b7 b8 b9 b11
  rename_i h9 h8 h7 h6 h5 h4 h3 h2 h1 h0
  have hxy:x=y ↔ x.ct=y.ct:=by
   refine⟨fun e=>by rw [e],fun e=>?_⟩
   have n8:=YQ h8
   have n6:=YQ h6
   have n4:=YQ h4
   have n2:=YQ h2
   have n0:=YQ h0
   have hW:=HW.out
   obtain⟨xk,xn,⟨x1,x2,x3,x4,x5,x6,x7,x8⟩,xw,xc⟩:=x
   obtain⟨yk,yn,⟨y1,y2,y3,y4,y5,y6,y7,y8⟩,yw,yc⟩:=y
   simp only at *
   subst h9 n8 h7 n6 h5 n4 h3 n2 h1 n0 hW e
   rfl
  cases q
  ·have:=HEq.out rfl
   rw [Ne,hxy]at this
   simpa using this
  ·have:=HNe.out rfl
   rw [hxy]at this
   simpa using this
 ·have HE2:Hid (∀W,w.grownBy W none→Calls Tryz.prog 27 #[u,v] W fun e w'=>e=.returned (.bool false)∧W.grownBy w' none):=by
    rw [decide_eq_false hw]at HE
    exact HE
  clear HE
  have HW:Hid (x.wd≠y.wd):=hw
  clear hw
  go_enter Tryz.func36,Tryz.ntmps36
  go_wp2_with fail
  refine(HE2.out _ (grow2 _ _ _)).mono ?_
  rintro e w1 ⟨rfl,hg⟩
  have HG:Hid (w.grownBy w1 none):=Za (grow2 _ _ _) hg
  clear hg
  go_wp2_with fail
  go_ret
  refine⟨Zh ?_,HG.out⟩
  cases q
  ·rfl
  ·exact absurd (congrArg Ag.wd (HNe.out rfl)) HW.out
theorem may_1 (a:Ag) (hk:a.k=1):mayA a=(isNm a.nm && a.eqb ⟨1,a.nm,Gz.zero,[],0⟩):=by
 simp [mayA,hk,Ag.eqb]
theorem may_2 (a:Ag) (hk:a.k=2):mayA a=(mayZ a.z && a.eqb ⟨2,eS,a.z,[],0⟩):=by
 have e:a.z.eqb a.z=true:=Gz.eqb_iff.2 rfl
 have e2:Gz.zero.eqb Gz.zero=true:=Gz.eqb_iff.2 rfl
 simp [mayA,hk,Ag.eqb,e,e2]
theorem may_4 (a:Ag) (hk:a.k=4):mayA a=(isWd a.wd && a.eqb ⟨4,eS,Gz.zero,a.wd,0⟩):=by
 simp [mayA,hk,Ag.eqb]
theorem may_5 (a:Ag) (hk:a.k=5):mayA a=(isCt a.ct && a.eqb ⟨5,eS,Gz.zero,[],a.ct⟩):=by
 simp [mayA,hk,Ag.eqb]
theorem may_3 (a:Ag) (hk:a.k=3):mayA a=a.eqb ⟨3,eS,Gz.zero,[],0⟩:=by
 simp [mayA,hk]
theorem rMay_3 (w:World) (a:Ag) (u:Value) (ha:a.Fit) (hu:Ints w u a.wd) (hk:a.k=3) :
    Calls Tryz.prog 42 #[agv a u] w fun e w'=>e=.returned (.bool (mayA a))∧w.grownBy w' none:=by
 have HM:Hid (mayA a=a.eqb (blank 3)):=may_3 a hk
 have HS:Hid (∀W,w.grownBy W none→Calls Tryz.prog 36 #[agv a u,agv (blank 3) (.slice none 0 0)] W fun e w'=>e=.returned (.bool (a.eqb (blank 3)))∧W.grownBy w' none):=fun W hg =>
  ZX W a (blank 3) u _ ha (ZS 3) (hu.kept hg) (Ints.nil _)
 obtain⟨ab,c,rfl⟩:=hu.form
 obtain⟨k,nm,z,wd,ct⟩:=a
 simp only at hk
 subst hk
 clear ha hu
 generalize mayA _=m at *
 generalize Ag.eqb _ _=q at *
 generalize wd.length=n at *
 go_enter Tryz.func42,Tryz.ntmps42
 go_wp2_with fail
 refine(HS.out _ (grow2 _ _ _)).mono ?_
 rintro e w1 ⟨rfl,hg⟩
 have HG:Hid (w.grownBy w1 none):=Za (grow2 _ _ _) hg
 clear hg
 go_wp2_with fail
 go_ret
 exact⟨Zh HM.out.symm,HG.out⟩
theorem rMay_1 (w:World) (a:Ag) (u:Value) (ha:a.Fit) (hu:Ints w u a.wd) (hk:a.k=1) :
    Calls Tryz.prog 42 #[agv a u] w fun e w'=>e=.returned (.bool (mayA a))∧w.grownBy w' none:=by
 have HM:Hid (mayA a=(isNm a.nm && a.eqb ⟨1,a.nm,Gz.zero,[],0⟩)):=may_1 a hk
 have HS:Hid (∀W,w.grownBy W none→Calls Tryz.prog 36 #[agv a u,agv ⟨1,a.nm,Gz.zero,[],0⟩ (.slice none 0 0)] W fun e w'=>e=.returned (.bool (a.eqb ⟨1,a.nm,Gz.zero,[],0⟩))∧W.grownBy w' none):=fun W hg =>
  ZX W a ⟨1,a.nm,Gz.zero,[],0⟩ u _ ha ⟨ha.nm,(ZS 1).z,by simp⟩ (hu.kept hg) (Ints.nil _)
 have HC:Hid (∀W,Calls Tryz.prog 41 #[.string a.nm] W fun e w'=>e=.returned (.bool (isNm a.nm))∧w'=W):=fun W=>UH _ ha.nm W
 obtain⟨ab,c,rfl⟩:=hu.form
 obtain⟨k,nm,z,wd,ct⟩:=a
 simp only at hk
 subst hk
 clear ha hu
 simp only at HM HS HC
 generalize mayA _=m at *
 generalize Ag.eqb _ _=q at *
 generalize isNm nm=p at *
 generalize wd.length=n at *
 cases p
 ·go_enter Tryz.func42,Tryz.ntmps42
  go_wp2_with fail
  refine(HC.out _).mono ?_
  rintro e w1 ⟨rfl,rfl⟩
  go_wp2_with fail
  go_ret
  exact⟨Zh HM.out.symm,by first|exact grow2 _ _ _|(refine Zb (grow2 _ _ _) ?_;omega)⟩
 ·go_enter Tryz.func42,Tryz.ntmps42
  go_wp2_with fail
  refine(HC.out _).mono ?_
  rintro e w1 ⟨rfl,rfl⟩
  go_wp2_with fail
  refine(HS.out _ (by first|exact grow2 _ _ _|(refine Zb (grow2 _ _ _) ?_;omega))).mono ?_
  rintro e w1 ⟨rfl,hg⟩
  have HG:Hid (w.grownBy w1 none):=Za (by first|exact grow2 _ _ _|(refine Zb (grow2 _ _ _) ?_;omega)) hg
  clear hg
  go_wp2_with fail
  go_ret
  exact⟨Zh HM.out.symm,HG.out⟩
theorem rMay_5 (w:World) (a:Ag) (u:Value) (ha:a.Fit) (hu:Ints w u a.wd) (hk:a.k=5) :
    Calls Tryz.prog 42 #[agv a u] w fun e w'=>e=.returned (.bool (mayA a))∧w.grownBy w' none:=by
 have HM:Hid (mayA a=(isCt a.ct && a.eqb ⟨5,eS,Gz.zero,[],a.ct⟩)):=may_5 a hk
 have HS:Hid (∀W,w.grownBy W none→Calls Tryz.prog 36 #[agv a u,agv ⟨5,eS,Gz.zero,[],a.ct⟩ (.slice none 0 0)] W fun e w'=>e=.returned (.bool (a.eqb ⟨5,eS,Gz.zero,[],a.ct⟩))∧W.grownBy w' none):=fun W hg =>
  ZX W a ⟨5,eS,Gz.zero,[],a.ct⟩ u _ ha ⟨(ZS 5).nm,(ZS 5).z,by simp⟩ (hu.kept hg) (Ints.nil _)
 obtain⟨ab,c,rfl⟩:=hu.form
 obtain⟨k,nm,z,wd,ct⟩:=a
 simp only at hk
 subst hk
 clear ha hu
 simp only at HM HS
 have HCt:Hid (isCt ct=(decide (0≤ct) && decide (ct≤2147483647))):=rfl
 generalize mayA _=m at *
 generalize Ag.eqb _ _=q at *
 generalize wd.length=n at *
 by_cases hc:0≤ct∧ct≤2147483647
 ·obtain⟨h1,h2⟩:=hc
  have HM2:Hid (m=q):=by
   show _=_
   rw [HM.out,HCt.out,decide_eq_true h1,decide_eq_true h2]
   rfl
  clear HM HCt
  go_enter Tryz.func42,Tryz.ntmps42
  go_wp2_with fail
  refine(HS.out _ (by first|exact grow2 _ _ _|(refine Zb (grow2 _ _ _) ?_;omega))).mono ?_
  rintro e w1 ⟨rfl,hg⟩
  have HG:Hid (w.grownBy w1 none):=Za (by first|exact grow2 _ _ _|(refine Zb (grow2 _ _ _) ?_;omega)) hg
  clear hg
  go_wp2_with fail
  go_ret
  refine⟨Zh ?_,HG.out⟩
  rw [HM2.out]
  (try simp [h2])
 ·have HM2:Hid (m=false):=by
    show _=_
    rw [HM.out,HCt.out]
    simp
    intro h1 h2
    exact absurd ⟨h1,h2⟩ hc
  clear HM HCt
  rcases(show ct<0∨(0≤ct∧2147483647<ct)by omega)with h1|⟨h1,h2⟩
  all_goals clear hc
  all_goals go_enter Tryz.func42,Tryz.ntmps42
  all_goals go_wp2_with fail
  all_goals go_ret
  all_goals exact⟨Zh HM2.out.symm,by first|exact grow2 _ _ _|(refine Zb (grow2 _ _ _) ?_;omega)⟩
theorem rMay_2 (w:World) (a:Ag) (u:Value) (ha:a.Fit) (hu:Ints w u a.wd) (hk:a.k=2) :
    Calls Tryz.prog 42 #[agv a u] w fun e w'=>e=.returned (.bool (mayA a))∧w.grownBy w' none:=by
 have HM:Hid (mayA a=(mayZ a.z && a.eqb ⟨2,eS,a.z,[],0⟩)):=may_2 a hk
 have HS:Hid (∀W,w.grownBy W none→Calls Tryz.prog 36 #[agv a u,agv ⟨2,eS,a.z,[],0⟩ (.slice none 0 0)] W fun e w'=>e=.returned (.bool (a.eqb ⟨2,eS,a.z,[],0⟩))∧W.grownBy w' none):=fun W hg =>
  ZX W a ⟨2,eS,a.z,[],0⟩ u _ ha ⟨(ZS 2).nm,ha.z,by simp⟩ (hu.kept hg) (Ints.nil _)
 have HC:Hid (∀W,Calls Tryz.prog 66 #[gzv a.z] W fun e w'=>e=.returned (.bool (mayZ a.z))∧W.grownBy w' none):=fun W=>ZdF _ ha.z W
 obtain⟨ab,c,rfl⟩:=hu.form
 obtain⟨k,nm,z,wd,ct⟩:=a
 simp only at hk
 subst hk
 clear ha hu
 simp only at HM HS HC
 generalize mayA _=m at *
 generalize Ag.eqb _ _=q at *
 generalize mayZ z=p at *
 generalize wd.length=n at *
 cases p
 ·go_enter Tryz.func42,Tryz.ntmps42
  go_wp2_with fail
  refine(HC.out _).mono ?_
  rintro e w1 ⟨rfl,hg⟩
  have HG:Hid (w.grownBy w1 none):=Za (grow2 _ _ _) hg
  clear hg
  go_wp2_with fail
  go_ret
  exact⟨Zh HM.out.symm,HG.out⟩
 ·go_enter Tryz.func42,Tryz.ntmps42
  go_wp2_with fail
  refine(HC.out _).mono ?_
  rintro e w1 ⟨rfl,hg⟩
  have HG:Hid (w.grownBy w1 none):=Za (grow2 _ _ _) hg
  have hA:ABk w1 w.heap.size ⟨2,nm,z,wd,ct⟩ (.slice ab n c):=(hg.block _ (by simp;omega) (by simp)).trans (Zx _ _ _)
  have hB:ABk w1 (w.heap.size+1) ⟨2,eS,z,[],0⟩ (.slice none 0 0):=by
   have h0:=heap_alloc_new (w.alloc (.cells (agc ⟨2,nm,z,wd,ct⟩ (.slice ab n c)) 45)) (.cells (agc ⟨2,eS,z,[],0⟩ (.slice none 0 0)) 45)
   have e:(w.alloc (.cells (agc ⟨2,nm,z,wd,ct⟩ (.slice ab n c)) 45)).heap.size=w.heap.size+1:=by simp
   rw [e]at h0
   exact(hg.block _ (by simp) (by simp)).trans h0
  have a0:=hA.at.c0
  have b0:=hB.at.c0
  have a1:=hA.at.c1
  have b1:=hB.at.c1
  have a2:=hA.at.c2
  have b2:=hB.at.c2
  have a3:=hA.at.c3
  have b3:=hB.at.c3
  have a4:=hA.at.c4
  have b4:=hB.at.c4
  have a5:=hA.at.c5
  have b5:=hB.at.c5
  have a6:=hA.at.c6
  have b6:=hB.at.c6
  have a7:=hA.at.c7
  have b7:=hB.at.c7
  have a8:=hA.at.c8
  have b8:=hB.at.c8
  have a9:=hA.at.c9
  have b9:=hB.at.c9
  have a10:=hA.at.c10
  have b10:=hB.at.c10
  have a11:=hA.at.c11
  have b11:=hB.at.c11
  simp only [Nat.zero_add]at a0 a1 a2 a3 a4 a5 a6 a7 a8 a9 a10 a11 b0 b1 b2 b3 b4 b5 b6 b7 b8 b9 b10 b11
  clear hA hB hg
  go_wp2_with fail
  refine(HS.out _ HG.out).mono ?_
  rintro e w2 ⟨rfl,hg⟩
  have HG2:Hid (w.grownBy w2 none):=Za HG.out hg
  clear hg
  go_wp2_with fail
  go_ret
  exact⟨Zh HM.out.symm,HG2.out⟩
theorem rMay_4 (w:World) (a:Ag) (u:Value) (ha:a.Fit) (hu:Ints w u a.wd) (hk:a.k=4) :
    Calls Tryz.prog 42 #[agv a u] w fun e w'=>e=.returned (.bool (mayA a))∧w.grownBy w' none:=by
 have HM:Hid (mayA a=(isWd a.wd && a.eqb ⟨4,eS,Gz.zero,a.wd,0⟩)):=may_4 a hk
 have HS:Hid (∀W,w.grownBy W none→Calls Tryz.prog 36 #[agv a u,agv ⟨4,eS,Gz.zero,a.wd,0⟩ u] W fun e w'=>e=.returned (.bool (a.eqb ⟨4,eS,Gz.zero,a.wd,0⟩))∧W.grownBy w' none):=fun W hg =>
  ZX W a ⟨4,eS,Gz.zero,a.wd,0⟩ u _ ha ⟨(ZS 2).nm,(ZS 2).z,ha.wd⟩ (hu.kept hg) (hu.kept hg)
 obtain⟨ab,c,rfl,HR⟩:=hu.reads
 obtain⟨k,nm,z,wd,ct⟩:=a
 have HR1:Hid (∀w',w.grownBy w' none→∀i,i<wd.length→∃B off,ab=some ⟨B,off,none⟩∧w'.cell? ⟨B,off+i,none⟩=some (.int .i64 (wd[i]?.getD 0))∧wd.length≤c):=HR
 have hlen:wd.length≤1000000000000:=ha.wd
 simp only at hk
 subst hk
 clear ha hu HR
 simp only at HM HS
 generalize mayA _=m at *
 generalize Ag.eqb _ _=q at *
 obtain⟨n,hn⟩:∃n,wd.length=n:=⟨_,rfl⟩
 have HN:Unit→wd.length=n:=fun _=>hn
 rw [hn]at HR1 HS hlen
 have HW:Hid (isWd wd=(decide (n≤4096) && wd.all isLt)):=by
  show _=_
  unfold isWd
  rw [hn]
 simp only
 rw [hn]
 clear hn
 have hnI:(n:Int)≤1000000000000:=by omega
 generalize hm:isWd wd=p at *
 clear hm
 have HE:Hid (m=(p && q)):=HM.out
 clear HM hlen
 go_enter Tryz.func42,Tryz.ntmps42
 go_wp2_with fail
 have hA:ABk ((w.alloc (.cells (agc ⟨4,nm,z,wd,ct⟩ (.slice ab n c)) 45)).alloc (.cells (agc ⟨4,eS,Gz.zero,wd,0⟩ (.slice ab n c)) 45)) w.heap.size ⟨4,nm,z,wd,ct⟩ (.slice ab n c):=Zx _ _ _
 have hB:ABk ((w.alloc (.cells (agc ⟨4,nm,z,wd,ct⟩ (.slice ab n c)) 45)).alloc (.cells (agc ⟨4,eS,Gz.zero,wd,0⟩ (.slice ab n c)) 45)) (w.heap.size+1) ⟨4,eS,Gz.zero,wd,0⟩ (.slice ab n c):=by
  have h0:=heap_alloc_new (w.alloc (.cells (agc ⟨4,nm,z,wd,ct⟩ (.slice ab n c)) 45)) (.cells (agc ⟨4,eS,Gz.zero,wd,0⟩ (.slice ab n c)) 45)
  have e:(w.alloc (.cells (agc ⟨4,nm,z,wd,ct⟩ (.slice ab n c)) 45)).heap.size=w.heap.size+1:=by simp
  rw [e]at h0
  exact h0
 have hG:w.grownBy ((w.alloc (.cells (agc ⟨4,nm,z,wd,ct⟩ (.slice ab n c)) 45)).alloc (.cells (agc ⟨4,eS,Gz.zero,wd,0⟩ (.slice ab n c)) 45)) none:=grow2 _ _ _
 change Code.wp _ _ _ _ ((w.alloc (.cells (agc ⟨4,nm,z,wd,ct⟩ (.slice ab n c)) 45)).alloc (.cells (agc ⟨4,eS,Gz.zero,wd,0⟩ (.slice ab n c)) 45))
 generalize((w.alloc (.cells (agc ⟨4,nm,z,wd,ct⟩ (.slice ab n c)) 45)).alloc (.cells (agc ⟨4,eS,Gz.zero,wd,0⟩ (.slice ab n c)) 45))=w2 at *
 have a10:=hA.at.c10
 simp only [Nat.zero_add]at a10
 have HA:Hid (ABk w2 w.heap.size ⟨4,nm,z,wd,ct⟩ (.slice ab n c)):=hA
 have HB:Hid (ABk w2 (w.heap.size+1) ⟨4,eS,Gz.zero,wd,0⟩ (.slice ab n c)):=hB
 have HG:Hid (w.grownBy w2 none):=hG
 have HW2:Hid (p=(decide (n≤4096) && wd.all isLt)):=HW.out
 clear hA hB hG HW
 have HFin:Hid (∀(i:Nat) (f:Bool),(f=true→n≤4096∧(wd.take i).all isLt=true)→(f=false→p=false)→(f=false∨i=n)→f=p):=by
  intro i f h1 h2 h3
  cases f
  ·exact(h2 rfl).symm
  ·rcases h3 with h3|rfl
   ·cases h3
   ·have:=h1 rfl
    rw [HW2.out,decide_eq_true this.1]
    have e:=this.2
    rw [←HN (),List.take_length]at e
    rw [e]
    rfl
 go_loopw [4,5] (fun fl ix wr=>∃(i:Nat) (f:Bool),i≤n∧ix=.int .i64 i∧fl=.bool f∧(f=true→n≤4096∧(wd.take i).all isLt=true)∧(f=false→p=false)∧wr=w2) (fun _ ix _=>match ix with|.int _ i=>n-i.toNat|_=>0)
 case atStart =>
  refine⟨0,decide ((n:Int)≤4096),by omega,rfl,rfl,fun h=>⟨by simp at h;omega,rfl⟩,fun h=>?_,rfl⟩
  have:¬n≤4096:=by
   simp at h
   omega
  rw [HW2.out,decide_eq_false this]
  rfl
 case round =>
  obtain⟨i,f,hi,rfl,rfl,hf1,hf2,rfl⟩:=hrel
  have HF1:Hid (f=true→n≤4096∧(wd.take i).all isLt=true):=hf1
  have HF2:Hid (f=false→p=false):=hf2
  clear hf1 hf2
  by_cases hgo:i<n∧f=true
  ·obtain⟨hlt,rfl⟩:=hgo
   obtain⟨B1,off,rfl,hc,hnc⟩:=HR1.out wr HG.out i hlt
   have hltI:(i:Int)<n:=by omega
   have hlt':i<wd.length:=by rw [HN ()];exact hlt
   have HT:Hid (isLt (wd[i]?.getD 0)=true→n≤4096∧(wd.take (i+1)).all isLt=true):=fun h=>⟨(HF1.out rfl).1,J0 (HF1.out rfl).2 hlt' h⟩
   have HX:Hid (isLt (wd[i]?.getD 0)=false→p=false):=fun h=>by
    rw [HW2.out,ZbJ hlt' h]
    simp
   clear hlt'
   generalize wd[i]?.getD 0=x at *
   have HL:Hid (isLt x=(decide (x≠0) && (decide (-4096≤x) && decide (x≤4096)))):=rfl
   have hcase:(x=0∧isLt x=false)∨(x≠0∧4096<x∧isLt x=false)∨(x≠0∧x≤4096∧x < -4096∧isLt x=false)∨(x≠0∧x≤4096∧-4096≤x∧isLt x=true):=by
    have h:isLt x=true ↔ (x≠0∧-4096≤x∧x≤4096):=by
     rw [HL.out]
     simp
    have h':isLt x=false ↔ ¬(x≠0∧-4096≤x∧x≤4096):=by
     rw [←h]
     simp
    rw [h,h']
    omega
   clear HL
   generalize isLt x=b at *
   rcases hcase with ⟨h1,rfl⟩|⟨h1,h2,rfl⟩|⟨h1,h2,h3,rfl⟩|⟨h1,h2,h3,rfl⟩
   ·subst h1
    go_wp2_with fail
    go_roundw
    case rel=>exact⟨i+1,false,by omega,Zl (by omega),by(first|rfl|(rw [decide_eq_false (by omega)])),fun h=>by(first|cases h|exact absurd h (by simp)),fun _=>HX.out rfl,trivial⟩
    case measure=>simp;omega
   ·have hb:(x != 0)=true:=by simpa using h1
    clear h1
    go_wp2_with fail
    go_roundw
    case rel=>exact⟨i+1,false,by omega,Zl (by omega),by(first|rfl|(rw [decide_eq_false (by omega)])),fun h=>by(first|cases h|exact absurd h (by simp)),fun _=>HX.out rfl,trivial⟩
    case measure=>simp;omega
   ·have hb:(x != 0)=true:=by simpa using h1
    clear h1
    go_wp2_with fail
    go_roundw
    case rel=>exact⟨i+1,false,by omega,Zl (by omega),by(first|rfl|(rw [decide_eq_false (by omega)])),fun h=>by(first|cases h|exact absurd h (by simp)),fun _=>HX.out rfl,trivial⟩
    case measure=>simp;omega
   ·have hb:(x != 0)=true:=by simpa using h1
    clear h1
    go_wp2_with fail
    go_roundw
    case rel=>exact⟨i+1,true,by omega,Zl (by omega),by(first|rfl|(rw [decide_eq_true (by omega)])),fun _=>HT.out rfl,fun h=>by(first|cases h|exact absurd h (by simp)),trivial⟩
    case measure=>simp;omega
  ·have HFp:Hid (f=p):=HFin.out i f HF1.out HF2.out (by
     cases f
     ·exact .inl rfl
     ·exact .inr (by simp at hgo;omega))
   have hstop:(f=false)∨(f=true∧(n:Int)≤i):=by
    cases f
    ·exact .inl rfl
    ·exact .inr ⟨rfl,by simp at hgo;omega⟩
   have hA:=HA.out
   have hB:=HB.out
   have e0:=hA.at.c0
   have b0:=hB.at.c0
   have e1:=hA.at.c1
   have b1:=hB.at.c1
   have e2:=hA.at.c2
   have b2:=hB.at.c2
   have e3:=hA.at.c3
   have b3:=hB.at.c3
   have e4:=hA.at.c4
   have b4:=hB.at.c4
   have e5:=hA.at.c5
   have b5:=hB.at.c5
   have e6:=hA.at.c6
   have b6:=hB.at.c6
   have e7:=hA.at.c7
   have b7:=hB.at.c7
   have e8:=hA.at.c8
   have b8:=hB.at.c8
   have e9:=hA.at.c9
   have b9:=hB.at.c9
   have e10:=hA.at.c10
   have b10:=hB.at.c10
   have e11:=hA.at.c11
   have b11:=hB.at.c11
   simp only [Nat.zero_add]at e0 e1 e2 e3 e4 e5 e6 e7 e8 e9 e10 e11 b0 b1 b2 b3 b4 b5 b6 b7 b8 b9 b10 b11
   clear hA hB hgo a10
   have hiI:(i:Int)≤n:=by omega
   rcases hstop with rfl|⟨rfl,hni⟩
   ·have HM2:Hid (m=false):=by
      show _=_
      rw [HE.out,←HFp.out]
      rfl
    go_wp2_with fail
    all_goals go_ret
    all_goals exact⟨Zh HM2.out.symm,HG.out⟩
   ·have HM2:Hid (m=q):=by
      show _=_
      rw [HE.out,←HFp.out]
      rfl
    go_wp2_with fail
    all_goals refine(HS.out _ HG.out).mono ?_
    all_goals rintro e w3 ⟨rfl,hg⟩
    all_goals have HG3:Hid (w.grownBy w3 none):=Za HG.out hg
    all_goals clear hg
    all_goals go_wp2_with fail
    all_goals go_ret
    all_goals exact⟨Zh HM2.out.symm,HG3.out⟩
theorem rMay_0 (w:World) (a:Ag) (u:Value) (hu:Ints w u a.wd) (h1:a.k≠1) (h2:a.k≠2) (h3:a.k≠3) (h4:a.k≠4) (h5:a.k≠5) :
    Calls Tryz.prog 42 #[agv a u] w fun e w'=>e=.returned (.bool (mayA a))∧w.grownBy w' none:=by
 have HM:Hid (mayA a=false):=by
  show _=_
  simp [mayA,h1,h2,h3,h4,h5]
 obtain⟨ab,c,rfl⟩:=hu.form
 obtain⟨k,nm,z,wd,ct⟩:=a
 simp only at h1 h2 h3 h4 h5
 have e1:(k == 1)=false:=by simpa using h1
 have e2:(k == 2)=false:=by simpa using h2
 have e3:(k == 3)=false:=by simpa using h3
 have e4:(k == 4)=false:=by simpa using h4
 have e5:(k == 5)=false:=by simpa using h5
 clear hu h1 h2 h3 h4 h5
 generalize mayA _=m at *
 generalize wd.length=n at *
 go_enter Tryz.func42,Tryz.ntmps42
 go_wp2_with fail
 go_ret
 exact⟨Zh HM.out.symm,grow2 _ _ _⟩
theorem Za5 (w:World) (a:Ag) (u:Value) (ha:a.Fit) (hu:Ints w u a.wd) :
    Calls Tryz.prog 42 #[agv a u] w fun e w'=>e=.returned (.bool (mayA a))∧w.grownBy w' none:=by
 by_cases h1:a.k=1
 ·exact rMay_1 w a u ha hu h1
 by_cases h2:a.k=2
 ·exact rMay_2 w a u ha hu h2
 by_cases h3:a.k=3
 ·exact rMay_3 w a u ha hu h3
 by_cases h4:a.k=4
 ·exact rMay_4 w a u ha hu h4
 by_cases h5:a.k=5
 ·exact rMay_5 w a u ha hu h5
 exact rMay_0 w a u hu h1 h2 h3 h4 h5
abbrev sObj (vb nm:ByteArray) (u:Value):Obj:=.cells #[.string vb,.string nm,u] 24
theorem UF {w w':World} {vb nm:ByteArray} {u:Value} (h:(w.alloc (sObj vb nm u)).grownBy w' none):w'.cell? ⟨w.heap.size,2,none⟩=some u :=
 Zd h (by
  have h0:=heap_alloc_new w (sObj vb nm u)
  simp only [World.cell?,h0]
  rfl) (by simp)
theorem XO (w:World) (v:Value) (s:St) (hv:Stv w v s) (hs:s.Fit) :
    Calls Tryz.prog 16 #[v] w fun e w'=>e=.returned (.int .i64 (chkS s))∧w.grownBy w' none:=by
 obtain⟨u,rfl,hA⟩:=hv
 obtain⟨ab,c,rfl,HR⟩:=hA.reads
 obtain⟨vb,nm,ags⟩:=s
 simp only at HR
 have HR1:Hid (∀w',w.grownBy w' none→∀i a,ags[i]?=some a→∃B off wv,ab=some ⟨B,off,none⟩∧AgAt w' B (off+i*12) a wv∧Ints w' wv a.wd∧ags.length≤c):=HR
 have HF:Hid (∀a∈ags,a.Fit):=hs.ags
 have HV:=J7 vb hs.vb
 have HN:=UH nm hs.nm
 have hlen:ags.length≤1000000000000:=hs.len
 have HO:Hid (chkS ⟨vb,nm,ags⟩=if(isVb vb && ((decide (nm.size=0) || isNm nm) && (decide (ags.length≤64) && ags.all mayA)))then 0 else 2):=rfl
 clear HR hA hs
 generalize chkS _=r at *
 generalize isVb vb=bv at *
 obtain⟨n,hn⟩:∃n,ags.length=n:=⟨_,rfl⟩
 have HLn:Unit→ags.length=n:=fun _=>hn
 simp only
 rw [hn]at HO hlen ⊢
 simp only [hn]at HR1
 clear hn
 cases bv
 ·go_enter Tryz.func16,Tryz.ntmps16
  go_wp2_with fail
  refine(HV _).mono ?_
  rintro e w1 ⟨rfl,rfl⟩
  go_wp2_with fail
  go_ret
  exact⟨Zv HO.out.symm,grow1 _ _⟩
 by_cases h0:nm.size=0
 ·obtain rfl:=Zi h0
  by_cases h64:n≤64
  ·have h64I:(n:Int)≤64:=by omega
   have HO2:Hid (r=if ags.all mayA=true then 0 else 2):=by
    have:=HO.out
    rw [decide_eq_true h64,decide_eq_true h0]at this
    rw [this]
    rfl
   clear HO h0 h64
   go_enter Tryz.func16,Tryz.ntmps16
   go_wp2_with fail
   refine(HV _).mono ?_
   rintro e w1 ⟨rfl,rfl⟩
   go_wp2_with fail
   go_loopw [3] (fun s' wr=>∃i:Nat,i≤n∧s'=.int .i64 i∧(ags.take i).all mayA=true∧(w.alloc (sObj vb ByteArray.empty (.slice ab n c))).grownBy wr none) (fun s _=>match s with|.int _ i=>n-i.toNat|_=>0)
   case atStart=>exact⟨0,by omega,rfl,rfl,grow0 _⟩
   case round =>
    obtain⟨i,hi,rfl,hp,hg⟩:=hrel
    have HP:Hid ((ags.take i).all mayA=true):=hp
    have HGb:Hid ((w.alloc (sObj vb ByteArray.empty (.slice ab n c))).grownBy wr none):=hg
    have HG:Hid (w.grownBy wr none):=Za (grow1 _ _) hg
    have s2:=UF hg
    clear hp hg
    by_cases hlt:i<n
    ·have hlt':i<ags.length:=by rw [HLn ()];exact hlt
     obtain⟨a,hia⟩:∃a,ags[i]?=some a:=⟨_,List.getElem?_eq_getElem hlt'⟩
     obtain⟨B,off,wv,rfl,hat,hin,hnc⟩:=HR1.out wr HG.out i _ hia
     have hfit:=HF.out a (List.mem_of_getElem? hia)
     have HT:Hid (mayA a=true→(ags.take (i+1)).all mayA=true):=fun hf=>XH HP.out hia hf
     have HX:Hid (mayA a=false→r=2):=fun hf=>by
      have:=HO2.out
      rw [Vp hia hf]at this
      exact this
     clear hlt' hia
     have HC:Hid (∀W,wr.grownBy W none→Calls Tryz.prog 42 #[agv a wv] W fun e w'=>e=.returned (.bool (mayA a))∧W.grownBy w' none):=fun W hg=>Za5 W a wv hfit (hin.kept hg)
     obtain⟨ab2,c2,rfl⟩:=hin.form
     generalize a.wd.length=n2 at *
     generalize mayA a=q at *
     obtain⟨k0,k1,k2,k3,k4,k5,k6,k7,k8,k9,k10,k11⟩:=hat
     have hltI:(i:Int)<n:=by omega
     clear hin hfit
     cases q
     ·go_wp2_with fail
      refine(HC.out _ (grow0 _)).mono ?_
      rintro e w1 ⟨rfl,hg⟩
      have HG1:Hid (w.grownBy w1 none):=Za HG.out hg
      have HG2:Hid ((w.alloc (sObj vb ByteArray.empty (.slice (some ⟨B,off,none⟩) n c))).grownBy w1 none):=Za HGb.out hg
      clear hg
      go_wp2_with fail
      go_ret
      exact⟨Zv (HX.out trivial).symm,HG1.out⟩
     ·go_wp2_with fail
      refine(HC.out _ (grow0 _)).mono ?_
      rintro e w1 ⟨rfl,hg⟩
      have HG1:Hid (w.grownBy w1 none):=Za HG.out hg
      have HG2:Hid ((w.alloc (sObj vb ByteArray.empty (.slice (some ⟨B,off,none⟩) n c))).grownBy w1 none):=Za HGb.out hg
      clear hg
      go_wp2_with fail
      go_roundw
      case rel=>exact⟨i+1,by omega,Zl (by omega),HT.out trivial,HG2.out⟩
      case measure=>simp;omega
    ·have e:i=n:=by omega
     subst e
     have HX:Hid (r=0):=by
      have h1:=HO2.out
      have h2:=HP.out
      rw [←HLn (),List.take_length]at h2
      rw [h2]at h1
      exact h1
     go_wp2
     go_ret
     exact⟨Zv HX.out.symm,HG.out⟩
  ·have h64I:(65:Int)≤n:=by omega
   have hnI:(n:Int)≤1000000000000:=by omega
   have HO2:Hid (r=2):=by
    have:=HO.out
    rw [decide_eq_false h64]at this
    simp at this
    exact this
   clear HO h0 h64 hlen
   go_enter Tryz.func16,Tryz.ntmps16
   go_wp2_with fail
   refine(HV _).mono ?_
   rintro e w1 ⟨rfl,rfl⟩
   go_wp2_with fail
   go_ret
   exact⟨Zv HO2.out.symm,grow1 _ _⟩
 ·have he:=Zu h0
  generalize isNm nm=bn at *
  cases bn
  ·have HO2:Hid (r=2):=by
     have:=HO.out
     rw [decide_eq_false h0]at this
     exact this
   go_enter Tryz.func16,Tryz.ntmps16
   go_wp2_with fail
   refine(HV _).mono ?_
   rintro e w1 ⟨rfl,rfl⟩
   go_wp2_with fail
   refine(HN _).mono ?_
   rintro e w1 ⟨rfl,rfl⟩
   go_wp2_with fail
   go_ret
   exact⟨Zv HO2.out.symm,grow1 _ _⟩
  by_cases h64:n≤64
  ·have h64I:(n:Int)≤64:=by omega
   have HO2:Hid (r=if ags.all mayA=true then 0 else 2):=by
    have:=HO.out
    rw [decide_eq_true h64,decide_eq_false h0]at this
    rw [this]
    rfl
   clear HO h0 h64
   go_enter Tryz.func16,Tryz.ntmps16
   go_wp2_with fail
   refine(HV _).mono ?_
   rintro e w1 ⟨rfl,rfl⟩
   go_wp2_with fail
   refine(HN _).mono ?_
   rintro e w1 ⟨rfl,rfl⟩
   go_wp2_with fail
   go_loopw [3] (fun s' wr=>∃i:Nat,i≤n∧s'=.int .i64 i∧(ags.take i).all mayA=true∧(w.alloc (sObj vb nm (.slice ab n c))).grownBy wr none) (fun s _=>match s with|.int _ i=>n-i.toNat|_=>0)
   case atStart=>exact⟨0,by omega,rfl,rfl,grow0 _⟩
   case round =>
    obtain⟨i,hi,rfl,hp,hg⟩:=hrel
    have HP:Hid ((ags.take i).all mayA=true):=hp
    have HGb:Hid ((w.alloc (sObj vb nm (.slice ab n c))).grownBy wr none):=hg
    have HG:Hid (w.grownBy wr none):=Za (grow1 _ _) hg
    have s2:=UF hg
    clear hp hg
    by_cases hlt:i<n
    ·have hlt':i<ags.length:=by rw [HLn ()];exact hlt
     obtain⟨a,hia⟩:∃a,ags[i]?=some a:=⟨_,List.getElem?_eq_getElem hlt'⟩
     obtain⟨B,off,wv,rfl,hat,hin,hnc⟩:=HR1.out wr HG.out i _ hia
     have hfit:=HF.out a (List.mem_of_getElem? hia)
     have HT:Hid (mayA a=true→(ags.take (i+1)).all mayA=true):=fun hf=>XH HP.out hia hf
     have HX:Hid (mayA a=false→r=2):=fun hf=>by
      have:=HO2.out
      rw [Vp hia hf]at this
      exact this
     clear hlt' hia
     have HC:Hid (∀W,wr.grownBy W none→Calls Tryz.prog 42 #[agv a wv] W fun e w'=>e=.returned (.bool (mayA a))∧W.grownBy w' none):=fun W hg=>Za5 W a wv hfit (hin.kept hg)
     obtain⟨ab2,c2,rfl⟩:=hin.form
     generalize a.wd.length=n2 at *
     generalize mayA a=q at *
     obtain⟨k0,k1,k2,k3,k4,k5,k6,k7,k8,k9,k10,k11⟩:=hat
     have hltI:(i:Int)<n:=by omega
     clear hin hfit
     cases q
     ·go_wp2_with fail
      refine(HC.out _ (grow0 _)).mono ?_
      rintro e w1 ⟨rfl,hg⟩
      have HG1:Hid (w.grownBy w1 none):=Za HG.out hg
      have HG2:Hid ((w.alloc (sObj vb nm (.slice (some ⟨B,off,none⟩) n c))).grownBy w1 none):=Za HGb.out hg
      clear hg
      go_wp2_with fail
      go_ret
      exact⟨Zv (HX.out trivial).symm,HG1.out⟩
     ·go_wp2_with fail
      refine(HC.out _ (grow0 _)).mono ?_
      rintro e w1 ⟨rfl,hg⟩
      have HG1:Hid (w.grownBy w1 none):=Za HG.out hg
      have HG2:Hid ((w.alloc (sObj vb nm (.slice (some ⟨B,off,none⟩) n c))).grownBy w1 none):=Za HGb.out hg
      clear hg
      go_wp2_with fail
      go_roundw
      case rel=>exact⟨i+1,by omega,Zl (by omega),HT.out trivial,HG2.out⟩
      case measure=>simp;omega
    ·have e:i=n:=by omega
     subst e
     have HX:Hid (r=0):=by
      have h1:=HO2.out
      have h2:=HP.out
      rw [←HLn (),List.take_length]at h2
      rw [h2]at h1
      exact h1
     go_wp2
     go_ret
     exact⟨Zv HX.out.symm,HG.out⟩
  ·have h64I:(65:Int)≤n:=by omega
   have hnI:(n:Int)≤1000000000000:=by omega
   have HO2:Hid (r=2):=by
    have:=HO.out
    rw [decide_eq_false h64]at this
    simp at this
    exact this
   clear HO h0 h64 hlen
   go_enter Tryz.func16,Tryz.ntmps16
   go_wp2_with fail
   refine(HV _).mono ?_
   rintro e w1 ⟨rfl,rfl⟩
   go_wp2_with fail
   refine(HN _).mono ?_
   rintro e w1 ⟨rfl,rfl⟩
   go_wp2_with fail
   go_ret
   exact⟨Zv HO2.out.symm,grow1 _ _⟩
end Go.Proofs.YtdcadiaeaclpgaaGreatDoor
