/- Arguments and statements, as a call has them. -/
import Derived.Test.YtdcadiaeaclpgaaGreatDoorBunSca
import Derived.Test.YtdcadiaeaclpgaaGreatDoorBunFrb
namespace Go.Proofs.YtdcadiaeaclpgaaGreatDoor
open Go.RowKit Go.Lib Go.Sort
set_option linter.unusedVariables false
set_option linter.unusedSimpArgs false
set_option maxHeartbeats 6400000
set_option maxRecDepth 1000000
structure Gz where
 a:Bool
 b:ByteArray
 c:Bool
 d:ByteArray
 e:Bool
 f:ByteArray
 g:Bool
 h:ByteArray
def Gz.eqb (x y:Gz):Bool:=x.a == y.a && (decide (x.b=y.b) && (x.c == y.c && (decide (x.d=y.d) && (x.e == y.e && (decide (x.f=y.f) && (x.g == y.g && decide (x.h=y.h)))))))
theorem Gz.eqb_iff {x y:Gz}:x.eqb y=true ↔ x=y:=by
 cases x;cases y
 simp [Gz.eqb]
def Gz.zero:Gz:=⟨false,eS,false,eS,false,eS,false,eS⟩
structure Ag where
 k:Int
 nm:ByteArray
 z:Gz
 wd:List Int
 ct:Int
def Ag.eqb (x y:Ag):Bool:=decide (x.k=y.k) && (decide (x.nm=y.nm) && (x.z.eqb y.z && (decide (x.wd=y.wd) && decide (x.ct=y.ct))))
theorem Ag.eqb_iff {x y:Ag}:x.eqb y=true ↔ x=y:=by
 cases x;cases y
 simp [Ag.eqb,Gz.eqb_iff]
abbrev gzv (z:Gz):Value:=.agg #[.bool z.a,.string z.b,.bool z.c,.string z.d,.bool z.e,.string z.f,.bool z.g,.string z.h]
abbrev agc (a:Ag) (wv:Value):Array Value:=#[.int .i64 a.k,.string a.nm,.bool a.z.a,.string a.z.b,.bool a.z.c,.string a.z.d,.bool a.z.e,.string a.z.f,.bool a.z.g,.string a.z.h,wv,.int .i64 a.ct]
abbrev agv (a:Ag) (wv:Value):Value:=.agg (agc a wv)
structure Gz.Fit (z:Gz):Prop where
 b:z.b.size≤maxLen
 d:z.d.size≤maxLen
 f:z.f.size≤maxLen
 h:z.h.size≤maxLen
structure Ag.Fit (a:Ag):Prop where
 nm:a.nm.size≤maxLen
 z:a.z.Fit
 wd:a.wd.length≤1000000000000
structure AgAt (w:World) (B o:Nat) (a:Ag) (wv:Value):Prop where
 c0:w.cell? ⟨B,o,none⟩=some (.int .i64 a.k)
 c1:w.cell? ⟨B,o+1,none⟩=some (.string a.nm)
 c2:w.cell? ⟨B,o+2,none⟩=some (.bool a.z.a)
 c3:w.cell? ⟨B,o+3,none⟩=some (.string a.z.b)
 c4:w.cell? ⟨B,o+4,none⟩=some (.bool a.z.c)
 c5:w.cell? ⟨B,o+5,none⟩=some (.string a.z.d)
 c6:w.cell? ⟨B,o+6,none⟩=some (.bool a.z.e)
 c7:w.cell? ⟨B,o+7,none⟩=some (.string a.z.f)
 c8:w.cell? ⟨B,o+8,none⟩=some (.bool a.z.g)
 c9:w.cell? ⟨B,o+9,none⟩=some (.string a.z.h)
 c10:w.cell? ⟨B,o+10,none⟩=some wv
 c11:w.cell? ⟨B,o+11,none⟩=some (.int .i64 a.ct)
theorem AgAt.kept {w w':World} {B o:Nat} {a:Ag} {wv:Value} {row:Option Nat} (h:AgAt w B o a wv) (hg:w.grownBy w' row) (hn:row≠some B):AgAt w' B o a wv :=
 ⟨Zd hg h.c0 hn,Zd hg h.c1 hn,Zd hg h.c2 hn,Zd hg h.c3 hn,Zd hg h.c4 hn,Zd hg h.c5 hn,Zd hg h.c6 hn,Zd hg h.c7 hn,Zd hg h.c8 hn,Zd hg h.c9 hn,Zd hg h.c10 hn,Zd hg h.c11 hn⟩
def Args (w:World) (v:Value) (L:List Ag):Prop :=
 (L=[]∧∃ab c,v=.slice ab 0 c)∨∃B off c,v=.slice (some ⟨B,off,none⟩) L.length c∧L.length≤c∧∀j a,L[j]?=some a→∃wv,AgAt w B (off+j*12) a wv∧Ints w wv a.wd
theorem Args.kept {w w':World} {v:Value} {L:List Ag} (h:Args w v L) (hg:w.grownBy w' none):Args w' v L:=by
 rcases h with h|⟨B,off,c,rfl,hc,h⟩
 ·exact .inl h
 ·refine .inr ⟨B,off,c,rfl,hc,fun j a ha=>?_⟩
  obtain⟨wv,h1,h2⟩:=h j a ha
  exact⟨wv,h1.kept hg (by simp),h2.kept hg⟩
theorem Args.reads {w:World} {v:Value} {L:List Ag} (h:Args w v L):∃ab c,v=.slice ab L.length c∧∀w',w.grownBy w' none→∀i a,L[i]?=some a→∃B off wv,ab=some ⟨B,off,none⟩∧AgAt w' B (off+i*12) a wv∧Ints w' wv a.wd∧L.length≤c:=by
 rcases h with ⟨rfl,ab,c,rfl⟩|⟨B,off,c,rfl,hc,h⟩
 ·exact⟨ab,c,rfl,fun _ _ i a ha=>by simp at ha⟩
 ·refine⟨_,c,rfl,fun w' hg i a ha=>?_⟩
  obtain⟨wv,h1,h2⟩:=h i a ha
  exact⟨B,off,wv,rfl,h1.kept hg (by simp),h2.kept hg,hc⟩
structure St where
 vb:ByteArray
 nm:ByteArray
 ags:List Ag
def Stv (w:World) (v:Value) (s:St):Prop:=∃u,v=.agg #[.string s.vb,.string s.nm,u]∧Args w u s.ags
theorem Stv.kept {w w':World} {v:Value} {s:St} (h:Stv w v s) (hg:w.grownBy w' none):Stv w' v s:=by
 obtain⟨u,rfl,h⟩:=h
 exact⟨u,rfl,h.kept hg⟩
structure St.Fit (s:St):Prop where
 vb:s.vb.size≤maxLen
 nm:s.nm.size≤maxLen
 len:s.ags.length≤1000000000000
 ags:∀a∈s.ags,a.Fit
theorem YQ {s t:ByteArray} (h:s.toList=t.toList):s=t:=by
 rw [ByteArray.toList_eq,ByteArray.toList_eq]at h
 exact ByteArray.ext (Array.toList_inj.1 h)
theorem Yq (w:World) (x y:Ag) (u v:Value) (hx:x.Fit) (hy:y.Fit) (hu:Ints w u x.wd) (hv:Ints w v y.wd) :
    Calls Tryz.prog 44 #[agv x u,agv y v] w fun e w'=>e=.returned (.bool (x.eqb y))∧w.grownBy w' none:=by
 have HE:Hid (∀W,w.grownBy W none→Calls Tryz.prog 67 #[u,v] W fun e w'=>e=.returned (.bool (decide (x.wd=y.wd)))∧W.grownBy w' none):=fun W hg=>Zc3 W u v _ _ (hu.kept hg) (hv.kept hg) hx.wd hy.wd
 have HNe:Hid (x.eqb y=true→x=y):=Ag.eqb_iff.1
 have HEq:Hid (x.eqb y=false→x≠y):=fun h e=>by rw [Ag.eqb_iff.2 e]at h;cases h
 clear hx hy hu hv
 generalize hq:x.eqb y=q at *
 clear hq
 by_cases hw:x.wd=y.wd
 ·have HE2:Hid (∀W,w.grownBy W none→Calls Tryz.prog 67 #[u,v] W fun e w'=>e=.returned (.bool true)∧W.grownBy w' none):=by
    rw [decide_eq_true hw]at HE
    exact HE
  clear HE
  have HW:Hid (x.wd=y.wd):=hw
  clear hw
  go_enter Tryz.func44,Tryz.ntmps44
  go_wp2_with fail
  rotate_left
  all_goals first
   |(go_ret
     refine⟨Zh ?_,grow2 _ _ _⟩
     cases q
     ·rfl
     ·exfalso
      obtain rfl:=HNe.out rfl
      simp_all)
   |skip
  refine(HE2.out _ (grow2 _ _ _)).mono ?_
  rintro e w1 ⟨rfl,hg⟩
  have HG:Hid (w.grownBy w1 none):=Za (grow2 _ _ _) hg
  have hA:AgAt w1 w.heap.size 0 x u:=by
   have h:w1.heap[w.heap.size]?=some (.cells (agc x u) 45):=(hg.block _ (by simp;omega) (by simp)).trans (Zx _ _ _)
   constructor<;>simp [World.cell?,h]
  have hB:AgAt w1 (w.heap.size+1) 0 y v:=by
   have h:w1.heap[w.heap.size+1]?=some (.cells (agc y v) 45):=by
    have h0:=heap_alloc_new (w.alloc (.cells (agc x u) 45)) (.cells (agc y v) 45)
    have e:(w.alloc (.cells (agc x u) 45)).heap.size=w.heap.size+1:=by simp
    rw [e]at h0
    exact(hg.block _ (by simp) (by simp)).trans h0
   constructor<;>simp [World.cell?,h]
  have a11:=hA.c11
  have b11:=hB.c11
  clear hA hB hg
  go_wp2_with fail
  go_ret
  refine⟨Zh ?_,HG.out⟩
  rename_i h9 h8 h7 h6 h5 h4 h3 h2 h1 h0
  have hxy:x=y ↔ x.ct=y.ct:=by
   refine⟨fun e=>by rw [e],fun e=>?_⟩
   have n8:=YQ h8
   have n6:=YQ h6
   have n4:=YQ h4
   have n2:=YQ h2
   have n0:=YQ h0
   have hW:=HW.out
   obtain⟨xk,xn,⟨x1,x2,x3,x4,x5,x6,x7,x8⟩,xw,xc⟩:=x
   obtain⟨yk,yn,⟨y1,y2,y3,y4,y5,y6,y7,y8⟩,yw,yc⟩:=y
   simp only at *
   subst h9 n8 h7 n6 h5 n4 h3 n2 h1 n0 hW e
   rfl
  cases q
  ·have:=HEq.out rfl
   rw [Ne,hxy]at this
   simpa using this
  ·have:=HNe.out rfl
   rw [hxy]at this
   simpa using this
 ·have HE2:Hid (∀W,w.grownBy W none→Calls Tryz.prog 67 #[u,v] W fun e w'=>e=.returned (.bool false)∧W.grownBy w' none):=by
    rw [decide_eq_false hw]at HE
    exact HE
  clear HE
  have HW:Hid (x.wd≠y.wd):=hw
  clear hw
  go_enter Tryz.func44,Tryz.ntmps44
  go_wp2_with fail
  rotate_left
  all_goals first
   |(go_ret
     refine⟨Zh ?_,grow2 _ _ _⟩
     cases q
     ·rfl
     ·exfalso
      obtain rfl:=HNe.out rfl
      simp_all)
   |skip
  refine(HE2.out _ (grow2 _ _ _)).mono ?_
  rintro e w1 ⟨rfl,hg⟩
  have HG:Hid (w.grownBy w1 none):=Za (grow2 _ _ _) hg
  clear hg
  go_wp2_with fail
  go_ret
  refine⟨Zh ?_,HG.out⟩
  cases q
  ·rfl
  ·exact absurd (congrArg Ag.wd (HNe.out rfl)) HW.out
def mayZ (z:Gz):Bool:=mayQ z.a z.b z.c z.d && mayQ z.e z.f z.g z.h
def mayA (a:Ag):Bool :=
 if a.k=1 then isNm a.nm && ({a with nm:=eS}:Ag).eqb ⟨a.k,eS,Gz.zero,[],0⟩
 else if a.k=2 then mayZ a.z && ({a with z:=Gz.zero}:Ag).eqb ⟨a.k,eS,Gz.zero,[],0⟩
 else if a.k=3 then a.eqb ⟨a.k,eS,Gz.zero,[],0⟩
 else if a.k=4 then isWd a.wd && ({a with wd:=[]}:Ag).eqb ⟨a.k,eS,Gz.zero,[],0⟩
 else if a.k=5 then isCt a.ct && ({a with ct:=0}:Ag).eqb ⟨a.k,eS,Gz.zero,[],0⟩
 else false
abbrev zObj (z:Gz):Obj:=.cells #[.bool z.a,.string z.b,.bool z.c,.string z.d,.bool z.e,.string z.f,.bool z.g,.string z.h] 42
theorem Zft (z:Gz) (hz:z.Fit) (w:World) :
    Calls Tryz.prog 63 #[gzv z] w fun e w'=>e=.returned (.bool (mayZ z))∧w.grownBy w' none:=by
 have HA:Hid (∀w,Calls Tryz.prog 89 #[frac z.a z.b z.c z.d] w fun e w'=>e=.returned (.bool (mayQ z.a z.b z.c z.d))∧w.grownBy w' none):=fun w=>Vr _ _ _ _ hz.b hz.d w
 have HB:Hid (∀w,Calls Tryz.prog 89 #[frac z.e z.f z.g z.h] w fun e w'=>e=.returned (.bool (mayQ z.e z.f z.g z.h))∧w.grownBy w' none):=fun w=>Vr _ _ _ _ hz.f hz.h w
 have HM:Hid (mayZ z=(mayQ z.a z.b z.c z.d && mayQ z.e z.f z.g z.h)):=rfl
 generalize mayZ z=m at *
 generalize mayQ z.a z.b z.c z.d=p at *
 generalize mayQ z.e z.f z.g z.h=q at *
 clear hz
 cases p
 ·go_enter Tryz.func63,Tryz.ntmps63
  go_wp2_with fail
  refine(HA.out _).mono ?_
  rintro e w1 ⟨rfl,hg⟩
  have HG:Hid (w.grownBy w1 none):=Za (grow1 _ _) hg
  clear hg
  go_wp2_with fail
  go_ret
  exact⟨Zh HM.out.symm,HG.out⟩
 ·go_enter Tryz.func63,Tryz.ntmps63
  go_wp2_with fail
  refine(HA.out _).mono ?_
  rintro e w1 ⟨rfl,hg⟩
  have HG:Hid (w.grownBy w1 none):=Za (grow1 _ _) hg
  have h:w1.heap[w.heap.size]?=some (zObj z):=(hg.block _ (by simp) (by simp)).trans (heap_alloc_new _ _)
  have c4:w1.cell? ⟨w.heap.size,4,none⟩=some (.bool z.e):=by simp [World.cell?,h]
  have c5:w1.cell? ⟨w.heap.size,5,none⟩=some (.string z.f):=by simp [World.cell?,h]
  have c6:w1.cell? ⟨w.heap.size,6,none⟩=some (.bool z.g):=by simp [World.cell?,h]
  have c7:w1.cell? ⟨w.heap.size,7,none⟩=some (.string z.h):=by simp [World.cell?,h]
  clear hg h
  go_wp2_with fail
  refine(HB.out _).mono ?_
  rintro e w2 ⟨rfl,hg⟩
  have HG2:Hid (w.grownBy w2 none):=Za HG.out hg
  clear hg
  go_wp2_with fail
  go_ret
  exact⟨Zh HM.out.symm,HG2.out⟩
def ABk (w:World) (B:Nat) (a:Ag) (wv:Value):Prop:=w.heap[B]?=some (.cells (agc a wv) 45)
theorem ABk.at {w:World} {B:Nat} {a:Ag} {wv:Value} (h:ABk w B a wv):AgAt w B 0 a wv:=by
 unfold ABk at h
 constructor<;>simp [World.cell?,h]
theorem ABk.fr {w:World} {B:Nat} {a:Ag} {wv:Value} (h:ABk w B a wv) (i:Nat):w.frozen? ⟨B,i,none⟩=false:=by
 unfold ABk at h
 simp [World.frozen?,h]
theorem ABk.kept {w w':World} {B:Nat} {a:Ag} {wv:Value} (h:ABk w B a wv) (hg:w.grownBy w' none):ABk w' B a wv :=
 (hg.block B (Array.getElem?_eq_some_iff.1 h).1 (by simp)).trans h
theorem Ints.form {w:World} {v:Value} {L:List Int} (h:Ints w v L):∃ab c,v=.slice ab L.length c:=by
 obtain⟨ab,c,e,_⟩:=h.reads
 exact⟨ab,c,e⟩
abbrev blank (k:Int):Ag:=⟨k,eS,Gz.zero,[],0⟩
theorem eS_le:eS.size≤maxLen:=by
 have:eS.size=0:=rfl
 rw [this]
 exact Nat.zero_le _
theorem ZS (k:Int):(blank k).Fit:=⟨eS_le,⟨eS_le,eS_le,eS_le,eS_le⟩,by simp⟩
theorem isArg_3 (w:World) (a:Ag) (u:Value) (ha:a.Fit) (hu:Ints w u a.wd) (hk:a.k=3) :
    Calls Tryz.prog 39 #[agv a u] w fun e w'=>e=.returned (.bool (mayA a))∧w.grownBy w' none:=by
 have HM:Hid (mayA a=a.eqb (blank 3)):=by
  show _=_
  simp [mayA,hk]
 have HS:Hid (∀W,w.grownBy W none→Calls Tryz.prog 44 #[agv a u,agv (blank 3) (.slice none 0 0)] W fun e w'=>e=.returned (.bool (a.eqb (blank 3)))∧W.grownBy w' none):=fun W hg =>
  Yq W a (blank 3) u _ ha (ZS 3) (hu.kept hg) (Ints.nil _)
 obtain⟨ab,c,rfl⟩:=hu.form
 obtain⟨k,nm,z,wd,ct⟩:=a
 simp only at hk
 subst hk
 clear ha hu
 generalize mayA _=m at *
 generalize Ag.eqb _ _=q at *
 generalize wd.length=n at *
 go_enter Tryz.func39,Tryz.ntmps39
 go_wp2_with fail
 refine(HS.out _ (grow2 _ _ _)).mono ?_
 rintro e w1 ⟨rfl,hg⟩
 have HG:Hid (w.grownBy w1 none):=Za (grow2 _ _ _) hg
 clear hg
 go_wp2_with fail
 go_ret
 exact⟨Zh HM.out.symm,HG.out⟩
theorem isArg_1 (w:World) (a:Ag) (u:Value) (ha:a.Fit) (hu:Ints w u a.wd) (hk:a.k=1) :
    Calls Tryz.prog 39 #[agv a u] w fun e w'=>e=.returned (.bool (mayA a))∧w.grownBy w' none:=by
 have HM:Hid (mayA a=(isNm a.nm && (⟨1,eS,a.z,a.wd,a.ct⟩:Ag).eqb (blank 1))):=by
  show _=_
  simp [mayA,hk]
 have HS:Hid (∀W,w.grownBy W none→Calls Tryz.prog 44 #[agv ⟨1,eS,a.z,a.wd,a.ct⟩ u,agv (blank 1) (.slice none 0 0)] W fun e w'=>e=.returned (.bool ((⟨1,eS,a.z,a.wd,a.ct⟩:Ag).eqb (blank 1)))∧W.grownBy w' none):=fun W hg =>
  Yq W ⟨1,eS,a.z,a.wd,a.ct⟩ (blank 1) u _ ⟨eS_le,ha.z,ha.wd⟩ (ZS 1) (hu.kept hg) (Ints.nil _)
 have HC:Hid (∀W,w.grownBy W none→Calls Tryz.prog 38 #[.string a.nm] W fun e w'=>e=.returned (.bool (isNm a.nm))∧w'=W):=fun W hg=>Y7 _ ha.nm W
 obtain⟨ab,c,rfl⟩:=hu.form
 obtain⟨k,nm,z,wd,ct⟩:=a
 simp only at hk
 subst hk
 clear ha hu
 simp only at HM HS HC
 generalize mayA _=m at *
 generalize Ag.eqb _ _=q at *
 generalize isNm nm=p at *
 generalize wd.length=n at *
 cases p
 ·go_enter Tryz.func39,Tryz.ntmps39
  go_wp2_with fail
  refine(HC.out _ (grow2 _ _ _)).mono ?_
  rintro e w1 ⟨rfl,rfl⟩
  go_wp2_with fail
  go_ret
  exact⟨Zh HM.out.symm,(by first|exact grow2 _ _ _|(refine Zb (grow2 _ _ _) ?_;omega))⟩
 ·go_enter Tryz.func39,Tryz.ntmps39
  go_wp2_with fail
  refine(HC.out _ (grow2 _ _ _)).mono ?_
  rintro e w1 ⟨rfl,rfl⟩
  go_wp2_with fail
  refine(HS.out _ (by first|exact grow2 _ _ _|(refine Zb (grow2 _ _ _) ?_;omega))).mono ?_
  rintro e w1 ⟨rfl,hg⟩
  have HG:Hid (w.grownBy w1 none):=Za (by first|exact grow2 _ _ _|(refine Zb (grow2 _ _ _) ?_;omega)) hg
  clear hg
  go_wp2_with fail
  go_ret
  exact⟨Zh HM.out.symm,HG.out⟩
theorem isArg_5 (w:World) (a:Ag) (u:Value) (ha:a.Fit) (hu:Ints w u a.wd) (hk:a.k=5) :
    Calls Tryz.prog 39 #[agv a u] w fun e w'=>e=.returned (.bool (mayA a))∧w.grownBy w' none:=by
 have HM:Hid (mayA a=(isCt a.ct && (⟨5,a.nm,a.z,a.wd,0⟩:Ag).eqb (blank 5))):=by
  show _=_
  simp [mayA,hk]
 have HS:Hid (∀W,w.grownBy W none→Calls Tryz.prog 44 #[agv ⟨5,a.nm,a.z,a.wd,0⟩ u,agv (blank 5) (.slice none 0 0)] W fun e w'=>e=.returned (.bool ((⟨5,a.nm,a.z,a.wd,0⟩:Ag).eqb (blank 5)))∧W.grownBy w' none):=fun W hg =>
  Yq W ⟨5,a.nm,a.z,a.wd,0⟩ (blank 5) u _ ⟨ha.nm,ha.z,ha.wd⟩ (ZS 5) (hu.kept hg) (Ints.nil _)
 have HC:Hid (∀W,w.grownBy W none→Calls Tryz.prog 65 #[.int .i64 a.ct] W fun e w'=>e=.returned (.bool (isCt a.ct))∧w'=W):=fun W hg=>VE _ W
 obtain⟨ab,c,rfl⟩:=hu.form
 obtain⟨k,nm,z,wd,ct⟩:=a
 simp only at hk
 subst hk
 clear ha hu
 simp only at HM HS HC
 generalize mayA _=m at *
 generalize Ag.eqb _ _=q at *
 generalize isCt ct=p at *
 generalize wd.length=n at *
 cases p
 ·go_enter Tryz.func39,Tryz.ntmps39
  go_wp2_with fail
  refine(HC.out _ (grow2 _ _ _)).mono ?_
  rintro e w1 ⟨rfl,rfl⟩
  go_wp2_with fail
  go_ret
  exact⟨Zh HM.out.symm,(by first|exact grow2 _ _ _|(refine Zb (grow2 _ _ _) ?_;omega))⟩
 ·go_enter Tryz.func39,Tryz.ntmps39
  go_wp2_with fail
  refine(HC.out _ (grow2 _ _ _)).mono ?_
  rintro e w1 ⟨rfl,rfl⟩
  go_wp2_with fail
  refine(HS.out _ (by first|exact grow2 _ _ _|(refine Zb (grow2 _ _ _) ?_;omega))).mono ?_
  rintro e w1 ⟨rfl,hg⟩
  have HG:Hid (w.grownBy w1 none):=Za (by first|exact grow2 _ _ _|(refine Zb (grow2 _ _ _) ?_;omega)) hg
  clear hg
  go_wp2_with fail
  go_ret
  exact⟨Zh HM.out.symm,HG.out⟩
theorem isArg_4 (w:World) (a:Ag) (u:Value) (ha:a.Fit) (hu:Ints w u a.wd) (hk:a.k=4) :
    Calls Tryz.prog 39 #[agv a u] w fun e w'=>e=.returned (.bool (mayA a))∧w.grownBy w' none:=by
 have HM:Hid (mayA a=(isWd a.wd && (⟨4,a.nm,a.z,[],a.ct⟩:Ag).eqb (blank 4))):=by
  show _=_
  simp [mayA,hk]
 have HS:Hid (∀W,w.grownBy W none→Calls Tryz.prog 44 #[agv ⟨4,a.nm,a.z,[],a.ct⟩ (.slice none 0 0),agv (blank 4) (.slice none 0 0)] W fun e w'=>e=.returned (.bool ((⟨4,a.nm,a.z,[],a.ct⟩:Ag).eqb (blank 4)))∧W.grownBy w' none):=fun W hg =>
  Yq W ⟨4,a.nm,a.z,[],a.ct⟩ (blank 4) (.slice none 0 0) _ ⟨ha.nm,ha.z,by simp⟩ (ZS 4) (Ints.nil _) (Ints.nil _)
 have HC:Hid (∀W,w.grownBy W none→Calls Tryz.prog 64 #[u] W fun e w'=>e=.returned (.bool (isWd a.wd))∧W.grownBy w' none):=fun W hg=>Zcs W u a.wd (hu.kept hg) ha.wd
 obtain⟨ab,c,rfl⟩:=hu.form
 obtain⟨k,nm,z,wd,ct⟩:=a
 simp only at hk
 subst hk
 clear ha hu
 simp only at HM HS HC
 generalize mayA _=m at *
 generalize Ag.eqb _ _=q at *
 generalize isWd wd=p at *
 generalize wd.length=n at *
 cases p
 ·go_enter Tryz.func39,Tryz.ntmps39
  go_wp2_with fail
  refine(HC.out _ (grow2 _ _ _)).mono ?_
  rintro e w1 ⟨rfl,hg⟩
  have HG:Hid (w.grownBy w1 none):=Za (grow2 _ _ _) hg
  have hA:ABk w1 w.heap.size ⟨4,nm,z,wd,ct⟩ (.slice ab n c):=(hg.block _ (by simp;omega) (by simp)).trans (Zx _ _ _)
  have hB:ABk w1 (w.heap.size+1) ⟨4,nm,z,wd,ct⟩ (.slice ab n c):=by
   have h0:=heap_alloc_new (w.alloc (.cells (agc ⟨4,nm,z,wd,ct⟩ (.slice ab n c)) 45)) (.cells (agc ⟨4,nm,z,wd,ct⟩ (.slice ab n c)) 45)
   have e:(w.alloc (.cells (agc ⟨4,nm,z,wd,ct⟩ (.slice ab n c)) 45)).heap.size=w.heap.size+1:=by simp
   rw [e]at h0
   exact(hg.block _ (by simp) (by simp)).trans h0
  have a0:=hA.at.c0
  have b0:=hB.at.c0
  have b1:=hB.at.c1
  have b2:=hB.at.c2
  have b3:=hB.at.c3
  have b4:=hB.at.c4
  have b5:=hB.at.c5
  have b6:=hB.at.c6
  have b7:=hB.at.c7
  have b8:=hB.at.c8
  have b9:=hB.at.c9
  have b10:=hB.at.c10
  have b11:=hB.at.c11
  have f10:=hB.fr 10
  simp only [Nat.zero_add]at a0 b0 b1 b2 b3 b4 b5 b6 b7 b8 b9 b10 b11
  clear hg hA hB
  go_wp2_with fail
  go_ret
  exact⟨Zh HM.out.symm,by repeat(first|exact HG.out|refine Zb ?_ (by omega))⟩
 ·go_enter Tryz.func39,Tryz.ntmps39
  go_wp2_with fail
  refine(HC.out _ (grow2 _ _ _)).mono ?_
  rintro e w1 ⟨rfl,hg⟩
  have HG:Hid (w.grownBy w1 none):=Za (grow2 _ _ _) hg
  have hA:ABk w1 w.heap.size ⟨4,nm,z,wd,ct⟩ (.slice ab n c):=(hg.block _ (by simp;omega) (by simp)).trans (Zx _ _ _)
  have hB:ABk w1 (w.heap.size+1) ⟨4,nm,z,wd,ct⟩ (.slice ab n c):=by
   have h0:=heap_alloc_new (w.alloc (.cells (agc ⟨4,nm,z,wd,ct⟩ (.slice ab n c)) 45)) (.cells (agc ⟨4,nm,z,wd,ct⟩ (.slice ab n c)) 45)
   have e:(w.alloc (.cells (agc ⟨4,nm,z,wd,ct⟩ (.slice ab n c)) 45)).heap.size=w.heap.size+1:=by simp
   rw [e]at h0
   exact(hg.block _ (by simp) (by simp)).trans h0
  have a0:=hA.at.c0
  have b0:=hB.at.c0
  have b1:=hB.at.c1
  have b2:=hB.at.c2
  have b3:=hB.at.c3
  have b4:=hB.at.c4
  have b5:=hB.at.c5
  have b6:=hB.at.c6
  have b7:=hB.at.c7
  have b8:=hB.at.c8
  have b9:=hB.at.c9
  have b10:=hB.at.c10
  have b11:=hB.at.c11
  have f10:=hB.fr 10
  simp only [Nat.zero_add]at a0 b0 b1 b2 b3 b4 b5 b6 b7 b8 b9 b10 b11
  clear hg hA hB
  go_wp2_with fail
  refine(HS.out _ (by repeat(first|exact HG.out|refine Zb ?_ (by omega)))).mono ?_
  rintro e w2 ⟨rfl,hg⟩
  have HG2:Hid (w.grownBy w2 none):=Za (by repeat(first|exact HG.out|refine Zb ?_ (by omega))) hg
  clear hg
  go_wp2_with fail
  go_ret
  exact⟨Zh HM.out.symm,HG2.out⟩
theorem isArg_0 (w:World) (a:Ag) (u:Value) (hu:Ints w u a.wd) (h1:a.k≠1) (h2:a.k≠2) (h3:a.k≠3) (h4:a.k≠4) (h5:a.k≠5) :
    Calls Tryz.prog 39 #[agv a u] w fun e w'=>e=.returned (.bool (mayA a))∧w.grownBy w' none:=by
 have HM:Hid (mayA a=false):=by
  show _=_
  simp [mayA,h1,h2,h3,h4,h5]
 obtain⟨ab,c,rfl⟩:=hu.form
 obtain⟨k,nm,z,wd,ct⟩:=a
 simp only at h1 h2 h3 h4 h5
 have e1:(k == 1)=false:=by simpa using h1
 have e2:(k == 2)=false:=by simpa using h2
 have e3:(k == 3)=false:=by simpa using h3
 have e4:(k == 4)=false:=by simpa using h4
 have e5:(k == 5)=false:=by simpa using h5
 clear hu h1 h2 h3 h4 h5
 generalize mayA _=m at *
 generalize wd.length=n at *
 go_enter Tryz.func39,Tryz.ntmps39
 go_wp2_with fail
 go_ret
 exact⟨Zh HM.out.symm,grow2 _ _ _⟩
def zput (w1:World) (B:Nat):World:=((((((((w1.setCell ⟨B,2,none⟩ (.bool false)).setCell ⟨B,3,none⟩ (.string eS)).setCell ⟨B,4,none⟩ (.bool false)).setCell ⟨B,5,none⟩ (.string eS)).setCell ⟨B,6,none⟩ (.bool false)).setCell ⟨B,7,none⟩ (.string eS)).setCell ⟨B,8,none⟩ (.bool false)).setCell ⟨B,9,none⟩ (.string eS))
theorem Us (w1:World) (B:Nat):w1.grownBy (zput w1 B) (some B) :=
 Za (Zc _ _ _ _) (Za (Zc _ _ _ _) (Za (Zc _ _ _ _) (Za (Zc _ _ _ _) (Za (Zc _ _ _ _) (Za (Zc _ _ _ _) (Za (Zc _ _ _ _) (Zc _ _ _ _)))))))
theorem ZbQ (w1:World) (B:Nat) (a:Ag) (u:Value) (h:ABk w1 B a u):ABk (zput w1 B) B ⟨a.k,a.nm,Gz.zero,a.wd,a.ct⟩ u:=by
 unfold ABk zput at *
 simp [World.setCell,Array.getElem?_modify,h,Gz.zero]
theorem isArg_2 (w:World) (a:Ag) (u:Value) (ha:a.Fit) (hu:Ints w u a.wd) (hk:a.k=2) :
    Calls Tryz.prog 39 #[agv a u] w fun e w'=>e=.returned (.bool (mayA a))∧w.grownBy w' none:=by
 have HM:Hid (mayA a=(mayZ a.z && (⟨2,a.nm,Gz.zero,a.wd,a.ct⟩:Ag).eqb (blank 2))):=by
  show _=_
  simp [mayA,hk]
 have HS:Hid (∀W,w.grownBy W none→Calls Tryz.prog 44 #[agv ⟨2,a.nm,Gz.zero,a.wd,a.ct⟩ u,agv (blank 2) (.slice none 0 0)] W fun e w'=>e=.returned (.bool ((⟨2,a.nm,Gz.zero,a.wd,a.ct⟩:Ag).eqb (blank 2)))∧W.grownBy w' none):=fun W hg =>
  Yq W ⟨2,a.nm,Gz.zero,a.wd,a.ct⟩ (blank 2) u _ ⟨ha.nm,⟨eS_le,eS_le,eS_le,eS_le⟩,ha.wd⟩ (ZS 2) (hu.kept hg) (Ints.nil _)
 have HC:Hid (∀W,w.grownBy W none→Calls Tryz.prog 63 #[gzv a.z] W fun e w'=>e=.returned (.bool (mayZ a.z))∧W.grownBy w' none):=fun W hg=>Zft a.z ha.z W
 obtain⟨ab,c,rfl⟩:=hu.form
 obtain⟨k,nm,z,wd,ct⟩:=a
 simp only at hk
 subst hk
 clear ha hu
 simp only at HM HS HC
 generalize mayA _=m at *
 generalize Ag.eqb _ _=q at *
 generalize mayZ z=p at *
 generalize wd.length=n at *
 cases p
 ·go_enter Tryz.func39,Tryz.ntmps39
  generalize h13:Code.region 13 _ _=c13
  go_wp2_with fail
  refine(HC.out _ (grow2 _ _ _)).mono ?_
  rintro e w1 ⟨rfl,hg⟩
  have HG:Hid (w.grownBy w1 none):=Za (grow2 _ _ _) hg
  have hA:ABk w1 w.heap.size ⟨2,nm,z,wd,ct⟩ (.slice ab n c):=(hg.block _ (by simp;omega) (by simp)).trans (Zx _ _ _)
  have hB:ABk w1 (w.heap.size+1) ⟨2,nm,z,wd,ct⟩ (.slice ab n c):=by
   have h0:=heap_alloc_new (w.alloc (.cells (agc ⟨2,nm,z,wd,ct⟩ (.slice ab n c)) 45)) (.cells (agc ⟨2,nm,z,wd,ct⟩ (.slice ab n c)) 45)
   have e:(w.alloc (.cells (agc ⟨2,nm,z,wd,ct⟩ (.slice ab n c)) 45)).heap.size=w.heap.size+1:=by simp
   rw [e]at h0
   exact(hg.block _ (by simp) (by simp)).trans h0
  have HA:Hid (ABk w1 w.heap.size ⟨2,nm,z,wd,ct⟩ (.slice ab n c)):=hA
  have HB:Hid (ABk w1 (w.heap.size+1) ⟨2,nm,z,wd,ct⟩ (.slice ab n c)):=hB
  have b2:=hB.at.c2
  have b3:=hB.at.c3
  have b4:=hB.at.c4
  have b5:=hB.at.c5
  have b6:=hB.at.c6
  have b7:=hB.at.c7
  have b8:=hB.at.c8
  have b9:=hB.at.c9
  have f2:=hB.fr 2
  have f3:=hB.fr 3
  have f4:=hB.fr 4
  have f5:=hB.fr 5
  have f6:=hB.fr 6
  have f7:=hB.fr 7
  have f8:=hB.fr 8
  have f9:=hB.fr 9
  simp only [Nat.zero_add]at b2 b3 b4 b5 b6 b7 b8 b9
  clear hg hA hB
  go_wp2_with fail
  have hB3:=ZbQ _ _ _ _ HB.out
  have hg3:=Us w1 (w.heap.size+1)
  have HG3:Hid (w.grownBy (zput w1 (w.heap.size+1)) none):=Zq HG.out (by omega) hg3
  have a0:=Zd hg3 HA.out.at.c0 (by simp)
  clear hg3 b2 b3 b4 b5 b6 b7 b8 b9 f2 f3 f4 f5 f6 f7 f8 f9 HA HB
  change Code.wp _ c13 _ _ (zput w1 (w.heap.size+1))
  generalize zput w1 (w.heap.size+1)=w3 at *
  have b0:=hB3.at.c0
  have b1:=hB3.at.c1
  have b2:=hB3.at.c2
  have b3:=hB3.at.c3
  have b4:=hB3.at.c4
  have b5:=hB3.at.c5
  have b6:=hB3.at.c6
  have b7:=hB3.at.c7
  have b8:=hB3.at.c8
  have b9:=hB3.at.c9
  have b10:=hB3.at.c10
  have b11:=hB3.at.c11
  simp only [Nat.zero_add]at a0 b0 b1 b2 b3 b4 b5 b6 b7 b8 b9 b10 b11
  clear hB3
  subst h13
  go_wp2_with fail
  go_ret
  exact⟨Zh HM.out.symm,HG3.out⟩
 ·go_enter Tryz.func39,Tryz.ntmps39
  generalize h13:Code.region 13 _ _=c13
  go_wp2_with fail
  refine(HC.out _ (grow2 _ _ _)).mono ?_
  rintro e w1 ⟨rfl,hg⟩
  have HG:Hid (w.grownBy w1 none):=Za (grow2 _ _ _) hg
  have hA:ABk w1 w.heap.size ⟨2,nm,z,wd,ct⟩ (.slice ab n c):=(hg.block _ (by simp;omega) (by simp)).trans (Zx _ _ _)
  have hB:ABk w1 (w.heap.size+1) ⟨2,nm,z,wd,ct⟩ (.slice ab n c):=by
   have h0:=heap_alloc_new (w.alloc (.cells (agc ⟨2,nm,z,wd,ct⟩ (.slice ab n c)) 45)) (.cells (agc ⟨2,nm,z,wd,ct⟩ (.slice ab n c)) 45)
   have e:(w.alloc (.cells (agc ⟨2,nm,z,wd,ct⟩ (.slice ab n c)) 45)).heap.size=w.heap.size+1:=by simp
   rw [e]at h0
   exact(hg.block _ (by simp) (by simp)).trans h0
  have HA:Hid (ABk w1 w.heap.size ⟨2,nm,z,wd,ct⟩ (.slice ab n c)):=hA
  have HB:Hid (ABk w1 (w.heap.size+1) ⟨2,nm,z,wd,ct⟩ (.slice ab n c)):=hB
  have b2:=hB.at.c2
  have b3:=hB.at.c3
  have b4:=hB.at.c4
  have b5:=hB.at.c5
  have b6:=hB.at.c6
  have b7:=hB.at.c7
  have b8:=hB.at.c8
  have b9:=hB.at.c9
  have f2:=hB.fr 2
  have f3:=hB.fr 3
  have f4:=hB.fr 4
  have f5:=hB.fr 5
  have f6:=hB.fr 6
  have f7:=hB.fr 7
  have f8:=hB.fr 8
  have f9:=hB.fr 9
  simp only [Nat.zero_add]at b2 b3 b4 b5 b6 b7 b8 b9
  clear hg hA hB
  go_wp2_with fail
  have hB3:=ZbQ _ _ _ _ HB.out
  have hg3:=Us w1 (w.heap.size+1)
  have HG3:Hid (w.grownBy (zput w1 (w.heap.size+1)) none):=Zq HG.out (by omega) hg3
  have a0:=Zd hg3 HA.out.at.c0 (by simp)
  clear hg3 b2 b3 b4 b5 b6 b7 b8 b9 f2 f3 f4 f5 f6 f7 f8 f9 HA HB
  change Code.wp _ c13 _ _ (zput w1 (w.heap.size+1))
  generalize zput w1 (w.heap.size+1)=w3 at *
  have b0:=hB3.at.c0
  have b1:=hB3.at.c1
  have b2:=hB3.at.c2
  have b3:=hB3.at.c3
  have b4:=hB3.at.c4
  have b5:=hB3.at.c5
  have b6:=hB3.at.c6
  have b7:=hB3.at.c7
  have b8:=hB3.at.c8
  have b9:=hB3.at.c9
  have b10:=hB3.at.c10
  have b11:=hB3.at.c11
  simp only [Nat.zero_add]at a0 b0 b1 b2 b3 b4 b5 b6 b7 b8 b9 b10 b11
  clear hB3
  subst h13
  go_wp2_with fail
  refine(HS.out _ HG3.out).mono ?_
  rintro e w2 ⟨rfl,hg⟩
  have HG2:Hid (w.grownBy w2 none):=Za HG3.out hg
  clear hg
  go_wp2_with fail
  go_ret
  exact⟨Zh HM.out.symm,HG2.out⟩
theorem Zab (w:World) (a:Ag) (u:Value) (ha:a.Fit) (hu:Ints w u a.wd) :
    Calls Tryz.prog 39 #[agv a u] w fun e w'=>e=.returned (.bool (mayA a))∧w.grownBy w' none:=by
 by_cases h1:a.k=1
 ·exact isArg_1 w a u ha hu h1
 by_cases h2:a.k=2
 ·exact isArg_2 w a u ha hu h2
 by_cases h3:a.k=3
 ·exact isArg_3 w a u ha hu h3
 by_cases h4:a.k=4
 ·exact isArg_4 w a u ha hu h4
 by_cases h5:a.k=5
 ·exact isArg_5 w a u ha hu h5
 exact isArg_0 w a u hu h1 h2 h3 h4 h5
def okS (s:St):Bool:=isVb s.vb && ((decide (s.nm.size=0) || isNm s.nm) && (decide (s.ags.length≤64) && s.ags.all mayA))
def chkS (s:St):Int:=if okS s then 0 else 2
theorem XH {f:Ag→Bool} {L:List Ag} {i:Nat} {a:Ag} (h:(L.take i).all f=true) (hi:L[i]?=some a) (hf:f a=true):(L.take (i+1)).all f=true:=by
 rw [List.take_add_one,hi,List.all_append,h]
 simpa using hf
theorem Vp {f:Ag→Bool} {L:List Ag} {i:Nat} {a:Ag} (hi:L[i]?=some a) (hf:f a=false):L.all f=false:=by
 rw [List.all_eq_false]
 exact⟨_,List.mem_of_getElem? hi,by simpa using hf⟩
theorem Zcc (w:World) (v:Value) (s:St) (hv:Stv w v s) (hs:s.Fit) :
    Calls Tryz.prog 15 #[v] w fun e w'=>e=.returned (.int .i64 (chkS s))∧w.grownBy w' none:=by
 obtain⟨u,rfl,hA⟩:=hv
 obtain⟨ab,c,rfl,HR⟩:=hA.reads
 obtain⟨vb,nm,ags⟩:=s
 simp only at HR
 have HR1:Hid (∀w',w.grownBy w' none→∀i a,ags[i]?=some a→∃B off wv,ab=some ⟨B,off,none⟩∧AgAt w' B (off+i*12) a wv∧Ints w' wv a.wd∧ags.length≤c):=HR
 have HF:Hid (∀a∈ags,a.Fit):=hs.ags
 have HV:=UE vb hs.vb
 have HN:=Y7 nm hs.nm
 have hlen:ags.length≤1000000000000:=hs.len
 have HO:Hid (chkS ⟨vb,nm,ags⟩=if(isVb vb && ((decide (nm.size=0) || isNm nm) && (decide (ags.length≤64) && ags.all mayA)))then 0 else 2):=rfl
 clear HR hA hs
 generalize chkS _=r at *
 generalize isVb vb=bv at *
 obtain⟨n,hn⟩:∃n,ags.length=n:=⟨_,rfl⟩
 have HLn:Unit→ags.length=n:=fun _=>hn
 simp only
 rw [hn]at HO hlen ⊢
 simp only [hn]at HR1
 clear hn
 cases bv
 ·go_enter Tryz.func15,Tryz.ntmps15
  go_wp2_with fail
  refine(HV _).mono ?_
  rintro e w1 ⟨rfl,rfl⟩
  go_wp2_with fail
  go_ret
  exact⟨Zv HO.out.symm,grow1 _ _⟩
 by_cases h0:nm.size=0
 ·obtain rfl:=Zi h0
  by_cases h64:n≤64
  ·have h64I:(n:Int)≤64:=by omega
   have HO2:Hid (r=if ags.all mayA=true then 0 else 2):=by
    have:=HO.out
    rw [decide_eq_true h64,decide_eq_true h0]at this
    rw [this]
    rfl
   clear HO h0 h64
   go_enter Tryz.func15,Tryz.ntmps15
   go_wp2_with fail
   refine(HV _).mono ?_
   rintro e w1 ⟨rfl,rfl⟩
   go_wp2_with fail
   go_loopw [29] (fun s' wr=>∃i:Nat,i≤n∧s'=.int .i64 i∧(ags.take i).all mayA=true∧w.grownBy wr none) (fun s _=>match s with|.int _ i=>n-i.toNat|_=>0)
   case atStart=>exact⟨0,by omega,rfl,rfl,grow1 _ _⟩
   case round =>
    obtain⟨i,hi,rfl,hp,hg⟩:=hrel
    have HP:Hid ((ags.take i).all mayA=true):=hp
    have HG:Hid (w.grownBy wr none):=hg
    clear hp hg
    by_cases hlt:i<n
    ·have hlt':i<ags.length:=by rw [HLn ()];exact hlt
     obtain⟨a,hia⟩:∃a,ags[i]?=some a:=⟨_,List.getElem?_eq_getElem hlt'⟩
     obtain⟨B,off,wv,rfl,hat,hin,hnc⟩:=HR1.out wr HG.out i _ hia
     have hfit:=HF.out a (List.mem_of_getElem? hia)
     have HT:Hid (mayA a=true→(ags.take (i+1)).all mayA=true):=fun hf=>XH HP.out hia hf
     have HX:Hid (mayA a=false→r=2):=fun hf=>by
      have:=HO2.out
      rw [Vp hia hf]at this
      exact this
     clear hlt' hia
     have HC:Hid (∀W,wr.grownBy W none→Calls Tryz.prog 39 #[agv a wv] W fun e w'=>e=.returned (.bool (mayA a))∧W.grownBy w' none):=fun W hg=>Zab W a wv hfit (hin.kept hg)
     obtain⟨ab2,c2,rfl⟩:=hin.form
     generalize a.wd.length=n2 at *
     generalize mayA a=q at *
     obtain⟨k0,k1,k2,k3,k4,k5,k6,k7,k8,k9,k10,k11⟩:=hat
     have hltI:(i:Int)<n:=by omega
     clear hin hfit
     cases q
     ·go_wp2_with fail
      refine(HC.out _ (grow1 _ _)).mono ?_
      rintro e w1 ⟨rfl,hg⟩
      have HG1:Hid (w.grownBy w1 none):=Za HG.out (Za (grow1 _ _) hg)
      clear hg
      go_wp2_with fail
      go_ret
      exact⟨Zv (HX.out trivial).symm,HG1.out⟩
     ·go_wp2_with fail
      refine(HC.out _ (grow1 _ _)).mono ?_
      rintro e w1 ⟨rfl,hg⟩
      have HG1:Hid (w.grownBy w1 none):=Za HG.out (Za (grow1 _ _) hg)
      clear hg
      go_wp2_with fail
      go_roundw
      case rel=>exact⟨i+1,by omega,Zl (by omega),HT.out trivial,HG1.out⟩
      case measure=>simp;omega
    ·have e:i=n:=by omega
     subst e
     have HX:Hid (r=0):=by
      have h1:=HO2.out
      have h2:=HP.out
      rw [←HLn (),List.take_length]at h2
      rw [h2]at h1
      exact h1
     go_wp2
     go_ret
     exact⟨Zv HX.out.symm,HG.out⟩
  ·have h64I:(65:Int)≤n:=by omega
   have hnI:(n:Int)≤1000000000000:=by omega
   have HO2:Hid (r=2):=by
    have:=HO.out
    rw [decide_eq_false h64]at this
    simp at this
    exact this
   clear HO h0 h64 hlen
   go_enter Tryz.func15,Tryz.ntmps15
   go_wp2_with fail
   refine(HV _).mono ?_
   rintro e w1 ⟨rfl,rfl⟩
   go_wp2_with fail
   go_ret
   exact⟨Zv HO2.out.symm,grow1 _ _⟩
 ·have he:=Zu h0
  generalize isNm nm=bn at *
  cases bn
  ·have HO2:Hid (r=2):=by
     have:=HO.out
     rw [decide_eq_false h0]at this
     exact this
   go_enter Tryz.func15,Tryz.ntmps15
   go_wp2_with fail
   refine(HV _).mono ?_
   rintro e w1 ⟨rfl,rfl⟩
   go_wp2_with fail
   refine(HN _).mono ?_
   rintro e w1 ⟨rfl,rfl⟩
   go_wp2_with fail
   go_ret
   exact⟨Zv HO2.out.symm,grow1 _ _⟩
  by_cases h64:n≤64
  ·have h64I:(n:Int)≤64:=by omega
   have HO2:Hid (r=if ags.all mayA=true then 0 else 2):=by
    have:=HO.out
    rw [decide_eq_true h64,decide_eq_false h0]at this
    rw [this]
    rfl
   clear HO h0 h64
   go_enter Tryz.func15,Tryz.ntmps15
   go_wp2_with fail
   refine(HV _).mono ?_
   rintro e w1 ⟨rfl,rfl⟩
   go_wp2_with fail
   refine(HN _).mono ?_
   rintro e w1 ⟨rfl,rfl⟩
   go_wp2_with fail
   go_loopw [29] (fun s' wr=>∃i:Nat,i≤n∧s'=.int .i64 i∧(ags.take i).all mayA=true∧w.grownBy wr none) (fun s _=>match s with|.int _ i=>n-i.toNat|_=>0)
   case atStart=>exact⟨0,by omega,rfl,rfl,grow1 _ _⟩
   case round =>
    obtain⟨i,hi,rfl,hp,hg⟩:=hrel
    have HP:Hid ((ags.take i).all mayA=true):=hp
    have HG:Hid (w.grownBy wr none):=hg
    clear hp hg
    by_cases hlt:i<n
    ·have hlt':i<ags.length:=by rw [HLn ()];exact hlt
     obtain⟨a,hia⟩:∃a,ags[i]?=some a:=⟨_,List.getElem?_eq_getElem hlt'⟩
     obtain⟨B,off,wv,rfl,hat,hin,hnc⟩:=HR1.out wr HG.out i _ hia
     have hfit:=HF.out a (List.mem_of_getElem? hia)
     have HT:Hid (mayA a=true→(ags.take (i+1)).all mayA=true):=fun hf=>XH HP.out hia hf
     have HX:Hid (mayA a=false→r=2):=fun hf=>by
      have:=HO2.out
      rw [Vp hia hf]at this
      exact this
     clear hlt' hia
     have HC:Hid (∀W,wr.grownBy W none→Calls Tryz.prog 39 #[agv a wv] W fun e w'=>e=.returned (.bool (mayA a))∧W.grownBy w' none):=fun W hg=>Zab W a wv hfit (hin.kept hg)
     obtain⟨ab2,c2,rfl⟩:=hin.form
     generalize a.wd.length=n2 at *
     generalize mayA a=q at *
     obtain⟨k0,k1,k2,k3,k4,k5,k6,k7,k8,k9,k10,k11⟩:=hat
     have hltI:(i:Int)<n:=by omega
     clear hin hfit
     cases q
     ·go_wp2_with fail
      refine(HC.out _ (grow1 _ _)).mono ?_
      rintro e w1 ⟨rfl,hg⟩
      have HG1:Hid (w.grownBy w1 none):=Za HG.out (Za (grow1 _ _) hg)
      clear hg
      go_wp2_with fail
      go_ret
      exact⟨Zv (HX.out trivial).symm,HG1.out⟩
     ·go_wp2_with fail
      refine(HC.out _ (grow1 _ _)).mono ?_
      rintro e w1 ⟨rfl,hg⟩
      have HG1:Hid (w.grownBy w1 none):=Za HG.out (Za (grow1 _ _) hg)
      clear hg
      go_wp2_with fail
      go_roundw
      case rel=>exact⟨i+1,by omega,Zl (by omega),HT.out trivial,HG1.out⟩
      case measure=>simp;omega
    ·have e:i=n:=by omega
     subst e
     have HX:Hid (r=0):=by
      have h1:=HO2.out
      have h2:=HP.out
      rw [←HLn (),List.take_length]at h2
      rw [h2]at h1
      exact h1
     go_wp2
     go_ret
     exact⟨Zv HX.out.symm,HG.out⟩
  ·have h64I:(65:Int)≤n:=by omega
   have hnI:(n:Int)≤1000000000000:=by omega
   have HO2:Hid (r=2):=by
    have:=HO.out
    rw [decide_eq_false h64]at this
    simp at this
    exact this
   clear HO h0 h64 hlen
   go_enter Tryz.func15,Tryz.ntmps15
   go_wp2_with fail
   refine(HV _).mono ?_
   rintro e w1 ⟨rfl,rfl⟩
   go_wp2_with fail
   refine(HN _).mono ?_
   rintro e w1 ⟨rfl,rfl⟩
   go_wp2_with fail
   go_ret
   exact⟨Zv HO2.out.symm,grow1 _ _⟩
end Go.Proofs.YtdcadiaeaclpgaaGreatDoor
