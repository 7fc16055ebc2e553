/- Fractions as the program holds them. -/
import Derived.Test.YtdcadiaeaclpgaaGreatDoorBunGar
import Derived.Test.YtdcadiaeaclpgaaGreatDoorBunGtw
import Derived.Test.YtdcadiaeaclpgaaGreatDoorBunOps
namespace Go.Proofs.YtdcadiaeaclpgaaGreatDoor
open Go.RowKit Go.Lib Go.Sort
set_option linter.unusedVariables false
set_option maxHeartbeats 1600000
set_option maxRecDepth 1000000
abbrev frac (n:Bool) (s:ByteArray) (d:Bool) (t:ByteArray):Value:=.agg #[.bool n,.string s,.bool d,.string t]
abbrev qObj (n:Bool) (s:ByteArray) (d:Bool) (t:ByteArray):Obj:=.cells #[.bool n,.string s,.bool d,.string t] 40
theorem Tryz.sizeQ:(Tryz.prog.info? 40).map (·.size)=some 4:=by kernel_rfl
def QBlk (w:World) (B:Nat) (a b c d:Value):Prop:=w.heap[B]?=some (.cells #[a,b,c,d] 40 (0,0))
theorem QBlk.lt {w:World} {B:Nat} {a b c d:Value} (h:QBlk w B a b c d):B<w.heap.size:=(Array.getElem?_eq_some_iff.1 h).1
theorem QBlk.c0 {w:World} {B:Nat} {a b c d:Value} (h:QBlk w B a b c d):w.cell? ⟨B,0,none⟩=some a:=by
 unfold QBlk at h;simp [World.cell?,h]
theorem QBlk.c1 {w:World} {B:Nat} {a b c d:Value} (h:QBlk w B a b c d):w.cell? ⟨B,1,none⟩=some b:=by
 unfold QBlk at h;simp [World.cell?,h]
theorem QBlk.c2 {w:World} {B:Nat} {a b c d:Value} (h:QBlk w B a b c d):w.cell? ⟨B,2,none⟩=some c:=by
 unfold QBlk at h;simp [World.cell?,h]
theorem QBlk.c3 {w:World} {B:Nat} {a b c d:Value} (h:QBlk w B a b c d):w.cell? ⟨B,3,none⟩=some d:=by
 unfold QBlk at h;simp [World.cell?,h]
theorem QBlk.fr {w:World} {B:Nat} {a b c d:Value} (h:QBlk w B a b c d) (i:Nat):w.frozen? ⟨B,i,none⟩=false:=by
 unfold QBlk at h;simp [World.frozen?,h]
theorem QBlk.put {w:World} {B:Nat} {a b c d:Value} (h:QBlk w B a b c d) (x y z u:Value):QBlk ((((w.setCell ⟨B,0,none⟩ x).setCell ⟨B,1,none⟩ y).setCell ⟨B,2,none⟩ z).setCell ⟨B,3,none⟩ u) B x y z u:=by
 unfold QBlk at *
 simp [World.setCell,Array.getElem?_modify,h]
theorem QBlk.kept {w w':World} {row:Option Nat} {B:Nat} {a b c d:Value} (h:QBlk w B a b c d) (hg:w.grownBy w' row) (hn:row≠some B):QBlk w' B a b c d :=
 (hg.block B h.lt (fun e=>hn e.symm)).trans h
theorem Zy {w w':World} {B:Nat} {x y z u:Value} (h:w.grownBy w' none) (hB:w.heap.size≤B):w.grownBy ((((w'.setCell ⟨B,0,none⟩ x).setCell ⟨B,1,none⟩ y).setCell ⟨B,2,none⟩ z).setCell ⟨B,3,none⟩ u) none :=
 Zb (Zb (Zb (Zb h hB) hB) hB) hB
theorem Zew (w:World) (g:Nat) (t:TypeId) (a b c d:Value) (fr:Nat × Nat) (hg:w.heap[g]?=some (.cells #[a,b,c,d] t fr)):(loadVar 40 ⟨g,0,none⟩).run Tryz.prog w=.ok (.agg #[a,b,c,d]) w :=
 run_loadVar_row w g t 40 #[a,b,c,d] fr _ hg Tryz.underlying40 rfl Tryz.sizeQ
theorem ZcV {fn:Func} {p:Tmp} (h:fn.results=#[.cell p 40]) (tmps:Array Value) (w:World) (g:Nat) (t:TypeId) (a b c d:Value) (fr:Nat × Nat)
    (hp:tmps.getD p undef=.pointer (some ⟨g,0,none⟩)) (hg:w.heap[g]?=some (.cells #[a,b,c,d] t fr)):(results fn tmps).run Tryz.prog w=.ok (.agg #[a,b,c,d]) w :=
 results_cell_row h tmps w g t #[a,b,c,d] fr _ hp hg Tryz.underlying40 rfl Tryz.sizeQ
theorem Zs {fn:Func} {p u:Tmp} (h:fn.results=#[.cell p 40,.tmp u]) (tmps:Array Value) (w:World) (g:Nat) (t:TypeId) (a b c d:Value) (fr:Nat × Nat)
    (hp:tmps.getD p undef=.pointer (some ⟨g,0,none⟩)) (hg:w.heap[g]?=some (.cells #[a,b,c,d] t fr)):(results fn tmps).run Tryz.prog w=.ok (.tuple #[.agg #[a,b,c,d],tmps.getD u undef]) w:=by
 rw [results_cell_tmp h,hp]
 simp [asAddr,Result.andThen,Zew w g t a b c d fr hg]
def mayQ (n:Bool) (s:ByteArray) (d:Bool) (t:ByteArray):Bool :=
 decide (s.size≤1024∧t.size≤1024) && (may n s && (may d t && (decide (0<num d t) && decide (Int.gcd (num n s) (num d t)=1))))
structure IsQ (x y:Int) (n:Bool) (s:ByteArray) (d:Bool) (t:ByteArray):Prop where
 zn:Sz 1024 x n s
 zd:Sz 1024 y d t
 pos:0<y
 low:Int.gcd x y=1
theorem YW {n d:Bool} {s t:ByteArray} (h:mayQ n s d t=true):IsQ (num n s) (num d t) n s d t:=by
 simp only [mayQ,Bool.and_eq_true,decide_eq_true_eq]at h
 obtain⟨⟨h1,h2⟩,h3,h4,h5,h6⟩:=h
 exact⟨Xf h3 h1,Xf h4 h2,h5,h6⟩
theorem IsQ.may {x y:Int} {n d:Bool} {s t:ByteArray} (h:IsQ x y n s d t):mayQ n s d t=true:=by
 have a:=h.zn.may (by decide)
 have b:=h.zd.may (by decide)
 have c:=Zbd h.zn.1
 have c':=h.zn.bl
 have d:=Zbd h.zd.1
 have d':=h.zd.bl
 simp only [mayQ,Bool.and_eq_true,decide_eq_true_eq]
 exact⟨⟨by omega,by omega⟩,a,b,by rw [h.zd.num];exact h.pos,by rw [h.zn.num,h.zd.num];exact h.low⟩
theorem IsQ.one {x y:Int} {n d n' d':Bool} {s t s' t':ByteArray} (h:IsQ x y n s d t) (h':IsQ x y n' s' d' t'):n=n'∧s=s'∧d=d'∧t=t':=by
 have a:=ZU (h.zn.one h'.zn rfl)
 have b:=ZU (h.zd.one h'.zd rfl)
 exact⟨a.1,a.2,b.1,b.2⟩
abbrev oneS:ByteArray:=⟨#[1]⟩
theorem XR {n:Bool} {s:ByteArray} (h:IsZ 1 n s):n=false∧s=oneS:=ZU (h.one (⟨rfl,by rw [show(1:Int).natAbs=1 from rfl,Um 1 (by decide) (by decide)];rfl⟩:IsZ 1 false oneS))
theorem Xp:IsZ 1 false oneS:=⟨rfl,by rw [show(1:Int).natAbs=1 from rfl,Um 1 (by decide) (by decide)];rfl⟩
theorem YD (w:World) :
    Calls Tryz.prog 120 #[] w fun e w'=>e=.returned (whole false oneS)∧w.grownBy w' none:=by
 go_enter Tryz.func120,Tryz.ntmps120
 go_wp2_with fail
 refine(of_any 1 (by decide) (by decide) _).mono ?_
 rintro e w1 ⟨s,rfl,hs,hg⟩
 obtain rfl:s=oneS:=(XR (⟨rfl,hs⟩:IsZ 1 false s)).2
 have hb:WBlk w1 w.heap.size (.bool false) (.string eS):=WBlk.kept (w:=w.alloc (wObj false eS)) (heap_alloc_new _ _) hg (by simp)
 have hc0:=hb.c0
 have hc1:=hb.c1
 have hf0:=hb.fr 0
 have hf1:=hb.fr 1
 have HG:Hid ((w.alloc (wObj false eS)).grownBy w1 none):=hg
 clear hg hs
 go_wp2_with fail
 refine bodyPost_ret (ZV rfl _ _ w.heap.size _ _ _ _ rfl (hb.put _ _)) rfl ?_
 exact⟨rfl,Zb (Zb (Za (grow1 _ _) HG.out) (Nat.le_refl _)) (Nat.le_refl _)⟩
theorem ZbK (n d:Bool) (s t:ByteArray) (h1:s.size≤1024) (h2:t.size≤1024) (w:World) :
    Calls Tryz.prog 118 #[frac n s d t] w fun e w'=>e=.returned (.bool false)∧w'=w.alloc (qObj n s d t):=by
 have h1I:(s.size:Int)≤1024:=by omega
 have h2I:(t.size:Int)≤1024:=by omega
 clear h1 h2
 go_enter Tryz.func118,Tryz.ntmps118
 go_wp2
 go_ret
 exact⟨Zh (by rw [decide_eq_false (by omega),decide_eq_false (by omega)];rfl),rfl⟩
theorem ZeB (n d:Bool) (s t:ByteArray) (z1:s.size≤maxLen) (z2:t.size≤maxLen) (h:¬(s.size≤1024∧t.size≤1024)) (w:World) :
    Calls Tryz.prog 118 #[frac n s d t] w fun e w'=>e=.returned (.bool true)∧w'=w.alloc (qObj n s d t):=by
 unfold maxLen at z1 z2
 have z1I:(s.size:Int)≤9223372036854775807:=by omega
 have z2I:(t.size:Int)≤9223372036854775807:=by omega
 by_cases h1:s.size≤1024
 ·have h1I:(s.size:Int)≤1024:=by omega
  have h2I:(1025:Int)≤(t.size:Int):=by omega
  clear h h1 z1 z2
  go_enter Tryz.func118,Tryz.ntmps118
  go_wp2
  go_ret
  exact⟨Zh (by rw [decide_eq_false (show ¬(1024:Int)<s.size by omega),decide_eq_true (show(1024:Int)<t.size by omega)];rfl),rfl⟩
 ·have h1I:(1025:Int)≤(s.size:Int):=by omega
  clear h h1 z1 z2
  go_enter Tryz.func118,Tryz.ntmps118
  go_wp2
  go_ret
  exact⟨rfl,rfl⟩
theorem JU (w:World) (a b c o:Obj):((((w.alloc a).alloc b).alloc c).alloc o).heap[w.heap.size+3]?=some o:=by
 have:=heap_alloc_new (((w.alloc a).alloc b).alloc c) o
 simpa using this
theorem JQ (n d:Bool) (s t sg:ByteArray) (er:Int)
    (HG:Hid (∀W B,W.heap[B]?=some (.cells #[.bool n,.string s,.bool d,.string t] 38 (0,0))→Calls Tryz.prog 141 #[.slice (some ⟨B,0,none⟩) 2 2] W fun e w'=>e=.returned (.tuple #[whole false sg,.int .i64 er])∧W.grownBy w' none)) (w:World) :
    Calls Tryz.prog 119 #[whole n s,whole d t] w fun e w'=>e=.returned (whole false sg)∧w.grownBy w' none:=by
 go_enter Tryz.func119,Tryz.ntmps119
 go_wp2_with fail
 refine(HG.out _ _ (by first|exact JU _ _ _ _ _|(have:=JU w (wObj n s) (wObj d t) (wObj false eS) (.cells #[.bool n,.string s,.bool d,.string t] 38);simpa using this))).mono ?_
 rintro e w1 ⟨rfl,g1⟩
 have hg:(((w.alloc (wObj n s)).alloc (wObj d t)).alloc (wObj false eS)).grownBy (w1.alloc (wObj false sg)) none:=Za (Za (grow1 _ _) g1) (grow1 _ _)
 have hW:WBlk (w1.alloc (wObj false sg)) (w.heap.size+2) (.bool false) (.string eS):=WBlk.kept (Yp _ _ _ _) hg (by simp)
 have hA:WBlk (w1.alloc (wObj false sg)) w1.heap.size (.bool false) (.string sg):=heap_alloc_new _ _
 have HGG:Hid ((((w.alloc (wObj n s)).alloc (wObj d t)).alloc (wObj false eS)).grownBy (w1.alloc (wObj false sg)) none):=hg
 have hc0:=hW.c0
 have hc1:=hW.c1
 have hf0:=hW.fr 0
 have hf1:=hW.fr 1
 have a0:=hA.c0
 have a1:=hA.c1
 clear g1 hg
 go_wp2_with fail
 refine bodyPost_ret (ZV rfl _ _ (w.heap.size+2) _ _ _ _ rfl (hW.put _ _)) rfl ?_
 exact⟨rfl,Zb (Zb (Za (grow3 _ _ _ _) HGG.out) (by omega)) (by omega)⟩
theorem Zdw (g:Nat):∃s,IsZ ((g:Nat):Int) false s:=⟨strOf (ints (magN g)),by symm;exact decide_eq_false (by omega),by rw [Int.natAbs_natCast];exact Yk _ (Zbn _)⟩
theorem Zcf {k:Nat} {x y:Int} {n d:Bool} {s t sg:ByteArray} (hk:k≤16384) (h1:Sz k x n s) (h2:Sz k y d t) (hg:IsZ ((Int.gcd x y:Nat):Int) false sg) (w:World) :
    Calls Tryz.prog 119 #[whole n s,whole d t] w fun e w'=>e=.returned (whole false sg)∧w.grownBy w' none:=by
 refine JQ n d s t sg 0 (fun W B hB=>?_) w
 refine(gcd_two hk h1 h2 W B hB).mono ?_
 rintro e w' ⟨s',rfl,hz,hgw⟩
 obtain⟨_,rfl⟩:=ZU (hz.1.one hg)
 exact⟨rfl,hgw⟩
theorem ZdU (n d:Bool) (s t:ByteArray) (z1:s.size≤maxLen) (z2:t.size≤maxLen) (h:(may n s && may d t)=false) (w:World) :
    Calls Tryz.prog 119 #[whole n s,whole d t] w fun e w'=>e=.returned (whole false eS)∧w.grownBy w' none:=by
 refine JQ n d s t eS 2 (fun W B hB=>?_) w
 have hD:DW W (.slice (some ⟨B,0,none⟩) 2 2) [(n,s),(d,t)]:=by
  refine⟨B,0,2,rfl,by simp,fun j p hp=>?_⟩
  simp only [World.cell?,hB]
  match j,hp with
  |0,hp=>cases hp;exact⟨rfl,rfl⟩
  |1,hp=>cases hp;exact⟨rfl,rfl⟩
 refine Zfl W _ _ hD (by simp) ?_ ?_
 ·intro p hp
  simp at hp
  rcases hp with rfl|rfl<;>assumption
 ·simpa [mayAll]using h
theorem Jq (n d:Bool) (s t:ByteArray) (c:Int) (hc:c≤0)
    (HS:Hid (∀w,Calls Tryz.prog 117 #[whole d t] w fun e w'=>e=.returned (.int .i64 c)∧w.grownBy w' none)) (w:World) :
    Calls Tryz.prog 89 #[frac n s d t] w fun e w'=>e=.returned (.bool false)∧w.grownBy w' none:=by
 go_enter Tryz.func89,Tryz.ntmps89
 go_wp2_with fail
 refine(HS.out _).mono ?_
 rintro e w1 ⟨rfl,g1⟩
 have HG:Hid (w.grownBy w1 none):=Za (grow1 _ _) g1
 clear g1
 go_wp2_with fail
 go_ret
 exact⟨rfl,HG.out⟩
theorem Zdm (n d:Bool) (s t:ByteArray)
    (HS:Hid (∀w,Calls Tryz.prog 117 #[whole d t] w fun e w'=>e=.returned (.int .i64 1)∧w.grownBy w' none))
    (HL:Hid (∀w,Calls Tryz.prog 118 #[frac n s d t] w fun e w'=>e=.returned (.bool true)∧w'=w.alloc (qObj n s d t))) (w:World) :
    Calls Tryz.prog 89 #[frac n s d t] w fun e w'=>e=.returned (.bool false)∧w.grownBy w' none:=by
 go_enter Tryz.func89,Tryz.ntmps89
 go_wp2_with fail
 refine(HS.out _).mono ?_
 rintro e w1 ⟨rfl,g1⟩
 have hQ:QBlk w1 w.heap.size (.bool n) (.string s) (.bool d) (.string t):=QBlk.kept (w:=w.alloc (qObj n s d t)) (heap_alloc_new _ _) g1 (by simp)
 have HG:Hid (w.grownBy w1 none):=Za (grow1 _ _) g1
 have c0:=hQ.c0
 have c1:=hQ.c1
 have c2:=hQ.c2
 have c3:=hQ.c3
 clear g1 hQ
 go_wp2_with fail
 refine(HL.out _).mono ?_
 rintro e w2 ⟨rfl,rfl⟩
 go_wp2_with fail
 go_ret
 exact⟨rfl,Za HG.out (grow1 _ _)⟩
theorem Vy (n d:Bool) (s t sg:ByteArray) (b:Bool) (hb:b=decide (sg.toList=[1]))
    (HS:Hid (∀w,Calls Tryz.prog 117 #[whole d t] w fun e w'=>e=.returned (.int .i64 1)∧w.grownBy w' none))
    (HL:Hid (∀w,Calls Tryz.prog 118 #[frac n s d t] w fun e w'=>e=.returned (.bool false)∧w'=w.alloc (qObj n s d t)))
    (HC:Hid (∀w,Calls Tryz.prog 119 #[whole n s,whole d t] w fun e w'=>e=.returned (whole false sg)∧w.grownBy w' none)) (w:World) :
    Calls Tryz.prog 89 #[frac n s d t] w fun e w'=>e=.returned (.bool b)∧w.grownBy w' none:=by
 go_enter Tryz.func89,Tryz.ntmps89
 go_wp2_with fail
 refine(HS.out _).mono ?_
 rintro e w1 ⟨rfl,g1⟩
 have hQ:QBlk w1 w.heap.size (.bool n) (.string s) (.bool d) (.string t):=QBlk.kept (w:=w.alloc (qObj n s d t)) (heap_alloc_new _ _) g1 (by simp)
 have HG:Hid (w.grownBy w1 none):=Za (grow1 _ _) g1
 have c0:=hQ.c0
 have c1:=hQ.c1
 have c2:=hQ.c2
 have c3:=hQ.c3
 have HQ:Hid (QBlk (w1.alloc (qObj n s d t)) w.heap.size (.bool n) (.string s) (.bool d) (.string t)):=hQ.kept (grow1 _ _) (by simp)
 clear g1 hQ
 go_wp2_with fail
 refine(HL.out _).mono ?_
 rintro e w2 ⟨rfl,rfl⟩
 clear c0 c1 c2 c3
 have c0:=HQ.out.c0
 have c1:=HQ.out.c1
 have c2:=HQ.out.c2
 have c3:=HQ.out.c3
 go_wp2_with fail
 refine(HC.out _).mono ?_
 rintro e w3 ⟨rfl,g3⟩
 have HG3:Hid (w.grownBy w3 none):=Za HG.out (Za (grow1 _ _) g3)
 clear g3
 go_wp2_with fail
 refine(YD _).mono ?_
 rintro e w4 ⟨rfl,g4⟩
 have HG4:Hid (w.grownBy w4 none):=Za HG3.out g4
 clear g4
 go_wp2_with fail
 all_goals
  rename_i h
  go_ret
  exact⟨Zh (by rw [hb];simp [h]),HG4.out⟩
theorem Zbw {g:Nat} {sg:ByteArray} (h:IsZ ((g:Nat):Int) false sg):sg.toList=[1] ↔ g=1:=by
 constructor
 ·intro e
  have h1:sg=oneS:=by
   have:sg.data.toList=[1]:=by rw [←ByteArray.toList_eq];exact e
   have h2:sg.data=#[1]:=by
    apply Array.toList_inj.1
    simpa using this
   cases sg
   simp at h2
   subst h2
   rfl
  subst h1
  have:=(Xp.num).symm.trans h.num
  omega
 ·rintro rfl
  rw [(XR h).2,ByteArray.toList_eq]
theorem Vr (n d:Bool) (s t:ByteArray) (z1:s.size≤maxLen) (z2:t.size≤maxLen) (w:World) :
    Calls Tryz.prog 89 #[frac n s d t] w fun e w'=>e=.returned (.bool (mayQ n s d t))∧w.grownBy w' none:=by
 cases hd:may d t
 ·have hm:mayQ n s d t=false:=by simp [mayQ,hd]
  rw [hm]
  refine Jq n d s t 0 (by decide) (fun w=>?_) w
  exact sign_no d t z2 hd w
 have hsg:=fun w=>Zfv d t z2 hd w
 by_cases hp:0<num d t
 ·have h1:sgn d t=1:=by
    rcases VP hd with ⟨a,_,c,_⟩|⟨a,_,c,_⟩|⟨a,_,c,_⟩<;>omega
  rw [h1]at hsg
  by_cases hl:s.size≤1024∧t.size≤1024
  ·cases hn:may n s
   ·have hm:mayQ n s d t=false:=by simp [mayQ,hn]
    rw [hm]
    refine Vy n d s t eS false (by rw [ByteArray.toList_eq];simp) (fun w=>hsg w) (fun w=>ZbK n d s t hl.1 hl.2 w) (fun w=>?_) w
    exact ZdU n d s t z1 z2 (by simp [hn]) w
   ·have e1:=Xf hn hl.1
    have e2:=Xf hd hl.2
    obtain⟨sg,hg⟩:=Zdw (Int.gcd (num n s) (num d t))
    refine Vy n d s t sg _ ?_ (fun w=>hsg w) (fun w=>ZbK n d s t hl.1 hl.2 w) (fun w=>Zcf (k:=1024) (by decide) e1 e2 hg w) w
    simp only [mayQ,hn,hd,decide_eq_true hl,decide_eq_true hp,Bool.true_and]
    exact decide_eq_decide.2 (Zbw hg).symm
  ·have hm:mayQ n s d t=false:=by simp only [mayQ,decide_eq_false hl,Bool.false_and]
   rw [hm]
   exact Zdm n d s t (fun w=>hsg w) (fun w=>ZeB n d s t z1 z2 hl w) w
 ·have hm:mayQ n s d t=false:=by simp only [mayQ,decide_eq_false hp,Bool.false_and,Bool.and_false]
  rw [hm]
  have h1:sgn d t≤0:=by
   rcases VP hd with ⟨a,_,c,_⟩|⟨a,_,c,_⟩|⟨a,_,c,_⟩<;>omega
  exact Jq n d s t (sgn d t) h1 (fun w=>hsg w) w
def fitsB (s t:ByteArray):Bool:=decide (s.size≤1024∧t.size≤1024)
def tB (f n:Bool):Bool:=f && n
end Go.Proofs.YtdcadiaeaclpgaaGreatDoor
