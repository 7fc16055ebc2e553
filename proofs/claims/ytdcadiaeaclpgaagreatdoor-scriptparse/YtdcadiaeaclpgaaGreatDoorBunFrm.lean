/- The document's Of, of any two numbers that may be. -/
import Derived.Test.YtdcadiaeaclpgaaGreatDoorBunFri
import Derived.Test.YtdcadiaeaclpgaaGreatDoorRgc
import Derived.Test.YtdcadiaeaclpgaaGreatDoorBunRdv
import Derived.Test.YtdcadiaeaclpgaaGreatDoorBunOps
import Derived.Test.YtdcadiaeaclpgaaGreatDoorBunRdn
import Derived.Test.YtdcadiaeaclpgaaGreatDoorBunTtm
import Derived.Test.YtdcadiaeaclpgaaGreatDoorBunAll
namespace Go.Proofs.YtdcadiaeaclpgaaGreatDoor
open Go.RowKit Go.Lib Go.Sort
set_option linter.unusedVariables false
set_option maxHeartbeats 1600000
set_option maxRecDepth 1000000
theorem rgcd_is {k:Nat} {x y:Int} {n d:Bool} {s t sg:ByteArray} (hk:k≤16384) (h1:Sz k x n s) (h2:Sz k y d t) (hg:IsZ ((Int.gcd x y:Nat):Int) false sg) (w:World) :
    Calls Tryz.prog 145 #[whole n s,whole d t] w fun e w'=>e=.returned (whole false sg)∧w.grownBy w' none:=by
 refine(ZfD n d s t (h1.may hk) (h2.may hk) w).mono ?_
 rintro e w' ⟨s0,rfl,hs,hgw⟩
 have e1:=XL n s
 have e2:=XL d t
 rw [h1.num]at e1
 rw [h2.num]at e2
 rw [←e1,←e2]at hs
 have hz0:IsZ ((Int.gcd x y:Nat):Int) false s0:=⟨by symm;exact decide_eq_false (by omega),by rw [Int.natAbs_natCast];exact hs⟩
 exact⟨by rw [hz0.one hg],hgw⟩
theorem Zcv (n d b1 b2:Bool) (s t sg:ByteArray) (c:Int) (b:Bool) (hb:b=(b1 && (b2 && (decide (0<c) && decide (sg.toList=[1]))))) (hcc:c≤0∨c=1)
    (HF1:Hid (∀w,Calls Tryz.prog 143 #[whole n s] w fun e w'=>e=.returned (.bool b1)∧w.grownBy w' none))
    (HF2:Hid (∀w,Calls Tryz.prog 143 #[whole d t] w fun e w'=>e=.returned (.bool b2)∧w.grownBy w' none))
    (HS:Hid (∀w,Calls Tryz.prog 144 #[whole d t] w fun e w'=>e=.returned (.int .i64 c)∧w.grownBy w' none))
    (HC:Hid (b1=true→b2=true→∀w,Calls Tryz.prog 145 #[whole n s,whole d t] w fun e w'=>e=.returned (whole false sg)∧w.grownBy w' none))
    (HO:Hid (∀w,Calls Tryz.prog 86 #[.int .i64 1] w fun e w'=>e=.returned (whole false oneS)∧w.grownBy w' none)) (w:World) :
    Calls Tryz.prog 122 #[frac n s d t] w fun e w'=>e=.returned (.bool b)∧w.grownBy w' none:=by
 cases b1
 ·obtain rfl:b=false:=by rw [hb];rfl
  clear hb hcc HC
  go_enter Tryz.func122,Tryz.ntmps122
  go_wp2_with fail
  refine(HF1.out _).mono ?_
  rintro e w1 ⟨rfl,g1⟩
  have HG:Hid (w.grownBy w1 none):=Za (grow1 _ _) g1
  clear g1
  go_wp2_with fail
  go_ret
  exact⟨rfl,HG.out⟩
 ·cases b2
  ·obtain rfl:b=false:=by rw [hb];rfl
   clear hb hcc HC
   go_enter Tryz.func122,Tryz.ntmps122
   go_wp2_with fail
   refine(HF1.out _).mono ?_
   rintro e w1 ⟨rfl,g1⟩
   have hQ:QBlk w1 w.heap.size (.bool n) (.string s) (.bool d) (.string t):=QBlk.kept (w:=w.alloc (qObj n s d t)) (heap_alloc_new _ _) g1 (by simp)
   have HG:Hid (w.grownBy w1 none):=Za (grow1 _ _) g1
   have c2:=hQ.c2
   have c3:=hQ.c3
   clear g1 hQ
   go_wp2_with fail
   refine(HF2.out _).mono ?_
   rintro e w2 ⟨rfl,g2⟩
   have HG2:Hid (w.grownBy w2 none):=Za HG.out g2
   clear g2 c2 c3
   go_wp2_with fail
   go_ret
   exact⟨rfl,HG2.out⟩
  ·have HCC:=HC.out rfl rfl
   have HC':Hid (∀w,Calls Tryz.prog 145 #[whole n s,whole d t] w fun e w'=>e=.returned (whole false sg)∧w.grownBy w' none):=HCC
   clear HC HCC
   go_enter Tryz.func122,Tryz.ntmps122
   go_wp2_with fail
   refine(HF1.out _).mono ?_
   rintro e w1 ⟨rfl,g1⟩
   have hQ:QBlk w1 w.heap.size (.bool n) (.string s) (.bool d) (.string t):=QBlk.kept (w:=w.alloc (qObj n s d t)) (heap_alloc_new _ _) g1 (by simp)
   have HQ:Hid (QBlk w1 w.heap.size (.bool n) (.string s) (.bool d) (.string t)):=hQ
   have HG:Hid (w.grownBy w1 none):=Za (grow1 _ _) g1
   have c2:=hQ.c2
   have c3:=hQ.c3
   clear g1 hQ
   go_wp2_with fail
   refine(HF2.out _).mono ?_
   rintro e w2 ⟨rfl,g2⟩
   have HQ2:Hid (QBlk w2 w.heap.size (.bool n) (.string s) (.bool d) (.string t)):=HQ.out.kept g2 (by simp)
   have HG2:Hid (w.grownBy w2 none):=Za HG.out g2
   clear g2 c2 c3 HQ HG
   have c2:=HQ2.out.c2
   have c3:=HQ2.out.c3
   go_wp2_with fail
   refine(HS.out _).mono ?_
   rintro e w3 ⟨rfl,g3⟩
   have HQ3:Hid (QBlk w3 w.heap.size (.bool n) (.string s) (.bool d) (.string t)):=HQ2.out.kept g3 (by simp)
   have HG3:Hid (w.grownBy w3 none):=Za HG2.out g3
   clear g3 c2 c3 HQ2 HG2
   have c0:=HQ3.out.c0
   have c1:=HQ3.out.c1
   have c2:=HQ3.out.c2
   have c3:=HQ3.out.c3
   rcases hcc with hc|rfl
   ·obtain rfl:b=false:=by rw [hb,decide_eq_false (by omega)];rfl
    clear hb
    go_wp2_with fail
    go_ret
    exact⟨rfl,HG3.out⟩
   ·have hb':b=decide (sg.toList=[1]):=by rw [hb];rfl
    clear hb
    go_wp2_with fail
    refine(HC'.out _).mono ?_
    rintro e w4 ⟨rfl,g4⟩
    have HG4:Hid (w.grownBy w4 none):=Za HG3.out g4
    clear g4
    go_wp2_with fail
    refine(HO.out _).mono ?_
    rintro e w5 ⟨rfl,g5⟩
    have HG5:Hid (w.grownBy w5 none):=Za HG4.out g5
    clear g5
    go_wp2_with fail
    all_goals
     rename_i h
     go_ret
     exact⟨Zh (by rw [hb'];simp [h]),HG5.out⟩
theorem Zbr (n d b1 b2:Bool) (s t:ByteArray)
    (HF:Hid (∀w,Calls Tryz.prog 121 #[frac n s d t] w fun e w'=>e=.returned (.bool b1)∧w'=w.alloc (qObj n s d t)))
    (HG:Hid (b1=true→∀w,Calls Tryz.prog 122 #[frac n s d t] w fun e w'=>e=.returned (.bool b2)∧w.grownBy w' none)) (w:World) :
    Calls Tryz.prog 91 #[frac n s d t] w fun e w'=>e=.returned (.bool (b1 && b2))∧w.grownBy w' none:=by
 cases b1
 ·go_enter Tryz.func91,Tryz.ntmps91
  go_wp2_with fail
  refine(HF.out _).mono ?_
  rintro e w1 ⟨rfl,rfl⟩
  go_wp2_with fail
  go_ret
  exact⟨rfl,grow2 _ _ _⟩
 ·have HGG:Hid (∀w,Calls Tryz.prog 122 #[frac n s d t] w fun e w'=>e=.returned (.bool b2)∧w.grownBy w' none):=HG.out rfl
  clear HG
  go_enter Tryz.func91,Tryz.ntmps91
  go_wp2_with fail
  refine(HF.out _).mono ?_
  rintro e w1 ⟨rfl,rfl⟩
  go_wp2_with fail
  refine(HGG.out _).mono ?_
  rintro e w2 ⟨rfl,g2⟩
  go_wp2_with fail
  go_ret
  exact⟨Zh (by simp),Za (grow2 _ _ _) g2⟩
theorem U1 (w:World):Calls Tryz.prog 86 #[.int .i64 1] w fun e w'=>e=.returned (whole false oneS)∧w.grownBy w' none:=by
 refine(Zdn 1 (by decide) (by decide) w).mono ?_
 rintro e w' ⟨s,rfl,hs,hg⟩
 obtain⟨_,h2⟩:=XR (n:=false) (s:=s) ⟨rfl,hs⟩
 exact⟨by rw [h2];rfl,hg⟩
theorem Xs (n d:Bool) (s t:ByteArray) (z1:s.size≤maxLen) (z2:t.size≤maxLen) (w:World) :
    Calls Tryz.prog 91 #[frac n s d t] w fun e w'=>e=.returned (.bool (mayQ n s d t))∧w.grownBy w' none:=by
 by_cases hl:s.size≤1024∧t.size≤1024
 ·have hf:fitsB s t=true:=decide_eq_true hl
  have hF:∀w,Calls Tryz.prog 121 #[frac n s d t] w fun e w'=>e=.returned (.bool true)∧w'=w.alloc (qObj n s d t):=fun w=>by
   have:=JP n d s t z1 z2 w
   rw [hf]at this
   exact this
  have f1:may n s=formed n s:=by rw [may_eq,decide_eq_true (show s.size≤16384 by omega),Bool.and_true]
  have f2:may d t=formed d t:=by rw [may_eq,decide_eq_true (show t.size≤16384 by omega),Bool.and_true]
  obtain⟨sg,hg⟩:=Zdw (Int.gcd (num n s) (num d t))
  have hcc:sgn d t≤0∨sgn d t=1:=by
   unfold sgn
   split
   ·exact .inl (by decide)
   ·cases d
    ·exact .inr rfl
    ·exact .inl (by decide)
  have key:=Zbr n d true (mayQ n s d t) s t hF (fun _ w=>?_) w
  ·exact key
  ·refine Zcv n d (may n s) (may d t) s t sg (sgn d t) _ ?_ hcc (fun w=>?_) (fun w=>?_) (fun w=>ZdN d t w) (fun h1 h2 w=>rgcd_is (k:=1024) (by decide) (Xf h1 hl.1) (Xf h2 hl.2) hg w) (fun w=>U1 w) w
   ·cases hn:may n s
    ·simp [mayQ,hn]
    ·cases hd:may d t
     ·simp [mayQ,hd]
     ·have hs:(0<num d t) ↔ 0<sgn d t:=by
        rcases VP hd with ⟨a,_,c,_⟩|⟨a,_,c,_⟩|⟨a,_,c,_⟩<;>omega
      simp only [mayQ,hn,hd,decide_eq_true hl,Bool.true_and]
      rw [decide_eq_decide.2 hs,decide_eq_decide.2 (Zbw hg)]
   ·refine(Uq n s z1 w).mono ?_
    rintro e w' ⟨rfl,rfl⟩
    exact⟨by rw [f1],grow1 _ _⟩
   ·refine(Uq d t z2 w).mono ?_
    rintro e w' ⟨rfl,rfl⟩
    exact⟨by rw [f2],grow1 _ _⟩
 ·have hf:fitsB s t=false:=decide_eq_false hl
  have hm:mayQ n s d t=false:=by simp only [mayQ,decide_eq_false hl,Bool.false_and]
  rw [hm]
  exact Zbr n d false false s t (fun w=>by
   have:=JP n d s t z1 z2 w
   rw [hf]at this
   exact this) (fun h=>by cases h) w
end Go.Proofs.YtdcadiaeaclpgaaGreatDoor
