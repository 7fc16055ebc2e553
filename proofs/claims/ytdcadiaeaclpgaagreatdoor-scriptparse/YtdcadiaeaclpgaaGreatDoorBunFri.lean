/- frac's Text of a sixth. -/
import Derived.Test.YtdcadiaeaclpgaaGreatDoorBunFrb
import Derived.Deep.RegionWith
import Derived.Test.YtdcadiaeaclpgaaGreatDoorBunWka
import Derived.RangeFuncFrom
import Derived.RangeFuncNested
import Derived.RangeFuncBound
import Derived.RangeFuncCalls
import Derived.RangeFuncLeaves
import Derived.RangeFuncBox
import Derived.Shelf.Abstract
import Derived.Shelf.RegionOpen
import Derived.OwnWalkIn
import Derived.TacticsInMore
import Derived.LoopNIn
import Derived.LoopIn
namespace Go.Proofs.YtdcadiaeaclpgaaGreatDoor
open Go.RowKit Go.Lib Go.Sort
set_option linter.unusedVariables false
set_option maxHeartbeats 3200000
set_option maxRecDepth 1000000
theorem Zej (n d:Bool) (s t a b:ByteArray) (hd:d=false) (hne:¬t.toList=[1]) (ha:a.size≤100000) (hb:b.size≤100000)
    (HM:Hid (∀w,Calls Tryz.prog 89 #[frac n s d t] w fun e w'=>e=.returned (.bool true)∧w.grownBy w' none)) (w:World)
    (HN:Hid (∀W,w.grownBy W none→Calls Tryz.prog 132 #[whole n s] W fun e w'=>e=.returned (.tuple #[.string a,.int .i64 0])∧W.grownBy w' none))
    (HD:Hid (∀W,w.grownBy W none→Calls Tryz.prog 132 #[whole d t] W fun e w'=>e=.returned (.tuple #[.string b,.int .i64 0])∧W.grownBy w' none)) :
    Calls Tryz.prog 107 #[frac n s d t] w fun e w'=>e=.returned (.tuple #[.string (a++⟨#[47]⟩++b),.int .i64 0])∧w.grownBy w' none:=by
 subst hd
 go_enter Tryz.func107,Tryz.ntmps107
 go_wp2_with fail
 refine(HM.out _).mono ?_
 rintro e w1 ⟨rfl,g1⟩
 have hQ:QBlk w1 w.heap.size (.bool n) (.string s) (.bool false) (.string t):=QBlk.kept (w:=w.alloc (qObj n s false t)) (heap_alloc_new _ _) g1 (by simp)
 have HQ:Hid (QBlk w1 w.heap.size (.bool n) (.string s) (.bool false) (.string t)):=hQ
 have HG:Hid (w.grownBy w1 none):=Za (grow1 _ _) g1
 have c0:=hQ.c0
 have c1:=hQ.c1
 clear g1 hQ
 go_wp2_with fail
 refine(HN.out _ HG.out).mono ?_
 rintro e w2 ⟨rfl,g2⟩
 replace HQ:Hid (QBlk w2 w.heap.size (.bool n) (.string s) (.bool false) (.string t)):=HQ.out.kept g2 (by simp)
 replace HG:Hid (w.grownBy w2 none):=Za HG.out g2
 clear g2 c0 c1
 go_wp2_with fail
 have HY:Hid (∀w',w2.grownBy w' none→w'.cell? ⟨w.heap.size,2,none⟩=some (Value.bool false)∧w'.cell? ⟨w.heap.size,3,none⟩=some (Value.string t)):=fun w' h=>⟨(HQ.out.kept h (by simp)).c2,(HQ.out.kept h (by simp)).c3⟩
 go_region_held3 (fun w'=>w'.cell? ⟨w.heap.size,2,none⟩=some (Value.bool false)∧w'.cell? ⟨w.heap.size,3,none⟩=some (Value.string t))
  (first|(go_keep;done)|exact HY.out _ (by assumption)|exact HY.out _ (Zf (World.grownBy.refl _ _))|fail)
  (first|(go_at_call 120;refine(YD _).mono ?_;rintro e w3 ⟨rfl,g3⟩;have G3:w2.grownBy w3 none:=(by first|exact g3|exact Zj g3))|fail)
 replace HQ:Hid (QBlk w3 w.heap.size (.bool n) (.string s) (.bool false) (.string t)):=HQ.out.kept G3 (by simp)
 replace HG:Hid (w.grownBy w3 none):=Za HG.out G3
 have c2:=HQ.out.c2
 have c3:=HQ.out.c3
 go_wp2_with fail
 refine(HD.out _ HG.out).mono ?_
 rintro e w4 ⟨rfl,g4⟩
 replace HG:Hid (w.grownBy w4 none):=Za HG.out g4
 clear g4 c2 c3
 have haI:(a.size:Int)≤100000:=by omega
 have hbI:(b.size:Int)≤100000:=by omega
 go_wp2_with fail
 go_ret2
 exact⟨rfl,HG.out⟩
theorem ZaU {k : Nat} {x : Int} {n : Bool} {s a : ByteArray} (hk : k ≤ 400) (h : Sz k x n s) (ha : TextOf x a) (w : World) (htab : Lib.TabIs Tryz.prog w "internal/strconv.uint64pow10" .u64 Lib.pow10Tab) :
    Calls Tryz.prog 132 #[whole n s] w fun e w'=>e=.returned (.tuple #[.string a,.int .i64 0])∧w.grownBy w' none:=by
 refine(text_sz hk h w htab).mono ?_
 rintro e w' ⟨b,rfl,hb,_,hg⟩
 obtain rfl:=hb.one ha
 exact⟨rfl,hg⟩
theorem IsQ.call {x y:Int} {n d:Bool} {s t:ByteArray} (h:IsQ x y n s d t) (w:World):Calls Tryz.prog 89 #[frac n s d t] w fun e w'=>e=.returned (.bool true)∧w.grownBy w' none:=by
 have:=Vr n d s t (by have:=ZH (h.zn.may (by decide));unfold maxLen;omega) (by have:=ZH (h.zd.may (by decide));unfold maxLen;omega) w
 rw [h.may]at this
 exact this
theorem JP (n d:Bool) (s t:ByteArray) (z1:s.size≤maxLen) (z2:t.size≤maxLen) (w:World) :
    Calls Tryz.prog 121 #[frac n s d t] w fun e w'=>e=.returned (.bool (fitsB s t))∧w'=w.alloc (qObj n s d t):=by
 unfold maxLen at z1 z2
 have z1I:(s.size:Int)≤9223372036854775807:=by omega
 have z2I:(t.size:Int)≤9223372036854775807:=by omega
 by_cases h1:s.size≤1024
 ·have h1I:(s.size:Int)≤1024:=by omega
  by_cases h2:t.size≤1024
  ·have h2I:(t.size:Int)≤1024:=by omega
   have hb:fitsB s t=true:=decide_eq_true ⟨h1,h2⟩
   rw [hb]
   clear z1 z2 h1 h2 hb
   go_enter Tryz.func121,Tryz.ntmps121
   go_wp2
   go_ret
   exact⟨Zh (by first|rfl|(simp;omega)),rfl⟩
  ·have h2I:(1025:Int)≤(t.size:Int):=by omega
   have hb:fitsB s t=false:=decide_eq_false (fun h=>h2 h.2)
   rw [hb]
   clear z1 z2 h1 h2 hb
   go_enter Tryz.func121,Tryz.ntmps121
   go_wp2
   go_ret
   exact⟨Zh (by first|rfl|(simp;omega)),rfl⟩
 ·have h1I:(1025:Int)≤(s.size:Int):=by omega
  have hb:fitsB s t=false:=decide_eq_false (fun h=>h1 h.1)
  rw [hb]
  clear z1 z2 h1 hb
  go_enter Tryz.func121,Tryz.ntmps121
  go_wp2
  go_ret
  exact⟨Zh (by first|rfl|(simp;omega)),rfl⟩
abbrev b1:ByteArray:=⟨#[1]⟩
abbrev b2:ByteArray:=⟨#[2]⟩
abbrev b3:ByteArray:=⟨#[3]⟩
abbrev b6:ByteArray:=⟨#[6]⟩
theorem Zfg (w:World):Calls Tryz.prog 86 #[.int .i64 0] w fun e w'=>e=.returned (whole false eS)∧w.grownBy w' none:=by
 refine(Zdn 0 (by decide) (by decide) w).mono ?_
 rintro e w' ⟨s,rfl,hs,hg⟩
 have h2:s=eS:=by
  apply Yx
  rw [hs,show Int.natAbs 0=0 from rfl,ZL];rfl
 exact⟨by rw [h2];rfl,hg⟩
end Go.Proofs.YtdcadiaeaclpgaaGreatDoor
