/- frac's Neg, Abs, Int; the document's Abs, Int, Small, Whole. -/
import Derived.Test.YtdcadiaeaclpgaaGreatDoorBunFrb
import Derived.Deep.RegionWith
import Derived.Test.YtdcadiaeaclpgaaGreatDoorBunFri
import Derived.Test.YtdcadiaeaclpgaaGreatDoorBunFrm
import Derived.Deep.CutRange
namespace Go.Proofs.YtdcadiaeaclpgaaGreatDoor
open Go.RowKit Go.Lib Go.Sort
set_option linter.unusedVariables false
set_option maxHeartbeats 1600000
set_option maxRecDepth 1000000
theorem rint_by (x:Int) (n:Bool) (s:ByteArray)
    (HO:Hid (∀w,Calls Tryz.prog 86 #[.int .i64 x] w fun e w'=>e=.returned (whole n s)∧w.grownBy w' none))
    (HO1:Hid (∀w,Calls Tryz.prog 86 #[.int .i64 1] w fun e w'=>e=.returned (whole false oneS)∧w.grownBy w' none)) (w:World) :
    Calls Tryz.prog 99 #[.int .i64 x] w fun e w'=>e=.returned (frac n s false oneS)∧w.grownBy w' none:=by
 go_enter Tryz.func99,Tryz.ntmps99
 go_wp2_with fail
 refine(HO.out _).mono ?_
 rintro e w1 ⟨rfl,g1⟩
 go_wp2_with fail
 refine(HO1.out _).mono ?_
 rintro e w2 ⟨rfl,g2⟩
 have G2:(w.alloc (qObj false eS false eS)).grownBy w2 none:=Za g1 g2
 have hR:QBlk w2 w.heap.size (.bool false) (.string eS) (.bool false) (.string eS):=QBlk.kept (heap_alloc_new _ _) G2 (by simp)
 have HG:Hid (w.grownBy w2 none):=Za (grow1 _ _) G2
 clear g1 g2 G2
 have r0:=hR.c0
 have r1:=hR.c1
 have r2:=hR.c2
 have r3:=hR.c3
 have q0:=hR.fr 0
 have q1:=hR.fr 1
 have q2:=hR.fr 2
 have q3:=hR.fr 3
 go_wp2_with fail
 refine bodyPost_ret (ZcV rfl _ _ w.heap.size _ _ _ _ _ _ rfl (hR.put _ _ _ _)) rfl ?_
 exact⟨rfl,Zy HG.out (Nat.le_refl _)⟩
end Go.Proofs.YtdcadiaeaclpgaaGreatDoor
