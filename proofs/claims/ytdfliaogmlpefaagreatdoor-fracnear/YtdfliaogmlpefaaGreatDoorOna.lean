/-
  frac's Neg, Abs, Int; the document's Abs, Int, Small, Whole.
-/
import Derived.Test.YtdfliaogmlpefaaGreatDoorBunFrq
namespace Go.Proofs.YtdfliaogmlpefaaGreatDoor
open Go.RowKit Go.Lib Go.Sort
set_option linter.unusedVariables false
set_option maxHeartbeats 1600000
set_option maxRecDepth 1000000
theorem opposite_by (n d m : Bool) (s t s' : ByteArray)
    (HN : Hid (∀ w, Calls Tryz.prog 98 #[whole n s] w fun e w' => e = .returned (.tuple #[whole m s', .int .i64 0]) ∧ w.grownBy w' none)) (w : World) :
    Calls Tryz.prog 50 #[frac n s d t] w fun e w' => e = .returned (frac m s' d t) ∧ w.grownBy w' none := by
  go_enter Tryz.func50, Tryz.ntmps50
  go_wp2_with fail
  refine (HN.out _).mono ?_
  rintro e w1 ⟨rfl, g1⟩
  have hX : QBlk w1 w.heap.size (.bool n) (.string s) (.bool d) (.string t) := QBlk.kept (at_alloc1 _ _ _) g1 (by simp)
  have hR : QBlk w1 (w.heap.size + 1) (.bool false) (.string eS) (.bool false) (.string eS) := QBlk.kept (heap_alloc2_new _ _ _) g1 (by simp)
  have G1 : Hid (w.grownBy w1 none) := grownBy_trans (grow2 _ _ _) g1
  clear g1
  have c0 := hX.c0
  have c1 := hX.c1
  have c2 := hX.c2
  have c3 := hX.c3
  have f0 := hX.fr 0
  have f1 := hX.fr 1
  have r0 := hR.c0
  have r1 := hR.c1
  have r2 := hR.c2
  have r3 := hR.c3
  have q0 := hR.fr 0
  have q1 := hR.fr 1
  have q2 := hR.fr 2
  have q3 := hR.fr 3
  go_wp2_with fail
  refine bodyPost_ret (res_cellQ rfl _ _ (w.heap.size + 1) _ _ _ _ _ _ rfl (QBlk.put ((hR.other (by omega)).other (by omega)) _ _ _ _)) rfl ?_
  exact ⟨rfl, grown_put4 (grown_set (grown_set G1.out (by omega)) (by omega)) (by omega)⟩
theorem fabs_by (n d : Bool) (s t : ByteArray)
    (HM : Hid (∀ w, Calls Tryz.prog 40 #[frac n s d t] w fun e w' => e = .returned (.bool true) ∧ w.grownBy w' none)) (w : World) :
    Calls Tryz.prog 13 #[frac n s d t] w fun e w' => e = .returned (.tuple #[frac false s d t, .int .i64 0]) ∧ w.grownBy w' none := by
  go_enter Tryz.func13, Tryz.ntmps13
  go_wp2_with fail
  refine (HM.out _).mono ?_
  rintro e w1 ⟨rfl, g1⟩
  have hX : QBlk w1 w.heap.size (.bool n) (.string s) (.bool d) (.string t) := QBlk.kept (at_alloc1 _ _ _) g1 (by simp)
  have hR : QBlk w1 (w.heap.size + 1) (.bool false) (.string eS) (.bool false) (.string eS) := QBlk.kept (heap_alloc2_new _ _ _) g1 (by simp)
  have G1 : Hid (w.grownBy w1 none) := grownBy_trans (grow2 _ _ _) g1
  clear g1
  have c0 := hX.c0
  have c1 := hX.c1
  have c2 := hX.c2
  have c3 := hX.c3
  have f0 := hX.fr 0
  have r0 := hR.c0
  have r1 := hR.c1
  have r2 := hR.c2
  have r3 := hR.c3
  have q0 := hR.fr 0
  have q1 := hR.fr 1
  have q2 := hR.fr 2
  have q3 := hR.fr 3
  go_wp2_with fail
  refine bodyPost_ret (res_cellQ_tmp rfl _ _ (w.heap.size + 1) _ _ _ _ _ _ rfl (QBlk.put (hR.other (by omega)) _ _ _ _)) rfl ?_
  exact ⟨rfl, grown_put4 (grown_set G1.out (by omega)) (by omega)⟩
theorem fint_by (x : Int) (n : Bool) (s : ByteArray)
    (HO : Hid (∀ w, Calls Tryz.prog 52 #[.int .i64 x] w fun e w' => e = .returned (whole n s) ∧ w.grownBy w' none)) (w : World) :
    Calls Tryz.prog 19 #[.int .i64 x] w fun e w' => e = .returned (frac n s false oneS) ∧ w.grownBy w' none := by
  go_enter Tryz.func19, Tryz.ntmps19
  go_wp2_with fail
  refine (HO.out _).mono ?_
  rintro e w1 ⟨rfl, g1⟩
  go_wp2_with fail
  refine (fone_any _).mono ?_
  rintro e w2 ⟨rfl, g2⟩
  have G2 : (w.alloc (qObj false eS false eS)).grownBy w2 none := grownBy_trans g1 g2
  have hR : QBlk w2 w.heap.size (.bool false) (.string eS) (.bool false) (.string eS) := QBlk.kept (heap_alloc_new _ _) G2 (by simp)
  have HG : Hid (w.grownBy w2 none) := grownBy_trans (grow1 _ _) G2
  clear g1 g2 G2
  have r0 := hR.c0
  have r1 := hR.c1
  have r2 := hR.c2
  have r3 := hR.c3
  have q0 := hR.fr 0
  have q1 := hR.fr 1
  have q2 := hR.fr 2
  have q3 := hR.fr 3
  go_wp2_with fail
  refine bodyPost_ret (res_cellQ rfl _ _ w.heap.size _ _ _ _ _ _ rfl (hR.put _ _ _ _)) rfl ?_
  exact ⟨rfl, grown_put4 HG.out (Nat.le_refl _)⟩
end Go.Proofs.YtdfliaogmlpefaaGreatDoor
