/-
  FracOne of what is too long; frac's Nearest of what may not be.
-/
import Derived.Test.YtdfliaogmlpefaaGreatDoorBunFre
namespace Go.Proofs.YtdfliaogmlpefaaGreatDoor
open Go.RowKit Go.Lib Go.Sort
set_option linter.unusedVariables false
set_option maxHeartbeats 3200000
set_option maxRecDepth 1000000
theorem one_long (n d : Bool) (s t : ByteArray) (x m : Int) (w : World)
    (HL : Hid (∀ (W : World) (B : Nat), W.heap[B]? = some (.cells #[.bool n, .string s, .bool d, .string t] 25 (0, 0)) → Calls Tryz.prog 9 #[.int .i64 1100, .slice (some ⟨B, 0, none⟩) 1 1] W fun e w' => e = .returned (.bool true) ∧ W.grownBy w' none))
    (HK : Hid (∀ W, w.grownBy W none → Calls Tryz.prog 10 #[] W fun e w' => e = .returned (.bool true) ∧ W.grownBy w' none)) :
    Calls Tryz.prog 3 #[frac n s d t, .int .i64 x, .int .i64 m] w fun e w' => e = .returned (.bool true) ∧ w.grownBy w' none := by
  go_enter Tryz.func3, Tryz.ntmps3
  go_wp2_with fail
  refine (HL.out _ _ ?hb).mono ?_
  case hb => exact heap_alloc2_new _ _ _
  rintro e w1 ⟨rfl, g1⟩
  have G1 : w.grownBy w1 none := grownBy_trans (grow2 _ _ _) g1
  clear g1
  go_wp2_with fail
  refine (HK.out _ G1).mono ?_
  rintro e w2 ⟨rfl, g2⟩
  go_wp2_with fail
  go_ret
  exact ⟨rfl, grownBy_trans G1 g2⟩
theorem near_bad (n d : Bool) (s t : ByteArray)
    (HM : Hid (∀ w, Calls Tryz.prog 40 #[frac n s d t] w fun e w' => e = .returned (.bool false) ∧ w.grownBy w' none)) (w : World) :
    Calls Tryz.prog 15 #[frac n s d t] w fun e w' => e = .returned (.tuple #[whole false eS, .int .i64 2]) ∧ w.grownBy w' none := by
  go_enter Tryz.func15, Tryz.ntmps15
  go_wp2_with fail
  refine (HM.out _).mono ?_
  rintro e w1 ⟨rfl, g1⟩
  have H1 : Hid (WBlk w1 (w.heap.size + 1) (.bool false) (.string eS)) := WBlk.kept (heap_alloc2_new _ _ _) g1 (by simp)
  have G1 : Hid (w.grownBy w1 none) := grownBy_trans (grow2 _ _ _) g1
  clear g1
  go_wp2_with fail
  refine (fzero_gr _).mono ?_
  rintro e w2 ⟨rfl, g2⟩
  have hR := H1.out.kept g2 (by simp)
  have G2 : Hid (w.grownBy w2 none) := grownBy_trans G1.out g2
  clear g2
  have k0 := hR.c0
  have k1 := hR.c1
  have k2 := hR.fr 0
  have k3 := hR.fr 1
  go_wp2_with fail
  refine bodyPost_ret (res_cell_tmp rfl _ _ (w.heap.size + 1) _ _ _ _ rfl (hR.put _ _)) rfl ?_
  exact ⟨rfl, grown_set (grown_set G2.out (by omega)) (by omega)⟩
end Go.Proofs.YtdfliaogmlpefaaGreatDoor
