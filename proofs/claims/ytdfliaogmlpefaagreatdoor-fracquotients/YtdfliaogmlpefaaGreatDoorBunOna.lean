/-
  frac's Neg, Abs, Int; the document's Abs, Int, Small, Whole.
  The document's Floor and Whole of a fraction.
-/
import Derived.Test.YtdfliaogmlpefaaGreatDoorBunFrp
import Derived.Deep.CutRange
namespace Go.Proofs.YtdfliaogmlpefaaGreatDoor
open Go.RowKit Go.Lib Go.Sort
set_option linter.unusedVariables false
set_option maxHeartbeats 1600000
set_option maxRecDepth 1000000
theorem opposite_by (n d m : Bool) (s t s' : ByteArray)
    (HN : Hid (∀ w, Calls Tryz.prog 98 #[whole n s] w fun e w' => e = .returned (.tuple #[whole m s', .int .i64 0]) ∧ w.grownBy w' none)) (w : World) :
    Calls Tryz.prog 50 #[frac n s d t] w fun e w' => e = .returned (frac m s' d t) ∧ w.grownBy w' none := by
  go_enter Tryz.func50, Tryz.ntmps50
  go_wp2_with fail
  refine (HN.out _).mono ?_
  rintro e w1 ⟨rfl, g1⟩
  have hX : QBlk w1 w.heap.size (.bool n) (.string s) (.bool d) (.string t) := QBlk.kept (at_alloc1 _ _ _) g1 (by simp)
  have hR : QBlk w1 (w.heap.size + 1) (.bool false) (.string eS) (.bool false) (.string eS) := QBlk.kept (heap_alloc2_new _ _ _) g1 (by simp)
  have G1 : Hid (w.grownBy w1 none) := grownBy_trans (grow2 _ _ _) g1
  clear g1
  have c0 := hX.c0
  have c1 := hX.c1
  have c2 := hX.c2
  have c3 := hX.c3
  have f0 := hX.fr 0
  have f1 := hX.fr 1
  have r0 := hR.c0
  have r1 := hR.c1
  have r2 := hR.c2
  have r3 := hR.c3
  have q0 := hR.fr 0
  have q1 := hR.fr 1
  have q2 := hR.fr 2
  have q3 := hR.fr 3
  go_wp2_with fail
  refine bodyPost_ret (res_cellQ rfl _ _ (w.heap.size + 1) _ _ _ _ _ _ rfl (QBlk.put ((hR.other (by omega)).other (by omega)) _ _ _ _)) rfl ?_
  exact ⟨rfl, grown_put4 (grown_set (grown_set G1.out (by omega)) (by omega)) (by omega)⟩
theorem rint_by (x : Int) (n : Bool) (s : ByteArray)
    (HO : Hid (∀ w, Calls Tryz.prog 47 #[.int .i64 x] w fun e w' => e = .returned (whole n s) ∧ w.grownBy w' none))
    (HO1 : Hid (∀ w, Calls Tryz.prog 47 #[.int .i64 1] w fun e w' => e = .returned (whole false oneS) ∧ w.grownBy w' none)) (w : World) :
    Calls Tryz.prog 20 #[.int .i64 x] w fun e w' => e = .returned (frac n s false oneS) ∧ w.grownBy w' none := by
  go_enter Tryz.func20, Tryz.ntmps20
  go_wp2_with fail
  refine (HO.out _).mono ?_
  rintro e w1 ⟨rfl, g1⟩
  go_wp2_with fail
  refine (HO1.out _).mono ?_
  rintro e w2 ⟨rfl, g2⟩
  have G2 : (w.alloc (qObj false eS false eS)).grownBy w2 none := grownBy_trans g1 g2
  have hR : QBlk w2 w.heap.size (.bool false) (.string eS) (.bool false) (.string eS) := QBlk.kept (heap_alloc_new _ _) G2 (by simp)
  have HG : Hid (w.grownBy w2 none) := grownBy_trans (grow1 _ _) G2
  clear g1 g2 G2
  have r0 := hR.c0
  have r1 := hR.c1
  have r2 := hR.c2
  have r3 := hR.c3
  have q0 := hR.fr 0
  have q1 := hR.fr 1
  have q2 := hR.fr 2
  have q3 := hR.fr 3
  go_wp2_with fail
  refine bodyPost_ret (res_cellQ rfl _ _ w.heap.size _ _ _ _ _ _ rfl (hR.put _ _ _ _)) rfl ?_
  exact ⟨rfl, grown_put4 HG.out (Nat.le_refl _)⟩
theorem rfloor_by (n d q1 r1 : Bool) (s t q2 r2 : ByteArray)
    (HD : Hid (∀ w, Calls Tryz.prog 69 #[whole n s, whole d t] w fun e w' => e = .returned (.tuple #[whole q1 q2, whole r1 r2]) ∧ w.grownBy w' none)) (w : World) :
    Calls Tryz.prog 26 #[frac n s d t] w fun e w' => e = .returned (whole q1 q2) ∧ w.grownBy w' none := by
  go_enter Tryz.func26, Tryz.ntmps26
  go_wp2_with fail
  refine (HD.out _).mono ?_
  rintro e w1 ⟨rfl, g1⟩
  have hR1 : WBlk w1 (w.heap.size + 1) (.bool false) (.string eS) := WBlk.kept (heap_alloc2_new _ _ _) g1 (by simp)
  have HR : Hid (WBlk ((w1.alloc (wObj q1 q2)).alloc (wObj r1 r2)) (w.heap.size + 1) (.bool false) (.string eS)) := old_alloc _ _ (old_alloc _ _ hR1)
  have HQ : Hid (WBlk ((w1.alloc (wObj q1 q2)).alloc (wObj r1 r2)) w1.heap.size (.bool q1) (.string q2)) := at_alloc1 _ _ _
  have HG : Hid (w.grownBy ((w1.alloc (wObj q1 q2)).alloc (wObj r1 r2)) none) := grownBy_trans (grownBy_trans (grow2 _ _ _) g1) (grow2 _ _ _)
  clear g1 hR1
  go_upto_region 2 with fail
  generalize (w1.alloc (wObj q1 q2)).alloc (wObj r1 r2) = V at *
  have hR := HR.out
  have c0 := HQ.out.c0
  have c1 := HQ.out.c1
  have k0 := hR.c0
  have k1 := hR.c1
  have k2 := hR.fr 0
  have k3 := hR.fr 1
  go_wp2_with fail
  refine bodyPost_ret (res_cell rfl _ _ (w.heap.size + 1) _ _ _ _ rfl (hR.put _ _)) rfl ?_
  exact ⟨rfl, grown_set (grown_set HG.out (by omega)) (by omega)⟩
theorem rwholeq_by (n : Bool) (s : ByteArray)
    (HO : Hid (∀ w, Calls Tryz.prog 47 #[.int .i64 1] w fun e w' => e = .returned (whole false oneS) ∧ w.grownBy w' none)) (w : World) :
    Calls Tryz.prog 71 #[whole n s] w fun e w' => e = .returned (frac n s false oneS) ∧ w.grownBy w' none := by
  have HK : Hid (∀ w', (w.alloc (wObj n s)).grownBy w' none → w'.cell? ⟨w.heap.size, 0, none⟩ = some (.bool n) ∧ w'.cell? ⟨w.heap.size, 1, none⟩ = some (.string s)) := fun w' g => by
    have h : WBlk w' w.heap.size (.bool n) (.string s) := WBlk.kept (heap_alloc_new _ _) g (by simp)
    exact ⟨h.c0, h.c1⟩
  go_enter Tryz.func71, Tryz.ntmps71
  go_wp2_with fail
  go_region_held3 (fun w' => w'.cell? ⟨w.heap.size, 0, none⟩ = some (.bool n) ∧ w'.cell? ⟨w.heap.size, 1, none⟩ = some (.string s))
    (first | (go_keep; done) | exact HK.out _ (grownBy_trans (grow1 _ _) (by assumption)) | exact HK.out _ (grow_drew (grow1 _ _)) | exact HK.out _ (grown_put4 (grownBy_trans (grow1 _ _) GC) (by simp)) | fail)
    (first
      | (go_at_call 47; refine (HO.out _).mono ?_; rintro e wC ⟨rfl, gC⟩; have GC : ((w.alloc (wObj n s)).alloc (qObj false eS false eS)).grownBy wC none := (by first | exact gC | exact grownBy_undrew gC); have hR : QBlk wC (w.heap.size + 1) (.bool false) (.string eS) (.bool false) (.string eS) := QBlk.kept (heap_alloc2_new _ _ _) GC (by simp); have k0 := hR.c0; have k1 := hR.c1; have k2 := hR.c2; have k3 := hR.c3; have l0 := hR.fr 0; have l1 := hR.fr 1; have l2 := hR.fr 2; have l3 := hR.fr 3)
      | fail)
  go_wp2_with fail
  refine bodyPost_ret (res_cellQ rfl _ _ (w.heap.size + 1) _ _ _ _ _ _ rfl (hR.put _ _ _ _)) rfl ?_
  exact ⟨rfl, grown_put4 (grownBy_trans (grow2 _ _ _) GC) (by omega)⟩
end Go.Proofs.YtdfliaogmlpefaaGreatDoor
