/-
  The program's Square, over what Root answers.
  How many bits a word has: math/bits' Len.
  The program's Pow.
-/
import Derived.Test.YtdfliaogmlpefaaGreatDoorBunRtd
import Derived.Test.YtdfliaogmlpefaaGreatDoorBunPrg
import Derived.Test.YtdfliaogmlpefaaGreatDoorBunPrd
namespace Go.Proofs.YtdfliaogmlpefaaGreatDoor
open Go.RowKit Go.Lib Go.Sort
set_option maxHeartbeats 1600000
set_option maxRecDepth 1000000
theorem square_err2 (neg : Bool) (mag : ByteArray) {s s' : ByteArray} (HR : Hid (∀ w, Calls Tryz.prog 112 #[whole neg mag] w fun e w' => e = .returned (.tuple #[whole false s, whole false s', .int .i64 2]) ∧ w.grownBy w' none))  (w : World) :
    Calls Tryz.prog 61 #[whole neg mag] w fun e w' => e = .returned (.tuple #[whole false eS, .bool false]) ∧ w.grownBy w' none := by
  go_enter Tryz.func61, Tryz.ntmps61
  go_wp2_with fail
  refine (HR.out _).mono ?_
  rintro e w1 ⟨rfl, g1⟩
  have HG1 : Hid (((w.alloc (wObj neg mag)).alloc (wObj false eS)).grownBy w1 none) := g1
  have HKK : Hid (∀ w', ((w1.alloc (wObj false s)).alloc (wObj false s')).grownBy w' none → w'.cell? ⟨w1.heap.size, 0, none⟩ = some (Value.bool false) ∧ w'.cell? ⟨w1.heap.size, 1, none⟩ = some (Value.string s) ∧ w'.cell? ⟨w1.heap.size + 1, 0, none⟩ = some (Value.bool false) ∧ w'.cell? ⟨w1.heap.size + 1, 1, none⟩ = some (Value.string s')) := keep2 w1 false false s s'
  have HRS : Hid (∀ w', w1.grownBy w' none → WBlk w' (w.heap.size + 1) (.bool false) (.string eS)) := fun w' hg => WBlk.kept (heap_alloc2_new _ _ _) (grownBy_trans HG1.out hg) (by simp)
  clear g1
  go_wp2_with fail
  go_region
  go_wp2_with fail
  refine (zero_any _).mono ?_
  rintro e w3 ⟨rfl, rfl⟩
  have hR := HRS.out (((w1.alloc (wObj false s)).alloc (wObj false s')).alloc (wObj false eS)) (grow3 _ _ _ _)
  have c0 := hR.c0
  have c1 := hR.c1
  have c2 := hR.fr 0
  have c3 := hR.fr 1
  go_wp2_with fail
  refine bodyPost_ret (res_cell_tmp rfl _ _ (w.heap.size + 1) _ _ _ _ rfl (hR.put _ _)) rfl ?_
  exact ⟨rfl, grow_drew (grown_set (grown_set (grownBy_trans (grow2 _ _ _) (grownBy_trans HG1.out (grow3 _ _ _ _))) (by omega)) (by omega))⟩
theorem square_err7 (neg : Bool) (mag : ByteArray) {s s' : ByteArray} (HR : Hid (∀ w, Calls Tryz.prog 112 #[whole neg mag] w fun e w' => e = .returned (.tuple #[whole false s, whole false s', .int .i64 7]) ∧ w.grownBy w' none))  (w : World) :
    Calls Tryz.prog 61 #[whole neg mag] w fun e w' => e = .returned (.tuple #[whole false eS, .bool false]) ∧ w.grownBy w' none := by
  go_enter Tryz.func61, Tryz.ntmps61
  go_wp2_with fail
  refine (HR.out _).mono ?_
  rintro e w1 ⟨rfl, g1⟩
  have HG1 : Hid (((w.alloc (wObj neg mag)).alloc (wObj false eS)).grownBy w1 none) := g1
  have HKK : Hid (∀ w', ((w1.alloc (wObj false s)).alloc (wObj false s')).grownBy w' none → w'.cell? ⟨w1.heap.size, 0, none⟩ = some (Value.bool false) ∧ w'.cell? ⟨w1.heap.size, 1, none⟩ = some (Value.string s) ∧ w'.cell? ⟨w1.heap.size + 1, 0, none⟩ = some (Value.bool false) ∧ w'.cell? ⟨w1.heap.size + 1, 1, none⟩ = some (Value.string s')) := keep2 w1 false false s s'
  have HRS : Hid (∀ w', w1.grownBy w' none → WBlk w' (w.heap.size + 1) (.bool false) (.string eS)) := fun w' hg => WBlk.kept (heap_alloc2_new _ _ _) (grownBy_trans HG1.out hg) (by simp)
  clear g1
  go_wp2_with fail
  go_region
  go_wp2_with fail
  refine (zero_any _).mono ?_
  rintro e w3 ⟨rfl, rfl⟩
  have hR := HRS.out (((w1.alloc (wObj false s)).alloc (wObj false s')).alloc (wObj false eS)) (grow3 _ _ _ _)
  have c0 := hR.c0
  have c1 := hR.c1
  have c2 := hR.fr 0
  have c3 := hR.fr 1
  go_wp2_with fail
  refine bodyPost_ret (res_cell_tmp rfl _ _ (w.heap.size + 1) _ _ _ _ rfl (hR.put _ _)) rfl ?_
  exact ⟨rfl, grow_drew (grown_set (grown_set (grownBy_trans (grow2 _ _ _) (grownBy_trans HG1.out (grow3 _ _ _ _))) (by omega)) (by omega))⟩
theorem square_rest (neg : Bool) (mag : ByteArray) {s s' : ByteArray} (HR : Hid (∀ w, Calls Tryz.prog 112 #[whole neg mag] w fun e w' => e = .returned (.tuple #[whole false s, whole false s', .int .i64 0]) ∧ w.grownBy w' none)) (h1 : (s'.toList == []) = false) (w : World) :
    Calls Tryz.prog 61 #[whole neg mag] w fun e w' => e = .returned (.tuple #[whole false eS, .bool false]) ∧ w.grownBy w' none := by
  go_enter Tryz.func61, Tryz.ntmps61
  go_wp2_with fail
  refine (HR.out _).mono ?_
  rintro e w1 ⟨rfl, g1⟩
  have HG1 : Hid (((w.alloc (wObj neg mag)).alloc (wObj false eS)).grownBy w1 none) := g1
  have HKK : Hid (∀ w', ((w1.alloc (wObj false s)).alloc (wObj false s')).grownBy w' none → w'.cell? ⟨w1.heap.size, 0, none⟩ = some (Value.bool false) ∧ w'.cell? ⟨w1.heap.size, 1, none⟩ = some (Value.string s) ∧ w'.cell? ⟨w1.heap.size + 1, 0, none⟩ = some (Value.bool false) ∧ w'.cell? ⟨w1.heap.size + 1, 1, none⟩ = some (Value.string s')) := keep2 w1 false false s s'
  have HRS : Hid (∀ w', w1.grownBy w' none → WBlk w' (w.heap.size + 1) (.bool false) (.string eS)) := fun w' hg => WBlk.kept (heap_alloc2_new _ _ _) (grownBy_trans HG1.out hg) (by simp)
  clear g1
  go_wp2_with fail
  go_region_held3 (fun w' => w'.cell? ⟨w1.heap.size, 0, none⟩ = some (Value.bool false) ∧ w'.cell? ⟨w1.heap.size, 1, none⟩ = some (Value.string s) ∧ w'.cell? ⟨w1.heap.size + 1, 0, none⟩ = some (Value.bool false) ∧ w'.cell? ⟨w1.heap.size + 1, 1, none⟩ = some (Value.string s'))
    (first | (go_keep; done) | exact HKK.out _ (grow_drew (World.grownBy.refl _ _)) | exact HKK.out _ (grownBy_trans (grow_drew (World.grownBy.refl _ _)) (grow1 _ (wObj false eS))) | fail)
    (first | (go_at_call 104; refine (zero_any _).mono ?_; rintro e w2 ⟨rfl, rfl⟩) | fail)
  go_wp2_with fail
  refine (zero_any _).mono ?_
  rintro e w3 ⟨rfl, rfl⟩
  have hR := HRS.out ((((w1.alloc (wObj false s)).alloc (wObj false s')).alloc (wObj false eS)).alloc (wObj false eS)) (grow4 _ _ _ _ _)
  have c0 := hR.c0
  have c1 := hR.c1
  have c2 := hR.fr 0
  have c3 := hR.fr 1
  go_wp2_with fail
  refine bodyPost_ret (res_cell_tmp rfl _ _ (w.heap.size + 1) _ _ _ _ rfl (hR.put _ _)) rfl ?_
  exact ⟨rfl, grow_drew (grown_set (grown_set (grownBy_trans (grow2 _ _ _) (grownBy_trans HG1.out (grow4 _ _ _ _ _))) (by omega)) (by omega))⟩
theorem square_yes (neg : Bool) (mag : ByteArray) {s s' : ByteArray} (HR : Hid (∀ w, Calls Tryz.prog 112 #[whole neg mag] w fun e w' => e = .returned (.tuple #[whole false s, whole false s', .int .i64 0]) ∧ w.grownBy w' none)) (h1 : s' = eS) (w : World) :
    Calls Tryz.prog 61 #[whole neg mag] w fun e w' => e = .returned (.tuple #[whole false s, .bool true]) ∧ w.grownBy w' none := by
  have h2 : (s'.toList == []) = true := by rw [h1, ByteArray.toList_eq]; rfl
  clear h1
  go_enter Tryz.func61, Tryz.ntmps61
  go_wp2_with fail
  refine (HR.out _).mono ?_
  rintro e w1 ⟨rfl, g1⟩
  have HG1 : Hid (((w.alloc (wObj neg mag)).alloc (wObj false eS)).grownBy w1 none) := g1
  have HKK : Hid (∀ w', ((w1.alloc (wObj false s)).alloc (wObj false s')).grownBy w' none → w'.cell? ⟨w1.heap.size, 0, none⟩ = some (Value.bool false) ∧ w'.cell? ⟨w1.heap.size, 1, none⟩ = some (Value.string s) ∧ w'.cell? ⟨w1.heap.size + 1, 0, none⟩ = some (Value.bool false) ∧ w'.cell? ⟨w1.heap.size + 1, 1, none⟩ = some (Value.string s')) := keep2 w1 false false s s'
  have HRS : Hid (∀ w', w1.grownBy w' none → WBlk w' (w.heap.size + 1) (.bool false) (.string eS)) := fun w' hg => WBlk.kept (heap_alloc2_new _ _ _) (grownBy_trans HG1.out hg) (by simp)
  clear g1
  go_wp2_with fail
  go_region_held3 (fun w' => w'.cell? ⟨w1.heap.size, 0, none⟩ = some (Value.bool false) ∧ w'.cell? ⟨w1.heap.size, 1, none⟩ = some (Value.string s) ∧ w'.cell? ⟨w1.heap.size + 1, 0, none⟩ = some (Value.bool false) ∧ w'.cell? ⟨w1.heap.size + 1, 1, none⟩ = some (Value.string s'))
    (first | (go_keep; done) | exact HKK.out _ (grow_drew (World.grownBy.refl _ _)) | exact HKK.out _ (grownBy_trans (grow_drew (World.grownBy.refl _ _)) (grow1 _ (wObj false eS))) | fail)
    (first | (go_at_call 104; refine (zero_any _).mono ?_; rintro e w2 ⟨rfl, rfl⟩) | fail)
  have hR := HRS.out (((w1.alloc (wObj false s)).alloc (wObj false s')).alloc (wObj false eS)) (grow3 _ _ _ _)
  have c0 := hR.c0
  have c1 := hR.c1
  have c2 := hR.fr 0
  have c3 := hR.fr 1
  go_wp2_with fail
  refine bodyPost_ret (res_cell_tmp rfl _ _ (w.heap.size + 1) _ _ _ _ rfl (hR.put _ _)) rfl ?_
  exact ⟨rfl, grow_drew (grown_set (grown_set (grownBy_trans (grow2 _ _ _) (grownBy_trans HG1.out (grow3 _ _ _ _))) (by omega)) (by omega))⟩
end Go.Proofs.YtdfliaogmlpefaaGreatDoor
