/-
  The opposite, the magnitude, the sign: the program's and the document's.
-/
import Derived.Test.YtaldmfbicddcbaaGreatDoorChk
namespace Go.Proofs.YtaldmfbicddcbaaGreatDoor
open Go.RowKit Go.Lib Go.Sort

def ngs (neg : Bool) (mag : ByteArray) : Bool := !neg && decide (mag.size ≠ 0)
theorem grow1 (w : World) (a : Obj) : w.grownBy (w.alloc a) none := World.grownBy_alloc _ _ _
theorem grow2 (w : World) (a b : Obj) : w.grownBy ((w.alloc a).alloc b) none := grownBy_trans (grow1 _ _) (grow1 _ _)
theorem grow3 (w : World) (a b c : Obj) : w.grownBy (((w.alloc a).alloc b).alloc c) none := grownBy_trans (grow2 _ _ _) (grow1 _ _)
theorem grow4 (w : World) (a b c d : Obj) : w.grownBy ((((w.alloc a).alloc b).alloc c).alloc d) none := grownBy_trans (grow3 _ _ _ _) (grow1 _ _)
theorem grow_drew {w w' : World} {row : Option Nat} (h : w.grownBy w' row) : w.grownBy w'.drew row := grownBy_drewN h 1
theorem at_alloc1 (w : World) (a b : Obj) : ((w.alloc a).alloc b).heap[w.heap.size]? = some a := by
  have h := Below.heap_alloc (w.alloc a) b w.heap.size (by simp)
  rw [h, heap_alloc_new]
theorem at_alloc2 (w : World) (a b c : Obj) : (((w.alloc a).alloc b).alloc c).heap[w.heap.size + 1]? = some b := by
  have := at_alloc1 (w.alloc a) b c
  simpa using this

set_option maxHeartbeats 1600000 in
set_option maxRecDepth 1000000 in
theorem opposite_f (mag : ByteArray) (w : World) :
    Calls Tryz.prog 56 #[whole false mag] w fun e w' => e = .returned (whole (ngs false mag) mag) ∧ w' = (((w.alloc (wObj false mag)).alloc (wObj (ngs false mag) mag)).alloc (wObj false eS)).drew := by
  by_cases h0 : mag.size = 0
  · obtain rfl := empty_of_size h0
    go_enter Tryz.func56, Tryz.ntmps56
    go_wp2
    go_region_held3 (fun w' => w'.cell? ⟨w.heap.size, 0, none⟩ = some (Value.bool false) ∧ w'.cell? ⟨w.heap.size, 1, none⟩ = some (Value.string ByteArray.empty)) (first | (go_keep; done) | fail) (first | (go_at_call 55; refine (zero_any _).mono ?_; rintro e w' ⟨rfl, rfl⟩) | fail)
    go_wp2
    refine bodyPost_ret (res_cell rfl _ _ (w.heap.size + 1) _ _ _ _ rfl (at_alloc2 _ _ _ _)) rfl ?_
    exact ⟨rfl, rfl⟩
  · have he := isEmpty_of h0
    have hd : ngs false mag = true := by simp [ngs, h0]
    go_enter Tryz.func56, Tryz.ntmps56
    go_wp2
    go_region_held3 (fun w' => w'.cell? ⟨w.heap.size, 0, none⟩ = some (Value.bool false) ∧ w'.cell? ⟨w.heap.size, 1, none⟩ = some (Value.string mag)) (first | (go_keep; done) | fail) (first | (go_at_call 55; refine (zero_any _).mono ?_; rintro e w' ⟨rfl, rfl⟩) | fail)
    go_wp2
    refine bodyPost_ret (res_cell rfl _ _ (w.heap.size + 1) _ _ _ _ rfl (at_alloc2 _ _ _ _)) rfl ?_
    rw [hd]
    exact ⟨rfl, rfl⟩

set_option maxHeartbeats 1600000 in
set_option maxRecDepth 1000000 in
theorem opposite_t (mag : ByteArray) (w : World) :
    Calls Tryz.prog 56 #[whole true mag] w fun e w' => e = .returned (whole (ngs true mag) mag) ∧ w' = ((w.alloc (wObj true mag)).alloc (wObj (ngs true mag) mag)).drew := by
  go_enter Tryz.func56, Tryz.ntmps56
  go_wp2
  go_region
  all_goals go_wp2
  all_goals refine bodyPost_ret (res_cell rfl _ _ (w.heap.size + 1) _ _ _ _ rfl (heap_alloc2_new _ _ _)) rfl ?_
  all_goals exact ⟨rfl, rfl⟩

theorem opposite_any (neg : Bool) (mag : ByteArray) (w : World) :
    Calls Tryz.prog 56 #[whole neg mag] w fun e w' => e = .returned (whole (ngs neg mag) mag) ∧ w.grownBy w' none := by
  cases neg
  · refine (opposite_f mag w).mono ?_
    rintro e w' ⟨rfl, rfl⟩
    exact ⟨rfl, grow_drew (grow3 _ _ _ _)⟩
  · refine (opposite_t mag w).mono ?_
    rintro e w' ⟨rfl, rfl⟩
    exact ⟨rfl, grow_drew (grow2 _ _ _)⟩

theorem chk_yes {neg : Bool} {mag : ByteArray} (h : may neg mag = true) : chk neg mag = 0 := by simp [chk, h]
theorem chk_no {neg : Bool} {mag : ByteArray} (h : may neg mag = false) : chk neg mag = 2 := by simp [chk, h]
theorem may_size {neg : Bool} {mag : ByteArray} (h : may neg mag = true) : mag.size ≤ 16384 := by
  unfold may at h
  split at h
  · omega
  · simp at h; exact h.1

theorem old_alloc (w : World) (a : Obj) {i : Nat} {o : Obj} (h : w.heap[i]? = some o) : (w.alloc a).heap[i]? = some o := by
  rw [Below.heap_alloc w a i (Array.getElem?_eq_some_iff.1 h).1]; exact h

set_option maxHeartbeats 1600000 in
set_option maxRecDepth 1000000 in
theorem neg_no (neg : Bool) (mag : ByteArray) (hm : mag.size ≤ maxLen) (h : may neg mag = false) (w : World) :
    Calls Tryz.prog 9 #[whole neg mag] w fun e w' => e = .returned (.tuple #[whole false eS, .int .i64 2]) ∧ w.grownBy w' none := by
  go_enter Tryz.func9, Tryz.ntmps9
  go_wp2_with (first | (go_at_call 17; refine (check_any neg mag hm _).mono ?_; rw [chk_no h]; rintro e w' ⟨rfl, rfl⟩) | (go_at_call 55; refine (zero_any _).mono ?_; rintro e w' ⟨rfl, rfl⟩))
  refine bodyPost_ret (res_cell_tmp rfl _ _ (w.heap.size + 1) _ _ _ _ rfl (old_alloc _ _ (old_alloc _ _ (heap_alloc2_new _ _ _)))) rfl ?_
  exact ⟨rfl, grow4 _ _ _ _ _⟩

set_option maxHeartbeats 1600000 in
set_option maxRecDepth 1000000 in
theorem abs_no (neg : Bool) (mag : ByteArray) (hm : mag.size ≤ maxLen) (h : may neg mag = false) (w : World) :
    Calls Tryz.prog 10 #[whole neg mag] w fun e w' => e = .returned (.tuple #[whole false eS, .int .i64 2]) ∧ w.grownBy w' none := by
  go_enter Tryz.func10, Tryz.ntmps10
  go_wp2_with (first | (go_at_call 17; refine (check_any neg mag hm _).mono ?_; rw [chk_no h]; rintro e w' ⟨rfl, rfl⟩) | (go_at_call 55; refine (zero_any _).mono ?_; rintro e w' ⟨rfl, rfl⟩))
  refine bodyPost_ret (res_cell_tmp rfl _ _ (w.heap.size + 1) _ _ _ _ rfl (old_alloc _ _ (old_alloc _ _ (heap_alloc2_new _ _ _)))) rfl ?_
  exact ⟨rfl, grow4 _ _ _ _ _⟩

set_option maxHeartbeats 1600000 in
set_option maxRecDepth 1000000 in
theorem neg_yes (neg : Bool) (mag : ByteArray) (hm : mag.size ≤ maxLen) (h : may neg mag = true) (w : World) :
    Calls Tryz.prog 9 #[whole neg mag] w fun e w' => e = .returned (.tuple #[whole (ngs neg mag) mag, .int .i64 0]) ∧ w.grownBy w' none := by
  cases neg
  · go_enter Tryz.func9, Tryz.ntmps9
    go_wp2_with (first | (go_at_call 17; refine (check_any false mag hm _).mono ?_; rw [chk_yes h]; rintro e w' ⟨rfl, rfl⟩) | (go_at_call 56; refine (opposite_f _ _).mono ?_; rintro e w' ⟨rfl, rfl⟩))
    refine bodyPost_ret (res_cell_tmp rfl _ _ (w.heap.size + 1) _ _ _ _ rfl (old_alloc _ _ (old_alloc _ _ (old_alloc _ _ (old_alloc _ _ (heap_alloc2_new _ _ _)))))) rfl ?_
    exact ⟨rfl, grow_drew (grownBy_trans (grow4 _ _ _ _ _) (grow2 _ _ _))⟩
  · go_enter Tryz.func9, Tryz.ntmps9
    go_wp2_with (first | (go_at_call 17; refine (check_any true mag hm _).mono ?_; rw [chk_yes h]; rintro e w' ⟨rfl, rfl⟩) | (go_at_call 56; refine (opposite_t _ _).mono ?_; rintro e w' ⟨rfl, rfl⟩))
    refine bodyPost_ret (res_cell_tmp rfl _ _ (w.heap.size + 1) _ _ _ _ rfl (old_alloc _ _ (old_alloc _ _ (old_alloc _ _ (heap_alloc2_new _ _ _))))) rfl ?_
    exact ⟨rfl, grow_drew (grownBy_trans (grow4 _ _ _ _ _) (grow1 _ _))⟩

set_option maxHeartbeats 1600000 in
set_option maxRecDepth 1000000 in
theorem abs_yes (neg : Bool) (mag : ByteArray) (hm : mag.size ≤ maxLen) (h : may neg mag = true) (w : World) :
    Calls Tryz.prog 10 #[whole neg mag] w fun e w' => e = .returned (.tuple #[whole false mag, .int .i64 0]) ∧ w.grownBy w' none := by
  go_enter Tryz.func10, Tryz.ntmps10
  go_wp2_with (go_at_call 17; refine (check_any neg mag hm _).mono ?_; rw [chk_yes h]; rintro e w' ⟨rfl, rfl⟩)
  refine bodyPost_ret (res_cell_tmp rfl _ _ (w.heap.size + 1) _ _ _ _ rfl (old_alloc _ _ (heap_alloc2_new _ _ _))) rfl ?_
  exact ⟨rfl, grow3 _ _ _ _⟩

/-- -1, 0, 1. -/
def sgn (neg : Bool) (mag : ByteArray) : Int := if mag.size = 0 then 0 else if neg then -1 else 1
theorem may_empty {neg : Bool} (h : may neg ByteArray.empty = true) : neg = false := by
  have : may neg ByteArray.empty = !neg := rfl
  rw [this] at h; simpa using h

set_option maxHeartbeats 1600000 in
set_option maxRecDepth 1000000 in
theorem sign_no (neg : Bool) (mag : ByteArray) (hm : mag.size ≤ maxLen) (h : may neg mag = false) (w : World) :
    Calls Tryz.prog 19 #[whole neg mag] w fun e w' => e = .returned (.int .i64 0) ∧ w.grownBy w' none := by
  go_enter Tryz.func19, Tryz.ntmps19
  go_wp2_with (go_at_call 17; refine (check_any neg mag hm _).mono ?_; rw [chk_no h]; rintro e w' ⟨rfl, rfl⟩)
  go_ret
  exact ⟨rfl, grow2 _ _ _⟩

set_option maxHeartbeats 1600000 in
set_option maxRecDepth 1000000 in
theorem sign_yes (neg : Bool) (mag : ByteArray) (hm : mag.size ≤ maxLen) (h : may neg mag = true) (w : World) :
    Calls Tryz.prog 19 #[whole neg mag] w fun e w' => e = .returned (.int .i64 (sgn neg mag)) ∧ w.grownBy w' none := by
  by_cases h0 : mag.size = 0
  · obtain rfl := empty_of_size h0
    obtain rfl := may_empty h
    go_enter Tryz.func19, Tryz.ntmps19
    go_wp2_with (go_at_call 17; refine (check_any false ByteArray.empty hm _).mono ?_; rw [chk_yes h]; rintro e w' ⟨rfl, rfl⟩)
    go_region_held3 (fun w' => w'.cell? ⟨w.heap.size, 0, none⟩ = some (Value.bool false) ∧ w'.cell? ⟨w.heap.size, 1, none⟩ = some (Value.string ByteArray.empty)) (first | (go_keep; done) | fail) (first | (go_at_call 55; refine (zero_any _).mono ?_; rintro e w' ⟨rfl, rfl⟩) | fail)
    go_wp2
    go_ret
    exact ⟨rfl, grow_drew (grow3 _ _ _ _)⟩
  · have he := isEmpty_of h0
    have hs : sgn neg mag = if neg then -1 else 1 := by unfold sgn; rw [if_neg h0]
    cases neg
    · go_enter Tryz.func19, Tryz.ntmps19
      go_wp2_with (go_at_call 17; refine (check_any false mag hm _).mono ?_; rw [chk_yes h]; rintro e w' ⟨rfl, rfl⟩)
      go_region_held3 (fun w' => w'.cell? ⟨w.heap.size, 0, none⟩ = some (Value.bool false) ∧ w'.cell? ⟨w.heap.size, 1, none⟩ = some (Value.string mag)) (first | (go_keep; done) | fail) (first | (go_at_call 55; refine (zero_any _).mono ?_; rintro e w' ⟨rfl, rfl⟩) | fail)
      go_wp2
      go_ret
      exact ⟨ret_num (by rw [hs]; rfl), grow_drew (grow3 _ _ _ _)⟩
    · go_enter Tryz.func19, Tryz.ntmps19
      go_wp2_with (go_at_call 17; refine (check_any true mag hm _).mono ?_; rw [chk_yes h]; rintro e w' ⟨rfl, rfl⟩)
      go_region_held3 (fun w' => w'.cell? ⟨w.heap.size, 0, none⟩ = some (Value.bool true) ∧ w'.cell? ⟨w.heap.size, 1, none⟩ = some (Value.string mag)) (first | (go_keep; done) | fail) (first | (go_at_call 55; refine (zero_any _).mono ?_; rintro e w' ⟨rfl, rfl⟩) | fail)
      go_wp2
      go_ret
      exact ⟨ret_num (by rw [hs]; rfl), grow_drew (grow3 _ _ _ _)⟩

/-! The document's. -/
set_option maxHeartbeats 1600000 in
set_option maxRecDepth 1000000 in
theorem rSign_any (neg : Bool) (mag : ByteArray) (w : World) :
    Calls Tryz.prog 25 #[whole neg mag] w fun e w' => e = .returned (.int .i64 (sgn neg mag)) ∧ w.grownBy w' none := by
  by_cases h0 : mag.size = 0
  · obtain rfl := empty_of_size h0
    go_enter Tryz.func25, Tryz.ntmps25
    go_wp2
    go_ret
    exact ⟨rfl, grow1 _ _⟩
  · have he := isEmpty_of h0
    have hs : sgn neg mag = if neg then -1 else 1 := by unfold sgn; rw [if_neg h0]
    cases neg
    · go_enter Tryz.func25, Tryz.ntmps25
      go_wp2
      go_ret
      exact ⟨ret_num (by first | rfl | (rw [hs]; rfl)), grow1 _ _⟩
    · go_enter Tryz.func25, Tryz.ntmps25
      go_wp2
      go_ret
      exact ⟨ret_num (by first | rfl | (rw [hs]; rfl)), grow1 _ _⟩

set_option maxHeartbeats 1600000 in
set_option maxRecDepth 1000000 in
theorem rAbs_any (neg : Bool) (mag : ByteArray) (w : World) :
    Calls Tryz.prog 24 #[whole neg mag] w fun e w' => e = .returned (whole false mag) ∧ w.grownBy w' none := by
  go_enter Tryz.func24, Tryz.ntmps24
  go_wp2
  refine bodyPost_ret (res_cell rfl _ _ (w.heap.size + 1) _ _ _ _ rfl (heap_alloc2_new _ _ _)) rfl ?_
  exact ⟨rfl, grow2 _ _ _⟩

set_option maxHeartbeats 1600000 in
set_option maxRecDepth 1000000 in
theorem rNeg_any (neg : Bool) (mag : ByteArray) (w : World) :
    Calls Tryz.prog 23 #[whole neg mag] w fun e w' => e = .returned (whole (ngs neg mag) mag) ∧ w.grownBy w' none := by
  cases neg
  · by_cases h0 : mag.size = 0
    · obtain rfl := empty_of_size h0
      go_enter Tryz.func23, Tryz.ntmps23
      go_wp2
      all_goals refine bodyPost_ret (res_cell rfl _ _ (w.heap.size + 1) _ _ _ _ rfl (heap_alloc2_new _ _ _)) rfl ?_
      all_goals exact ⟨rfl, grow2 _ _ _⟩
    · have he := isEmpty_of h0
      have hd : ngs false mag = true := by simp [ngs, h0]
      go_enter Tryz.func23, Tryz.ntmps23
      go_wp2
      all_goals refine bodyPost_ret (res_cell rfl _ _ (w.heap.size + 1) _ _ _ _ rfl (heap_alloc2_new _ _ _)) rfl ?_
      all_goals rw [hd]
      all_goals exact ⟨rfl, grow2 _ _ _⟩
  · go_enter Tryz.func23, Tryz.ntmps23
    go_wp2
    all_goals refine bodyPost_ret (res_cell rfl _ _ (w.heap.size + 1) _ _ _ _ rfl (heap_alloc2_new _ _ _)) rfl ?_
    all_goals exact ⟨rfl, grow2 _ _ _⟩
end Go.Proofs.YtaldmfbicddcbaaGreatDoor
