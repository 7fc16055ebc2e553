/-
  Which whole numbers may be: what the program's Check and the document's Formed, Fits, May answer; zero, num, arg.
  The opposite, the magnitude, the sign: the program's and the document's.
-/
import Derived.Test.YtmgbkcfocbbofabGreatDoorBas
namespace Go.Proofs.YtmgbkcfocbbofabGreatDoor
open Go.RowKit Go.Lib Go.Sort

abbrev eS : ByteArray := ⟨#[]⟩
abbrev wObj (neg : Bool) (mag : ByteArray) : Obj := .cells #[.bool neg, .string mag] 23

theorem Tryz.sizeW : (Tryz.prog.info? 23).map (·.size) = some 2 := by kernel_rfl
theorem res_cell {fn : Func} {p : Tmp} (h : fn.results = #[.cell p 23]) (tmps : Array Value) (w : World) (g : Nat) (t : TypeId) (a b : Value) (fr : Nat × Nat)
    (hp : tmps.getD p undef = .pointer (some ⟨g, 0, none⟩)) (hg : w.heap[g]? = some (.cells #[a, b] t fr)) : (results fn tmps).run Tryz.prog w = .ok (.agg #[a, b]) w :=
  results_cell_row h tmps w g t #[a, b] fr _ hp hg Tryz.underlying23 rfl Tryz.sizeW
theorem load_row (w : World) (g : Nat) (t : TypeId) (a b : Value) (fr : Nat × Nat) (hg : w.heap[g]? = some (.cells #[a, b] t fr)) : (loadVar 23 ⟨g, 0, none⟩).run Tryz.prog w = .ok (.agg #[a, b]) w :=
  run_loadVar_row w g t 23 #[a, b] fr _ hg Tryz.underlying23 rfl Tryz.sizeW
theorem res_cell_tmp {fn : Func} {p u : Tmp} (h : fn.results = #[.cell p 23, .tmp u]) (tmps : Array Value) (w : World) (g : Nat) (t : TypeId) (a b : Value) (fr : Nat × Nat)
    (hp : tmps.getD p undef = .pointer (some ⟨g, 0, none⟩)) (hg : w.heap[g]? = some (.cells #[a, b] t fr)) : (results fn tmps).run Tryz.prog w = .ok (.tuple #[.agg #[a, b], tmps.getD u undef]) w := by
  rw [results_cell_tmp h, hp]
  simp [asAddr, Result.andThen, load_row w g t a b fr hg]
theorem res_cell2_tmp {fn : Func} {p q u : Tmp} (h : fn.results = #[.cell p 23, .cell q 23, .tmp u]) (tmps : Array Value) (w : World) (g g' : Nat) (t t' : TypeId) (a b a' b' : Value) (fr fr' : Nat × Nat)
    (hp : tmps.getD p undef = .pointer (some ⟨g, 0, none⟩)) (hg : w.heap[g]? = some (.cells #[a, b] t fr))
    (hq : tmps.getD q undef = .pointer (some ⟨g', 0, none⟩)) (hg' : w.heap[g']? = some (.cells #[a', b'] t' fr')) : (results fn tmps).run Tryz.prog w = .ok (.tuple #[.agg #[a, b], .agg #[a', b'], tmps.getD u undef]) w := by
  have hp' : tmps[p]?.getD undef = .pointer (some ⟨g, 0, none⟩) := by simpa using hp
  have hq' : tmps[q]?.getD undef = .pointer (some ⟨g', 0, none⟩) := by simpa using hq
  simp [results, h, hp', hq', asAddr, load_row w g t a b fr hg, load_row w g' t' a' b' fr' hg', Sem.run_bind, Result.andThen]

set_option maxHeartbeats 1600000 in
set_option maxRecDepth 1000000 in
theorem zero_any (w : World) :
    Calls Tryz.prog 29 #[] w fun e w' => e = .returned (whole false eS) ∧ w' = w.alloc (wObj false eS) := by
  go_enter Tryz.func29, Tryz.ntmps29
  go_wp2
  refine bodyPost_ret (res_cell rfl _ _ w.heap.size _ _ _ _ rfl (heap_alloc_new _ _)) rfl ?_
  exact ⟨rfl, rfl⟩

set_option maxHeartbeats 1600000 in
set_option maxRecDepth 1000000 in
theorem num_any (n : Int) (w : World) :
    Calls Tryz.prog 6 #[.int .i64 n] w fun e w' => e = .returned (.int .i64 n) ∧ w' = w := by
  go_enter Tryz.func6, Tryz.ntmps6
  go_wp2
  go_ret
  exact ⟨rfl, rfl⟩

def chk (neg : Bool) (mag : ByteArray) : Int := if may neg mag then 0 else 2

set_option maxHeartbeats 1600000 in
set_option maxRecDepth 1000000 in
theorem check_any (neg : Bool) (mag : ByteArray) (hm : mag.size ≤ maxLen) (w : World) :
    Calls Tryz.prog 7 #[whole neg mag] w fun e w' => e = .returned (.int .i64 (chk neg mag)) ∧ w' = w.alloc (wObj neg mag) := by
  unfold maxLen at hm
  by_cases h0 : mag.size = 0
  · obtain rfl := empty_of_size h0
    cases neg
    · go_enter Tryz.func7, Tryz.ntmps7
      go_wp2
      go_ret
      exact ⟨rfl, rfl⟩
    · go_enter Tryz.func7, Tryz.ntmps7
      go_wp2
      go_ret
      exact ⟨rfl, rfl⟩
  · have he := isEmpty_of h0
    have hp : 0 < mag.size := by omega
    have hz : ((mag[0].toNat : Int) == 0) = (mag[0].toNat == 0) := by
      rw [Bool.eq_iff_iff]; simp
    cases h1 : ((mag[0].toNat : Int) == 0)
    · rw [hz] at h1
      by_cases h2 : mag.size ≤ 16384
      · have h3 : ((mag[0].toNat : Int) == 0) = false := by rw [hz, h1]
        go_enter Tryz.func7, Tryz.ntmps7
        go_wp2
        go_ret
        refine ⟨ret_num ?_, rfl⟩
        unfold chk may
        rw [if_neg h0, bN_head mag hp]
        simp [bne, h1, h2]
      · have h3 : ((mag[0].toNat : Int) == 0) = false := by rw [hz, h1]
        go_enter Tryz.func7, Tryz.ntmps7
        go_wp2
        go_ret
        refine ⟨ret_num ?_, rfl⟩
        unfold chk may
        rw [if_neg h0, bN_head mag hp]
        simp [h2]
    · have h2 : mag[0].toNat = 0 := by rw [hz] at h1; simpa using h1
      clear h1 hz
      go_enter Tryz.func7, Tryz.ntmps7
      go_wp2
      go_ret
      refine ⟨ret_num ?_, rfl⟩
      unfold chk may
      rw [if_neg h0, bN_head mag hp]
      simp [h2]

theorem may_eq (neg : Bool) (mag : ByteArray) : may neg mag = (formed neg mag && decide (mag.size ≤ 16384)) := by
  unfold may formed
  split
  · rename_i h; simp [h]
  · rw [Bool.and_comm]

end Go.Proofs.YtmgbkcfocbbofabGreatDoor

namespace Go.Proofs.YtmgbkcfocbbofabGreatDoor
open Go.RowKit Go.Lib Go.Sort

def ngs (neg : Bool) (mag : ByteArray) : Bool := !neg && decide (mag.size ≠ 0)
theorem grow1 (w : World) (a : Obj) : w.grownBy (w.alloc a) none := World.grownBy_alloc _ _ _
theorem grow2 (w : World) (a b : Obj) : w.grownBy ((w.alloc a).alloc b) none := grownBy_trans (grow1 _ _) (grow1 _ _)
theorem grow3 (w : World) (a b c : Obj) : w.grownBy (((w.alloc a).alloc b).alloc c) none := grownBy_trans (grow2 _ _ _) (grow1 _ _)
theorem grow4 (w : World) (a b c d : Obj) : w.grownBy ((((w.alloc a).alloc b).alloc c).alloc d) none := grownBy_trans (grow3 _ _ _ _) (grow1 _ _)
theorem grow_drew {w w' : World} {row : Option Nat} (h : w.grownBy w' row) : w.grownBy w'.drew row := grownBy_drewN h 1
theorem at_alloc1 (w : World) (a b : Obj) : ((w.alloc a).alloc b).heap[w.heap.size]? = some a := by
  have h := Below.heap_alloc (w.alloc a) b w.heap.size (by simp)
  rw [h, heap_alloc_new]
theorem at_alloc2 (w : World) (a b c : Obj) : (((w.alloc a).alloc b).alloc c).heap[w.heap.size + 1]? = some b := by
  have := at_alloc1 (w.alloc a) b c
  simpa using this

set_option maxHeartbeats 1600000 in
set_option maxRecDepth 1000000 in
theorem opposite_f (mag : ByteArray) (w : World) :
    Calls Tryz.prog 55 #[whole false mag] w fun e w' => e = .returned (whole (ngs false mag) mag) ∧ w' = (((w.alloc (wObj false mag)).alloc (wObj (ngs false mag) mag)).alloc (wObj false eS)).drew := by
  by_cases h0 : mag.size = 0
  · obtain rfl := empty_of_size h0
    go_enter Tryz.func55, Tryz.ntmps55
    go_wp2
    go_region_held3 (fun w' => w'.cell? ⟨w.heap.size, 0, none⟩ = some (Value.bool false) ∧ w'.cell? ⟨w.heap.size, 1, none⟩ = some (Value.string ByteArray.empty)) (first | (go_keep; done) | fail) (first | (go_at_call 29; refine (zero_any _).mono ?_; rintro e w' ⟨rfl, rfl⟩) | fail)
    go_wp2
    refine bodyPost_ret (res_cell rfl _ _ (w.heap.size + 1) _ _ _ _ rfl (at_alloc2 _ _ _ _)) rfl ?_
    exact ⟨rfl, rfl⟩
  · have he := isEmpty_of h0
    have hd : ngs false mag = true := by simp [ngs, h0]
    go_enter Tryz.func55, Tryz.ntmps55
    go_wp2
    go_region_held3 (fun w' => w'.cell? ⟨w.heap.size, 0, none⟩ = some (Value.bool false) ∧ w'.cell? ⟨w.heap.size, 1, none⟩ = some (Value.string mag)) (first | (go_keep; done) | fail) (first | (go_at_call 29; refine (zero_any _).mono ?_; rintro e w' ⟨rfl, rfl⟩) | fail)
    go_wp2
    refine bodyPost_ret (res_cell rfl _ _ (w.heap.size + 1) _ _ _ _ rfl (at_alloc2 _ _ _ _)) rfl ?_
    rw [hd]
    exact ⟨rfl, rfl⟩

set_option maxHeartbeats 1600000 in
set_option maxRecDepth 1000000 in
theorem opposite_t (mag : ByteArray) (w : World) :
    Calls Tryz.prog 55 #[whole true mag] w fun e w' => e = .returned (whole (ngs true mag) mag) ∧ w' = ((w.alloc (wObj true mag)).alloc (wObj (ngs true mag) mag)).drew := by
  go_enter Tryz.func55, Tryz.ntmps55
  go_wp2
  go_region
  all_goals go_wp2
  all_goals refine bodyPost_ret (res_cell rfl _ _ (w.heap.size + 1) _ _ _ _ rfl (heap_alloc2_new _ _ _)) rfl ?_
  all_goals exact ⟨rfl, rfl⟩

theorem opposite_any (neg : Bool) (mag : ByteArray) (w : World) :
    Calls Tryz.prog 55 #[whole neg mag] w fun e w' => e = .returned (whole (ngs neg mag) mag) ∧ w.grownBy w' none := by
  cases neg
  · refine (opposite_f mag w).mono ?_
    rintro e w' ⟨rfl, rfl⟩
    exact ⟨rfl, grow_drew (grow3 _ _ _ _)⟩
  · refine (opposite_t mag w).mono ?_
    rintro e w' ⟨rfl, rfl⟩
    exact ⟨rfl, grow_drew (grow2 _ _ _)⟩

theorem chk_yes {neg : Bool} {mag : ByteArray} (h : may neg mag = true) : chk neg mag = 0 := by simp [chk, h]
theorem chk_no {neg : Bool} {mag : ByteArray} (h : may neg mag = false) : chk neg mag = 2 := by simp [chk, h]
theorem may_size {neg : Bool} {mag : ByteArray} (h : may neg mag = true) : mag.size ≤ 16384 := by
  unfold may at h
  split at h
  · omega
  · simp at h; exact h.1

theorem old_alloc (w : World) (a : Obj) {i : Nat} {o : Obj} (h : w.heap[i]? = some o) : (w.alloc a).heap[i]? = some o := by
  rw [Below.heap_alloc w a i (Array.getElem?_eq_some_iff.1 h).1]; exact h

set_option maxHeartbeats 1600000 in
set_option maxRecDepth 1000000 in
theorem neg_no (neg : Bool) (mag : ByteArray) (hm : mag.size ≤ maxLen) (h : may neg mag = false) (w : World) :
    Calls Tryz.prog 21 #[whole neg mag] w fun e w' => e = .returned (.tuple #[whole false eS, .int .i64 2]) ∧ w.grownBy w' none := by
  go_enter Tryz.func21, Tryz.ntmps21
  go_wp2_with (first | (go_at_call 7; refine (check_any neg mag hm _).mono ?_; rw [chk_no h]; rintro e w' ⟨rfl, rfl⟩) | (go_at_call 29; refine (zero_any _).mono ?_; rintro e w' ⟨rfl, rfl⟩))
  refine bodyPost_ret (res_cell_tmp rfl _ _ (w.heap.size + 1) _ _ _ _ rfl (old_alloc _ _ (old_alloc _ _ (heap_alloc2_new _ _ _)))) rfl ?_
  exact ⟨rfl, grow4 _ _ _ _ _⟩

set_option maxHeartbeats 1600000 in
set_option maxRecDepth 1000000 in
theorem abs_no (neg : Bool) (mag : ByteArray) (hm : mag.size ≤ maxLen) (h : may neg mag = false) (w : World) :
    Calls Tryz.prog 17 #[whole neg mag] w fun e w' => e = .returned (.tuple #[whole false eS, .int .i64 2]) ∧ w.grownBy w' none := by
  go_enter Tryz.func17, Tryz.ntmps17
  go_wp2_with (first | (go_at_call 7; refine (check_any neg mag hm _).mono ?_; rw [chk_no h]; rintro e w' ⟨rfl, rfl⟩) | (go_at_call 29; refine (zero_any _).mono ?_; rintro e w' ⟨rfl, rfl⟩))
  refine bodyPost_ret (res_cell_tmp rfl _ _ (w.heap.size + 1) _ _ _ _ rfl (old_alloc _ _ (old_alloc _ _ (heap_alloc2_new _ _ _)))) rfl ?_
  exact ⟨rfl, grow4 _ _ _ _ _⟩

set_option maxHeartbeats 1600000 in
set_option maxRecDepth 1000000 in
theorem neg_yes (neg : Bool) (mag : ByteArray) (hm : mag.size ≤ maxLen) (h : may neg mag = true) (w : World) :
    Calls Tryz.prog 21 #[whole neg mag] w fun e w' => e = .returned (.tuple #[whole (ngs neg mag) mag, .int .i64 0]) ∧ w.grownBy w' none := by
  cases neg
  · go_enter Tryz.func21, Tryz.ntmps21
    go_wp2_with (first | (go_at_call 7; refine (check_any false mag hm _).mono ?_; rw [chk_yes h]; rintro e w' ⟨rfl, rfl⟩) | (go_at_call 55; refine (opposite_f _ _).mono ?_; rintro e w' ⟨rfl, rfl⟩))
    refine bodyPost_ret (res_cell_tmp rfl _ _ (w.heap.size + 1) _ _ _ _ rfl (old_alloc _ _ (old_alloc _ _ (old_alloc _ _ (old_alloc _ _ (heap_alloc2_new _ _ _)))))) rfl ?_
    exact ⟨rfl, grow_drew (grownBy_trans (grow4 _ _ _ _ _) (grow2 _ _ _))⟩
  · go_enter Tryz.func21, Tryz.ntmps21
    go_wp2_with (first | (go_at_call 7; refine (check_any true mag hm _).mono ?_; rw [chk_yes h]; rintro e w' ⟨rfl, rfl⟩) | (go_at_call 55; refine (opposite_t _ _).mono ?_; rintro e w' ⟨rfl, rfl⟩))
    refine bodyPost_ret (res_cell_tmp rfl _ _ (w.heap.size + 1) _ _ _ _ rfl (old_alloc _ _ (old_alloc _ _ (old_alloc _ _ (heap_alloc2_new _ _ _))))) rfl ?_
    exact ⟨rfl, grow_drew (grownBy_trans (grow4 _ _ _ _ _) (grow1 _ _))⟩

set_option maxHeartbeats 1600000 in
set_option maxRecDepth 1000000 in
theorem abs_yes (neg : Bool) (mag : ByteArray) (hm : mag.size ≤ maxLen) (h : may neg mag = true) (w : World) :
    Calls Tryz.prog 17 #[whole neg mag] w fun e w' => e = .returned (.tuple #[whole false mag, .int .i64 0]) ∧ w.grownBy w' none := by
  go_enter Tryz.func17, Tryz.ntmps17
  go_wp2_with (go_at_call 7; refine (check_any neg mag hm _).mono ?_; rw [chk_yes h]; rintro e w' ⟨rfl, rfl⟩)
  refine bodyPost_ret (res_cell_tmp rfl _ _ (w.heap.size + 1) _ _ _ _ rfl (old_alloc _ _ (heap_alloc2_new _ _ _))) rfl ?_
  exact ⟨rfl, grow3 _ _ _ _⟩

/-- -1, 0, 1. -/
def sgn (neg : Bool) (mag : ByteArray) : Int := if mag.size = 0 then 0 else if neg then -1 else 1
theorem may_empty {neg : Bool} (h : may neg ByteArray.empty = true) : neg = false := by
  have : may neg ByteArray.empty = !neg := rfl
  rw [this] at h; simpa using h

set_option maxHeartbeats 1600000 in
set_option maxRecDepth 1000000 in
theorem sign_no (neg : Bool) (mag : ByteArray) (hm : mag.size ≤ maxLen) (h : may neg mag = false) (w : World) :
    Calls Tryz.prog 19 #[whole neg mag] w fun e w' => e = .returned (.int .i64 0) ∧ w.grownBy w' none := by
  go_enter Tryz.func19, Tryz.ntmps19
  go_wp2_with (go_at_call 7; refine (check_any neg mag hm _).mono ?_; rw [chk_no h]; rintro e w' ⟨rfl, rfl⟩)
  go_ret
  exact ⟨rfl, grow2 _ _ _⟩

set_option maxHeartbeats 1600000 in
set_option maxRecDepth 1000000 in
theorem sign_yes (neg : Bool) (mag : ByteArray) (hm : mag.size ≤ maxLen) (h : may neg mag = true) (w : World) :
    Calls Tryz.prog 19 #[whole neg mag] w fun e w' => e = .returned (.int .i64 (sgn neg mag)) ∧ w.grownBy w' none := by
  by_cases h0 : mag.size = 0
  · obtain rfl := empty_of_size h0
    obtain rfl := may_empty h
    go_enter Tryz.func19, Tryz.ntmps19
    go_wp2_with (go_at_call 7; refine (check_any false ByteArray.empty hm _).mono ?_; rw [chk_yes h]; rintro e w' ⟨rfl, rfl⟩)
    go_region_held3 (fun w' => w'.cell? ⟨w.heap.size, 0, none⟩ = some (Value.bool false) ∧ w'.cell? ⟨w.heap.size, 1, none⟩ = some (Value.string ByteArray.empty)) (first | (go_keep; done) | fail) (first | (go_at_call 29; refine (zero_any _).mono ?_; rintro e w' ⟨rfl, rfl⟩) | fail)
    go_wp2
    go_ret
    exact ⟨rfl, grow_drew (grow3 _ _ _ _)⟩
  · have he := isEmpty_of h0
    have hs : sgn neg mag = if neg then -1 else 1 := by unfold sgn; rw [if_neg h0]
    cases neg
    · go_enter Tryz.func19, Tryz.ntmps19
      go_wp2_with (go_at_call 7; refine (check_any false mag hm _).mono ?_; rw [chk_yes h]; rintro e w' ⟨rfl, rfl⟩)
      go_region_held3 (fun w' => w'.cell? ⟨w.heap.size, 0, none⟩ = some (Value.bool false) ∧ w'.cell? ⟨w.heap.size, 1, none⟩ = some (Value.string mag)) (first | (go_keep; done) | fail) (first | (go_at_call 29; refine (zero_any _).mono ?_; rintro e w' ⟨rfl, rfl⟩) | fail)
      go_wp2
      go_ret
      exact ⟨ret_num (by rw [hs]; rfl), grow_drew (grow3 _ _ _ _)⟩
    · go_enter Tryz.func19, Tryz.ntmps19
      go_wp2_with (go_at_call 7; refine (check_any true mag hm _).mono ?_; rw [chk_yes h]; rintro e w' ⟨rfl, rfl⟩)
      go_region_held3 (fun w' => w'.cell? ⟨w.heap.size, 0, none⟩ = some (Value.bool true) ∧ w'.cell? ⟨w.heap.size, 1, none⟩ = some (Value.string mag)) (first | (go_keep; done) | fail) (first | (go_at_call 29; refine (zero_any _).mono ?_; rintro e w' ⟨rfl, rfl⟩) | fail)
      go_wp2
      go_ret
      exact ⟨ret_num (by rw [hs]; rfl), grow_drew (grow3 _ _ _ _)⟩

/-! The document's. -/
end Go.Proofs.YtmgbkcfocbbofabGreatDoor
