/-
  Which whole numbers may be: what the program's Check and the document's Formed, Fits, May answer; zero, num, arg.
-/
import Derived.Test.YtaldmfbicddcbaaGreatDoorBas
namespace Go.Proofs.YtaldmfbicddcbaaGreatDoor
open Go.RowKit Go.Lib Go.Sort

abbrev eS : ByteArray := ⟨#[]⟩
abbrev wObj (neg : Bool) (mag : ByteArray) : Obj := .cells #[.bool neg, .string mag] 23

theorem Tryz.sizeW : (Tryz.prog.info? 23).map (·.size) = some 2 := by kernel_rfl
theorem res_cell {fn : Func} {p : Tmp} (h : fn.results = #[.cell p 23]) (tmps : Array Value) (w : World) (g : Nat) (t : TypeId) (a b : Value) (fr : Nat × Nat)
    (hp : tmps.getD p undef = .pointer (some ⟨g, 0, none⟩)) (hg : w.heap[g]? = some (.cells #[a, b] t fr)) : (results fn tmps).run Tryz.prog w = .ok (.agg #[a, b]) w :=
  results_cell_row h tmps w g t #[a, b] fr _ hp hg Tryz.underlying23 rfl Tryz.sizeW
theorem load_row (w : World) (g : Nat) (t : TypeId) (a b : Value) (fr : Nat × Nat) (hg : w.heap[g]? = some (.cells #[a, b] t fr)) : (loadVar 23 ⟨g, 0, none⟩).run Tryz.prog w = .ok (.agg #[a, b]) w :=
  run_loadVar_row w g t 23 #[a, b] fr _ hg Tryz.underlying23 rfl Tryz.sizeW
theorem res_cell_tmp {fn : Func} {p u : Tmp} (h : fn.results = #[.cell p 23, .tmp u]) (tmps : Array Value) (w : World) (g : Nat) (t : TypeId) (a b : Value) (fr : Nat × Nat)
    (hp : tmps.getD p undef = .pointer (some ⟨g, 0, none⟩)) (hg : w.heap[g]? = some (.cells #[a, b] t fr)) : (results fn tmps).run Tryz.prog w = .ok (.tuple #[.agg #[a, b], tmps.getD u undef]) w := by
  rw [results_cell_tmp h, hp]
  simp [asAddr, Result.andThen, load_row w g t a b fr hg]
theorem res_cell2_tmp {fn : Func} {p q u : Tmp} (h : fn.results = #[.cell p 23, .cell q 23, .tmp u]) (tmps : Array Value) (w : World) (g g' : Nat) (t t' : TypeId) (a b a' b' : Value) (fr fr' : Nat × Nat)
    (hp : tmps.getD p undef = .pointer (some ⟨g, 0, none⟩)) (hg : w.heap[g]? = some (.cells #[a, b] t fr))
    (hq : tmps.getD q undef = .pointer (some ⟨g', 0, none⟩)) (hg' : w.heap[g']? = some (.cells #[a', b'] t' fr')) : (results fn tmps).run Tryz.prog w = .ok (.tuple #[.agg #[a, b], .agg #[a', b'], tmps.getD u undef]) w := by
  have hp' : tmps[p]?.getD undef = .pointer (some ⟨g, 0, none⟩) := by simpa using hp
  have hq' : tmps[q]?.getD undef = .pointer (some ⟨g', 0, none⟩) := by simpa using hq
  simp [results, h, hp', hq', asAddr, load_row w g t a b fr hg, load_row w g' t' a' b' fr' hg', Sem.run_bind, Result.andThen]

set_option maxHeartbeats 1600000 in
set_option maxRecDepth 1000000 in
theorem zero_any (w : World) :
    Calls Tryz.prog 55 #[] w fun e w' => e = .returned (whole false eS) ∧ w' = w.alloc (wObj false eS) := by
  go_enter Tryz.func55, Tryz.ntmps55
  go_wp2
  refine bodyPost_ret (res_cell rfl _ _ w.heap.size _ _ _ _ rfl (heap_alloc_new _ _)) rfl ?_
  exact ⟨rfl, rfl⟩

set_option maxHeartbeats 1600000 in
set_option maxRecDepth 1000000 in
theorem num_any (n : Int) (w : World) :
    Calls Tryz.prog 16 #[.int .i64 n] w fun e w' => e = .returned (.int .i64 n) ∧ w' = w := by
  go_enter Tryz.func16, Tryz.ntmps16
  go_wp2
  go_ret
  exact ⟨rfl, rfl⟩

def chk (neg : Bool) (mag : ByteArray) : Int := if may neg mag then 0 else 2

set_option maxHeartbeats 1600000 in
set_option maxRecDepth 1000000 in
theorem check_any (neg : Bool) (mag : ByteArray) (hm : mag.size ≤ maxLen) (w : World) :
    Calls Tryz.prog 17 #[whole neg mag] w fun e w' => e = .returned (.int .i64 (chk neg mag)) ∧ w' = w.alloc (wObj neg mag) := by
  unfold maxLen at hm
  by_cases h0 : mag.size = 0
  · obtain rfl := empty_of_size h0
    cases neg
    · go_enter Tryz.func17, Tryz.ntmps17
      go_wp2
      go_ret
      exact ⟨rfl, rfl⟩
    · go_enter Tryz.func17, Tryz.ntmps17
      go_wp2
      go_ret
      exact ⟨rfl, rfl⟩
  · have he := isEmpty_of h0
    have hp : 0 < mag.size := by omega
    have hz : ((mag[0].toNat : Int) == 0) = (mag[0].toNat == 0) := by
      rw [Bool.eq_iff_iff]; simp
    cases h1 : ((mag[0].toNat : Int) == 0)
    · rw [hz] at h1
      by_cases h2 : mag.size ≤ 16384
      · have h3 : ((mag[0].toNat : Int) == 0) = false := by rw [hz, h1]
        go_enter Tryz.func17, Tryz.ntmps17
        go_wp2
        go_ret
        refine ⟨ret_num ?_, rfl⟩
        unfold chk may
        rw [if_neg h0, bN_head mag hp]
        simp [bne, h1, h2]
      · have h3 : ((mag[0].toNat : Int) == 0) = false := by rw [hz, h1]
        go_enter Tryz.func17, Tryz.ntmps17
        go_wp2
        go_ret
        refine ⟨ret_num ?_, rfl⟩
        unfold chk may
        rw [if_neg h0, bN_head mag hp]
        simp [h2]
    · have h2 : mag[0].toNat = 0 := by rw [hz] at h1; simpa using h1
      clear h1 hz
      go_enter Tryz.func17, Tryz.ntmps17
      go_wp2
      go_ret
      refine ⟨ret_num ?_, rfl⟩
      unfold chk may
      rw [if_neg h0, bN_head mag hp]
      simp [h2]

set_option maxHeartbeats 1600000 in
set_option maxRecDepth 1000000 in
theorem formed_any (neg : Bool) (mag : ByteArray) (hm : mag.size ≤ maxLen) (w : World) :
    Calls Tryz.prog 103 #[whole neg mag] w fun e w' => e = .returned (.bool (formed neg mag)) ∧ w' = w.alloc (wObj neg mag) := by
  unfold maxLen at hm
  by_cases h0 : mag.size = 0
  · obtain rfl := empty_of_size h0
    go_enter Tryz.func103, Tryz.ntmps103
    go_wp2
    go_ret
    exact ⟨rfl, rfl⟩
  · have he := isEmpty_of h0
    have hp : 0 < mag.size := by omega
    have hz : ((mag[0].toNat : Int) == 0) = (mag[0].toNat == 0) := by
      rw [Bool.eq_iff_iff]; simp
    go_enter Tryz.func103, Tryz.ntmps103
    go_wp2
    go_ret
    refine ⟨ret_bool ?_, rfl⟩
    unfold formed
    rw [if_neg h0, bN_head mag hp]
    rw [bne, hz]; rfl

set_option maxHeartbeats 1600000 in
set_option maxRecDepth 1000000 in
theorem fits_any (neg : Bool) (mag : ByteArray) (hm : mag.size ≤ maxLen) (w : World) :
    Calls Tryz.prog 73 #[whole neg mag] w fun e w' => e = .returned (.bool (decide (mag.size ≤ 16384))) ∧ w' = w.alloc (wObj neg mag) := by
  unfold maxLen at hm
  go_enter Tryz.func73, Tryz.ntmps73
  go_wp2
  go_ret
  exact ⟨ret_bool (decide_eq_decide.2 (by omega)), rfl⟩

theorem may_eq (neg : Bool) (mag : ByteArray) : may neg mag = (formed neg mag && decide (mag.size ≤ 16384)) := by
  unfold may formed
  split
  · rename_i h; simp [h]
  · rw [Bool.and_comm]

set_option maxHeartbeats 1600000 in
set_option maxRecDepth 1000000 in
theorem may_any (neg : Bool) (mag : ByteArray) (hm : mag.size ≤ maxLen) (w : World) :
    Calls Tryz.prog 60 #[whole neg mag] w fun e w' => e = .returned (.bool (may neg mag)) ∧ w.grownBy w' none := by
  cases hf : formed neg mag
  · go_enter Tryz.func60, Tryz.ntmps60
    go_wp2_with (go_at_call 103; refine (formed_any neg mag hm _).mono ?_; rw [hf]; rintro e w' ⟨rfl, rfl⟩)
    go_ret
    refine ⟨ret_bool ?_, ?_⟩
    · rw [may_eq, hf]; rfl
    · exact grownBy_trans (World.grownBy_alloc _ _ _) (World.grownBy_alloc _ _ _)
  · go_enter Tryz.func60, Tryz.ntmps60
    go_wp2_with (first | (go_at_call 103; refine (formed_any neg mag hm _).mono ?_; rw [hf]; rintro e w' ⟨rfl, rfl⟩) | (go_at_call 73; refine (fits_any neg mag hm _).mono ?_; rintro e w' ⟨rfl, rfl⟩))
    go_ret
    refine ⟨ret_bool ?_, ?_⟩
    · rw [may_eq, hf]; rfl
    · exact grownBy_trans (grownBy_trans (World.grownBy_alloc _ _ _) (World.grownBy_alloc _ _ _)) (World.grownBy_alloc _ _ _)

set_option maxHeartbeats 1600000 in
set_option maxRecDepth 1000000 in
theorem arg_yes (w : World) :
    Calls Tryz.prog 18 #[whole false eS, .int .i64 2] w fun e w' => e = .returned (.bool true) ∧ w' = w.alloc (wObj false eS) := by
  go_enter Tryz.func18, Tryz.ntmps18
  go_wp2_with (go_at_call 16; refine (num_any _ _).mono ?_; rintro e w' ⟨rfl, rfl⟩)
  go_ret
  exact ⟨rfl, rfl⟩
end Go.Proofs.YtaldmfbicddcbaaGreatDoor
