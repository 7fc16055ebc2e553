/-
  The law WordsAll: arguments that may not be, and too long ones.
-/
import Derived.Test.YtkimgmgafkihaaaDoorAli
import Derived.Test.YtkimgmgafkihaaaDoorCgr
import Derived.Test.YtkimgmgafkihaaaDoorKno
namespace Go.Proofs.YtkimgmgafkihaaaDoor
open Go.RowKit Go.Lib Go.Sort
set_option linter.unusedVariables false
set_option linter.unusedSimpArgs false
set_option maxHeartbeats 3200000
set_option maxRecDepth 1000000
theorem ctE_two {l n : Int} (h : l < 1 ∨ 64 < l ∨ n < 0) : ctE l n = 2 := if_pos h
theorem ctE_not {l n : Int} (h : ¬ (l < 1 ∨ 64 < l ∨ n < 0)) : ctE l n ≠ 2 := by
  unfold ctE
  rw [if_neg h]
  split
  · decide
  · split
    · decide
    · unfold ctF
      split <;> decide
def Bx (w : World) (l most lv : Int) (W : World) : Prop := W.heap[w.heap.size]? = some (.cells #[.int .i64 l] 3 (0, 0)) ∧ W.heap[w.heap.size + 1]? = some (.cells #[.int .i64 most] 3 (0, 0)) ∧ W.heap[w.heap.size + 1 + 1]? = some (.cells #[.int .i64 lv] 3 (0, 0)) ∧ W.heap[w.heap.size + 1 + 1 + 1]? = some (.cells #[.bool false] 4 (0, 0)) ∧ w.grownBy W none
theorem Bx.kept {w W W' : World} {l most lv : Int} (h : Bx w l most lv W) (hg : W.grownBy W' none) : Bx w l most lv W' := by
  obtain ⟨h1, h2, h3, h4, h5⟩ := h
  have k : ∀ {i : Nat} {o : Obj}, W.heap[i]? = some o → W'.heap[i]? = some o := fun {i o} h => (hg.block i (Array.getElem?_eq_some_iff.1 h).1 (by simp)).trans h
  exact ⟨k h1, k h2, k h3, k h4, grownBy_trans h5 hg⟩
theorem Bx.new (w : World) (l most lv : Int) : Bx w l most lv ((((w.alloc (.cells #[.int .i64 l] 3)).alloc (.cells #[.int .i64 most] 3)).alloc (.cells #[.int .i64 lv] 3)).alloc (.cells #[.bool false] 4)) := by
  have k : ∀ {W : World} {i : Nat} {o o' : Obj}, W.heap[i]? = some o → (W.alloc o').heap[i]? = some o := fun {W i o o'} h => ((grow1 W o').block i (Array.getElem?_eq_some_iff.1 h).1 (by simp)).trans h
  refine ⟨k (k (k (heap_alloc_last _ _))), k (k ?_), k ?_, ?_, grownBy_trans (grow3 _ _ _ _) (grow1 _ _)⟩
  · simpa using heap_alloc_last (w.alloc (.cells #[.int .i64 l] 3)) (.cells #[.int .i64 most] 3)
  · simpa using heap_alloc_last ((w.alloc (.cells #[.int .i64 l] 3)).alloc (.cells #[.int .i64 most] 3)) (.cells #[.int .i64 lv] 3)
  · simpa using heap_alloc_last (((w.alloc (.cells #[.int .i64 l] 3)).alloc (.cells #[.int .i64 most] 3)).alloc (.cells #[.int .i64 lv] 3)) (.cells #[.bool false] 4)
theorem Bx.res {w W : World} {l most lv : Int} (h : Bx w l most lv W) : W.cell? ⟨w.heap.size + 1 + 1 + 1, 0, none⟩ = some (.bool false) ∧ W.frozen? ⟨w.heap.size + 1 + 1 + 1, 0, none⟩ = false := by
  obtain ⟨h1, h2, h3, h4, h5⟩ := h
  exact ⟨by simp [World.cell?, h4], by simp [World.frozen?, h4]⟩
theorem load_bool (w : World) (g : Nat) (v : Bool) (h : w.heap[g]? = some (.cells #[.bool v] 4 (0, 0))) : (loadVar 4 ⟨g, 0, none⟩).run Tryd.prog w = .ok (.bool v) w := by
  have hc : w.cell? ⟨g, 0, none⟩ = some (.bool v) := by simp [World.cell?, h]
  simp [go_sem, loadVar, hc]
theorem res_all (tmps : Array Value) (w : World) (g : Nat) (v : Bool) (hp : tmps.getD 6 undef = .pointer (some ⟨g, 0, none⟩)) (h : w.heap[g]? = some (.cells #[.bool v] 4 (0, 0))) : (results Tryd.f3 tmps).run Tryd.prog w = .ok (.bool v) w := by
  have hp' : tmps[6]?.getD undef = .pointer (some ⟨g, 0, none⟩) := by simpa using hp
  simp [results, hp', asAddr, load_bool w g v h]
theorem Bx.told {w W : World} {l most lv : Int} (h : Bx w l most lv W) (v : Bool) : (W.setCell ⟨w.heap.size + 1 + 1 + 1, 0, none⟩ (.bool v)).heap[w.heap.size + 1 + 1 + 1]? = some (.cells #[.bool v] 4 (0, 0)) := by
  obtain ⟨h1, h2, h3, h4, h5⟩ := h
  simp [World.setCell, Array.getElem?_modify, h4]
theorem seq_nil (w : World) : (binOp .eql 30 .nilFunc .nilFunc).run Tryd.prog w = .ok (.bool true) w := by kernel_rfl
theorem seq_not (f : Fn) (a b : Array Value) (w : World) : (binOp .eql 30 (.func f a b) .nilFunc).run Tryd.prog w = .ok (.bool false) w := by kernel_rfl
theorem wall_arg (l most lv : Int) (hmo : most < 9223372036854775808) (h : l < 1 ∨ 64 < l ∨ most < 0) (w : World) (ht : Tab w) :
    Calls Tryd.prog 3 #[.int .i64 l, .int .i64 most, .int .i64 lv] w fun e w' => e = .returned (.bool true) ∧ w.grownBy w' none := by
  have HT : Hid (Tab w) := ht
  have HC : Hid (∀ w1, Calls Tryd.prog 4 #[.int .i64 l, .int .i64 most] w1 fun e w' => e = .returned (.tuple #[.int .u64 ((ctC l most : Nat) : Int), .int .i64 2]) ∧ w' = w1) := fun w1 => by
    have := count_any l most hmo w1
    rw [ctE_two h] at this
    exact this
  have HD : Hid (∀ w1, Calls Tryd.prog 5 #[.int .i64 l, .int .i64 most] w1 fun e w' => e = .returned (.tuple #[.int .u64 ((ctC l most : Nat) : Int), .int .i64 2]) ∧ w' = w1) := fun w1 => by
    have := rCount_any l most hmo w1
    rw [ctE_two h] at this
    exact this
  have HA : Hid (∀ w1, Calls Tryd.prog 7 #[.int .i64 l, .int .i64 most] w1 fun e w' => e = .returned (.tuple #[.nilFunc, .int .i64 2]) ∧ w1.grownBy w' none) := all_arg l most h
  generalize ctC l most = cc at *
  clear ht h hmo
  go_enter Tryd.func3, Tryd.ntmps3
  go_wp2_with fail
  refine (HC.out _).mono ?_
  rintro e w1 ⟨rfl, hw⟩
  obtain rfl := hw.symm
  go_wp2_with fail
  refine (HD.out _).mono ?_
  rintro e w1 ⟨rfl, hw⟩
  obtain rfl := hw.symm
  go_wp2_with fail
  refine (num_any 2 _).mono ?_
  rintro e w1 ⟨rfl, hw⟩
  obtain rfl := hw.symm
  go_wp2_with fail
  refine (HA.out _).mono ?_
  rintro e w1 ⟨rfl, g1⟩
  have HB1 : Hid (Bx w l most lv w1) := (Bx.new w l most lv).kept g1
  clear g1
  have HK := known_any w1 (HT.out.kept HB1.out.2.2.2.2)
  have hq := seq_nil w1
  have cm : w1.cell? ⟨w.heap.size + 1, 0, none⟩ = some (.int .i64 most) := by simp [World.cell?, HB1.out.2.1]
  go_wp2_with fail
  refine (num_any 2 _).mono ?_
  rintro e w2 ⟨rfl, hw⟩
  obtain rfl := hw.symm
  go_wp2_with fail
  refine HK.mono ?_
  rintro e w3 ⟨rfl, g3⟩
  have HB3 : Hid (Bx w l most lv w3) := HB1.out.kept g3
  obtain ⟨r1, r2⟩ := HB3.out.res
  clear g3 HB1 HK
  go_wp2_with fail
  refine bodyPost_ret (res_all _ _ _ true rfl (HB3.out.told true)) rfl ?_
  exact ⟨rfl, grown_set HB3.out.2.2.2.2 (by omega)⟩
theorem wall_long (l most lv : Int) (hmo : most < 9223372036854775808) (h1 : ¬ (l < 1 ∨ 64 < l ∨ most < 0)) (h2 : 4096 < most) (w : World) (ht : Tab w) :
    Calls Tryd.prog 3 #[.int .i64 l, .int .i64 most, .int .i64 lv] w fun e w' => e = .returned (.bool true) ∧ w.grownBy w' none := by
  have HT : Hid (Tab w) := ht
  have hE : (ctE l most == 2) = false := by simpa using ctE_not h1
  have HC : Hid (∀ w1, Calls Tryd.prog 4 #[.int .i64 l, .int .i64 most] w1 fun e w' => e = .returned (.tuple #[.int .u64 ((ctC l most : Nat) : Int), .int .i64 (ctE l most)]) ∧ w' = w1) := fun w1 => count_any l most hmo w1
  have HD : Hid (∀ w1, Calls Tryd.prog 5 #[.int .i64 l, .int .i64 most] w1 fun e w' => e = .returned (.tuple #[.int .u64 ((ctC l most : Nat) : Int), .int .i64 (ctE l most)]) ∧ w' = w1) := fun w1 => rCount_any l most hmo w1
  have HA : Hid (∀ w1, Calls Tryd.prog 7 #[.int .i64 l, .int .i64 most] w1 fun e w' => e = .returned (.tuple #[.nilFunc, .int .i64 3]) ∧ w1.grownBy w' none) := all_long l most (by omega) (by omega) h2
  generalize ctC l most = cc at *
  generalize ctE l most = ce at *
  clear ht h1 hmo
  have hd2 : decide (4096 < most) = true := decide_eq_true h2
  go_enter Tryd.func3, Tryd.ntmps3
  go_wp2_with fail
  refine (HC.out _).mono ?_
  rintro e w1 ⟨rfl, hw⟩
  obtain rfl := hw.symm
  go_wp2_with fail
  refine (HD.out _).mono ?_
  rintro e w1 ⟨rfl, hw⟩
  obtain rfl := hw.symm
  go_wp2_with fail
  refine (num_any ce _).mono ?_
  rintro e w1 ⟨rfl, hw⟩
  obtain rfl := hw.symm
  go_wp2_with fail
  refine (HA.out _).mono ?_
  rintro e w1 ⟨rfl, g1⟩
  have HB1 : Hid (Bx w l most lv w1) := (Bx.new w l most lv).kept g1
  clear g1
  have HK := known_any w1 (HT.out.kept HB1.out.2.2.2.2)
  have hq := seq_nil w1
  have cm : w1.cell? ⟨w.heap.size + 1, 0, none⟩ = some (.int .i64 most) := by simp [World.cell?, HB1.out.2.1]
  go_wp2_with fail
  refine (num_any 3 _).mono ?_
  rintro e w2 ⟨rfl, hw⟩
  obtain rfl := hw.symm
  go_wp2_with fail
  refine HK.mono ?_
  rintro e w3 ⟨rfl, g3⟩
  have HB3 : Hid (Bx w l most lv w3) := HB1.out.kept g3
  obtain ⟨r1, r2⟩ := HB3.out.res
  clear g3 HB1 HK
  go_wp2_with fail
  refine bodyPost_ret (res_all _ _ _ true rfl (HB3.out.told true)) rfl ?_
  exact ⟨rfl, grown_set HB3.out.2.2.2.2 (by omega)⟩
end Go.Proofs.YtkimgmgafkihaaaDoor
