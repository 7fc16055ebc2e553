/-
  The program's ones, ofLength, All.
-/
import Derived.Test.YtkimgmgafkihaaaDoorNxf
namespace Go.Proofs.YtkimgmgafkihaaaDoor
open Go.RowKit Go.Lib Go.Sort
set_option linter.unusedVariables false
set_option linter.unusedSimpArgs false
set_option maxHeartbeats 1600000
set_option maxRecDepth 100000
theorem all_arg (l most : Int) (h : l < 1 ∨ 64 < l ∨ most < 0) (w : World) : Calls Tryd.prog 7 #[.int .i64 l, .int .i64 most] w fun e w' => e = .returned (.tuple #[.nilFunc, .int .i64 2]) ∧ w.grownBy w' none := by
  have HG : Hid (w.grownBy ((w.alloc (.cells #[.int .i64 l] 3)).alloc (.cells #[.int .i64 most] 3)) none) := grownBy_trans (grow1 _ _) (grow1 _ _)
  by_cases h1 : l < 1
  · have hb1 : decide (l < 1) = true := decide_eq_true h1
    go_enter Tryd.func7, Tryd.ntmps7
    go_wp2_with fail
    go_ret2
    exact ⟨rfl, HG.out⟩
  · have hb1 : decide (l < 1) = false := decide_eq_false h1
    by_cases h2 : 64 < l
    · have hb2 : decide (64 < l) = true := decide_eq_true h2
      go_enter Tryd.func7, Tryd.ntmps7
      go_wp2_with fail
      go_ret2
      exact ⟨rfl, HG.out⟩
    · have hb2 : decide (64 < l) = false := decide_eq_false h2
      have hb3 : decide (most < 0) = true := decide_eq_true (by omega)
      go_enter Tryd.func7, Tryd.ntmps7
      go_wp2_with fail
      go_ret2
      exact ⟨rfl, HG.out⟩
theorem all_long (l most : Int) (h1 : ¬ l < 1) (h2 : ¬ 64 < l) (h3 : 4096 < most) (w : World) : Calls Tryd.prog 7 #[.int .i64 l, .int .i64 most] w fun e w' => e = .returned (.tuple #[.nilFunc, .int .i64 3]) ∧ w.grownBy w' none := by
  have HG : Hid (w.grownBy ((w.alloc (.cells #[.int .i64 l] 3)).alloc (.cells #[.int .i64 most] 3)) none) := grownBy_trans (grow1 _ _) (grow1 _ _)
  have hb1 : decide (l < 1) = false := decide_eq_false h1
  have hb2 : decide (64 < l) = false := decide_eq_false h2
  have hb3 : decide (most < 0) = false := decide_eq_false (by omega)
  have hb4 : decide (4096 < most) = true := decide_eq_true h3
  go_enter Tryd.func7, Tryd.ntmps7
  go_wp2_with fail
  go_ret2
  exact ⟨rfl, HG.out⟩
theorem allf_ok (l most : Int) (h1 : ¬ l < 1) (h2 : ¬ 64 < l) (h3 : ¬ most < 0) (h4 : ¬ 4096 < most) (w : World) : Calls Tryd.prog 7 #[.int .i64 l, .int .i64 most] w fun e w' => e = .returned (.tuple #[.func (.func 12) #[] #[.pointer (some ⟨w.heap.size + 1, 0, none⟩), .pointer (some ⟨w.heap.size, 0, none⟩)], .int .i64 0]) ∧ w' = (w.alloc (.cells #[.int .i64 l] 3)).alloc (.cells #[.int .i64 most] 3) := by
  have hb1 : decide (l < 1) = false := decide_eq_false h1
  have hb2 : decide (64 < l) = false := decide_eq_false h2
  have hb3 : decide (most < 0) = false := decide_eq_false h3
  have hb4 : decide (4096 < most) = false := decide_eq_false h4
  go_enter Tryd.func7, Tryd.ntmps7
  go_wp2_with fail
  go_ret2
  exact ⟨rfl, rfl⟩
theorem ofLength_any (l n : Int) (cs : Array Value) (w : World) : Calls Tryd.prog 14 #[.int .i64 l, .int .i64 n, .agg cs] w fun e w' => e = .returned (.func (.func 23) #[] #[.pointer (some ⟨w.heap.size + 2, 0, none⟩), .pointer (some ⟨w.heap.size + 1, 0, none⟩), .pointer (some ⟨w.heap.size, 0, none⟩)]) ∧ w' = ((w.alloc (.cells #[.int .i64 l] 3)).alloc (.cells #[.int .i64 n] 3)).alloc (.cells cs 42) := by
  go_enter Tryd.func14, Tryd.ntmps14
  go_wp2_with fail
  go_ret
  exact ⟨rfl, rfl⟩
theorem Pil.any {w : World} {g : Nat} {L : List Int} (h : Pil w g L) (i : Nat) (hi : i < 4096) : ∃ v, w.cell? ⟨g, i, none⟩ = some v := by
  obtain ⟨cur, hg, hs, hl, hc⟩ := h
  exact ⟨cur[i]'(by omega), by simp [World.cell?, hg]⟩
theorem Pil.push {w : World} {g i : Nat} (h : Pil w g (List.replicate i 1)) (hi : i < 4096) : Pil (w.setCell ⟨g, i, none⟩ (.int .i64 1)) g (List.replicate (i + 1) 1) := by
  obtain ⟨cur, hg, hs, hl, hc⟩ := h
  refine ⟨cur.setIfInBounds i (.int .i64 1), by simp [World.setCell, Array.getElem?_modify, hg], by simpa using hs, by simp; omega, fun j hj => ?_⟩
  rw [List.length_replicate] at hj
  have e1 : (List.replicate (i + 1) (1 : Int))[j]?.getD 0 = 1 := by rw [List.getElem?_replicate, if_pos hj]; rfl
  rw [e1, Array.getElem?_setIfInBounds]
  by_cases e : i = j
  · rw [if_pos e, if_pos (by omega)]
  · rw [if_neg e, hc j (by simp; omega)]
    rw [List.getElem?_replicate, if_pos (by omega)]
    rfl
end Go.Proofs.YtkimgmgafkihaaaDoor
