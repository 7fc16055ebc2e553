/-
  The walk over the law's three: sums and products of three numbers.
-/
import Derived.Test.YtjngcpbdilhkbaaGreatDoorRga
import Derived.Test.YtjngcpbdilhkbaaGreatDoorOkl
namespace Go.Proofs.YtjngcpbdilhkbaaGreatDoor
open Go.RowKit Go.Lib Go.Sort

theorem whole_inj {n n' : Bool} {s s' : ByteArray} (h : whole n s = whole n' s') : n = n' ∧ s = s' := by
  cases h; exact ⟨rfl, rfl⟩
theorem ok_seven (w : World) (o : Obj) : Calls Tryz.prog 21 #[.slice (some ⟨w.heap.size + 1, 0, none⟩) 7 7] ((w.alloc o).alloc (.cells #[.int .i64 0, .int .i64 0, .int .i64 0, .int .i64 0, .int .i64 0, .int .i64 0, .int .i64 0] 27)) fun e w' => e = .returned (.bool true) ∧ w' = (w.alloc o).alloc (.cells #[.int .i64 0, .int .i64 0, .int .i64 0, .int .i64 0, .int .i64 0, .int .i64 0, .int .i64 0] 27) := by
  refine ok_all _ _ 7 7 (by decide) (by decide) fun j hj => ?_
  have h := heap_alloc_new (w.alloc o) (.cells #[.int .i64 0, .int .i64 0, .int .i64 0, .int .i64 0, .int .i64 0, .int .i64 0, .int .i64 0] 27)
  rw [show (w.alloc o).heap.size = w.heap.size + 1 by simp] at h
  simp only [World.cell?, h]
  match j, hj with
  | 0, _ | 1, _ | 2, _ | 3, _ | 4, _ | 5, _ | 6, _ => rfl
theorem ok_eight (w : World) : Calls Tryz.prog 21 #[.slice (some ⟨w.heap.size, 0, none⟩) 8 8] (w.alloc (.cells #[.int .i64 0, .int .i64 0, .int .i64 0, .int .i64 0, .int .i64 0, .int .i64 0, .int .i64 0, .int .i64 0] 27)) fun e w' => e = .returned (.bool true) ∧ w' = w.alloc (.cells #[.int .i64 0, .int .i64 0, .int .i64 0, .int .i64 0, .int .i64 0, .int .i64 0, .int .i64 0, .int .i64 0] 27) := by
  refine ok_all _ _ 8 8 (by decide) (by decide) fun j hj => ?_
  have h := heap_alloc_new w (.cells #[.int .i64 0, .int .i64 0, .int .i64 0, .int .i64 0, .int .i64 0, .int .i64 0, .int .i64 0, .int .i64 0] 27)
  simp only [World.cell?, h]
  match j, hj with
  | 0, _ | 1, _ | 2, _ | 3, _ | 4, _ | 5, _ | 6, _ | 7, _ => rfl
theorem cmpZ_sub (x y : Int) : cmpZ (x - y) 0 = cmpZ x y := by
  unfold cmpZ
  repeat' split
  all_goals first | rfl | omega

end Go.Proofs.YtjngcpbdilhkbaaGreatDoor
