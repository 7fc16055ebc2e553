/-
  frac's Floor.
-/
import Derived.Test.YtdfliaogmlpefaaGreatDoorBunRfo
import Derived.Test.YtdfliaogmlpefaaGreatDoorBunOnh
import Derived.TacticsInMore
import Derived.LoopNIn
import Derived.LoopIn
import Derived.OwnWalkIn
import Derived.RangeFuncNested
import Derived.RangeFuncBound
import Derived.RangeFuncCalls
import Derived.RangeFuncLeaves
import Derived.RangeFuncFrom
import Derived.RangeFuncBox
namespace Go.Proofs.YtdfliaogmlpefaaGreatDoor
open Go.RowKit Go.Lib Go.Sort Go.Shelf
set_option linter.unusedVariables false
attribute [local go_sem] Oper.semAt_some
set_option maxHeartbeats 4000000
set_option maxRecDepth 1000000
theorem quot_any (n d : Bool) (s t : ByteArray) (w : World) : Calls Tryz.prog 33 #[frac n s d t] w fun e w' => e = .returned (.func (.func 79) #[] #[.pointer (some ⟨w.heap.size, 0, none⟩)]) ∧ w' = w.alloc (qObj n s d t) := by
  have hmf : ∀ (fn : Fn) (first cap : Array Value) (w : World), (Instr.makeFunc fn first cap).run Tryz.prog w = .ok (.func fn first cap) w := fun _ _ _ _ => rfl
  go_enter Tryz.func33, Tryz.ntmps33
  go_wp2_with fail
  go_ret
  exact ⟨rfl, rfl⟩
theorem load_errno (w : World) (g : Nat) (v : Int) (h : w.heap[g]? = some (.cells #[.int .i64 v] 29 (0, 0))) : (loadVar 29 ⟨g, 0, none⟩).run Tryz.prog w = .ok (.int .i64 v) w := by
  have hc : w.cell? ⟨g, 0, none⟩ = some (.int .i64 v) := by simp [World.cell?, h]
  simp [go_sem, loadVar, hc]
theorem quot_none {n d : Bool} {s t : ByteArray} (HM : Hid (∀ w, Calls Tryz.prog 40 #[frac n s d t] w fun e w' => e = .returned (.bool false) ∧ w.grownBy w' none)) (m : Nat) (hm : 1 ≤ m) (Bx : Nat) (I : Nat → World → Prop) (hI : ∀ W, I 0 W → QBlk W Bx (.bool n) (.string s) (.bool d) (.string t)) :
    HandsNone Fence.wide m Tryz.prog 79 #[.pointer (some ⟨Bx, 0, none⟩)] I := by
  intro l J hJI hJg W hJ0
  have hx := hI _ (hJI _ _ hJ0)
  have c0 := hx.c0
  have c1 := hx.c1
  have c2 := hx.c2
  have c3 := hx.c3
  clear hx
  refine callsIn_of_wp Tryz.func79 rfl trivial ?_ rfl
  simp only [Tryz.ntmps79, List.size_toArray, List.length_cons, List.length_nil, Nat.reduceAdd, Nat.reduceSub, Array.replicate_succ, Array.replicate_zero, List.push_toArray, List.append_toArray, List.nil_append, List.cons_append]
  gi_wp2
  refine ⟨trivial, ?_⟩
  refine (callsIn_wide.2 (HM.out _)).mono ?_
  rintro e w1 ⟨rfl, g1⟩
  have hJ1 : J 0 w1 := hJg _ _ _ hJ0 g1
  gi_wp2
  refine bodyPost_ret (results_none rfl _ _ _) rfl ?_
  exact ⟨⟨_, rfl⟩, hJ1⟩
end Go.Proofs.YtdfliaogmlpefaaGreatDoor
