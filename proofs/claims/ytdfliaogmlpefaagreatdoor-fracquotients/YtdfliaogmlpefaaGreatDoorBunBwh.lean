/-
  slices.Backward of whole numbers.
  frac's folded: what it makes of numbers, over Int; its small functions.
  frac's folded, of quotients that make a fraction that may be.
-/
import Derived.Test.YtdfliaogmlpefaaGreatDoorBunRfs
import Derived.Test.YtdfliaogmlpefaaGreatDoorBunWla
import Derived.TacticsInMore
import Derived.LoopNIn
import Derived.LoopIn
import Derived.OwnWalkIn
import Derived.Test.YtdfliaogmlpefaaGreatDoorEul
import Derived.Test.YtdfliaogmlpefaaGreatDoorBunFre
import Derived.Test.YtdfliaogmlpefaaGreatDoorRfr
import Derived.Stop.RegionWithIn
import Derived.Sort.CutIn
namespace Go.Proofs.YtdfliaogmlpefaaGreatDoor
open Go.RowKit Go.Lib Go.Sort Go.Shelf
set_option linter.unusedVariables false
attribute [local go_sem] Oper.semAt_some
set_option maxHeartbeats 1600000
set_option maxRecDepth 1000000
def encW (Z : Nat → Bool × ByteArray) (K t : Nat) : Array Value := #[.int .i64 ((K - 1 - t : Nat) : Int), whole (Z (K - 1 - t)).1 (Z (K - 1 - t)).2]
end Go.Proofs.YtdfliaogmlpefaaGreatDoor
namespace Go.Proofs.YtdfliaogmlpefaaGreatDoor
open Go.RowKit Go.Lib Go.Sort Go.Shelf
set_option linter.unusedVariables false
set_option maxHeartbeats 1600000
set_option maxRecDepth 1000000
theorem mul_is {k l : Nat} {x y : Int} {n1 n2 n' : Bool} {s1 s2 s' : ByteArray} (hk : k + l ≤ 16384) (h1 : Sz k x n1 s1) (h2 : Sz l y n2 s2) (hq : IsZ (x * y) n' s') (w : World) :
    Calls Tryz.prog 102 #[whole n1 s1, whole n2 s2] w fun e w' => e = .returned (.tuple #[whole n' s', .int .i64 0]) ∧ w.grownBy w' none := by
  refine (mul_sz hk h1 h2 w).mono ?_
  rintro e w' ⟨n, s, rfl, hz, hg⟩
  obtain ⟨rfl, rfl⟩ := whole_inj (hz.1.one hq)
  exact ⟨rfl, hg⟩
theorem upright_pos (n : Bool) (s t : ByteArray) (w : World) :
    Calls Tryz.prog 127 #[whole n s, whole false t] w fun e w' => e = .returned (frac n s false t) ∧ w.grownBy w' none := by
  go_enter Tryz.func127, Tryz.ntmps127
  go_wp2_with fail
  refine bodyPost_ret (res_cellQ rfl _ _ (w.heap.size + 1 + 1) _ _ _ _ _ _ rfl (at_alloc3 _ _ _ _)) rfl ?_
  exact ⟨rfl, grow3 _ _ _ _⟩
theorem bwd_any (ab : Option Addr) (k cp : Nat) (w : World) : Calls Tryz.prog 125 #[.slice ab k cp] w fun e w' => e = .returned (.func (.func 159) #[] #[.pointer (some ⟨w.heap.size, 0, none⟩)]) ∧ w' = w.alloc (.cells #[.slice ab k cp] 48) := by
  have hmf : ∀ (fn : Fn) (first cap : Array Value) (w : World), (Instr.makeFunc fn first cap).run Tryz.prog w = .ok (.func fn first cap) w := fun _ _ _ _ => rfl
  go_enter Tryz.func125, Tryz.ntmps125
  go_wp2_with fail
  go_ret
  exact ⟨rfl, rfl⟩
end Go.Proofs.YtdfliaogmlpefaaGreatDoor
namespace Go.Proofs.YtdfliaogmlpefaaGreatDoor
open Go.RowKit Go.Lib Go.Sort Go.Shelf
set_option linter.unusedVariables false
attribute [local go_sem] Oper.semAt_some
set_option maxHeartbeats 1600000
set_option maxRecDepth 1000000
abbrev E4 := (Bool × ByteArray) × (Bool × ByteArray)
theorem fitting_ok {n d : Bool} {s t : ByteArray} (h1 : s.size ≤ 1024) (h2 : t.size ≤ 1024) (w : World) :
    Calls Tryz.prog 126 #[frac n s d t] w fun e w' => e = .returned (.tuple #[frac n s d t, .int .i64 0]) ∧ w.grownBy w' none := by
  have h := fitting_any n d s t (by unfold maxLen; omega) (by unfold maxLen; omega) w
  have hf : fitsB s t = true := decide_eq_true ⟨h1, h2⟩
  unfold toldE at h
  rw [if_pos hf] at h
  have e : toldV n s d t = frac n s d t := by
    unfold toldV
    simp [hf, tB, tS]
  rw [e] at h
  exact h
theorem callsIn_round {n l : Nat} {P : Program} {f : FuncId} {args : Array Value} {w : World} {R : Ending → World → Prop} (h : Calls P f args w R) : CallsIn (Fence.wide.inRound l) n P f args w R := by
  have h1 := (callsIn_wide (n := n)).2 h
  unfold CallsIn at h1 ⊢
  exact h1
theorem grown_some {W W' : World} (h : W.grownBy W' none) (r : Nat) : W.grownBy W' (some r) := ⟨h.os, h.tape, h.output, h.size, fun i hi _ => h.block i hi (by simp)⟩
theorem keeps_of_grown {W W' : World} {r : Nat} {c : Array Value} {ty : TypeId} {f : Nat × Nat} (h : W.grownBy W' (some r)) (hr : W.heap[r]? = some (.cells c ty f)) : KeepsOthers W W' := by
  refine ⟨h.size, fun k o hk ho => ?_⟩
  refine (h.block k (Array.getElem?_eq_some_iff.1 hk).1 (fun e => ?_)).trans hk
  injection e with e
  subst e
  rw [hk] at hr
  cases hr
  cases ho
theorem res_folded (tmps : Array Value) (w : World) (g g' : Nat) (a b c d v : Value) (hp : tmps.getD 2 undef = .pointer (some ⟨g, 0, none⟩)) (hg : w.heap[g]? = some (.cells #[a, b, c, d] 25 (0, 0)))
    (hq : tmps.getD 3 undef = .pointer (some ⟨g', 0, none⟩)) (hg' : (loadVar 29 ⟨g', 0, none⟩).run Tryz.prog w = .ok v w) : (results Tryz.f82 tmps).run Tryz.prog w = .ok (.tuple #[.agg #[a, b, c, d], v]) w := by
  have hp' : tmps[2]?.getD undef = .pointer (some ⟨g, 0, none⟩) := by simpa using hp
  have hq' : tmps[3]?.getD undef = .pointer (some ⟨g', 0, none⟩) := by simpa using hq
  simp [results, hp', hq', asAddr, load_rowQ w g _ a b c d _ hg, hg', Sem.run_bind, Result.andThen]
end Go.Proofs.YtdfliaogmlpefaaGreatDoor
