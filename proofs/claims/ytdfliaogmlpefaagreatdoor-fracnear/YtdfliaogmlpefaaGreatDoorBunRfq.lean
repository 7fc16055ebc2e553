/-
  frac's Quotients, of which the first one is asked.
  frac's Floor.
-/
import Derived.Test.YtdfliaogmlpefaaGreatDoorBunRfo
import Derived.Test.YtdfliaogmlpefaaGreatDoorBunOnh
import Derived.TacticsInMore
import Derived.LoopNIn
import Derived.LoopIn
import Derived.OwnWalkIn
import Derived.RangeFuncNested
import Derived.RangeFuncBound
import Derived.RangeFuncCalls
import Derived.RangeFuncLeaves
import Derived.RangeFuncFrom
import Derived.RangeFuncBox
namespace Go.Proofs.YtdfliaogmlpefaaGreatDoor
open Go.RowKit Go.Lib Go.Sort Go.Shelf
set_option linter.unusedVariables false
attribute [local go_sem] Oper.semAt_some
set_option maxHeartbeats 4000000
set_option maxRecDepth 1000000
theorem eg_steps1 : ∀ args w, (callFunc 124 args).run Tryz.prog w = .ok (.enter 124 args) w := enters_of Tryz.func124 (by kernel_rfl) rfl
theorem rest_case {z : Int} {k : Nat} {n : Bool} {s : ByteArray} (hk : k ≤ 16384) (h : Sz k z n s) : (n = false ∧ s = eS) ∨ (s.toList == []) = false := by
  by_cases e : z = 0
  · subst e
    exact .inl (whole_inj (h.1.one zero_z))
  · exact .inr (nonempty_q (h.size0 hk e))
theorem quot_once {x y : Int} {n d q1 : Bool} {s t q2 : ByteArray} (h : IsQ x y n s d t) (zq : IsZ (x / y) q1 q2) (m : Nat) (hm : 1 ≤ m) (Bx : Nat) (I : Nat → World → Prop) (hI : ∀ W, I 0 W → QBlk W Bx (.bool n) (.string s) (.bool d) (.string t)) :
    HandsOnce Fence.wide m Tryz.prog 79 #[.pointer (some ⟨Bx, 0, none⟩)] #[whole q1 q2] I := by
  intro l J hJI hJg hY W hJ0
  have HM : Hid (∀ w, Calls Tryz.prog 40 #[frac n s d t] w fun e w' => e = .returned (.bool true) ∧ w.grownBy w' none) := fun w => h.call w
  obtain ⟨r1, r2, zr⟩ := isz_ex (x % y)
  have hne : y ≠ 0 := Int.ne_of_gt h.pos
  have HD : Hid (∀ w, Calls Tryz.prog 55 #[whole n s, whole d t] w fun e w' => e = .returned (.tuple #[whole q1 q2, whole r1 r2, .int .i64 0]) ∧ w.grownBy w' none) := fun w => divr_is (by decide) (by decide) hne h.zn h.zd zq zr w
  have hz := rest_case (by decide) (zr.sz (Nat.lt_trans (emod_abs_lt x y hne) h.zd.2))
  clear hne zr zq h
  have hx := hI _ (hJI _ _ hJ0)
  have c0 := hx.c0
  have c1 := hx.c1
  have c2 := hx.c2
  have c3 := hx.c3
  clear hx
  refine callsIn_of_wp Tryz.func79 rfl trivial ?_ rfl
  simp only [Tryz.ntmps79, List.size_toArray, List.length_cons, List.length_nil, Nat.reduceAdd, Nat.reduceSub, Array.replicate_succ, Array.replicate_zero, List.push_toArray, List.append_toArray, List.nil_append, List.cons_append]
  gi_wp2
  refine ⟨trivial, ?_⟩
  refine (callsIn_wide.2 (HM.out _)).mono ?_
  rintro e w1 ⟨rfl, g1⟩
  clear c0 c1 c2 c3
  have hJ1 : J 0 w1 := hJg _ _ _ hJ0 g1
  clear g1 hJ0
  have hx := hI _ (hJI _ _ hJ1)
  have c0 := hx.c0
  have c1 := hx.c1
  have c2 := hx.c2
  have c3 := hx.c3
  clear hx
  gi_wp2
  refine ⟨trivial, ?_⟩
  refine (callsIn_wide.2 (steps_any n d s t _)).mono ?_
  rintro e w2 ⟨P, Q, rfl, hP, hQ, lP, lQ, ne, g2⟩
  clear c0 c1 c2 c3
  have HS : Hid (Calls Tryz.prog 124 #[.pointer (some ⟨P, 0, none⟩), .pointer (some ⟨Q, 0, none⟩)] w2 fun e w' => (∃ b, e = .returned (.tuple #[whole q1 q2, .bool b])) ∧ w1.grownBy w' none) := steps1_any w1 w2 P Q n d q1 r1 s t q2 r2 HD hP hQ lP lQ ne g2 hz
  clear hP hQ lP lQ ne g2 hz HD HM
  have eg := eg_steps1
  gi_wp2
  gi_loopw [4] (fun s4 wr => s4 = undef ∧ wr = w2) (fun _ _ => 0)
  case atStart => exact ⟨rfl, rfl⟩
  case round =>
    obtain ⟨rfl, rfl⟩ := hrel
    gi_wp2
    refine ⟨trivial, ?_⟩
    refine (callsIn_wide.2 HS.out).mono ?_
    rintro e w3 ⟨⟨b, rfl⟩, g3⟩
    have hJ4 : J 0 (w3.alloc (wObj q1 q2)) := hJg _ _ _ (hJg _ _ _ hJ1 g3) (grow1 _ _)
    clear g3 HS hJ1
    obtain ⟨fn, tmps, assign, body, hy, hR⟩ := hY _ hJ4
    gi_wp2
    refine hR.mono ?_
    rintro e W5 ⟨rfl, hJ5⟩
    gi_wp2
    refine bodyPost_ret (results_none rfl _ _ _) rfl ?_
    exact ⟨⟨_, rfl⟩, hJ5⟩
end Go.Proofs.YtdfliaogmlpefaaGreatDoor
namespace Go.Proofs.YtdfliaogmlpefaaGreatDoor
open Go.RowKit Go.Lib Go.Sort Go.Shelf
set_option linter.unusedVariables false
attribute [local go_sem] Oper.semAt_some
set_option maxHeartbeats 4000000
set_option maxRecDepth 1000000
theorem quot_any (n d : Bool) (s t : ByteArray) (w : World) : Calls Tryz.prog 33 #[frac n s d t] w fun e w' => e = .returned (.func (.func 79) #[] #[.pointer (some ⟨w.heap.size, 0, none⟩)]) ∧ w' = w.alloc (qObj n s d t) := by
  have hmf : ∀ (fn : Fn) (first cap : Array Value) (w : World), (Instr.makeFunc fn first cap).run Tryz.prog w = .ok (.func fn first cap) w := fun _ _ _ _ => rfl
  go_enter Tryz.func33, Tryz.ntmps33
  go_wp2_with fail
  go_ret
  exact ⟨rfl, rfl⟩
def flI (w : World) (Bx : Nat) (n : Bool) (s : ByteArray) (d : Bool) (t : ByteArray) (q1 : Bool) (q2 : ByteArray) (k : Nat) (W : World) : Prop :=
  QBlk W Bx (.bool n) (.string s) (.bool d) (.string t) ∧ WBlk W (w.heap.size + 1) (.bool (if k = 0 then false else q1)) (.string (if k = 0 then eS else q2)) ∧ W.heap[w.heap.size + 1 + 1]? = some (.cells #[.int .i64 0] 29 (0, 0)) ∧ w.grownBy W none
theorem flI_own (w : World) (Bx B : Nat) (n d q1 : Bool) (s t q2 : ByteArray) (h1 : Bx < B) (h2 : w.heap.size + 1 + 1 < B) : OwnFrom B (flI w Bx n s d t q1 q2) := by
  rintro k W W' row ⟨a, b, c, g⟩ hg hr
  have nb : ∀ i o, i < B → W.heap[i]? = some o → W'.heap[i]? = some o := fun i o hi h => (hg.block i (Array.getElem?_eq_some_iff.1 h).1 (fun e => by have := (hr i e.symm).1; omega)).trans h
  exact ⟨nb _ _ h1 a, nb _ _ (by omega) b, nb _ _ h2 c, ⟨hg.os.trans g.os, hg.tape.trans g.tape, hg.output.trans g.output, Nat.le_trans g.size hg.size, fun i hi hn => (hg.block i (Nat.lt_of_lt_of_le hi g.size) (fun e => by have := (hr i e.symm).1; omega)).trans (g.block i hi hn)⟩⟩
def flA (w : World) (n : Bool) (s : ByteArray) (d : Bool) (t : ByteArray) (q1 : Bool) (q2 : ByteArray) (a : Act) (W : World) : Prop :=
  ∃ P, a = { tmps := #[frac n s d t, .pointer (some ⟨w.heap.size, 0, none⟩), .pointer (some ⟨w.heap.size + 1, 0, none⟩), .pointer (some ⟨w.heap.size + 1 + 1, 0, none⟩), .pointer (some ⟨P, 0, none⟩), frac n s d t, .func (.func 79) #[] #[.pointer (some ⟨w.heap.size + 1 + 1 + 1, 0, none⟩)], whole q1 q2, undef, undef], defers := [] } ∧ WBlk W P (.bool q1) (.string q2) ∧ flI w (w.heap.size + 1 + 1 + 1) n s d t q1 q2 0 W
theorem flA_own (w : World) (B : Nat) (n d q1 : Bool) (s t q2 : ByteArray) (h : w.heap.size + 1 + 1 + 1 < B) : OwnFrom B (flA w n s d t q1 q2) := by
  rintro a W W' row ⟨P, rfl, hP, hI⟩ hg hr
  refine ⟨P, rfl, ?_, flI_own w _ B n d q1 s t q2 h (by omega) 0 W W' row hI hg hr⟩
  refine (hg.block P hP.lt (fun e => ?_)).trans hP
  obtain ⟨_, o, ho, hc⟩ := hr P e.symm
  have e2 : some o = some (Obj.cells #[.bool q1, .string q2] 23 (0, 0)) := ho.symm.trans hP
  obtain rfl := Option.some.inj e2
  cases hc
theorem load_errno (w : World) (g : Nat) (v : Int) (h : w.heap[g]? = some (.cells #[.int .i64 v] 29 (0, 0))) : (loadVar 29 ⟨g, 0, none⟩).run Tryz.prog w = .ok (.int .i64 v) w := by
  have hc : w.cell? ⟨g, 0, none⟩ = some (.int .i64 v) := by simp [World.cell?, h]
  simp [go_sem, loadVar, hc]
theorem res_floor (tmps : Array Value) (w : World) (g g' : Nat) (a b v : Value) (hp : tmps.getD 2 undef = .pointer (some ⟨g, 0, none⟩)) (hg : w.heap[g]? = some (.cells #[a, b] 23 (0, 0)))
    (hq : tmps.getD 3 undef = .pointer (some ⟨g', 0, none⟩)) (hg' : (loadVar 29 ⟨g', 0, none⟩).run Tryz.prog w = .ok v w) : (results Tryz.f14 tmps).run Tryz.prog w = .ok (.tuple #[.agg #[a, b], v]) w := by
  have hp' : tmps[2]?.getD undef = .pointer (some ⟨g, 0, none⟩) := by simpa using hp
  have hq' : tmps[3]?.getD undef = .pointer (some ⟨g', 0, none⟩) := by simpa using hq
  simp [results, hp', hq', asAddr, load_row w g _ a b _ hg, hg', Sem.run_bind, Result.andThen]
theorem floor_any {x y : Int} {n d q1 : Bool} {s t q2 : ByteArray} (h : IsQ x y n s d t) (zq : IsZ (x / y) q1 q2) (w : World) :
    Calls Tryz.prog 14 #[frac n s d t] w fun e w' => e = .returned (.tuple #[whole q1 q2, .int .i64 0]) ∧ w.grownBy w' none := by
  refine (callsIn_wide (n := 5)).1 ?_
  refine callsIn_of_wp_marks Tryz.func14 rfl trivial ?_ rfl
  simp only [Tryz.ntmps14, List.size_toArray, List.length_cons, List.length_nil, Nat.reduceAdd, Nat.reduceSub, Array.replicate_succ, Array.replicate_zero, List.push_toArray, List.append_toArray, List.nil_append, List.cons_append]
  gi_wp2
  refine ⟨trivial, ?_⟩
  refine (callsIn_wide.2 (quot_any _ _ _ _ _)).mono ?_
  rintro e w' ⟨rfl, rfl⟩
  gi_wp2
  refine wpIn_once rfl (by omega) (gf := 79) (lb := #[.pointer (some ⟨w.heap.size + 1 + 1 + 1, 0, none⟩)]) rfl trivial (enters_of Tryz.func79 (by kernel_rfl) rfl) #[whole q1 q2] rfl
    (flI w (w.heap.size + 1 + 1 + 1) n s d t q1 q2) (flI_own w _ _ n d q1 s t q2 (by simp) (by simp)) ?h0 (quot_once h zq (5 - 1) (by omega) _ _ (fun W hW => hW.1)) (flA w n s d t q1 q2) (flA_own w _ n d q1 s t q2 (by simp)) ?assign ?body ?done
  case h0 =>
    refine ⟨?_, old_alloc _ _ (old_alloc _ _ (heap_alloc2_new _ _ _)), old_alloc _ _ (at_alloc3 _ _ _ _), grow4 _ _ _ _ _⟩
    exact at_alloc4 _ _ _ _ _
  case assign =>
    intro l W hI
    gi_wp2
    exact ⟨⟨W.heap.size, rfl, heap_alloc_new _ _, (flI_own w _ (w.heap.size + 1 + 1 + 1 + 1) n d q1 s t q2 (by omega) (by omega)).alloc _ hI⟩, grow1 _ _⟩
  case body =>
    rintro l a' W ⟨P, rfl, hP, h1, h2, h3, h4⟩
    simp only [if_true] at h2
    have c0 := hP.c0
    have c1 := hP.c1
    have k0 := h2.c0
    have k1 := h2.c1
    have k2 := h2.fr 0
    have k3 := h2.fr 1
    have c4 : W.cell? ⟨w.heap.size + 1 + 1, 0, none⟩ = some (.int .i64 0) := by simp [World.cell?, h3]
    have f4 : W.frozen? ⟨w.heap.size + 1 + 1, 0, none⟩ = false := by simp [World.frozen?, h3]
    gi_wp2
    refine ⟨((KeepsOthers.setCell _ _ _).trans (KeepsOthers.setCell _ _ _)).trans (KeepsOthers.setCell _ _ _), ((h1.other (by omega)).other (by omega)).other (by omega), (h2.put _ _).other (by omega), ?_, grown_set (grown_set (grown_set h4 (by omega)) (by omega)) (by omega)⟩
    simp [World.setCell, Array.getElem?_modify, h3]
  case done =>
    rintro D W hD ⟨h1, h2, h3, h4⟩ hK
    gi_wp2
    refine ⟨by simp, .inl ⟨_, _, rfl, run_takeDeferred hK, ?_⟩⟩
    have kD := grownBy_putObj' W D (.deferred none)
    have hDs : w.heap.size + 1 + 1 + 1 + 1 ≤ D := by simpa using hD
    have nb : ∀ i o, i < w.heap.size + 1 + 1 + 1 + 1 → W.heap[i]? = some o → (W.putObj D (.deferred none)).heap[i]? = some o := fun i o hi hh => (kD.block i (Array.getElem?_eq_some_iff.1 hh).1 (by intro e; injection e with e; omega)).trans hh
    refine ⟨_, res_floor _ _ (w.heap.size + 1) (w.heap.size + 1 + 1) (.bool q1) (.string q2) (.int .i64 0) rfl (nb _ _ (by omega) h2) rfl (load_errno _ _ _ (nb _ _ (by omega) h3)), rfl, ?_⟩
    exact ⟨kD.os.trans h4.os, kD.tape.trans h4.tape, kD.output.trans h4.output, Nat.le_trans h4.size kD.size, fun i hi hn => (kD.block i (Nat.lt_of_lt_of_le hi h4.size) (by intro e; injection e with e; omega)).trans (h4.block i hi hn)⟩
end Go.Proofs.YtdfliaogmlpefaaGreatDoor
