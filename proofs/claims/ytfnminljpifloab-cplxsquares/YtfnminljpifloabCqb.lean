/-
  What the law's 'is', 'num' and 'works' answer.
-/
import Derived.Test.YtfnminljpifloabCpz
import Derived.Deep.RegionWith
namespace Go.Proofs.Ytfnminljpifloab
open Go.RowKit Go.Lib Go.Sort Ieee
attribute [local go_sem] extBits extFrom
theorem run_store_float {P : Program} (w : World) (a : Addr) (m : Mode) (k : FloatKind) (x : Nat) : (store a (.float k x) m).run P w = stored P w a (.float k x) m := run_store P w a _ m rfl
attribute [local go_sem] run_store_float

theorem grownBy_undrew {a b : World} {row : Option Nat} (h : a.drew.grownBy b row) : a.grownBy b row :=
  ⟨h.os, h.tape, h.output, h.size, fun i hi hn => h.block i hi hn⟩
theorem rNaN_any (x : Nat) : Gives 35 #[.float .f64 x] (.bool (double.order x x != some .eq)) := by
  intro w
  go_enter Try.func35, Try.ntmps35
  go_wp2
  go_ret
  exact ⟨rfl, rfl⟩
set_option maxHeartbeats 200000 in
theorem like_same (x : Nat) (hn : (double.order x x == some .eq) = true) : Gives 33 #[.float .f64 x, .float .f64 x] (.bool true) := by
  intro w
  have hn' : (double.order x x != some .eq) = false := by rw [bne, hn]; rfl
  go_enter Try.func33, Try.ntmps33
  go_wp2_with (go_at_call 35; refine (rNaN_any _ _).mono ?_; rintro e w' ⟨rfl, rfl⟩; rw [hn'])
  go_ret
  exact ⟨rfl, rfl⟩
theorem num_any (n : Int) : Gives 9 #[.int .i64 n] (.int .i64 n) := by
  intro w
  go_enter Try.func9, Try.ntmps9
  go_wp2
  go_ret
  exact ⟨rfl, rfl⟩
theorem Try.sizeN : (Try.prog.info? 35).map (·.size) = some 2 := by kernel_rfl
theorem res_num {fn : Func} {p : Tmp} (h : fn.results = #[.cell p 35]) (tmps : Array Value) (w : World) (g : Nat) (t : TypeId) (a b : Value) (fr : Nat × Nat)
    (hp : tmps.getD p undef = .pointer (some ⟨g, 0, none⟩)) (hg : w.heap[g]? = some (.cells #[a, b] t fr)) : (results fn tmps).run Try.prog w = .ok (.agg #[a, b]) w :=
  results_cell_row h tmps w g t #[a, b] fr _ hp hg Try.underlying35 rfl Try.sizeN
set_option maxHeartbeats 200000 in
theorem of_any (x y : Nat) (w : World) : Calls Try.prog 25 #[.complex .f64 x y] w fun e w' => e = .returned (.agg #[.float .f64 x, .float .f64 y]) ∧ w.grownBy w' none := by
  go_enter Try.func25, Try.ntmps25
  go_wp2
  exact bodyPost_ret (res_num rfl _ _ w.heap.size _ _ _ _ rfl (heap_alloc_new _ _)) rfl ⟨rfl, grow1 _ _⟩
set_option maxHeartbeats 200000 in
theorem same_any (x y : Nat) (hx : (double.order x x == some .eq) = true) (hy : (double.order y y == some .eq) = true) (w : World) : Calls Try.prog 24 #[.agg #[.float .f64 x, .float .f64 y], .agg #[.float .f64 x, .float .f64 y]] w fun e w' => e = .returned (.bool true) ∧ w.grownBy w' none := by
  go_enter Try.func24, Try.ntmps24
  go_wp2_with fail
  refine (like_same x hx _).mono ?_
  rintro e w' ⟨rfl, rfl⟩
  go_wp2_with fail
  refine (like_same y hy _).mono ?_
  rintro e w' ⟨rfl, rfl⟩
  go_wp2_with fail
  go_ret
  exact ⟨rfl, grownBy_trans (grow1 _ _) (grow1 _ _)⟩
set_option maxHeartbeats 400000 in
theorem is_any (x y : Nat) (hx : (double.order x x == some .eq) = true) (hy : (double.order y y == some .eq) = true) (w : World) : Calls Try.prog 11 #[.complex .f64 x y, .agg #[.float .f64 x, .float .f64 y]] w fun e w' => e = .returned (.bool true) ∧ w.grownBy w' none := by
  have HK : Hid (∀ w1, (w.alloc (.cells #[.float .f64 x, .float .f64 y] 35)).grownBy w1 none → w1.cell? ⟨w.heap.size, 0, none⟩ = some (.float .f64 x) ∧ w1.cell? ⟨w.heap.size, 1, none⟩ = some (.float .f64 y)) := fun w1 hg => by
    have hk : w1.heap[w.heap.size]? = some (.cells #[.float .f64 x, .float .f64 y] 35) := (hg.block w.heap.size (by simp) (by simp)).trans (heap_alloc_new _ _)
    constructor <;> simp [World.cell?, hk]
  have HX : Hid ((double.order x x == some .eq) = true ∧ (double.order y y == some .eq) = true) := ⟨hx, hy⟩
  clear hx hy
  go_enter Try.func11, Try.ntmps11
  go_wp2_with fail
  go_region_with
    (first
      | (go_at_call 25; refine (of_any x y _).mono ?_; rintro e w1 ⟨rfl, hg⟩; have HG : (w.alloc (.cells #[.float .f64 x, .float .f64 y] 35)).grownBy w1 none := (by first | exact hg | exact grownBy_undrew hg | fail); obtain ⟨c0, c1⟩ := HK.out _ HG)
      | (go_at_call 24; refine (same_any x y HX.out.1 HX.out.2 _).mono ?_; rintro e w2 ⟨rfl, hg2⟩; have HG2 : w.grownBy w2 none := grownBy_trans (grownBy_trans (grow1 _ _) HG) (by first | exact hg2 | exact grownBy_undrew hg2 | fail))
      | fail)
  all_goals
    go_wp2_with fail
    go_ret
    exact ⟨rfl, HG2⟩
end Go.Proofs.Ytfnminljpifloab
