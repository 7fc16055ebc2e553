/-
  Worlds that only grow; blocks that bear a circle by floats.
-/
import Derived.Test.YtlpdmbidjjaeoabFce
import Derived.Sort.WalkB12
import Derived.Lib.OwnBridge
import Derived.Deep.RegionHeld3
import Derived.WalkMore
import Derived.Deep.Cut
namespace Go.Proofs.Ytlpdmbidjjaeoab
open Go.RowKit Go.Lib Go.Sort

theorem grownBy_trans {a b c : World} {row : Option Nat} (h : a.grownBy b row) (k : b.grownBy c row) : a.grownBy c row :=
  ⟨k.os.trans h.os, k.tape.trans h.tape, k.output.trans h.output, Nat.le_trans h.size k.size, fun i hi hn => (k.block i (Nat.lt_of_lt_of_le hi h.size) hn).trans (h.block i hi hn)⟩
theorem grownBy_drewN {a b : World} {row : Option Nat} (h : a.grownBy b row) (n : Nat) : a.grownBy (b.drewN n) row :=
  ⟨h.os, h.tape, h.output, h.size, fun i hi hn => h.block i hi hn⟩
theorem grow_drew {w w' : World} {row : Option Nat} (h : w.grownBy w' row) : w.grownBy w'.drew row := grownBy_drewN h 1
theorem grownBy_undrew {a b : World} {row : Option Nat} (h : a.drew.grownBy b row) : a.grownBy b row :=
  ⟨h.os, h.tape, h.output, h.size, fun i hi hn => h.block i hi hn⟩
theorem grownBy_setCell (a : World) (g o : Nat) (v : Value) : a.grownBy (a.setCell ⟨g, o, none⟩ v) (some g) :=
  ⟨rfl, rfl, rfl, by simp [World.setCell], fun i _ hn => Below.heap_setCell _ _ _ _ (by intro e; exact hn (by rw [e]))⟩
theorem below_of_grownBy {w w' : World} (h : w.grownBy w' none) : Below w.heap.size w w' := ⟨h.os, h.tape, h.output, h.size, fun k hk => h.block k hk (by simp)⟩
theorem grownBy_new {a b c : World} {rb : Nat} (h : a.grownBy b none) (hb : a.heap.size ≤ rb) (k : b.grownBy c (some rb)) : a.grownBy c none :=
  ⟨k.os.trans h.os, k.tape.trans h.tape, k.output.trans h.output, Nat.le_trans h.size k.size, fun i hi hn => (k.block i (Nat.lt_of_lt_of_le hi h.size) (by intro e; cases e; omega)).trans (h.block i hi hn)⟩
theorem grow0 (w : World) : w.grownBy w none := ⟨rfl, rfl, rfl, Nat.le_refl _, fun _ _ _ => rfl⟩
theorem grow1 (w : World) (a : Obj) : w.grownBy (w.alloc a) none := World.grownBy_alloc _ _ _
theorem grow2 (w : World) (a b : Obj) : w.grownBy ((w.alloc a).alloc b) none := grownBy_trans (grow1 _ _) (grow1 _ _)
theorem grown_set {w w' : World} {B i : Nat} {v : Value} (h : w.grownBy w' none) (hB : w.heap.size ≤ B) : w.grownBy (w'.setCell ⟨B, i, none⟩ v) none :=
  grownBy_new h hB (grownBy_setCell _ _ _ _)

abbrev fcirc (A b1 b2 C : Nat) : Value := .agg #[.float .f64 A, .complex .f64 b1 b2, .float .f64 C]
abbrev fObj (A b1 b2 C : Nat) : Obj := .cells #[.float .f64 A, .complex .f64 b1 b2, .float .f64 C] 28
theorem Try.sizeF : (Try.prog.info? 28).map (·.size) = some 3 := by kernel_rfl
/-- A block that bears a circle. -/
def FBlk (w : World) (B : Nat) (a b c : Value) : Prop := w.heap[B]? = some (.cells #[a, b, c] 28 (0, 0))
theorem FBlk.lt {w : World} {B : Nat} {a b c : Value} (h : FBlk w B a b c) : B < w.heap.size := (Array.getElem?_eq_some_iff.1 h).1
theorem FBlk.c0 {w : World} {B : Nat} {a b c : Value} (h : FBlk w B a b c) : w.cell? ⟨B, 0, none⟩ = some a := by
  unfold FBlk at h; simp [World.cell?, h]
theorem FBlk.c1 {w : World} {B : Nat} {a b c : Value} (h : FBlk w B a b c) : w.cell? ⟨B, 1, none⟩ = some b := by
  unfold FBlk at h; simp [World.cell?, h]
theorem FBlk.c2 {w : World} {B : Nat} {a b c : Value} (h : FBlk w B a b c) : w.cell? ⟨B, 2, none⟩ = some c := by
  unfold FBlk at h; simp [World.cell?, h]
theorem FBlk.fr {w : World} {B : Nat} {a b c : Value} (h : FBlk w B a b c) (i : Nat) : w.frozen? ⟨B, i, none⟩ = false := by
  unfold FBlk at h; simp [World.frozen?, h]
theorem FBlk.put {w : World} {B : Nat} {a b c : Value} (h : FBlk w B a b c) (x y z : Value) : FBlk (((w.setCell ⟨B, 0, none⟩ x).setCell ⟨B, 1, none⟩ y).setCell ⟨B, 2, none⟩ z) B x y z := by
  unfold FBlk at *
  simp [World.setCell, Array.getElem?_modify, h]
theorem FBlk.kept {w w' : World} {row : Option Nat} {B : Nat} {a b c : Value} (h : FBlk w B a b c) (hg : w.grownBy w' row) (hn : row ≠ some B) : FBlk w' B a b c :=
  (hg.block B h.lt (fun e => hn e.symm)).trans h
theorem grown_put3 {w w' : World} {B : Nat} {x y z : Value} (h : w.grownBy w' none) (hB : w.heap.size ≤ B) : w.grownBy (((w'.setCell ⟨B, 0, none⟩ x).setCell ⟨B, 1, none⟩ y).setCell ⟨B, 2, none⟩ z) none :=
  grown_set (grown_set (grown_set h hB) hB) hB
theorem load_rowF (w : World) (g : Nat) (t : TypeId) (a b c : Value) (fr : Nat × Nat) (hg : w.heap[g]? = some (.cells #[a, b, c] t fr)) : (loadVar 28 ⟨g, 0, none⟩).run Try.prog w = .ok (.agg #[a, b, c]) w :=
  run_loadVar_row w g t 28 #[a, b, c] fr _ hg Try.underlying28 rfl Try.sizeF
theorem res_cellF {fn : Func} {p : Tmp} (h : fn.results = #[.cell p 28]) (tmps : Array Value) (w : World) (g : Nat) (t : TypeId) (a b c : Value) (fr : Nat × Nat)
    (hp : tmps.getD p undef = .pointer (some ⟨g, 0, none⟩)) (hg : w.heap[g]? = some (.cells #[a, b, c] t fr)) : (results fn tmps).run Try.prog w = .ok (.agg #[a, b, c]) w :=
  results_cell_row h tmps w g t #[a, b, c] fr _ hp hg Try.underlying28 rfl Try.sizeF
theorem res_cellF_tmp {fn : Func} {p u : Tmp} (h : fn.results = #[.cell p 28, .tmp u]) (tmps : Array Value) (w : World) (g : Nat) (t : TypeId) (a b c : Value) (fr : Nat × Nat)
    (hp : tmps.getD p undef = .pointer (some ⟨g, 0, none⟩)) (hg : w.heap[g]? = some (.cells #[a, b, c] t fr)) : (results fn tmps).run Try.prog w = .ok (.tuple #[.agg #[a, b, c], tmps.getD u undef]) w := by
  rw [results_cell_tmp h, hp]
  simp [asAddr, Result.andThen, load_rowF w g t a b c fr hg]
theorem run_store_float {P : Program} (w : World) (a : Addr) (m : Mode) (k : FloatKind) (x : Nat) : (store a (.float k x) m).run P w = stored P w a (.float k x) m := run_store P w a _ m rfl
theorem run_store_complex {P : Program} (w : World) (a : Addr) (m : Mode) (k : FloatKind) (x y : Nat) : (store a (.complex k x y) m).run P w = stored P w a (.complex k x y) m := run_store P w a _ m rfl
end Go.Proofs.Ytlpdmbidjjaeoab
