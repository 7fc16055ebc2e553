/-
  Through.
-/
import Derived.Test.YtlpdmbidjjaeoabFcv
namespace Go.Proofs.Ytlpdmbidjjaeoab
open Go.RowKit Go.Lib Go.Sort Ieee
attribute [local go_sem] run_store_float run_store_complex
set_option linter.unusedVariables false

/-- Block B bears the three points. -/
def TBlk (w : World) (B : Nat) (a b c : Value) : Prop := w.heap[B]? = some (.cells #[a, b, c] 39 (0, 0))
theorem TBlk.lt {w : World} {B : Nat} {a b c : Value} (h : TBlk w B a b c) : B < w.heap.size := (Array.getElem?_eq_some_iff.1 h).1
theorem TBlk.c0 {w : World} {B : Nat} {a b c : Value} (h : TBlk w B a b c) : w.cell? ⟨B, 0, none⟩ = some a := by
  unfold TBlk at h; simp [World.cell?, h]
theorem TBlk.c1 {w : World} {B : Nat} {a b c : Value} (h : TBlk w B a b c) : w.cell? ⟨B, 1, none⟩ = some b := by
  unfold TBlk at h; simp [World.cell?, h]
theorem TBlk.c2 {w : World} {B : Nat} {a b c : Value} (h : TBlk w B a b c) : w.cell? ⟨B, 2, none⟩ = some c := by
  unfold TBlk at h; simp [World.cell?, h]
theorem TBlk.kept {w w' : World} {row : Option Nat} {B : Nat} {a b c : Value} (h : TBlk w B a b c) (hg : w.grownBy w' row) (hn : row ≠ some B) : TBlk w' B a b c :=
  (hg.block B h.lt (fun e => hn e.symm)).trans h

set_option maxHeartbeats 1600000 in
set_option maxRecDepth 1000000 in
theorem through_op {p1 p2 q1 q2 r1 r2 A B1 B2 C : Nat} {ya yb yc : Bool} (hf : ∀ w, Calls Try.prog 9 #[three p1 p2 q1 q2 r1 r2] w fun e w' => e = .returned (.bool true) ∧ w.grownBy w' none)
    (hc : ∀ w, Calls Try.prog 10 #[three p1 p2 q1 q2 r1 r2] w fun e w' => e = .returned (fcirc A B1 B2 C) ∧ w.grownBy w' none)
    (ha : (FloatKind.f64.format.order A 0 == some .eq) = ya) (hb : (FloatKind.f64.format.order B1 0 == some .eq) = yb) (hd : (FloatKind.f64.format.order B2 0 == some .eq) = yc) (w : World) :
    Calls Try.prog 5 #[.complex .f64 p1 p2, .complex .f64 q1 q2, .complex .f64 r1 r2] w fun e w' => e = .returned (if ya && (yb && yc) then .tuple #[fcirc 0 0 0 0, .int .i64 5] else .tuple #[fcirc A B1 B2 C, .int .i64 0]) ∧ w.grownBy w' none := by
  have Hf : Hid (∀ w, Calls Try.prog 9 #[three p1 p2 q1 q2 r1 r2] w fun e w' => e = .returned (.bool true) ∧ w.grownBy w' none) := hf
  have Hc : Hid (∀ w, Calls Try.prog 10 #[three p1 p2 q1 q2 r1 r2] w fun e w' => e = .returned (fcirc A B1 B2 C) ∧ w.grownBy w' none) := hc
  clear hf hc
  go_enter Try.func5, Try.ntmps5
  go_wp2_with fail
  refine (Hf.out _).mono ?_
  rintro e w1 ⟨rfl, g1⟩
  have HT : Hid (TBlk w1 (w.heap.size + 1) (.complex .f64 p1 p2) (.complex .f64 q1 q2) (.complex .f64 r1 r2)) := TBlk.kept (heap_alloc2_new _ _ _) g1 (by simp)
  have HR : Hid (FBlk w1 w.heap.size (.float .f64 0) (.complex .f64 0 0) (.float .f64 0)) := FBlk.kept (FBlk.kept (heap_alloc_new _ _) (grow1 _ _) (by simp)) g1 (by simp)
  have HG : Hid (w.grownBy w1 none ∧ w.heap.size + 1 < w1.heap.size) := ⟨grownBy_trans (grow2 _ _ _) g1, HT.out.lt⟩
  clear g1
  have t0 := HT.out.c0
  have t1 := HT.out.c1
  have t2 := HT.out.c2
  go_wp2_with fail
  refine (Hc.out _).mono ?_
  rintro e w2 ⟨rfl, g2⟩
  have HR2 : Hid (FBlk (w2.alloc (fObj A B1 B2 C)) w.heap.size (.float .f64 0) (.complex .f64 0 0) (.float .f64 0) ∧ FBlk (w2.alloc (fObj A B1 B2 C)) w2.heap.size (.float .f64 A) (.complex .f64 B1 B2) (.float .f64 C) ∧ w.grownBy (w2.alloc (fObj A B1 B2 C)) none) := ⟨(HR.out.kept g2 (by simp)).kept (grow1 _ _) (by simp), heap_alloc_new _ _, grownBy_trans HG.out.1 (grownBy_trans g2 (grow1 _ _))⟩
  have HL : Hid (w.heap.size < w2.heap.size) := Nat.lt_of_lt_of_le (Nat.lt_of_succ_lt HG.out.2) g2.size
  clear g2 t0 t1 t2 HT HR HG
  go_upto_region 5 with fail
  generalize w2.alloc (fObj A B1 B2 C) = V at *
  generalize w2.heap.size = N at *
  have r0 := HR2.out.1.c0
  have r1 := HR2.out.1.c1
  have r2 := HR2.out.1.c2
  have s0 := HR2.out.1.fr 0
  have s1 := HR2.out.1.fr 1
  have s2 := HR2.out.1.fr 2
  have f0 := HR2.out.2.1.c0
  have f1 := HR2.out.2.1.c1
  have f2 := HR2.out.2.1.c2
  cases ya
  · go_wp2_with fail
    exact bodyPost_ret (res_cellF_tmp rfl _ _ w.heap.size _ _ _ _ _ rfl (HR2.out.1.put _ _ _)) rfl ⟨rfl, grown_put3 HR2.out.2.2 (Nat.le_refl _)⟩
  · cases yb <;> cases yc
    all_goals
      go_wp2_with fail
      exact bodyPost_ret (res_cellF_tmp rfl _ _ w.heap.size _ _ _ _ _ rfl (HR2.out.1.put _ _ _)) rfl ⟨rfl, grown_put3 HR2.out.2.2 (Nat.le_refl _)⟩

/-- Through three whole points: the circle, or ErrZero. -/
theorem through_e {p1 p2 q1 q2 r1 r2 : Nat} {p q s t u v : Int} (hp : Z 0 p1 p2 p q 1024) (hq : Z 0 q1 q2 s t 1024) (hr : Z 0 r1 r2 u v 1024) :
    (∀ w, Calls Try.prog 5 #[.complex .f64 p1 p2, .complex .f64 q1 q2, .complex .f64 r1 r2] w fun e w' => e = .returned (.tuple #[fcirc 0 0 0 0, .int .i64 5]) ∧ w.grownBy w' none) ∨
    ∃ A B1 B2 C, (∀ w, Calls Try.prog 5 #[.complex .f64 p1 p2, .complex .f64 q1 q2, .complex .f64 r1 r2] w fun e w' => e = .returned (.tuple #[fcirc A B1 B2 C, .int .i64 0]) ∧ w.grownBy w' none) ∧ Circ p q (s - p) (t - q) (u - p) (v - q) A B1 B2 C := by
  obtain ⟨A, B1, B2, C, hc, hC⟩ := circle_e hp hq hr
  have hf := finite3_op (finite_e hp (by decide)) (finite_e hq (by decide)) (finite_e hr (by decide))
  have h := through_op hf hc rfl rfl rfl
  by_cases k : (FloatKind.f64.format.order A 0 == some .eq && (FloatKind.f64.format.order B1 0 == some .eq && FloatKind.f64.format.order B2 0 == some .eq)) = true
  · left
    rw [if_pos k] at h
    exact h
  · right
    rw [if_neg k] at h
    exact ⟨A, B1, B2, C, h, hC⟩
end Go.Proofs.Ytlpdmbidjjaeoab
