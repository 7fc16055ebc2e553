/-
  Image, by a map that does not turn.
-/
import Derived.Test.YtlpdmbidjjaeoabFcg
namespace Go.Proofs.Ytlpdmbidjjaeoab
open Go.RowKit Go.Lib Go.Sort Ieee
attribute [local go_sem] run_store_float run_store_complex
set_option linter.unusedVariables false

abbrev fmap (a1 a2 b1 b2 c1 c2 d1 d2 : Nat) : Value := .agg #[.complex .f64 a1 a2, .complex .f64 b1 b2, .complex .f64 c1 c2, .complex .f64 d1 d2, .bool false]
/-- What Image stands on: the map, the circle, the answer's block, B. -/
def ImI (V : World) (N : Nat) (s1 s2 k1 k2 l1 l2 p1 p2 A b1 b2 C : Nat) : Prop :=
  (V.cell? ⟨N, 0, none⟩ = some (.complex .f64 s1 s2) ∧ V.cell? ⟨N, 1, none⟩ = some (.complex .f64 k1 k2) ∧ V.cell? ⟨N, 2, none⟩ = some (.complex .f64 l1 l2) ∧ V.cell? ⟨N, 3, none⟩ = some (.complex .f64 p1 p2) ∧ V.cell? ⟨N, 4, none⟩ = some (.bool false)) ∧
  (V.cell? ⟨N + 1, 0, none⟩ = some (.float .f64 A) ∧ V.cell? ⟨N + 1, 1, none⟩ = some (.complex .f64 b1 b2) ∧ V.cell? ⟨N + 1, 2, none⟩ = some (.float .f64 C)) ∧
  V.cell? ⟨N + 1 + 1 + 1, 0, none⟩ = some (.complex .f64 b1 b2) ∧ FBlk V (N + 1 + 1) (.float .f64 0) (.complex .f64 0 0) (.float .f64 0)

theorem blk_kept {w w' : World} {B : Nat} {o : Obj} (h : w.heap[B]? = some o) (g : w.grownBy w' none) : w'.heap[B]? = some o :=
  (g.block B (Array.getElem?_eq_some_iff.1 h).1 (by simp)).trans h
theorem cells_at {w : World} {B i : Nat} {cs : Array Value} {t : TypeId} {v : Value} (h : w.heap[B]? = some (.cells cs t (0, 0))) (hi : cs[i]? = some v) : w.cell? ⟨B, i, none⟩ = some v := by
  simp [World.cell?, h, hi]
abbrev imW (w : World) (s1 s2 k1 k2 l1 l2 p1 p2 A b1 b2 C : Nat) : World :=
  (((w.alloc (.cells #[.complex .f64 s1 s2, .complex .f64 k1 k2, .complex .f64 l1 l2, .complex .f64 p1 p2, .bool false] 36)).alloc (fObj A b1 b2 C)).alloc (fObj 0 0 0 0)).alloc (.cells #[.complex .f64 b1 b2] 24)
theorem ImI.first (w : World) (s1 s2 k1 k2 l1 l2 p1 p2 A b1 b2 C : Nat) : ImI (imW w s1 s2 k1 k2 l1 l2 p1 p2 A b1 b2 C) w.heap.size s1 s2 k1 k2 l1 l2 p1 p2 A b1 b2 C := by
  have a0 := heap_alloc_new w (.cells #[.complex .f64 s1 s2, .complex .f64 k1 k2, .complex .f64 l1 l2, .complex .f64 p1 p2, .bool false] 36)
  have a1 := heap_alloc2_new w (.cells #[.complex .f64 s1 s2, .complex .f64 k1 k2, .complex .f64 l1 l2, .complex .f64 p1 p2, .bool false] 36) (fObj A b1 b2 C)
  have a2 := heap_alloc2_new (w.alloc (.cells #[.complex .f64 s1 s2, .complex .f64 k1 k2, .complex .f64 l1 l2, .complex .f64 p1 p2, .bool false] 36)) (fObj A b1 b2 C) (fObj 0 0 0 0)
  have a3 := heap_alloc2_new ((w.alloc (.cells #[.complex .f64 s1 s2, .complex .f64 k1 k2, .complex .f64 l1 l2, .complex .f64 p1 p2, .bool false] 36)).alloc (fObj A b1 b2 C)) (fObj 0 0 0 0) (.cells #[.complex .f64 b1 b2] 24)
  have hsz : ∀ (w : World) (o : Obj), (w.alloc o).heap.size = w.heap.size + 1 := fun w o => by rw [show (w.alloc o).heap = w.heap.push o from rfl, Array.size_push]
  rw [hsz] at a2
  rw [hsz, hsz] at a3
  have b0 := blk_kept a0 (grownBy_trans (grow1 _ _) (grownBy_trans (grow1 _ _) (grow1 _ _)) : (w.alloc _).grownBy (imW w s1 s2 k1 k2 l1 l2 p1 p2 A b1 b2 C) none)
  have b1' := blk_kept a1 (grownBy_trans (grow1 _ _) (grow1 _ _) : ((w.alloc _).alloc _).grownBy (imW w s1 s2 k1 k2 l1 l2 p1 p2 A b1 b2 C) none)
  have b2' := blk_kept a2 (grow1 _ _ : (((w.alloc _).alloc _).alloc _).grownBy (imW w s1 s2 k1 k2 l1 l2 p1 p2 A b1 b2 C) none)
  exact ⟨⟨cells_at b0 rfl, cells_at b0 rfl, cells_at b0 rfl, cells_at b0 rfl, cells_at b0 rfl⟩, ⟨cells_at b1' rfl, cells_at b1' rfl, cells_at b1' rfl⟩, cells_at a3 rfl, b2'⟩
theorem grownBy_cell {a b : World} {g o : Nat} {v : Value} (h : a.grownBy b none) (hc : a.cell? ⟨g, o, none⟩ = some v) : b.cell? ⟨g, o, none⟩ = some v := by
  have hlt : g < a.heap.size := by
    rcases Nat.lt_or_ge g a.heap.size with hlt | hge
    · exact hlt
    · exfalso
      have : a.heap[g]? = Option.none := Array.getElem?_eq_none hge
      simp [World.cell?, this] at hc
  rw [← hc]
  exact World.cell?_of_block (h.block g hlt (by simp))
theorem ImI.kept {V W : World} {N s1 s2 k1 k2 l1 l2 p1 p2 A b1 b2 C : Nat} (h : ImI V N s1 s2 k1 k2 l1 l2 p1 p2 A b1 b2 C) (g : V.grownBy W none) : ImI W N s1 s2 k1 k2 l1 l2 p1 p2 A b1 b2 C := by
  obtain ⟨⟨a0, a1, a2, a3, a4⟩, ⟨c0, c1, c2⟩, d, f⟩ := h
  exact ⟨⟨grownBy_cell g a0, grownBy_cell g a1, grownBy_cell g a2, grownBy_cell g a3, grownBy_cell g a4⟩, ⟨grownBy_cell g c0, grownBy_cell g c1, grownBy_cell g c2⟩, grownBy_cell g d, f.kept g (by simp)⟩
theorem ImI.drew {V : World} {N s1 s2 k1 k2 l1 l2 p1 p2 A b1 b2 C : Nat} (h : ImI V N s1 s2 k1 k2 l1 l2 p1 p2 A b1 b2 C) : ImI V.drew N s1 s2 k1 k2 l1 l2 p1 p2 A b1 b2 C := h

set_option maxHeartbeats 3200000 in
set_option maxRecDepth 1000000 in
theorem image_op {s1 s2 k1 k2 l1 l2 p1 p2 q1 q2 r1 r2 A b1 b2 C m1 m2 c1 c2 o1 o2 a1 a2 t1 t2 n1 n2 d1 d2 e1 e2 i1 i2 X Y : Nat}
    (hq2 : q2 < 2 ^ 64) (hb2 : b2 < 2 ^ 64) (hs2 : s2 < 2 ^ 64)
    (h1 : Gives 19 #[.complex .f64 k1 k2] (.complex .f64 q1 q2)) (h2 : Gives 19 #[.complex .f64 l1 l2] (.complex .f64 r1 r2))
    (h3 : Gives 17 #[.complex .f64 p1 p2, .complex .f64 q1 (flip q2)] (.complex .f64 m1 m2)) (h4 : Gives 23 #[.complex .f64 m1 m2, .float .f64 A] (.complex .f64 c1 c2))
    (h5 : Gives 21 #[.complex .f64 b1 b2, .complex .f64 p1 p2, .complex .f64 s1 s2] (.complex .f64 o1 o2)) (h6 : Gives 22 #[.complex .f64 c1 c2, .complex .f64 o1 o2] (.complex .f64 a1 a2))
    (h7 : Gives 21 #[.complex .f64 b1 (flip b2), .complex .f64 r1 r2, .complex .f64 q1 q2] (.complex .f64 t1 t2))
    (h8 : Gives 17 #[.complex .f64 r1 r2, .complex .f64 s1 (flip s2)] (.complex .f64 n1 n2)) (h9 : Gives 23 #[.complex .f64 n1 n2, .float .f64 C] (.complex .f64 d1 d2))
    (h10 : Gives 22 #[.complex .f64 t1 t2, .complex .f64 d1 d2] (.complex .f64 e1 e2)) (h11 : Gives 22 #[.complex .f64 a1 a2, .complex .f64 e1 e2] (.complex .f64 i1 i2))
    (h12 : ∀ (w : World) (Bf Bb : Nat), w.cell? ⟨Bf, 0, none⟩ = some (.float .f64 A) → w.cell? ⟨Bf, 2, none⟩ = some (.float .f64 C) → w.cell? ⟨Bb, 0, none⟩ = some (.complex .f64 b1 b2) → Calls Try.prog 20 #[.complex .f64 p1 p2, .complex .f64 r1 r2, .pointer (some ⟨Bf, 0, none⟩), .pointer (some ⟨Bb, 0, none⟩)] w fun e w' => e = .returned (.float .f64 X) ∧ w.grownBy w' none)
    (h13 : ∀ (w : World) (Bf Bb : Nat), w.cell? ⟨Bf, 0, none⟩ = some (.float .f64 A) → w.cell? ⟨Bf, 2, none⟩ = some (.float .f64 C) → w.cell? ⟨Bb, 0, none⟩ = some (.complex .f64 b1 b2) → Calls Try.prog 20 #[.complex .f64 q1 q2, .complex .f64 s1 s2, .pointer (some ⟨Bf, 0, none⟩), .pointer (some ⟨Bb, 0, none⟩)] w fun e w' => e = .returned (.float .f64 Y) ∧ w.grownBy w' none) (w : World) :
    Calls Try.prog 8 #[fmap s1 s2 k1 k2 l1 l2 p1 p2, fcirc A b1 b2 C] w fun e w' => e = .returned (fcirc X i1 i2 Y) ∧ w.grownBy w' none := by
  have H12 : Hid (∀ (w : World) (Bf Bb : Nat), w.cell? ⟨Bf, 0, none⟩ = some (.float .f64 A) → w.cell? ⟨Bf, 2, none⟩ = some (.float .f64 C) → w.cell? ⟨Bb, 0, none⟩ = some (.complex .f64 b1 b2) → Calls Try.prog 20 #[.complex .f64 p1 p2, .complex .f64 r1 r2, .pointer (some ⟨Bf, 0, none⟩), .pointer (some ⟨Bb, 0, none⟩)] w fun e w' => e = .returned (.float .f64 X) ∧ w.grownBy w' none) := h12
  have H13 : Hid (∀ (w : World) (Bf Bb : Nat), w.cell? ⟨Bf, 0, none⟩ = some (.float .f64 A) → w.cell? ⟨Bf, 2, none⟩ = some (.float .f64 C) → w.cell? ⟨Bb, 0, none⟩ = some (.complex .f64 b1 b2) → Calls Try.prog 20 #[.complex .f64 q1 q2, .complex .f64 s1 s2, .pointer (some ⟨Bf, 0, none⟩), .pointer (some ⟨Bb, 0, none⟩)] w fun e w' => e = .returned (.float .f64 Y) ∧ w.grownBy w' none) := h13
  clear h12 h13
  go_enter Try.func8, Try.ntmps8
  go_upto_region 2 with fail
  have HI : Hid (ImI (imW w s1 s2 k1 k2 l1 l2 p1 p2 A b1 b2 C) w.heap.size s1 s2 k1 k2 l1 l2 p1 p2 A b1 b2 C) := ImI.first w s1 s2 k1 k2 l1 l2 p1 p2 A b1 b2 C
  have HG : Hid (w.grownBy (imW w s1 s2 k1 k2 l1 l2 p1 p2 A b1 b2 C) none) := grownBy_trans (grow2 _ _ _) (grow2 _ _ _)
  simp only [imW] at HI HG
  generalize (((w.alloc (.cells #[.complex .f64 s1 s2, .complex .f64 k1 k2, .complex .f64 l1 l2, .complex .f64 p1 p2, .bool false] 36)).alloc (.cells #[.float .f64 A, .complex .f64 b1 b2, .float .f64 C] 28)).alloc (.cells #[.float .f64 0, .complex .f64 0 0, .float .f64 0] 28)).alloc (.cells #[.complex .f64 b1 b2] 24) = V at *
  obtain ⟨⟨x0, x1, x2, x3, x4⟩, -⟩ := HI.out
  go_wp2_with fail
  go_region_held3 (fun w' => w'.cell? ⟨w.heap.size, 0, none⟩ = some (Value.complex .f64 s1 s2) ∧ w'.cell? ⟨w.heap.size, 1, none⟩ = some (Value.complex .f64 k1 k2) ∧ w'.cell? ⟨w.heap.size, 2, none⟩ = some (Value.complex .f64 l1 l2) ∧ w'.cell? ⟨w.heap.size, 3, none⟩ = some (Value.complex .f64 p1 p2))
    (first | (go_keep; done) | fail)
    (first
      | (go_at_call_of 19 k1; refine (h1 _).mono ?_; rintro e w' ⟨rfl, rfl⟩)
      | (go_at_call_of 19 l1; refine (h2 _).mono ?_; rintro e w' ⟨rfl, rfl⟩)
      | fail)
  have HI2 : Hid (ImI V.drew w.heap.size s1 s2 k1 k2 l1 l2 p1 p2 A b1 b2 C) := HI.out.drew
  have HG2 : Hid (w.grownBy V.drew none) := grow_drew HG.out
  clear x0 x1 x2 x3 x4 HI HG h1 h2
  generalize V.drew = U at *
  go_wp2_with fail
  obtain ⟨-, ⟨x0, x1, x2⟩, x3, -⟩ := HI2.out
  go_region_held3 (fun w' => w'.cell? ⟨w.heap.size + 1, 0, none⟩ = some (Value.float .f64 A) ∧ w'.cell? ⟨w.heap.size + 1, 2, none⟩ = some (Value.float .f64 C) ∧ w'.cell? ⟨w.heap.size + 1 + 1 + 1, 0, none⟩ = some (Value.complex .f64 b1 b2))
    (first | (go_keep; done) | fail)
    (first
      | (go_at_call_of 18 q1; refine (conj_any q1 q2 hq2 _).mono ?_; rintro e w' ⟨rfl, rfl⟩)
      | (go_at_call_of 17 p1; refine (h3 _).mono ?_; rintro e w' ⟨rfl, rfl⟩)
      | (go_at_call_of 23 m1; refine (h4 _).mono ?_; rintro e w' ⟨rfl, rfl⟩)
      | (go_at_call_of 21 p1; refine (h5 _).mono ?_; rintro e w' ⟨rfl, rfl⟩)
      | (go_at_call_of 22 c1; refine (h6 _).mono ?_; rintro e w' ⟨rfl, rfl⟩)
      | (go_at_call_of 18 b1; refine (conj_any b1 b2 hb2 _).mono ?_; rintro e w' ⟨rfl, rfl⟩)
      | (go_at_call_of 21 q1; refine (h7 _).mono ?_; rintro e w' ⟨rfl, rfl⟩)
      | (go_at_call_of 18 s1; refine (conj_any s1 s2 hs2 _).mono ?_; rintro e w' ⟨rfl, rfl⟩)
      | (go_at_call_of 17 r1; refine (h8 _).mono ?_; rintro e w' ⟨rfl, rfl⟩)
      | (go_at_call_of 23 n1; refine (h9 _).mono ?_; rintro e w' ⟨rfl, rfl⟩)
      | (go_at_call_of 22 t1; refine (h10 _).mono ?_; rintro e w' ⟨rfl, rfl⟩)
      | (go_at_call_of 22 a1; refine (h11 _).mono ?_; rintro e w' ⟨rfl, rfl⟩)
      | fail)
  have HI3 : Hid (ImI U.drew w.heap.size s1 s2 k1 k2 l1 l2 p1 p2 A b1 b2 C) := HI2.out.drew
  have HG3 : Hid (w.grownBy U.drew none) := grow_drew HG2.out
  clear x0 x1 x2 x3 HI2 HG2 h3 h4 h5 h6 h7 h8 h9 h10 h11
  generalize U.drew = T at *
  go_wp2_with fail
  refine (H12.out T _ _ HI3.out.2.1.1 HI3.out.2.1.2.2 HI3.out.2.2.1).mono ?_
  rintro e T1 ⟨rfl, g1⟩
  have HI4 : Hid (ImI T1 w.heap.size s1 s2 k1 k2 l1 l2 p1 p2 A b1 b2 C) := HI3.out.kept g1
  have HG4 : Hid (w.grownBy T1 none) := grownBy_trans HG3.out g1
  clear g1 HI3 HG3 H12
  go_wp2_with fail
  refine (H13.out T1 _ _ HI4.out.2.1.1 HI4.out.2.1.2.2 HI4.out.2.2.1).mono ?_
  rintro e T2 ⟨rfl, g1⟩
  have HF : Hid (FBlk T2 (w.heap.size + 1 + 1) (.float .f64 0) (.complex .f64 0 0) (.float .f64 0)) := (HI4.out.kept g1).2.2.2
  have HG5 : Hid (w.grownBy T2 none) := grownBy_trans HG4.out g1
  clear g1 HI4 HG4 H13
  have f0 := HF.out.c0
  have f1 := HF.out.c1
  have f2 := HF.out.c2
  have g0 := HF.out.fr 0
  have g1 := HF.out.fr 1
  have g2 := HF.out.fr 2
  go_wp2_with fail
  exact bodyPost_ret (res_cellF rfl _ _ (w.heap.size + 1 + 1) _ _ _ _ _ rfl (HF.out.put _ _ _)) rfl ⟨rfl, grown_put3 HG5.out (by omega)⟩
end Go.Proofs.Ytlpdmbidjjaeoab
