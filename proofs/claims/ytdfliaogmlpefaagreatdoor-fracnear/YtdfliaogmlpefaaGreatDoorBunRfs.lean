/-
  frac's steps: what the next step leaves.
  A range over a function whose rounds are counted, where the iterator has blocks of its own: the body tells which one block it may write.
  frac's Quotients: all that it hands over.
-/
import Derived.Test.YtdfliaogmlpefaaGreatDoorBunRfo
import Derived.Test.YtdfliaogmlpefaaGreatDoorEul
import Derived.Test.YtdfliaogmlpefaaGreatDoorBunOnh
import Derived.TacticsInMore
import Derived.LoopNIn
import Derived.LoopIn
import Derived.OwnWalkIn
import Derived.RangeFuncNested
import Derived.RangeFuncBound
import Derived.RangeFuncCalls
import Derived.RangeFuncLeaves
import Derived.RangeFuncFrom
import Derived.RangeFuncBox
namespace Go.Proofs.YtdfliaogmlpefaaGreatDoor
open Go.RowKit Go.Lib Go.Sort
set_option linter.unusedVariables false
set_option maxHeartbeats 3200000
set_option maxRecDepth 1000000
structure But2 (W w' : World) (P Q : Nat) : Prop where
  os : w'.os = W.os
  tape : w'.tape = W.tape
  output : w'.output = W.output
  size : W.heap.size ≤ w'.heap.size
  block : ∀ i, i < W.heap.size → i ≠ P → i ≠ Q → w'.heap[i]? = W.heap[i]?
theorem But2.refl (W : World) (P Q : Nat) : But2 W W P Q := ⟨rfl, rfl, rfl, Nat.le_refl _, fun _ _ _ _ => rfl⟩
theorem But2.grow {W w1 w2 : World} {P Q : Nat} (h : But2 W w1 P Q) (g : w1.grownBy w2 none) : But2 W w2 P Q :=
  ⟨g.os.trans h.os, g.tape.trans h.tape, g.output.trans h.output, Nat.le_trans h.size g.size, fun i hi h1 h2 => (g.block i (Nat.lt_of_lt_of_le hi h.size) (by simp)).trans (h.block i hi h1 h2)⟩
theorem But2.set {W w1 : World} {P Q B j : Nat} {v : Value} (h : But2 W w1 P Q) (hB : B = P ∨ B = Q ∨ W.heap.size ≤ B) : But2 W (w1.setCell ⟨B, j, none⟩ v) P Q := by
  have g := grownBy_setCell w1 B j v
  refine ⟨g.os.trans h.os, g.tape.trans h.tape, g.output.trans h.output, Nat.le_trans h.size g.size, fun i hi h1 h2 => (g.block i (Nat.lt_of_lt_of_le hi h.size) ?_).trans (h.block i hi h1 h2)⟩
  intro e
  injection e with e
  omega
def StepX (W : World) (P Q : Nat) (d : Bool) (t : ByteArray) (q1 : Bool) (q2 : ByteArray) (r1 : Bool) (r2 : ByteArray) (b : Bool) (e : Ending) (w' : World) : Prop :=
  e = .returned (.tuple #[whole q1 q2, .bool b]) ∧ WBlk w' P (.bool d) (.string t) ∧ WBlk w' Q (.bool r1) (.string r2) ∧ But2 W w' P Q
theorem steps1_x (W : World) (P Q : Nat) (n d q1 r1 : Bool) (s t q2 r2 : ByteArray)
    (HD : Hid (∀ w, Calls Tryz.prog 55 #[whole n s, whole d t] w fun e w' => e = .returned (.tuple #[whole q1 q2, whole r1 r2, .int .i64 0]) ∧ w.grownBy w' none))
    (hP : WBlk W P (.bool n) (.string s)) (hQ : WBlk W Q (.bool d) (.string t)) (ne : P ≠ Q) (b : Bool) (hz : (r1 = false ∧ r2 = eS ∧ b = true) ∨ ((r2.toList == []) = false ∧ b = false)) :
    Calls Tryz.prog 124 #[.pointer (some ⟨P, 0, none⟩), .pointer (some ⟨Q, 0, none⟩)] W (StepX W P Q d t q1 q2 r1 r2 b) := by
  rcases hz with ⟨rfl, rfl, rfl⟩ | ⟨hz, rfl⟩
  · have p0 := hP.c0
    have p1 := hP.c1
    have pl := hP.lt
    have o0 := hQ.c0
    have o1 := hQ.c1
    have ol := hQ.lt
    have HP : Hid (WBlk W P (.bool n) (.string s)) := hP
    have HQ : Hid (WBlk W Q (.bool d) (.string t)) := hQ
    have HG : Hid (But2 W W P Q) := But2.refl _ _ _
    have NE : Hid (P ≠ Q ∧ P < W.heap.size ∧ Q < W.heap.size) := ⟨ne, pl, ol⟩
    clear hP hQ ne
    go_enter Tryz.func124, Tryz.ntmps124
    go_wp2_with fail
    refine (HD.out _).mono ?_
    rintro e w1 ⟨rfl, g1⟩
    clear p0 p1 pl o0 o1 ol
    have g2 : W.grownBy ((w1.alloc (wObj q1 q2)).alloc (wObj false eS)) none := grownBy_trans (grownBy_trans (grow1 _ _) g1) (grow2 _ _ _)
    have P2 : Hid (WBlk ((w1.alloc (wObj q1 q2)).alloc (wObj false eS)) P (.bool n) (.string s)) := HP.out.kept g2 (by simp)
    have Q2 : Hid (WBlk ((w1.alloc (wObj q1 q2)).alloc (wObj false eS)) Q (.bool d) (.string t)) := HQ.out.kept g2 (by simp)
    have R2 : Hid (WBlk ((w1.alloc (wObj q1 q2)).alloc (wObj false eS)) W.heap.size (.bool false) (.string eS)) := old_alloc _ _ (old_alloc _ _ (WBlk.kept (heap_alloc_new _ _) g1 (by simp)))
    have A2 : Hid (WBlk ((w1.alloc (wObj q1 q2)).alloc (wObj false eS)) w1.heap.size (.bool q1) (.string q2)) := at_alloc1 _ _ _
    have B2 : Hid (WBlk ((w1.alloc (wObj q1 q2)).alloc (wObj false eS)) (w1.heap.size + 1) (.bool false) (.string eS)) := heap_alloc2_new _ _ _
    have G2 : Hid (But2 W ((w1.alloc (wObj q1 q2)).alloc (wObj false eS)) P Q) := HG.out.grow g2
    have N1 : Hid (W.heap.size < w1.heap.size) := (by have := g1.size; simp at this; omega : W.heap.size < w1.heap.size)
    clear g1 g2 HP HQ HG
    go_upto_region 2 with fail
    generalize (w1.alloc (wObj q1 q2)).alloc (wObj false eS) = V at *
    have o0 := Q2.out.c0
    have o1 := Q2.out.c1
    have o2 := Q2.out.fr 0
    have o3 := Q2.out.fr 1
    have p0 := P2.out.c0
    have p1 := P2.out.c1
    have p2 := P2.out.fr 0
    have p3 := P2.out.fr 1
    have b0 := B2.out.c0
    have b1 := B2.out.c1
    have e1 := NE.out.1
    have e2 : ¬ Q = P := fun e => e1 e.symm
    have e3 : ¬ P = w1.heap.size + 1 := by have := N1.out; have := NE.out.2.1; omega
    have e4 : ¬ w1.heap.size + 1 = P := by omega
    go_region_with (first | fail)
    all_goals (
      have n1 := N1.out
      have n2 := NE.out
      have A3 : Hid (WBlk ((((V.setCell ⟨P, 0, none⟩ (.bool d)).setCell ⟨P, 1, none⟩ (.string t)).setCell ⟨Q, 0, none⟩ (.bool false)).setCell ⟨Q, 1, none⟩ (.string eS)).drew w1.heap.size (.bool q1) (.string q2)) := wdrw ((((A2.out.other (by omega)).other (by omega)).other (by omega)).other (by omega))
      have B3 : Hid (WBlk ((((V.setCell ⟨P, 0, none⟩ (.bool d)).setCell ⟨P, 1, none⟩ (.string t)).setCell ⟨Q, 0, none⟩ (.bool false)).setCell ⟨Q, 1, none⟩ (.string eS)).drew (w1.heap.size + 1) (.bool false) (.string eS)) := wdrw ((((B2.out.other (by omega)).other (by omega)).other (by omega)).other (by omega))
      have R3 : Hid (WBlk ((((V.setCell ⟨P, 0, none⟩ (.bool d)).setCell ⟨P, 1, none⟩ (.string t)).setCell ⟨Q, 0, none⟩ (.bool false)).setCell ⟨Q, 1, none⟩ (.string eS)).drew W.heap.size (.bool false) (.string eS)) := wdrw ((((R2.out.other (by omega)).other (by omega)).other (by omega)).other (by omega))
      have G3 : Hid (But2 W ((((V.setCell ⟨P, 0, none⟩ (.bool d)).setCell ⟨P, 1, none⟩ (.string t)).setCell ⟨Q, 0, none⟩ (.bool false)).setCell ⟨Q, 1, none⟩ (.string eS)).drew P Q) := ((((G2.out.set (.inl rfl)).set (.inl rfl)).set (.inr (.inl rfl))).set (.inr (.inl rfl))).grow (grow_drew (World.grownBy.refl _ _))
      have P3 : Hid (WBlk ((((V.setCell ⟨P, 0, none⟩ (.bool d)).setCell ⟨P, 1, none⟩ (.string t)).setCell ⟨Q, 0, none⟩ (.bool false)).setCell ⟨Q, 1, none⟩ (.string eS)).drew P (.bool d) (.string t)) := wdrw (((P2.out.put _ _).other (by omega)).other (by omega))
      have Q3 : Hid (WBlk ((((V.setCell ⟨P, 0, none⟩ (.bool d)).setCell ⟨P, 1, none⟩ (.string t)).setCell ⟨Q, 0, none⟩ (.bool false)).setCell ⟨Q, 1, none⟩ (.string eS)).drew Q (.bool false) (.string eS)) := wdrw (((Q2.out.other (by omega)).other (by omega)).put _ _)
      clear o0 o1 o2 o3 p0 p1 p2 p3 b0 b1 e1 e2 e3 e4 P2 Q2 R2 A2 B2 G2 n1 n2
      generalize ((((V.setCell ⟨P, 0, none⟩ (.bool d)).setCell ⟨P, 1, none⟩ (.string t)).setCell ⟨Q, 0, none⟩ (.bool false)).setCell ⟨Q, 1, none⟩ (.string eS)).drew = U at *
      have HZ : Hid (∀ w', U.grownBy w' none → w'.cell? ⟨w1.heap.size, 0, none⟩ = some (.bool q1) ∧ w'.cell? ⟨w1.heap.size, 1, none⟩ = some (.string q2) ∧ w'.cell? ⟨w1.heap.size + 1, 0, none⟩ = some (.bool false) ∧ w'.cell? ⟨w1.heap.size + 1, 1, none⟩ = some (.string eS)) := fun w' g => ⟨(A3.out.kept g (by simp)).c0, (A3.out.kept g (by simp)).c1, (B3.out.kept g (by simp)).c0, (B3.out.kept g (by simp)).c1⟩
      have NF : Hid (W.heap.size ≠ P ∧ W.heap.size ≠ Q) := ⟨by have := NE.out.2.1; omega, by have := NE.out.2.2; omega⟩
      have N3 : Hid (W.heap.size ≠ w1.heap.size ∧ W.heap.size ≠ w1.heap.size + 1) := ⟨by have := N1.out; omega, by have := N1.out; omega⟩
      go_wp2_with fail
      go_region_held3 (fun w' => w'.cell? ⟨w1.heap.size, 0, none⟩ = some (.bool q1) ∧ w'.cell? ⟨w1.heap.size, 1, none⟩ = some (.string q2) ∧ w'.cell? ⟨w1.heap.size + 1, 0, none⟩ = some (.bool false) ∧ w'.cell? ⟨w1.heap.size + 1, 1, none⟩ = some (.string eS))
        (first | (go_keep; done) | with_reducible exact HZ.out _ (by assumption) | with_reducible exact HZ.out _ (grow_drew (World.grownBy.refl _ _)) | exact ⟨(((A3.out.kept GA (by simp)).other N3.out.1).other N3.out.1).c0, (((A3.out.kept GA (by simp)).other N3.out.1).other N3.out.1).c1, (((B3.out.kept GA (by simp)).other N3.out.2).other N3.out.2).c0, (((B3.out.kept GA (by simp)).other N3.out.2).other N3.out.2).c1⟩ | fail)
        (first
          | (go_at_call 51; refine (fzero_gr _).mono ?_; rintro e wA ⟨rfl, gA⟩; have GA : U.grownBy wA none := (by first | exact gA | exact grownBy_undrew gA); clear gA; have hR := R3.out.kept GA (by simp); have k0 := hR.c0; have k1 := hR.c1; have k2 := hR.fr 0; have k3 := hR.fr 1)
          | fail)
      all_goals (
        go_wp2_with fail
        refine bodyPost_ret (res_cell_tmp rfl _ _ W.heap.size _ _ _ _ rfl (hR.put _ _)) rfl ?_
        exact ⟨rfl, ((P3.out.kept GA (by simp)).other NF.out.1).other NF.out.1, ((Q3.out.kept GA (by simp)).other NF.out.2).other NF.out.2, ((G3.out.grow GA).set (.inr (.inr (Nat.le_refl _)))).set (.inr (.inr (Nat.le_refl _)))⟩))
  · have p0 := hP.c0
    have p1 := hP.c1
    have pl := hP.lt
    have o0 := hQ.c0
    have o1 := hQ.c1
    have ol := hQ.lt
    have HP : Hid (WBlk W P (.bool n) (.string s)) := hP
    have HQ : Hid (WBlk W Q (.bool d) (.string t)) := hQ
    have HG : Hid (But2 W W P Q) := But2.refl _ _ _
    have NE : Hid (P ≠ Q ∧ P < W.heap.size ∧ Q < W.heap.size) := ⟨ne, pl, ol⟩
    clear hP hQ ne
    go_enter Tryz.func124, Tryz.ntmps124
    go_wp2_with fail
    refine (HD.out _).mono ?_
    rintro e w1 ⟨rfl, g1⟩
    clear p0 p1 pl o0 o1 ol
    have g2 : W.grownBy ((w1.alloc (wObj q1 q2)).alloc (wObj r1 r2)) none := grownBy_trans (grownBy_trans (grow1 _ _) g1) (grow2 _ _ _)
    have P2 : Hid (WBlk ((w1.alloc (wObj q1 q2)).alloc (wObj r1 r2)) P (.bool n) (.string s)) := HP.out.kept g2 (by simp)
    have Q2 : Hid (WBlk ((w1.alloc (wObj q1 q2)).alloc (wObj r1 r2)) Q (.bool d) (.string t)) := HQ.out.kept g2 (by simp)
    have R2 : Hid (WBlk ((w1.alloc (wObj q1 q2)).alloc (wObj r1 r2)) W.heap.size (.bool false) (.string eS)) := old_alloc _ _ (old_alloc _ _ (WBlk.kept (heap_alloc_new _ _) g1 (by simp)))
    have A2 : Hid (WBlk ((w1.alloc (wObj q1 q2)).alloc (wObj r1 r2)) w1.heap.size (.bool q1) (.string q2)) := at_alloc1 _ _ _
    have B2 : Hid (WBlk ((w1.alloc (wObj q1 q2)).alloc (wObj r1 r2)) (w1.heap.size + 1) (.bool r1) (.string r2)) := heap_alloc2_new _ _ _
    have G2 : Hid (But2 W ((w1.alloc (wObj q1 q2)).alloc (wObj r1 r2)) P Q) := HG.out.grow g2
    have N1 : Hid (W.heap.size < w1.heap.size) := (by have := g1.size; simp at this; omega : W.heap.size < w1.heap.size)
    clear g1 g2 HP HQ HG
    go_upto_region 2 with fail
    generalize (w1.alloc (wObj q1 q2)).alloc (wObj r1 r2) = V at *
    have o0 := Q2.out.c0
    have o1 := Q2.out.c1
    have o2 := Q2.out.fr 0
    have o3 := Q2.out.fr 1
    have p0 := P2.out.c0
    have p1 := P2.out.c1
    have p2 := P2.out.fr 0
    have p3 := P2.out.fr 1
    have b0 := B2.out.c0
    have b1 := B2.out.c1
    have e1 := NE.out.1
    have e2 : ¬ Q = P := fun e => e1 e.symm
    have e3 : ¬ P = w1.heap.size + 1 := by have := N1.out; have := NE.out.2.1; omega
    have e4 : ¬ w1.heap.size + 1 = P := by omega
    go_region_with (first | fail)
    all_goals (
      have n1 := N1.out
      have n2 := NE.out
      have A3 : Hid (WBlk ((((V.setCell ⟨P, 0, none⟩ (.bool d)).setCell ⟨P, 1, none⟩ (.string t)).setCell ⟨Q, 0, none⟩ (.bool r1)).setCell ⟨Q, 1, none⟩ (.string r2)).drew w1.heap.size (.bool q1) (.string q2)) := wdrw ((((A2.out.other (by omega)).other (by omega)).other (by omega)).other (by omega))
      have B3 : Hid (WBlk ((((V.setCell ⟨P, 0, none⟩ (.bool d)).setCell ⟨P, 1, none⟩ (.string t)).setCell ⟨Q, 0, none⟩ (.bool r1)).setCell ⟨Q, 1, none⟩ (.string r2)).drew (w1.heap.size + 1) (.bool r1) (.string r2)) := wdrw ((((B2.out.other (by omega)).other (by omega)).other (by omega)).other (by omega))
      have R3 : Hid (WBlk ((((V.setCell ⟨P, 0, none⟩ (.bool d)).setCell ⟨P, 1, none⟩ (.string t)).setCell ⟨Q, 0, none⟩ (.bool r1)).setCell ⟨Q, 1, none⟩ (.string r2)).drew W.heap.size (.bool false) (.string eS)) := wdrw ((((R2.out.other (by omega)).other (by omega)).other (by omega)).other (by omega))
      have G3 : Hid (But2 W ((((V.setCell ⟨P, 0, none⟩ (.bool d)).setCell ⟨P, 1, none⟩ (.string t)).setCell ⟨Q, 0, none⟩ (.bool r1)).setCell ⟨Q, 1, none⟩ (.string r2)).drew P Q) := ((((G2.out.set (.inl rfl)).set (.inl rfl)).set (.inr (.inl rfl))).set (.inr (.inl rfl))).grow (grow_drew (World.grownBy.refl _ _))
      have P3 : Hid (WBlk ((((V.setCell ⟨P, 0, none⟩ (.bool d)).setCell ⟨P, 1, none⟩ (.string t)).setCell ⟨Q, 0, none⟩ (.bool r1)).setCell ⟨Q, 1, none⟩ (.string r2)).drew P (.bool d) (.string t)) := wdrw (((P2.out.put _ _).other (by omega)).other (by omega))
      have Q3 : Hid (WBlk ((((V.setCell ⟨P, 0, none⟩ (.bool d)).setCell ⟨P, 1, none⟩ (.string t)).setCell ⟨Q, 0, none⟩ (.bool r1)).setCell ⟨Q, 1, none⟩ (.string r2)).drew Q (.bool r1) (.string r2)) := wdrw (((Q2.out.other (by omega)).other (by omega)).put _ _)
      clear o0 o1 o2 o3 p0 p1 p2 p3 b0 b1 e1 e2 e3 e4 P2 Q2 R2 A2 B2 G2 n1 n2
      generalize ((((V.setCell ⟨P, 0, none⟩ (.bool d)).setCell ⟨P, 1, none⟩ (.string t)).setCell ⟨Q, 0, none⟩ (.bool r1)).setCell ⟨Q, 1, none⟩ (.string r2)).drew = U at *
      have HZ : Hid (∀ w', U.grownBy w' none → w'.cell? ⟨w1.heap.size, 0, none⟩ = some (.bool q1) ∧ w'.cell? ⟨w1.heap.size, 1, none⟩ = some (.string q2) ∧ w'.cell? ⟨w1.heap.size + 1, 0, none⟩ = some (.bool r1) ∧ w'.cell? ⟨w1.heap.size + 1, 1, none⟩ = some (.string r2)) := fun w' g => ⟨(A3.out.kept g (by simp)).c0, (A3.out.kept g (by simp)).c1, (B3.out.kept g (by simp)).c0, (B3.out.kept g (by simp)).c1⟩
      have NF : Hid (W.heap.size ≠ P ∧ W.heap.size ≠ Q) := ⟨by have := NE.out.2.1; omega, by have := NE.out.2.2; omega⟩
      have N3 : Hid (W.heap.size ≠ w1.heap.size ∧ W.heap.size ≠ w1.heap.size + 1) := ⟨by have := N1.out; omega, by have := N1.out; omega⟩
      go_wp2_with fail
      go_region_held3 (fun w' => w'.cell? ⟨w1.heap.size, 0, none⟩ = some (.bool q1) ∧ w'.cell? ⟨w1.heap.size, 1, none⟩ = some (.string q2) ∧ w'.cell? ⟨w1.heap.size + 1, 0, none⟩ = some (.bool r1) ∧ w'.cell? ⟨w1.heap.size + 1, 1, none⟩ = some (.string r2))
        (first | (go_keep; done) | with_reducible exact HZ.out _ (by assumption) | with_reducible exact HZ.out _ (grow_drew (World.grownBy.refl _ _)) | exact ⟨(((A3.out.kept GA (by simp)).other N3.out.1).other N3.out.1).c0, (((A3.out.kept GA (by simp)).other N3.out.1).other N3.out.1).c1, (((B3.out.kept GA (by simp)).other N3.out.2).other N3.out.2).c0, (((B3.out.kept GA (by simp)).other N3.out.2).other N3.out.2).c1⟩ | fail)
        (first
          | (go_at_call 51; refine (fzero_gr _).mono ?_; rintro e wA ⟨rfl, gA⟩; have GA : U.grownBy wA none := (by first | exact gA | exact grownBy_undrew gA); clear gA; have hR := R3.out.kept GA (by simp); have k0 := hR.c0; have k1 := hR.c1; have k2 := hR.fr 0; have k3 := hR.fr 1)
          | fail)
      all_goals (
        go_wp2_with fail
        refine bodyPost_ret (res_cell_tmp rfl _ _ W.heap.size _ _ _ _ rfl (hR.put _ _)) rfl ?_
        exact ⟨rfl, ((P3.out.kept GA (by simp)).other NF.out.1).other NF.out.1, ((Q3.out.kept GA (by simp)).other NF.out.2).other NF.out.2, ((G3.out.grow GA).set (.inr (.inr (Nat.le_refl _)))).set (.inr (.inr (Nat.le_refl _)))⟩))
end Go.Proofs.YtdfliaogmlpefaaGreatDoor
namespace Go.Proofs.YtdfliaogmlpefaaGreatDoor
open Go.RowKit Go.Lib Go.Sort Go.Shelf
attribute [local go_sem] Oper.semAt_some
set_option maxHeartbeats 3200000
set_option maxRecDepth 1000000
def Above (B : Nat) (o : Option Nat) (W W' : World) : Prop := W.heap.size ≤ W'.heap.size ∧ ∀ i, B ≤ i → i < W.heap.size → some i ≠ o → W'.heap[i]? = W.heap[i]?
theorem Above.of {B : Nat} {o : Option Nat} {W W' : World} (h : W.grownBy W' o) : Above B o W W' := ⟨h.size, fun i _ hi hn => h.block i hi hn⟩
def HandsK (F : Fence) (n : Nat) (P : Program) (gf : Nat) (lb : Array Value) (encs : Nat → Array Value) (N B : Nat) (I : Nat × Option Nat → World → Prop) : Prop :=
  ∀ (l : Nat) (J : Nat → Option Nat → World → Prop), (∀ t o W, J t o W → I (t, o) W) → (∀ t o W W', J t o W → W.grownBy W' none → J t o W') →
    (∀ t o W W' r, J t o W → W.grownBy W' (some r) → B ≤ r → some r ≠ o → J t o W') →
    (∀ t o W, t < N → J t o W → YieldAt F (n - 1) P l (encs t) W fun e W' => e = .returned (.bool true) ∧ ∃ o', J (t + 1) o' W' ∧ Above B o W W' ∧ (o' = o ∨ ∃ g, o' = some g ∧ W.heap.size ≤ g)) →
    ∀ o W, B ≤ W.heap.size → (∀ r, o = some r → r < W.heap.size) → J 0 o W → CallsIn F n P gf (#[.func (.yield l) #[] #[]] ++ lb) W fun e W' => (∃ v, e = .returned v) ∧ ∃ o', J N o' W'
theorem hands_K {F : Fence} {n : Nat} {P : Program} {gf : Nat} {lb : Array Value} {encs : Nat → Array Value} {N B : Nat} {I : Nat × Option Nat → World → Prop} (h : Hands F n P gf lb encs N (fun t W => ∃ o, I (t, o) W)) : HandsK F n P gf lb encs N B I := by
  intro l J hJI _ _ hY o W _ _ hJ
  refine (h l (fun t W => ∃ o, J t o W) (fun t W ⟨o, hj⟩ => ⟨o, hJI t o W hj⟩) (fun t W ht ⟨o, hj⟩ => ?_) W ⟨o, hJ⟩).mono ?_
  · obtain ⟨fn, tmps, assign, body, hy, hR⟩ := hY t o W ht hj
    refine ⟨fn, tmps, assign, body, hy, hR.mono ?_⟩
    rintro e W' ⟨rfl, o', h1, _⟩
    exact ⟨rfl, o', h1⟩
  · rintro e W' ⟨hv, o', h1⟩
    exact ⟨hv, o', h1⟩
def roundToK (B : Nat) (I : Nat × Option Nat → World → Prop) (t : Nat) (o : Option Nat) (W : World) : Exit → Act → World → Prop
  | .normal, _, W' => KeepsOthers W W' ∧ ∃ o', I (t, o') W' ∧ Above B o W W' ∧ (o' = o ∨ ∃ g, o' = some g ∧ W.heap.size ≤ g)
  | _, _, _ => False
theorem wpIn_countedK {F : Fence} {n : Nat} {P : Program} {g : Operand} {ps : Array Tmp} {assign body : Code} {Q : Exit → Act → World → Prop} {a : Act} {w : World}
    (hro : F.round = none) (h1 : 1 ≤ n) {gf : Nat} {lb : Array Value} (hg : a.eval g = .func (.func gf) #[] lb) (hFg : F.fn gf) (eg : ∀ args w, (callFunc gf args).run P w = .ok (.enter gf args) w)
    (encs : Nat → Array Value) (N : Nat) (hps : ∀ t, (encs t).size = ps.size) (I : Nat × Option Nat → World → Prop) (hI : OwnFrom w.heap.size I) (o0 : Option Nat) (ho0 : o0 = none ∨ ∃ g, o0 = some g ∧ g < w.heap.size) (h0 : I (0, o0) w) (hit : HandsK F (n - 1) P gf lb encs N (w.heap.size + 2) I)
    (hIB : ∀ p W W' r, I p W → W.grownBy W' (some r) → w.heap.size ≤ r → some r ≠ p.2 → I p W')
    (A : Nat × Option Nat → Act × World → Prop) (hA : ∀ a1, OwnFrom w.heap.size (fun p W => A p (a1, W)))
    (hassign : ∀ (l t : Nat) (o : Option Nat) (W : World), t < N → I (t, o) W →
      assign.wpIn (F.inRound l) (n - 1 - 1) P (Exit.then (fun a' W' => A (t, o) (a', W') ∧ W.grownBy W' none) (fun _ _ _ => False)) { tmps := (ps.zip (encs t)).foldl (fun t (p, v) => t.setIfInBounds p v) a.tmps, defers := [] } W)
    (hbody : ∀ (l t : Nat) (o : Option Nat) (a' : Act) (W : World), t < N → A (t, o) (a', W) → body.wpIn (F.inRound l) (n - 1 - 1) P (roundToK (w.heap.size + 2) I (t + 1) o W) a' W)
    (hdone : ∀ (D : Nat) (o : Option Nat) (W : World), w.heap.size ≤ D → I (N, o) W → W.heap[D]? = some (.deferred (some [])) → Q .normal { a with defers := { target := .collected D, args := #[] } :: a.defers } W) :
    (Code.rangeFunc g ps assign body).wpIn F n P Q a w := by
  refine wpIn_rangeFunc fun fn hfn => ?_
  rw [hro]
  obtain ⟨r, hr⟩ : ∃ r : Loop, r = { state := .ready, pending := none, fn, tmps := a.tmps, params := ps, assign, body, defers := w.heap.size } := ⟨_, rfl⟩
  have hen : (Instr.enterLoop fn a.tmps ps assign body none).run P w = .ok (w.heap.size + 1, [{ target := .collected w.heap.size, args := #[] }]) ((w.alloc (.deferred (some []))).alloc (.loop r)) := by
    rw [hr]; exact run_enterLoop_outer _ _ _ _ _
  have rs : r.state = .ready := by rw [hr]
  have rp : r.pending = none := by rw [hr]
  have back : ({ { r with state := .busy } with state := .ready, pending := none } : Loop) = r := by rw [hr]
  have hyl : ∀ (W : World) (t : Nat), W.heap[w.heap.size + 1]? = some (.loop r) → (Instr.yield (w.heap.size + 1) (encs t)).run P W = .ok (.round (w.heap.size + 1) fn ((ps.zip (encs t)).foldl (fun t (p, v) => t.setIfInBounds p v) a.tmps) assign body) W := by
    intro W t hl
    have := run_yield (P := P) (args := encs t) hl (by rw [hr]; exact hps t)
    rw [hr] at this
    exact this
  clear hr
  have hl1 : ((w.alloc (.deferred (some []))).alloc (.loop r)).heap[w.heap.size + 1]? = some (.loop r) := by
    have := World.alloc_heap_new (w.alloc (.deferred (some []))) (.loop r)
    rwa [World.size_alloc] at this
  have hd1 : ((w.alloc (.deferred (some []))).alloc (.loop r)).heap[w.heap.size]? = some (.deferred (some [])) := (Below.heap_alloc _ _ _ (by simp)).trans (World.alloc_heap_new w _)
  have hi1 : I (0, o0) ((w.alloc (.deferred (some []))).alloc (.loop r)) := hI.alloc _ (hI.alloc _ h0)
  generalize hW1 : (w.alloc (.deferred (some []))).alloc (.loop r) = W1 at *
  refine ⟨w.heap.size + 1, [{ target := .collected w.heap.size, args := #[] }], W1, { target := .fn (.func gf) lb, args := #[.func (.yield (w.heap.size + 1)) #[] #[]] }, W1, gf, #[.func (.yield (w.heap.size + 1)) #[] #[]] ++ lb, W1, hen, ?_, ?_, ?_, fun _ => h1, ?_⟩
  · simp only [resolve, hg]
    simp [go_sem]
  · intro f' hf'
    simp [Target.leads] at hf'
    subst hf'
    exact hFg
  · simp [invoke, go_sem, eg]
  have blk : ∀ {W W' : World} {i : Nat} {o : Obj}, W.grownBy W' none → W.heap[i]? = some o → W'.heap[i]? = some o := fun {W W' i o} hg h => (hg.block i (Array.getElem?_eq_some_iff.1 h).1 (by simp)).trans h
  refine (hit (w.heap.size + 1) (fun t o W => I (t, o) W ∧ W.heap[w.heap.size + 1]? = some (.loop r) ∧ W.heap[w.heap.size]? = some (.deferred (some [])) ∧ o ≠ some (w.heap.size + 1) ∧ o ≠ some w.heap.size) (fun _ _ _ h => h.1) ?_ ?_ ?_ o0 _ (by rw [← hW1]; simp) (by
    intro r e
    rcases ho0 with h | ⟨g, h, hgg⟩
    · rw [h] at e; cases e
    · rw [h] at e; cases e; rw [← hW1]; simp; omega) ⟨hi1, hl1, hd1, ?_, ?_⟩).mono ?_
  · rintro t o W W' ⟨hi, hl, hd, ho⟩ hg
    exact ⟨hI _ _ _ none hi hg (fun r e => by cases e), blk hg hl, blk hg hd, ho⟩
  · rintro t o W W' r ⟨hi, hl, hd, ho⟩ hg hB hr
    refine ⟨hIB _ _ _ r hi hg (by omega) hr, ?_, ?_, ho⟩
    · exact (hg.block _ (Array.getElem?_eq_some_iff.1 hl).1 (by intro e; injection e with e; omega)).trans hl
    · exact (hg.block _ (Array.getElem?_eq_some_iff.1 hd).1 (by intro e; injection e with e; omega)).trans hd
  · rintro t o W ht ⟨hi, hl, hd, ho, hoD⟩
    refine ⟨_, _, _, _, hyl W t hl, roundIn_of_wpIn hfn (wpIn_mono (hassign _ t o W ht hi) ?_)⟩
    rintro e a2 W2 h2
    cases e with
    | normal =>
      obtain ⟨hA2, hg2⟩ := h2
      have hl2 := blk hg2 hl
      have hd2 := blk hg2 hd
      have hlt := (Array.getElem?_eq_some_iff.1 hl2).1
      refine ⟨_, run_beginRound hl2 rs, ?_⟩
      have hlb : (W2.putObj (w.heap.size + 1) (.loop { r with state := .busy })).heap[w.heap.size + 1]? = some (.loop { r with state := .busy }) := World.putObj_heap_same hlt
      have hdb : (W2.putObj (w.heap.size + 1) (.loop { r with state := .busy })).heap[w.heap.size]? = some (.deferred (some [])) := (World.putObj_heap_other (by omega)).trans hd2
      refine wpIn_mono (hbody _ t o a2 _ ht ((hA a2).putObj _ hA2 (by omega) hl2 rfl)) ?_
      rintro e a3 W3 hp
      cases e with
      | normal =>
        obtain ⟨hk, o', hi3, hg3, hfr⟩ := hp
        have hl3 := hk.same _ _ hlb rfl
        have hd3 := hk.same _ _ hdb rfl
        have hen3 := run_endRound (P := P) none hl3
        simp only [Option.isNone_none, if_true] at hen3
        rw [back] at hen3
        have kA := grownBy_putObj' W2 (w.heap.size + 1) (.loop { r with state := .busy })
        have kB := grownBy_putObj' W3 (w.heap.size + 1) (.loop r)
        have hsz : W.heap.size ≤ (W2.putObj (w.heap.size + 1) (.loop { r with state := .busy })).heap.size := Nat.le_trans hg2.size kA.size
        have hlp : w.heap.size + 1 < W.heap.size := (Array.getElem?_eq_some_iff.1 hl).1
        refine ⟨_, _, hen3, rfl, o', ⟨hI.putObj _ hi3 (by omega) hl3 rfl, World.putObj_heap_same (Array.getElem?_eq_some_iff.1 hl3).1, (World.putObj_heap_other (by omega)).trans hd3, ?_, ?_⟩, ?_, ?_⟩
        · rcases hfr with rfl | ⟨g, rfl, hgg⟩
          · exact ho
          · intro e; injection e with e; omega
        · rcases hfr with rfl | ⟨g, rfl, hgg⟩
          · exact hoD
          · intro e; injection e with e; omega
        · refine ⟨Nat.le_trans hsz (Nat.le_trans hg3.1 kB.size), fun i hB hi hn => ?_⟩
          have ne : some i ≠ some (w.heap.size + 1) := fun h => by injection h with h; omega
          rw [kB.block i (Nat.lt_of_lt_of_le hi (Nat.le_trans hsz hg3.1)) ne, hg3.2 i hB (Nat.lt_of_lt_of_le hi hsz) hn, kA.block i (Nat.lt_of_lt_of_le hi hg2.size) ne, hg2.block i hi (by simp)]
        · rcases hfr with rfl | ⟨g, rfl, hgg⟩
          · exact .inl rfl
          · exact .inr ⟨g, rfl, by omega⟩
      | ret => exact hp.elim
      | exit id => exact hp.elim
      | goto t => exact hp.elim
      | panic c => exact hp.elim
      | outgrown => exact hp.elim
    | ret => exact h2.elim
    | exit id => exact h2.elim
    | goto t => exact h2.elim
    | panic c => exact h2.elim
    | outgrown => exact h2.elim
  · rcases ho0 with rfl | ⟨g, rfl, hgg⟩
    · simp
    · intro e; injection e with e; omega
  · rcases ho0 with rfl | ⟨g, rfl, hgg⟩
    · simp
    · intro e; injection e with e; omega
  · rintro e W2 ⟨⟨v, rfl⟩, o', hi, hl, hd, _⟩
    have hend := run_endLoop (P := P) hl (by rw [rs]; simp)
    rw [rp] at hend
    exact ⟨none, _, hend, hdone _ o' _ (Nat.le_refl _) (hI.putObj _ hi (by omega) hl rfl) ((World.putObj_heap_other (by omega)).trans hd)⟩
end Go.Proofs.YtdfliaogmlpefaaGreatDoor
namespace Go.Proofs.YtdfliaogmlpefaaGreatDoor
open Go.RowKit Go.Lib Go.Sort Go.Shelf
set_option linter.unusedVariables false
attribute [local go_sem] Oper.semAt_some
set_option maxHeartbeats 3200000
set_option maxRecDepth 1000000
theorem eg_steps2 : ∀ args w, (callFunc 124 args).run Tryz.prog w = .ok (.enter 124 args) w := enters_of Tryz.func124 (by kernel_rfl) rfl
theorem isz_zero {n : Bool} {s : ByteArray} (h : IsZ 0 n s) : n = false ∧ s = eS := whole_inj (h.one (⟨rfl, by rw [show Int.natAbs 0 = 0 from rfl, magN_zero]; rfl⟩ : IsZ 0 false eS))
theorem rest_b {z : Int} {k : Nat} {n : Bool} {s : ByteArray} (hk : k ≤ 16384) (h : Sz k z n s) : (n = false ∧ s = eS ∧ decide (z = 0) = true) ∨ ((s.toList == []) = false ∧ decide (z = 0) = false) := by
  by_cases e : z = 0
  · subst e
    have := isz_zero h.1
    exact .inl ⟨this.1, this.2, by simp⟩
  · exact .inr ⟨nonempty_q (h.size0 hk e), by simp [e]⟩
theorem But2.cut {W w' : World} {P Q : Nat} (h : But2 W w' P Q) (hQ : Q < W.heap.size) : ∃ V, W.grownBy V (some P) ∧ V.grownBy w' (some Q) := by
  obtain ⟨o, ho⟩ : ∃ o, W.heap[Q]? = some o := ⟨W.heap[Q], Array.getElem?_eq_getElem hQ⟩
  have hQ' : Q < w'.heap.size := Nat.lt_of_lt_of_le hQ h.size
  have kA := grownBy_putObj' w' Q o
  refine ⟨w'.putObj Q o, ⟨kA.os.trans h.os, kA.tape.trans h.tape, kA.output.trans h.output, Nat.le_trans h.size kA.size, fun i hi hn => ?_⟩, ?_⟩
  · by_cases e : i = Q
    · subst e
      rw [World.putObj_heap_same hQ', ho]
    · rw [World.putObj_heap_other (by omega)]
      exact h.block i hi (fun e2 => hn (by rw [e2])) e
  · refine ⟨kA.os.symm, kA.tape.symm, kA.output.symm, by simp [World.putObj], fun i hi hn => ?_⟩
    have e : ¬ i = Q := fun e => hn (by rw [e])
    rw [World.putObj_heap_other (by omega)]
end Go.Proofs.YtdfliaogmlpefaaGreatDoor
