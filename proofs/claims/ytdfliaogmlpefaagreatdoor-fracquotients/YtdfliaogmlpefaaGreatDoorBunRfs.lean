/-
  frac's steps: what the next step leaves.
  A range over a function whose rounds are counted, where the iterator has blocks of its own: the body tells which one block it may write.
  frac's Quotients: all that it hands over.
-/
import Derived.Test.YtdfliaogmlpefaaGreatDoorBunRfo
import Derived.Test.YtdfliaogmlpefaaGreatDoorEul
import Derived.Test.YtdfliaogmlpefaaGreatDoorBunOnh
import Derived.TacticsInMore
import Derived.LoopNIn
import Derived.LoopIn
import Derived.OwnWalkIn
import Derived.RangeFuncNested
import Derived.RangeFuncBound
import Derived.RangeFuncCalls
import Derived.RangeFuncLeaves
import Derived.RangeFuncFrom
import Derived.RangeFuncBox
namespace Go.Proofs.YtdfliaogmlpefaaGreatDoor
open Go.RowKit Go.Lib Go.Sort
set_option linter.unusedVariables false
set_option maxHeartbeats 3200000
set_option maxRecDepth 1000000
structure But2 (W w' : World) (P Q : Nat) : Prop where
  os : w'.os = W.os
  tape : w'.tape = W.tape
  output : w'.output = W.output
  size : W.heap.size ≤ w'.heap.size
  block : ∀ i, i < W.heap.size → i ≠ P → i ≠ Q → w'.heap[i]? = W.heap[i]?
theorem But2.refl (W : World) (P Q : Nat) : But2 W W P Q := ⟨rfl, rfl, rfl, Nat.le_refl _, fun _ _ _ _ => rfl⟩
theorem But2.grow {W w1 w2 : World} {P Q : Nat} (h : But2 W w1 P Q) (g : w1.grownBy w2 none) : But2 W w2 P Q :=
  ⟨g.os.trans h.os, g.tape.trans h.tape, g.output.trans h.output, Nat.le_trans h.size g.size, fun i hi h1 h2 => (g.block i (Nat.lt_of_lt_of_le hi h.size) (by simp)).trans (h.block i hi h1 h2)⟩
theorem But2.set {W w1 : World} {P Q B j : Nat} {v : Value} (h : But2 W w1 P Q) (hB : B = P ∨ B = Q ∨ W.heap.size ≤ B) : But2 W (w1.setCell ⟨B, j, none⟩ v) P Q := by
  have g := grownBy_setCell w1 B j v
  refine ⟨g.os.trans h.os, g.tape.trans h.tape, g.output.trans h.output, Nat.le_trans h.size g.size, fun i hi h1 h2 => (g.block i (Nat.lt_of_lt_of_le hi h.size) ?_).trans (h.block i hi h1 h2)⟩
  intro e
  injection e with e
  omega
def StepX (W : World) (P Q : Nat) (d : Bool) (t : ByteArray) (q1 : Bool) (q2 : ByteArray) (r1 : Bool) (r2 : ByteArray) (b : Bool) (e : Ending) (w' : World) : Prop :=
  e = .returned (.tuple #[whole q1 q2, .bool b]) ∧ WBlk w' P (.bool d) (.string t) ∧ WBlk w' Q (.bool r1) (.string r2) ∧ But2 W w' P Q
theorem steps1_x (W : World) (P Q : Nat) (n d q1 r1 : Bool) (s t q2 r2 : ByteArray)
    (HD : Hid (∀ w, Calls Tryz.prog 55 #[whole n s, whole d t] w fun e w' => e = .returned (.tuple #[whole q1 q2, whole r1 r2, .int .i64 0]) ∧ w.grownBy w' none))
    (hP : WBlk W P (.bool n) (.string s)) (hQ : WBlk W Q (.bool d) (.string t)) (ne : P ≠ Q) (b : Bool) (hz : (r1 = false ∧ r2 = eS ∧ b = true) ∨ ((r2.toList == []) = false ∧ b = false)) :
    Calls Tryz.prog 124 #[.pointer (some ⟨P, 0, none⟩), .pointer (some ⟨Q, 0, none⟩)] W (StepX W P Q d t q1 q2 r1 r2 b) := by
  rcases hz with ⟨rfl, rfl, rfl⟩ | ⟨hz, rfl⟩
  · have p0 := hP.c0
    have p1 := hP.c1
    have pl := hP.lt
    have o0 := hQ.c0
    have o1 := hQ.c1
    have ol := hQ.lt
    have HP : Hid (WBlk W P (.bool n) (.string s)) := hP
    have HQ : Hid (WBlk W Q (.bool d) (.string t)) := hQ
    have HG : Hid (But2 W W P Q) := But2.refl _ _ _
    have NE : Hid (P ≠ Q ∧ P < W.heap.size ∧ Q < W.heap.size) := ⟨ne, pl, ol⟩
    clear hP hQ ne
    go_enter Tryz.func124, Tryz.ntmps124
    go_wp2_with fail
    refine (HD.out _).mono ?_
    rintro e w1 ⟨rfl, g1⟩
    clear p0 p1 pl o0 o1 ol
    have g2 : W.grownBy ((w1.alloc (wObj q1 q2)).alloc (wObj false eS)) none := grownBy_trans (grownBy_trans (grow1 _ _) g1) (grow2 _ _ _)
    have P2 : Hid (WBlk ((w1.alloc (wObj q1 q2)).alloc (wObj false eS)) P (.bool n) (.string s)) := HP.out.kept g2 (by simp)
    have Q2 : Hid (WBlk ((w1.alloc (wObj q1 q2)).alloc (wObj false eS)) Q (.bool d) (.string t)) := HQ.out.kept g2 (by simp)
    have R2 : Hid (WBlk ((w1.alloc (wObj q1 q2)).alloc (wObj false eS)) W.heap.size (.bool false) (.string eS)) := old_alloc _ _ (old_alloc _ _ (WBlk.kept (heap_alloc_new _ _) g1 (by simp)))
    have A2 : Hid (WBlk ((w1.alloc (wObj q1 q2)).alloc (wObj false eS)) w1.heap.size (.bool q1) (.string q2)) := at_alloc1 _ _ _
    have B2 : Hid (WBlk ((w1.alloc (wObj q1 q2)).alloc (wObj false eS)) (w1.heap.size + 1) (.bool false) (.string eS)) := heap_alloc2_new _ _ _
    have G2 : Hid (But2 W ((w1.alloc (wObj q1 q2)).alloc (wObj false eS)) P Q) := HG.out.grow g2
    have N1 : Hid (W.heap.size < w1.heap.size) := (by have := g1.size; simp at this; omega : W.heap.size < w1.heap.size)
    clear g1 g2 HP HQ HG
    go_upto_region 2 with fail
    generalize (w1.alloc (wObj q1 q2)).alloc (wObj false eS) = V at *
    have o0 := Q2.out.c0
    have o1 := Q2.out.c1
    have o2 := Q2.out.fr 0
    have o3 := Q2.out.fr 1
    have p0 := P2.out.c0
    have p1 := P2.out.c1
    have p2 := P2.out.fr 0
    have p3 := P2.out.fr 1
    have b0 := B2.out.c0
    have b1 := B2.out.c1
    have e1 := NE.out.1
    have e2 : ¬ Q = P := fun e => e1 e.symm
    have e3 : ¬ P = w1.heap.size + 1 := by have := N1.out; have := NE.out.2.1; omega
    have e4 : ¬ w1.heap.size + 1 = P := by omega
    go_region_with (first | fail)
    all_goals (
      have n1 := N1.out
      have n2 := NE.out
      have A3 : Hid (WBlk ((((V.setCell ⟨P, 0, none⟩ (.bool d)).setCell ⟨P, 1, none⟩ (.string t)).setCell ⟨Q, 0, none⟩ (.bool false)).setCell ⟨Q, 1, none⟩ (.string eS)).drew w1.heap.size (.bool q1) (.string q2)) := wdrw ((((A2.out.other (by omega)).other (by omega)).other (by omega)).other (by omega))
      have B3 : Hid (WBlk ((((V.setCell ⟨P, 0, none⟩ (.bool d)).setCell ⟨P, 1, none⟩ (.string t)).setCell ⟨Q, 0, none⟩ (.bool false)).setCell ⟨Q, 1, none⟩ (.string eS)).drew (w1.heap.size + 1) (.bool false) (.string eS)) := wdrw ((((B2.out.other (by omega)).other (by omega)).other (by omega)).other (by omega))
      have R3 : Hid (WBlk ((((V.setCell ⟨P, 0, none⟩ (.bool d)).setCell ⟨P, 1, none⟩ (.string t)).setCell ⟨Q, 0, none⟩ (.bool false)).setCell ⟨Q, 1, none⟩ (.string eS)).drew W.heap.size (.bool false) (.string eS)) := wdrw ((((R2.out.other (by omega)).other (by omega)).other (by omega)).other (by omega))
      have G3 : Hid (But2 W ((((V.setCell ⟨P, 0, none⟩ (.bool d)).setCell ⟨P, 1, none⟩ (.string t)).setCell ⟨Q, 0, none⟩ (.bool false)).setCell ⟨Q, 1, none⟩ (.string eS)).drew P Q) := ((((G2.out.set (.inl rfl)).set (.inl rfl)).set (.inr (.inl rfl))).set (.inr (.inl rfl))).grow (grow_drew (World.grownBy.refl _ _))
      have P3 : Hid (WBlk ((((V.setCell ⟨P, 0, none⟩ (.bool d)).setCell ⟨P, 1, none⟩ (.string t)).setCell ⟨Q, 0, none⟩ (.bool false)).setCell ⟨Q, 1, none⟩ (.string eS)).drew P (.bool d) (.string t)) := wdrw (((P2.out.put _ _).other (by omega)).other (by omega))
      have Q3 : Hid (WBlk ((((V.setCell ⟨P, 0, none⟩ (.bool d)).setCell ⟨P, 1, none⟩ (.string t)).setCell ⟨Q, 0, none⟩ (.bool false)).setCell ⟨Q, 1, none⟩ (.string eS)).drew Q (.bool false) (.string eS)) := wdrw (((Q2.out.other (by omega)).other (by omega)).put _ _)
      clear o0 o1 o2 o3 p0 p1 p2 p3 b0 b1 e1 e2 e3 e4 P2 Q2 R2 A2 B2 G2 n1 n2
      generalize ((((V.setCell ⟨P, 0, none⟩ (.bool d)).setCell ⟨P, 1, none⟩ (.string t)).setCell ⟨Q, 0, none⟩ (.bool false)).setCell ⟨Q, 1, none⟩ (.string eS)).drew = U at *
      have HZ : Hid (∀ w', U.grownBy w' none → w'.cell? ⟨w1.heap.size, 0, none⟩ = some (.bool q1) ∧ w'.cell? ⟨w1.heap.size, 1, none⟩ = some (.string q2) ∧ w'.cell? ⟨w1.heap.size + 1, 0, none⟩ = some (.bool false) ∧ w'.cell? ⟨w1.heap.size + 1, 1, none⟩ = some (.string eS)) := fun w' g => ⟨(A3.out.kept g (by simp)).c0, (A3.out.kept g (by simp)).c1, (B3.out.kept g (by simp)).c0, (B3.out.kept g (by simp)).c1⟩
      have NF : Hid (W.heap.size ≠ P ∧ W.heap.size ≠ Q) := ⟨by have := NE.out.2.1; omega, by have := NE.out.2.2; omega⟩
      have N3 : Hid (W.heap.size ≠ w1.heap.size ∧ W.heap.size ≠ w1.heap.size + 1) := ⟨by have := N1.out; omega, by have := N1.out; omega⟩
      go_wp2_with fail
      go_region_held3 (fun w' => w'.cell? ⟨w1.heap.size, 0, none⟩ = some (.bool q1) ∧ w'.cell? ⟨w1.heap.size, 1, none⟩ = some (.string q2) ∧ w'.cell? ⟨w1.heap.size + 1, 0, none⟩ = some (.bool false) ∧ w'.cell? ⟨w1.heap.size + 1, 1, none⟩ = some (.string eS))
        (first | (go_keep; done) | with_reducible exact HZ.out _ (by assumption) | with_reducible exact HZ.out _ (grow_drew (World.grownBy.refl _ _)) | exact ⟨(((A3.out.kept GA (by simp)).other N3.out.1).other N3.out.1).c0, (((A3.out.kept GA (by simp)).other N3.out.1).other N3.out.1).c1, (((B3.out.kept GA (by simp)).other N3.out.2).other N3.out.2).c0, (((B3.out.kept GA (by simp)).other N3.out.2).other N3.out.2).c1⟩ | fail)
        (first
          | (go_at_call 51; refine (fzero_gr _).mono ?_; rintro e wA ⟨rfl, gA⟩; have GA : U.grownBy wA none := (by first | exact gA | exact grownBy_undrew gA); clear gA; have hR := R3.out.kept GA (by simp); have k0 := hR.c0; have k1 := hR.c1; have k2 := hR.fr 0; have k3 := hR.fr 1)
          | fail)
      all_goals (
        go_wp2_with fail
        refine bodyPost_ret (res_cell_tmp rfl _ _ W.heap.size _ _ _ _ rfl (hR.put _ _)) rfl ?_
        exact ⟨rfl, ((P3.out.kept GA (by simp)).other NF.out.1).other NF.out.1, ((Q3.out.kept GA (by simp)).other NF.out.2).other NF.out.2, ((G3.out.grow GA).set (.inr (.inr (Nat.le_refl _)))).set (.inr (.inr (Nat.le_refl _)))⟩))
  · have p0 := hP.c0
    have p1 := hP.c1
    have pl := hP.lt
    have o0 := hQ.c0
    have o1 := hQ.c1
    have ol := hQ.lt
    have HP : Hid (WBlk W P (.bool n) (.string s)) := hP
    have HQ : Hid (WBlk W Q (.bool d) (.string t)) := hQ
    have HG : Hid (But2 W W P Q) := But2.refl _ _ _
    have NE : Hid (P ≠ Q ∧ P < W.heap.size ∧ Q < W.heap.size) := ⟨ne, pl, ol⟩
    clear hP hQ ne
    go_enter Tryz.func124, Tryz.ntmps124
    go_wp2_with fail
    refine (HD.out _).mono ?_
    rintro e w1 ⟨rfl, g1⟩
    clear p0 p1 pl o0 o1 ol
    have g2 : W.grownBy ((w1.alloc (wObj q1 q2)).alloc (wObj r1 r2)) none := grownBy_trans (grownBy_trans (grow1 _ _) g1) (grow2 _ _ _)
    have P2 : Hid (WBlk ((w1.alloc (wObj q1 q2)).alloc (wObj r1 r2)) P (.bool n) (.string s)) := HP.out.kept g2 (by simp)
    have Q2 : Hid (WBlk ((w1.alloc (wObj q1 q2)).alloc (wObj r1 r2)) Q (.bool d) (.string t)) := HQ.out.kept g2 (by simp)
    have R2 : Hid (WBlk ((w1.alloc (wObj q1 q2)).alloc (wObj r1 r2)) W.heap.size (.bool false) (.string eS)) := old_alloc _ _ (old_alloc _ _ (WBlk.kept (heap_alloc_new _ _) g1 (by simp)))
    have A2 : Hid (WBlk ((w1.alloc (wObj q1 q2)).alloc (wObj r1 r2)) w1.heap.size (.bool q1) (.string q2)) := at_alloc1 _ _ _
    have B2 : Hid (WBlk ((w1.alloc (wObj q1 q2)).alloc (wObj r1 r2)) (w1.heap.size + 1) (.bool r1) (.string r2)) := heap_alloc2_new _ _ _
    have G2 : Hid (But2 W ((w1.alloc (wObj q1 q2)).alloc (wObj r1 r2)) P Q) := HG.out.grow g2
    have N1 : Hid (W.heap.size < w1.heap.size) := (by have := g1.size; simp at this; omega : W.heap.size < w1.heap.size)
    clear g1 g2 HP HQ HG
    go_upto_region 2 with fail
    generalize (w1.alloc (wObj q1 q2)).alloc (wObj r1 r2) = V at *
    have o0 := Q2.out.c0
    have o1 := Q2.out.c1
    have o2 := Q2.out.fr 0
    have o3 := Q2.out.fr 1
    have p0 := P2.out.c0
    have p1 := P2.out.c1
    have p2 := P2.out.fr 0
    have p3 := P2.out.fr 1
    have b0 := B2.out.c0
    have b1 := B2.out.c1
    have e1 := NE.out.1
    have e2 : ¬ Q = P := fun e => e1 e.symm
    have e3 : ¬ P = w1.heap.size + 1 := by have := N1.out; have := NE.out.2.1; omega
    have e4 : ¬ w1.heap.size + 1 = P := by omega
    go_region_with (first | fail)
    all_goals (
      have n1 := N1.out
      have n2 := NE.out
      have A3 : Hid (WBlk ((((V.setCell ⟨P, 0, none⟩ (.bool d)).setCell ⟨P, 1, none⟩ (.string t)).setCell ⟨Q, 0, none⟩ (.bool r1)).setCell ⟨Q, 1, none⟩ (.string r2)).drew w1.heap.size (.bool q1) (.string q2)) := wdrw ((((A2.out.other (by omega)).other (by omega)).other (by omega)).other (by omega))
      have B3 : Hid (WBlk ((((V.setCell ⟨P, 0, none⟩ (.bool d)).setCell ⟨P, 1, none⟩ (.string t)).setCell ⟨Q, 0, none⟩ (.bool r1)).setCell ⟨Q, 1, none⟩ (.string r2)).drew (w1.heap.size + 1) (.bool r1) (.string r2)) := wdrw ((((B2.out.other (by omega)).other (by omega)).other (by omega)).other (by omega))
      have R3 : Hid (WBlk ((((V.setCell ⟨P, 0, none⟩ (.bool d)).setCell ⟨P, 1, none⟩ (.string t)).setCell ⟨Q, 0, none⟩ (.bool r1)).setCell ⟨Q, 1, none⟩ (.string r2)).drew W.heap.size (.bool false) (.string eS)) := wdrw ((((R2.out.other (by omega)).other (by omega)).other (by omega)).other (by omega))
      have G3 : Hid (But2 W ((((V.setCell ⟨P, 0, none⟩ (.bool d)).setCell ⟨P, 1, none⟩ (.string t)).setCell ⟨Q, 0, none⟩ (.bool r1)).setCell ⟨Q, 1, none⟩ (.string r2)).drew P Q) := ((((G2.out.set (.inl rfl)).set (.inl rfl)).set (.inr (.inl rfl))).set (.inr (.inl rfl))).grow (grow_drew (World.grownBy.refl _ _))
      have P3 : Hid (WBlk ((((V.setCell ⟨P, 0, none⟩ (.bool d)).setCell ⟨P, 1, none⟩ (.string t)).setCell ⟨Q, 0, none⟩ (.bool r1)).setCell ⟨Q, 1, none⟩ (.string r2)).drew P (.bool d) (.string t)) := wdrw (((P2.out.put _ _).other (by omega)).other (by omega))
      have Q3 : Hid (WBlk ((((V.setCell ⟨P, 0, none⟩ (.bool d)).setCell ⟨P, 1, none⟩ (.string t)).setCell ⟨Q, 0, none⟩ (.bool r1)).setCell ⟨Q, 1, none⟩ (.string r2)).drew Q (.bool r1) (.string r2)) := wdrw (((Q2.out.other (by omega)).other (by omega)).put _ _)
      clear o0 o1 o2 o3 p0 p1 p2 p3 b0 b1 e1 e2 e3 e4 P2 Q2 R2 A2 B2 G2 n1 n2
      generalize ((((V.setCell ⟨P, 0, none⟩ (.bool d)).setCell ⟨P, 1, none⟩ (.string t)).setCell ⟨Q, 0, none⟩ (.bool r1)).setCell ⟨Q, 1, none⟩ (.string r2)).drew = U at *
      have HZ : Hid (∀ w', U.grownBy w' none → w'.cell? ⟨w1.heap.size, 0, none⟩ = some (.bool q1) ∧ w'.cell? ⟨w1.heap.size, 1, none⟩ = some (.string q2) ∧ w'.cell? ⟨w1.heap.size + 1, 0, none⟩ = some (.bool r1) ∧ w'.cell? ⟨w1.heap.size + 1, 1, none⟩ = some (.string r2)) := fun w' g => ⟨(A3.out.kept g (by simp)).c0, (A3.out.kept g (by simp)).c1, (B3.out.kept g (by simp)).c0, (B3.out.kept g (by simp)).c1⟩
      have NF : Hid (W.heap.size ≠ P ∧ W.heap.size ≠ Q) := ⟨by have := NE.out.2.1; omega, by have := NE.out.2.2; omega⟩
      have N3 : Hid (W.heap.size ≠ w1.heap.size ∧ W.heap.size ≠ w1.heap.size + 1) := ⟨by have := N1.out; omega, by have := N1.out; omega⟩
      go_wp2_with fail
      go_region_held3 (fun w' => w'.cell? ⟨w1.heap.size, 0, none⟩ = some (.bool q1) ∧ w'.cell? ⟨w1.heap.size, 1, none⟩ = some (.string q2) ∧ w'.cell? ⟨w1.heap.size + 1, 0, none⟩ = some (.bool r1) ∧ w'.cell? ⟨w1.heap.size + 1, 1, none⟩ = some (.string r2))
        (first | (go_keep; done) | with_reducible exact HZ.out _ (by assumption) | with_reducible exact HZ.out _ (grow_drew (World.grownBy.refl _ _)) | exact ⟨(((A3.out.kept GA (by simp)).other N3.out.1).other N3.out.1).c0, (((A3.out.kept GA (by simp)).other N3.out.1).other N3.out.1).c1, (((B3.out.kept GA (by simp)).other N3.out.2).other N3.out.2).c0, (((B3.out.kept GA (by simp)).other N3.out.2).other N3.out.2).c1⟩ | fail)
        (first
          | (go_at_call 51; refine (fzero_gr _).mono ?_; rintro e wA ⟨rfl, gA⟩; have GA : U.grownBy wA none := (by first | exact gA | exact grownBy_undrew gA); clear gA; have hR := R3.out.kept GA (by simp); have k0 := hR.c0; have k1 := hR.c1; have k2 := hR.fr 0; have k3 := hR.fr 1)
          | fail)
      all_goals (
        go_wp2_with fail
        refine bodyPost_ret (res_cell_tmp rfl _ _ W.heap.size _ _ _ _ rfl (hR.put _ _)) rfl ?_
        exact ⟨rfl, ((P3.out.kept GA (by simp)).other NF.out.1).other NF.out.1, ((Q3.out.kept GA (by simp)).other NF.out.2).other NF.out.2, ((G3.out.grow GA).set (.inr (.inr (Nat.le_refl _)))).set (.inr (.inr (Nat.le_refl _)))⟩))
end Go.Proofs.YtdfliaogmlpefaaGreatDoor
namespace Go.Proofs.YtdfliaogmlpefaaGreatDoor
open Go.RowKit Go.Lib Go.Sort Go.Shelf
attribute [local go_sem] Oper.semAt_some
set_option maxHeartbeats 3200000
set_option maxRecDepth 1000000
def Above (B : Nat) (o : Option Nat) (W W' : World) : Prop := W.heap.size ≤ W'.heap.size ∧ ∀ i, B ≤ i → i < W.heap.size → some i ≠ o → W'.heap[i]? = W.heap[i]?
theorem Above.of {B : Nat} {o : Option Nat} {W W' : World} (h : W.grownBy W' o) : Above B o W W' := ⟨h.size, fun i _ hi hn => h.block i hi hn⟩
end Go.Proofs.YtdfliaogmlpefaaGreatDoor
namespace Go.Proofs.YtdfliaogmlpefaaGreatDoor
open Go.RowKit Go.Lib Go.Sort Go.Shelf
set_option linter.unusedVariables false
attribute [local go_sem] Oper.semAt_some
set_option maxHeartbeats 3200000
set_option maxRecDepth 1000000
theorem eg_steps2 : ∀ args w, (callFunc 124 args).run Tryz.prog w = .ok (.enter 124 args) w := enters_of Tryz.func124 (by kernel_rfl) rfl
theorem isz_zero {n : Bool} {s : ByteArray} (h : IsZ 0 n s) : n = false ∧ s = eS := whole_inj (h.one (⟨rfl, by rw [show Int.natAbs 0 = 0 from rfl, magN_zero]; rfl⟩ : IsZ 0 false eS))
theorem rest_b {z : Int} {k : Nat} {n : Bool} {s : ByteArray} (hk : k ≤ 16384) (h : Sz k z n s) : (n = false ∧ s = eS ∧ decide (z = 0) = true) ∨ ((s.toList == []) = false ∧ decide (z = 0) = false) := by
  by_cases e : z = 0
  · subst e
    have := isz_zero h.1
    exact .inl ⟨this.1, this.2, by simp⟩
  · exact .inr ⟨nonempty_q (h.size0 hk e), by simp [e]⟩
def denV (W : World) (Q : Nat) : Nat := match W.cell? ⟨Q, 1, none⟩ with | some (.string t) => val (bN t) | _ => 0
theorem denV_is {W : World} {Q k : Nat} {d : Bool} {t : ByteArray} {z : Int} (h : WBlk W Q (.bool d) (.string t)) (hz : Sz k z d t) : denV W Q = z.natAbs := by
  unfold denV
  rw [h.c1]
  have := hz.num
  rw [← this]
  cases d
  · rw [num_f]; simp
  · rw [num_t]; simp
theorem But2.cut {W w' : World} {P Q : Nat} (h : But2 W w' P Q) (hQ : Q < W.heap.size) : ∃ V, W.grownBy V (some P) ∧ V.grownBy w' (some Q) := by
  obtain ⟨o, ho⟩ : ∃ o, W.heap[Q]? = some o := ⟨W.heap[Q], Array.getElem?_eq_getElem hQ⟩
  have hQ' : Q < w'.heap.size := Nat.lt_of_lt_of_le hQ h.size
  have kA := grownBy_putObj' w' Q o
  refine ⟨w'.putObj Q o, ⟨kA.os.trans h.os, kA.tape.trans h.tape, kA.output.trans h.output, Nat.le_trans h.size kA.size, fun i hi hn => ?_⟩, ?_⟩
  · by_cases e : i = Q
    · subst e
      rw [World.putObj_heap_same hQ', ho]
    · rw [World.putObj_heap_other (by omega)]
      exact h.block i hi (fun e2 => hn (by rw [e2])) e
  · refine ⟨kA.os.symm, kA.tape.symm, kA.output.symm, by simp [World.putObj], fun i hi hn => ?_⟩
    have e : ¬ i = Q := fun e => hn (by rw [e])
    rw [World.putObj_heap_other (by omega)]
end Go.Proofs.YtdfliaogmlpefaaGreatDoor
