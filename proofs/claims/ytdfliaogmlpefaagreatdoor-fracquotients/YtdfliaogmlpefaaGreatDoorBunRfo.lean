/-
  A range over a function whose first round returns.
  frac's steps.
-/
import Derived.Test.YtdfliaogmlpefaaGreatDoorBunRed
import Derived.Test.YtdfliaogmlpefaaGreatDoorFru
import Derived.Deep.CutRange
namespace Go.Proofs.YtdfliaogmlpefaaGreatDoor
open Go.RowKit Go.Lib Go.Sort Go.Shelf
attribute [local go_sem] Oper.semAt_some
set_option maxHeartbeats 3200000
set_option maxRecDepth 1000000
def HandsNone (F : Fence) (n : Nat) (P : Program) (gf : Nat) (lb : Array Value) (I : Nat → World → Prop) : Prop :=
  ∀ (l : Nat) (J : Nat → World → Prop), (∀ t W, J t W → I t W) → (∀ t W W', J t W → W.grownBy W' none → J t W') →
    ∀ W, J 0 W → CallsIn F n P gf (#[.func (.yield l) #[] #[]] ++ lb) W fun e W' => (∃ v, e = .returned v) ∧ J 0 W'
end Go.Proofs.YtdfliaogmlpefaaGreatDoor
namespace Go.Proofs.YtdfliaogmlpefaaGreatDoor
open Go.RowKit Go.Lib Go.Sort
set_option linter.unusedVariables false
set_option maxHeartbeats 3200000
set_option maxRecDepth 1000000
theorem wdrw {W : World} {B : Nat} {a b : Value} (h : WBlk W B a b) : WBlk W.drew B a b := h.kept (row := none) (grow_drew (World.grownBy.refl _ _)) (by simp)
def StepsR (n : Bool) (s : ByteArray) (d : Bool) (t : ByteArray) (w : World) (e : Ending) (w' : World) : Prop :=
  ∃ P Q, e = .returned (.func (.func 124) #[] #[.pointer (some ⟨P, 0, none⟩), .pointer (some ⟨Q, 0, none⟩)]) ∧ WBlk w' P (.bool n) (.string s) ∧ WBlk w' Q (.bool d) (.string t) ∧ w.heap.size ≤ P ∧ w.heap.size ≤ Q ∧ P ≠ Q ∧ w.grownBy w' none
theorem steps_any (n d : Bool) (s t : ByteArray) (w : World) : Calls Tryz.prog 80 #[frac n s d t] w (StepsR n s d t w) := by
  have hmf : ∀ (fn : Fn) (first cap : Array Value) (w : World), (Instr.makeFunc fn first cap).run Tryz.prog w = .ok (.func fn first cap) w := fun _ _ _ _ => rfl
  have HK : Hid (∀ w', (w.alloc (qObj n s d t)).grownBy w' none → w'.cell? ⟨w.heap.size, 0, none⟩ = some (.bool n) ∧ w'.cell? ⟨w.heap.size, 1, none⟩ = some (.string s) ∧ w'.cell? ⟨w.heap.size, 2, none⟩ = some (.bool d) ∧ w'.cell? ⟨w.heap.size, 3, none⟩ = some (.string t)) := fun w' g => by
    have h : QBlk w' w.heap.size (.bool n) (.string s) (.bool d) (.string t) := QBlk.kept (heap_alloc_new _ _) g (by simp)
    exact ⟨h.c0, h.c1, h.c2, h.c3⟩
  have HB : Hid (∀ W, (w.alloc (qObj n s d t)).grownBy W none → w.heap.size < W.heap.size ∧ w.grownBy W none) := fun W g => ⟨by have := g.size; simp at this; omega, grownBy_trans (grow1 _ _) g⟩
  go_enter Tryz.func80, Tryz.ntmps80
  go_upto_region 1 with fail
  have HE : Hid ((w.alloc (qObj n s d t)).grownBy (w.alloc (qObj n s d t)) none) := World.grownBy.refl _ _
  obtain ⟨c0, c1, c2, c3⟩ := HK.out _ HE.out
  generalize hW : w.alloc (qObj n s d t) = W at *
  go_region_held3 (fun w' => w'.cell? ⟨w.heap.size, 0, none⟩ = some (.bool n) ∧ w'.cell? ⟨w.heap.size, 1, none⟩ = some (.string s) ∧ w'.cell? ⟨w.heap.size, 2, none⟩ = some (.bool d) ∧ w'.cell? ⟨w.heap.size, 3, none⟩ = some (.string t))
    (first | (go_keep; done) | with_reducible exact HK.out _ (grow_drew (World.grownBy.refl _ _)) | with_reducible exact HK.out _ (grow_drew (grow1 _ _)) | with_reducible exact HK.out _ (grow_drew (grow2 _ _ _)) | with_reducible exact HK.out _ (grownBy_trans (grow_drew (World.grownBy.refl _ _)) (grow1 _ _)) | with_reducible exact HK.out _ (grownBy_trans (grow_drew (World.grownBy.refl _ _)) (grow2 _ _ _)) | fail)
    (first | fail)
  all_goals go_wp2_with fail
  · go_ret
    have hb := HB.out _ HE.out
    exact ⟨W.heap.size, W.heap.size + 1, rfl, wdrw (at_alloc1 _ _ _), wdrw (heap_alloc2_new _ _ _), by omega, by omega, by omega, grow_drew (grownBy_trans hb.2 (grow2 _ _ _))⟩
  · go_ret
    have hb := HB.out _ HE.out
    exact ⟨W.heap.size + 1, W.heap.size, rfl, wdrw (heap_alloc2_new _ _ _), wdrw (at_alloc1 _ _ _), by omega, by omega, by omega, grow_drew (grownBy_trans hb.2 (grow2 _ _ _))⟩
end Go.Proofs.YtdfliaogmlpefaaGreatDoor
