/-
  The program's ones.
-/
import Derived.Test.YtkimgmgafkihaaaDoorOna
import Derived.Laws.Rows
import Derived.Laws.Tables
import Derived.Deep.WholeRow
namespace Go.Proofs.YtkimgmgafkihaaaDoor
open Go.RowKit Go.Lib Go.Sort
set_option linter.unusedVariables false
set_option linter.unusedSimpArgs false
set_option maxHeartbeats 1600000
set_option maxRecDepth 100000
theorem cells_oneCell {cs : Array Value} (h : ∀ j, j < cs.size → ∃ x, cs[j]? = some (.int .i64 x)) : cs.all (·.oneCell') = true := by
  rw [Array.all_eq_true]
  intro i hi
  obtain ⟨x, hx⟩ := h i hi
  rw [Array.getElem?_eq_getElem hi] at hx
  injection hx with hx
  rw [hx]
  rfl
theorem setRow_self {w : World} {g : Nat} {cs : Array Value} {t : TypeId} {fr : Nat × Nat} (h : w.heap[g]? = some (.cells cs t fr)) : w.setRow g cs = w := by
  have e : (w.setRow g cs).heap = w.heap := by
    apply Array.ext_getElem?
    intro i
    by_cases hi : i = g
    · subst hi
      rw [setRow_heap w i cs cs t fr h, h]
    · exact setRow_other w g i cs hi
  simp only [World.setRow] at e ⊢
  rw [e]
theorem Tryd.infoA : (Tryd.prog.info? 42).map (·.size) = some 4096 := by kernel_rfl
def Ones (cs : Array Value) : Prop := cs.size = 4096 ∧ ∀ j, j < 4096 → cs[j]? = some (.int .i64 1)
theorem Ones.all {cs : Array Value} (h : Ones cs) : cs.all (·.oneCell') = true := cells_oneCell fun j hj => ⟨1, h.2 j (by rw [← h.1]; exact hj)⟩
theorem Ones.info {cs : Array Value} (h : Ones cs) : (Tryd.prog.info? 42).map (·.size) = some cs.size := by rw [h.1]; exact Tryd.infoA
theorem Ones.pil {cs : Array Value} (h : Ones cs) {w : World} {g : Nat} (hg : w.heap[g]? = some (.cells cs 42 (0, 0))) (n : Nat) (hn : n ≤ 4096) : Pil w g (List.replicate n 1) :=
  ⟨cs, hg, h.1, by simpa using hn, fun j hj => by
    simp at hj
    rw [h.2 j (by omega), List.getElem?_replicate, if_pos hj]
    rfl⟩
theorem Pil.ones {w : World} {g : Nat} (h : Pil w g (List.replicate 4096 1)) : ∃ cs, Ones cs ∧ w.heap[g]? = some (.cells cs 42 (0, 0)) := by
  obtain ⟨cur, hg, hs, hl, hc⟩ := h
  refine ⟨cur, ⟨hs, fun j hj => ?_⟩, hg⟩
  rw [hc j (by rw [List.length_replicate]; exact hj), List.getElem?_replicate, if_pos hj]
  rfl
theorem ones_any (w : World) : Calls Tryd.prog 13 #[] w fun e w' => ∃ cs, e = .returned (.agg cs) ∧ Ones cs ∧ w.grownBy w' none := by
  have hz : Tryd.zeroCells42.size = 4096 := by kernel_rfl
  have HP0 : Hid (Pil (w.alloc (.cells Tryd.zeroCells42 42)) w.heap.size (List.replicate 0 1)) := ⟨_, heap_alloc_last w _, hz, by simp, fun j hj => by simp at hj⟩
  clear hz
  go_enter Tryd.func13, Tryd.ntmps13
  generalize h6 : Code.region 6 _ _ = c6
  go_wp2_with fail
  go_loopw [2] (fun s wr => ∃ i : Nat, i ≤ 4096 ∧ s = .int .i64 (i : Int) ∧ Pil wr w.heap.size (List.replicate i 1) ∧ w.grownBy wr none) (fun s _ => match s with | .int _ i => 4096 - i.toNat | _ => 0)
  case atStart => exact ⟨0, by omega, rfl, HP0.out, grow1 _ _⟩
  case round =>
    obtain ⟨i, hi, rfl, hO, hG⟩ := hrel
    have HG : Hid (w.grownBy wr none) := hG
    have HO : Hid (Pil wr w.heap.size (List.replicate i 1)) := hO
    clear hO hG HP0
    by_cases hlt : i < 4096
    · have hltI : (i : Int) < 4096 := by omega
      have hd : decide ((i : Int) < 4096) = true := decide_eq_true hltI
      obtain ⟨v1, c1⟩ := HO.out.any i hlt
      have f1 := HO.out.frozen i
      go_wp2_with fail
      go_roundw
      case rel => exact ⟨i + 1, by omega, num_eq (by omega), HO.out.push hlt, grownBy_new HG.out (Nat.le_refl _) (grownBy_setCell _ _ _ _)⟩
      case measure => simp; omega
    · have hltI : ¬ (i : Int) < 4096 := by omega
      have hd : decide ((i : Int) < 4096) = false := decide_eq_false hltI
      go_wp2_with fail
      subst h6
      have hie : i = 4096 := by omega
      obtain ⟨cs, hcs, hgc⟩ : ∃ cs, Ones cs ∧ wr.heap[w.heap.size]? = some (.cells cs 42 (0, 0)) := by
        have h := HO.out
        rw [hie] at h
        exact h.ones
      refine wp_region_lit ?_
      refine wpList_load_row rfl _ _ rfl w.heap.size rfl _ cs (0, 0) _ hgc Tryd.underlying42 rfl hcs.info ?_
      refine wpList_store_row rfl _ _ _ rfl w.heap.size cs rfl rfl _ cs hgc hcs.info rfl hcs.all ?_
      rw [setRow_self hgc]
      apply wpList_nil
      go_wp2_with fail
      refine bodyPost_ret (results_cell_row rfl _ _ w.heap.size _ cs (0, 0) _ rfl hgc Tryd.underlying42 rfl hcs.info) rfl ?_
      exact ⟨cs, rfl, hcs, HG.out⟩
end Go.Proofs.YtkimgmgafkihaaaDoor
