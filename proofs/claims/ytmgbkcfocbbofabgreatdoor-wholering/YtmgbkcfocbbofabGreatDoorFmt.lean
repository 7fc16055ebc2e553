/-
  strconv's text of 300.
-/
import Derived.Test.YtmgbkcfocbbofabGreatDoorWka
import Derived.Test.YtmgbkcfocbbofabGreatDoorShl
import Derived.Lib.ItoaMem
namespace Go.Proofs.YtmgbkcfocbbofabGreatDoor
open Go.RowKit Go.Lib Go.Sort

abbrev encU : UInt8 → Value := fun b => Value.int .u8 (b.toNat : Int)
theorem grown_putRow (w : World) (blk off : Nat) (d : Array UInt8) : w.grownBy (putRow encU w blk off d) (some blk) := by
  refine ⟨rfl, rfl, rfl, ?_, fun i hi hn => ?_⟩
  · simp [putRow, mapBlock]
  · have : i ≠ blk := fun e => hn (by rw [e])
    simp [putRow, mapBlock, Array.getElem?_modify, Ne.symm this]
theorem nd300 : Lib.nDigits 300 = 3 := by
  rw [Lib.nDigits]; simp
  rw [Lib.nDigits]; simp
  rw [Lib.nDigits]; simp
theorem dk300 {v' : Nat} {dk : Array UInt8} (h : FmtInv 3 300 0 v' dk) : dk = #[51, 48, 48] := by
  have h0 := h.done 0 (by omega) (by omega)
  have h1 := h.done 1 (by omega) (by omega)
  have h2 := h.done 2 (by omega) (by omega)
  have hs := h.size
  apply Array.ext
  · simpa using hs
  · intro i hi1 hi2
    have hi3 : i = 0 ∨ i = 1 ∨ i = 2 := by simp at hi2; omega
    rcases hi3 with rfl | rfl | rfl
    · rw [getElem!_pos dk 0 hi1] at h0; rw [h0]; rfl
    · rw [getElem!_pos dk 1 hi1] at h1; rw [h1]; rfl
    · rw [getElem!_pos dk 2 hi1] at h2; rw [h2]; rfl

set_option maxHeartbeats 1600000 in
set_option maxRecDepth 1000000 in
theorem fmt300 (w : World) (htab : Lib.TabIs Tryz.prog w "internal/strconv.uint64pow10" .u64 Lib.pow10Tab) :
    Calls Tryz.prog 89 #[.int .u64 300, .int .i64 10] w fun e w' => e = .returned (.string ⟨#[51, 48, 48]⟩) ∧ w.grownBy w' none := by
  go_enter Tryz.func89, Tryz.ntmps89
  go_wp2_with fail
  refine (Tryz.internal_strconv_numDigits 300 (by decide) (by decide) _ (Lib.tabIs_alloc htab _)).mono ?_
  rw [nd300]
  rintro e w' ⟨rfl, rfl⟩
  go_wp2_with fail
  have hH : Holds encU (w.alloc (.cells Lib.zeros24 138)) w.heap.size 0 #[0, 0, 0] := fun j hj => by
    have hj3 : j = 0 ∨ j = 1 ∨ j = 2 := by simp at hj; omega
    rcases hj3 with rfl | rfl | rfl <;> simp [Lib.zeros24]
  refine (Tryz.internal_strconv_formatBase10 w.heap.size 0 24 300 #[0, 0, 0] _ hH (by decide) (by decide) (by decide)).mono ?_
  rintro e w' ⟨rfl, k, v', dk, rfl, hF⟩
  have hdk := dk300 hF
  subst hdk
  have hH2 := holds_putRow encU (w.alloc (.cells Lib.zeros24 138)) w.heap.size 0 #[0, 0, 0] #[51, 48, 48] hH rfl
  have hcv := conv_src (w := (putRow encU (w.alloc (.cells Lib.zeros24 138)) w.heap.size 0 #[51, 48, 48]).drewN k) (s := .slice (some ⟨w.heap.size, 0, none⟩) 3 24) (L := [51, 48, 48]) (.inr ⟨_, _, _, rfl, fun j u hj => by
    have h := fun i hi => (hH2 i hi).1
    match j, hj with
    | 0, hj => simp at hj; subst hj; exact h 0 (by decide)
    | 1, hj => simp at hj; subst hj; exact h 1 (by decide)
    | 2, hj => simp at hj; subst hj; exact h 2 (by decide)
    | j + 3, hj => simp at hj⟩)
  have HG : Hid (w.grownBy ((putRow encU (w.alloc (.cells Lib.zeros24 138)) w.heap.size 0 #[51, 48, 48]).drewN k) none) := grownBy_drewN (grownBy_new (grow1 _ _) (Nat.le_refl _) (grown_putRow _ _ _ _)) k
  clear hF hH hH2 htab
  generalize (putRow encU (w.alloc (.cells Lib.zeros24 138)) w.heap.size 0 #[51, 48, 48]).drewN k = w2 at *
  go_wp2_with fail
  go_ret
  exact ⟨rfl, HG.out⟩

set_option maxHeartbeats 1600000 in
set_option maxRecDepth 1000000 in
theorem groupText300 (w : World) (htab : Lib.TabIs Tryz.prog w "internal/strconv.uint64pow10" .u64 Lib.pow10Tab) :
    Calls Tryz.prog 35 #[.int .u32 300] w fun e w' => e = .returned (.string ⟨#[51, 48, 48]⟩) ∧ w.grownBy w' none := by
  have h := fmt300 w htab
  have H : Hid (Calls Tryz.prog 89 #[.int .u64 300, .int .i64 10] w fun e w' => e = .returned (.string ⟨#[51, 48, 48]⟩) ∧ w.grownBy w' none) := h
  clear h htab
  go_enter Tryz.func35, Tryz.ntmps35
  go_wp2_with fail
  go_enter Tryz.func63, Tryz.ntmps63
  go_wp2_with fail
  refine H.out.mono ?_
  rintro e w1 ⟨rfl, hg⟩
  go_wp2_with fail
  go_ret
  exact ⟨rfl, hg⟩
end Go.Proofs.YtmgbkcfocbbofabGreatDoor
