/-
  The digits of 300, and what is left of them when they are 0: digitsOf, trim.
-/
import Derived.Test.YtgemkfiippooeaaGreatDoorBunWka
namespace Go.Proofs.YtgemkfiippooeaaGreatDoor
open Go.RowKit Go.Lib Go.Sort

def st300 : Nat → Int
  | 0 => 0
  | 1 => 1
  | _ => 300

set_option maxHeartbeats 1600000 in
set_option maxRecDepth 1000000 in
theorem digitsOf300 (w : World) :
    Calls Tryz.prog 104 #[.string ⟨#[1, 44]⟩] w fun e w' => ∃ B, e = .returned (.slice (some ⟨B, 0, none⟩) 1 1) ∧ w.heap.size ≤ B ∧ BlkL w' B 87 enc4 [300] ∧ w.grownBy w' none := by
  have hmk : (Instr.makeSlice 88 (.int .i64 1) (.int .i64 1)).run Tryz.prog w = .ok (.slice (some ⟨w.heap.size, 0, none⟩) 1 1) (w.alloc (.cells #[.int .u32 0] 87)) := make4 w 1 (by omega)
  go_enter Tryz.func104, Tryz.ntmps104
  go_wp2
  go_loopw [14] (fun s wr => ∃ k : Nat, k ≤ 2 ∧ s = .int .i64 k ∧ BlkL wr w.heap.size 87 enc4 [st300 k] ∧ w.grownBy wr none) (fun s _ => 2 - (RowKit.intOf s).toNat)
  case atStart => exact ⟨0, by omega, rfl, heap_alloc_new _ _, grow1 _ _⟩
  case round =>
    obtain ⟨k, hk, rfl, hB, hgr⟩ := hrel
    clear hmk
    have HGr : Hid (w.grownBy wr none) := hgr
    have hc := hB.cell 0 (by simp)
    have hf := hB.frozen 0
    clear hgr
    have hks : k = 0 ∨ k = 1 ∨ k = 2 := by omega
    rcases hks with rfl | rfl | rfl
    · simp only [st300, List.getElem?_cons_zero, Option.getD_some] at hc
      go_wp2
      have hB2 : BlkL (wr.setCell ⟨w.heap.size, 0, none⟩ (.int .u32 0)) w.heap.size 87 enc4 [0] := hB.set 0 0
      have HG2 : Hid (w.grownBy (wr.setCell ⟨w.heap.size, 0, none⟩ (.int .u32 0)) none) := grown_set HGr.out (Nat.le_refl _)
      clear hc hf hB HGr
      generalize wr.setCell ⟨w.heap.size, 0, none⟩ (.int .u32 0) = w2 at *
      have hc2 := hB2.cell 0 (by simp)
      have hf2 := hB2.frozen 0
      simp only [List.getElem?_cons_zero, Option.getD_some] at hc2
      go_region
      go_wp2
      go_roundw
      case rel => exact ⟨1, by omega, rfl, hB2.set 0 1, grow_drew (grown_set HG2.out (Nat.le_refl _))⟩
      case measure => simp [RowKit.intOf]
    · simp only [st300, List.getElem?_cons_zero, Option.getD_some] at hc
      go_wp2
      have hB2 : BlkL (wr.setCell ⟨w.heap.size, 0, none⟩ (.int .u32 256)) w.heap.size 87 enc4 [256] := hB.set 0 256
      have HG2 : Hid (w.grownBy (wr.setCell ⟨w.heap.size, 0, none⟩ (.int .u32 256)) none) := grown_set HGr.out (Nat.le_refl _)
      clear hc hf hB HGr
      generalize wr.setCell ⟨w.heap.size, 0, none⟩ (.int .u32 256) = w2 at *
      have hc2 := hB2.cell 0 (by simp)
      have hf2 := hB2.frozen 0
      simp only [List.getElem?_cons_zero, Option.getD_some] at hc2
      go_region
      go_wp2
      go_roundw
      case rel => exact ⟨2, by omega, rfl, hB2.set 0 300, grow_drew (grown_set HG2.out (Nat.le_refl _))⟩
      case measure => simp [RowKit.intOf]
    · simp only [st300] at hB
      clear hc hf
      go_wp2
      go_ret
      exact ⟨w.heap.size, rfl, Nat.le_refl _, hB, HGr.out⟩

set_option maxHeartbeats 1600000 in
set_option maxRecDepth 1000000 in
theorem trim_none (w : World) (B : Nat) (c : Nat) : Calls Tryz.prog 115 #[.slice (some ⟨B, 0, none⟩) 0 c] w fun e w' => e = .returned (.slice (some ⟨B, 0, none⟩) 0 c) ∧ w' = w := by
  go_enter Tryz.func115, Tryz.ntmps115
  go_wp2
  go_loopw [0] (fun s wr => s = .slice (some ⟨B, 0, none⟩) 0 c ∧ wr = w) (fun _ _ => 0)
  case atStart => exact ⟨rfl, rfl⟩
  case round =>
    obtain ⟨rfl, rfl⟩ := hrel
    go_wp2
    go_ret
    exact ⟨rfl, rfl⟩

set_option maxHeartbeats 1600000 in
set_option maxRecDepth 1000000 in
theorem trim_one (w : World) (B : Nat) (h : BlkL w B 87 enc4 [0]) : Calls Tryz.prog 115 #[.slice (some ⟨B, 0, none⟩) 1 1] w fun e w' => e = .returned (.slice (some ⟨B, 0, none⟩) 0 1) ∧ w' = w := by
  have hc := h.cell 0 (by simp)
  simp only [List.getElem?_cons_zero, Option.getD_some] at hc
  clear h
  go_enter Tryz.func115, Tryz.ntmps115
  go_wp2
  go_loopw [0] (fun s wr => ∃ n : Nat, n ≤ 1 ∧ s = .slice (some ⟨B, 0, none⟩) n 1 ∧ wr = w) (fun s _ => match s with | .slice _ n _ => n | _ => 0)
  case atStart => exact ⟨1, by omega, rfl, rfl⟩
  case round =>
    obtain ⟨n, hn, rfl, rfl⟩ := hrel
    have hns : n = 0 ∨ n = 1 := by omega
    rcases hns with rfl | rfl
    · go_wp2
      go_ret
      exact ⟨rfl, rfl⟩
    · go_wp2
      go_roundw
      case rel => exact ⟨0, by omega, rfl, trivial⟩
      case measure => simp
end Go.Proofs.YtgemkfiippooeaaGreatDoor
