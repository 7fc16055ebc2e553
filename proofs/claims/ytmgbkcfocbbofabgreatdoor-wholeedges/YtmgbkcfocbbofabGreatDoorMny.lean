/-
  The law's many: a byte, many times.
-/
import Derived.Test.YtmgbkcfocbbofabGreatDoorRga
namespace Go.Proofs.YtmgbkcfocbbofabGreatDoor
open Go.RowKit Go.Lib Go.Sort

theorem rep_set (c n k : Nat) (hk : k < n) : (List.replicate k c ++ List.replicate (n - k) 0).set k c = List.replicate (k + 1) c ++ List.replicate (n - (k + 1)) 0 := by
  obtain ⟨q, hq⟩ : ∃ q, n - k = q + 1 := ⟨n - k - 1, by omega⟩
  rw [hq, show n - (k + 1) = q by omega, List.set_append_right _ _ (by simp), List.length_replicate, Nat.sub_self, List.replicate_succ, List.set_cons_zero, List.replicate_succ', List.append_assoc]
  rfl
theorem BlkL.srcB {w : World} {B : Nat} {L : List Int} (h : BlkL w B 5 encB L) (c : Nat) : Src w (.slice (some ⟨B, 0, none⟩) L.length c) L := by
  refine .inr ⟨B, 0, c, rfl, fun j u hu => ?_⟩
  unfold BlkL at h
  simp [World.cell?, h]
  simpa using hu
set_option maxHeartbeats 1600000 in
set_option maxRecDepth 1000000 in
theorem many_any (c : Nat) (hc : c < 256) (s : ByteArray) (hs : s.size = 1) (h0 : s[0].toNat = c) (n : Nat) (hn : n ≤ 100000) (w : World) :
    Calls Tryz.prog 23 #[.string s, .int .i64 (n : Int)] w fun e w' => ∃ m, e = .returned (.string m) ∧ bN m = List.replicate n c ∧ w.grownBy w' none := by
  have hnI : (n : Int) ≤ 100000 := by omega
  have hmk := make1 w n (by omega)
  have hsI : (s.size : Int) = 1 := by omega
  have hsp : 0 < s.size := by omega
  go_enter Tryz.func23, Tryz.ntmps23
  go_wp2_with fail
  have HB0 : Hid (BlkL (w.alloc (.cells ((ints (List.replicate n 0)).map encB).toArray 5)) w.heap.size 5 encB (ints (List.replicate 0 c ++ List.replicate (n - 0) 0))) := heap_alloc_new _ _
  go_loopw [6] (fun s wr => ∃ k, k ≤ n ∧ s = .int .i64 (k : Nat) ∧ BlkL wr w.heap.size 5 encB (ints (List.replicate k c ++ List.replicate (n - k) 0)) ∧ w.grownBy wr none) (fun s _ => n - (RowKit.intOf s).toNat)
  case atStart => exact ⟨0, by omega, rfl, HB0.out, grow1 _ _⟩
  case round =>
    obtain ⟨k, hk, rfl, hB, hg⟩ := hrel
    have HB : Hid (BlkL wr w.heap.size 5 encB (ints (List.replicate k c ++ List.replicate (n - k) 0))) := hB
    have HG : Hid (w.grownBy wr none) := hg
    have hl : (ints (List.replicate k c ++ List.replicate (n - k) 0)).length = n := by rw [ints_length]; simp; omega
    by_cases hk1 : k < n
    · have hkI : (k : Int) < n := by omega
      have hc0 := hB.cell k (by omega)
      have hf := hB.frozen k
      have HN : Hid (BlkL (wr.setCell ⟨w.heap.size, k, none⟩ (.int .u8 (c : Int))) w.heap.size 5 encB (ints (List.replicate (k + 1) c ++ List.replicate (n - (k + 1)) 0))) := (by
        have := hB.set k (c : Int)
        rw [ints_set, rep_set c n k hk1] at this
        exact this)
      clear hB hg HB0 hmk
      go_wp2_with fail
      go_roundw
      case rel => exact ⟨k + 1, by omega, rfl, HN.out, grown_set HG.out (Nat.le_refl _)⟩
      case measure => simp [RowKit.intOf]; omega
    · obtain rfl : k = n := by omega
      have hsr := hB.srcB k
      rw [hl] at hsr
      have hcv := conv_src hsr
      clear hB hg HB0 hmk
      go_wp2_with fail
      go_ret
      refine ⟨_, rfl, ?_, HG.out⟩
      exact bN_strOf _ (fun x hx => by rw [List.eq_of_mem_replicate hx]; exact hc)
end Go.Proofs.YtmgbkcfocbbofabGreatDoor
