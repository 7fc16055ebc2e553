/-
  What the program's Of, Small, Bits and Bit answer.
-/
import Derived.Test.YtaldmfbicddcbaaGreatDoorWrd
import Derived.Test.YtaldmfbicddcbaaGreatDoorNat
namespace Go.Proofs.YtaldmfbicddcbaaGreatDoor
open Go.RowKit Go.Lib Go.Sort

/-- A block that bears a whole number. -/
def WBlk (w : World) (B : Nat) (a b : Value) : Prop := w.heap[B]? = some (.cells #[a, b] 23 (0, 0))
theorem WBlk.lt {w : World} {B : Nat} {a b : Value} (h : WBlk w B a b) : B < w.heap.size := (Array.getElem?_eq_some_iff.1 h).1
theorem WBlk.c0 {w : World} {B : Nat} {a b : Value} (h : WBlk w B a b) : w.cell? ⟨B, 0, none⟩ = some a := by
  unfold WBlk at h; simp [World.cell?, h]
theorem WBlk.c1 {w : World} {B : Nat} {a b : Value} (h : WBlk w B a b) : w.cell? ⟨B, 1, none⟩ = some b := by
  unfold WBlk at h; simp [World.cell?, h]
theorem WBlk.fr {w : World} {B : Nat} {a b : Value} (h : WBlk w B a b) (i : Nat) : w.frozen? ⟨B, i, none⟩ = false := by
  unfold WBlk at h; simp [World.frozen?, h]
theorem WBlk.put {w : World} {B : Nat} {a b : Value} (h : WBlk w B a b) (x y : Value) : WBlk ((w.setCell ⟨B, 0, none⟩ x).setCell ⟨B, 1, none⟩ y) B x y := by
  unfold WBlk at *
  simp [World.setCell, Array.getElem?_modify, h]
theorem WBlk.kept {w w' : World} {row : Option Nat} {B : Nat} {a b : Value} (h : WBlk w B a b) (hg : w.grownBy w' row) (hn : row ≠ some B) : WBlk w' B a b :=
  (hg.block B h.lt (fun e => hn e.symm)).trans h

set_option maxHeartbeats 1600000 in
set_option maxRecDepth 1000000 in
theorem of_any (n : Int) (h0 : -9223372036854775808 ≤ n) (h1 : n ≤ 9223372036854775807) (w : World) :
    Calls Tryz.prog 13 #[.int .i64 n] w fun e w' => ∃ s, e = .returned (whole (decide (n < 0)) s) ∧ bN s = magN n.natAbs ∧ w.grownBy w' none := by
  by_cases hn : n < 0
  · obtain ⟨a, rfl⟩ : ∃ a : Nat, n = -(a : Int) := ⟨n.natAbs, by omega⟩
    go_enter Tryz.func13, Tryz.ntmps13
    have hw : IntKind.u64.wrap (-IntKind.u64.wrap (-(a : Int))) = a := by rw [IntKind.wrap_u64, IntKind.wrap_u64]; omega
    go_wp2_with fail
    refine (magOfWord_any a (by omega) _).mono ?_
    rintro e w1 ⟨s, rfl, hs, hg⟩
    have hb : WBlk w1 w.heap.size (.bool false) (.string eS) := WBlk.kept (w := w.alloc (wObj false eS)) (heap_alloc_new _ _) hg (by simp)
    have hc0 := hb.c0
    have hc1 := hb.c1
    have hf0 := hb.fr 0
    have hf1 := hb.fr 1
    have HG : Hid ((w.alloc (wObj false eS)).grownBy w1 none) := hg
    clear hg
    go_wp2_with fail
    refine bodyPost_ret (res_cell rfl _ _ w.heap.size _ _ _ _ rfl (hb.put _ _)) rfl ?_
    refine ⟨s, ret_val ?_, by rw [hs]; congr 1; omega, grown_set (grown_set (grownBy_trans (grow1 _ _) HG.out) (Nat.le_refl _)) (Nat.le_refl _)⟩
    rw [decide_eq_true hn]
  · obtain ⟨a, rfl⟩ := Int.eq_ofNat_of_zero_le (show 0 ≤ n by omega)
    go_enter Tryz.func13, Tryz.ntmps13
    go_wp2_with fail
    refine (magOfWord_any a (by omega) _).mono ?_
    rintro e w1 ⟨s, rfl, hs, hg⟩
    have hb : WBlk w1 w.heap.size (.bool false) (.string eS) := WBlk.kept (w := w.alloc (wObj false eS)) (heap_alloc_new _ _) hg (by simp)
    have hc0 := hb.c0
    have hc1 := hb.c1
    have hf0 := hb.fr 0
    have hf1 := hb.fr 1
    have HG : Hid ((w.alloc (wObj false eS)).grownBy w1 none) := hg
    clear hg
    go_wp2_with fail
    refine bodyPost_ret (res_cell rfl _ _ w.heap.size _ _ _ _ rfl (hb.put _ _)) rfl ?_
    refine ⟨s, ret_val ?_, by rw [hs]; rfl, grown_set (grown_set (grownBy_trans (grow1 _ _) HG.out) (Nat.le_refl _)) (Nat.le_refl _)⟩
    rw [decide_eq_false (by omega)]

/-- Is it an int64 (of one that may be)? -/
def isSmall (neg : Bool) (mag : ByteArray) : Bool := decide (mag.size ≤ 8) && (if neg then decide (val (bN mag) ≤ 9223372036854775808) else decide (val (bN mag) < 9223372036854775808))
/-- The number. -/
def num (neg : Bool) (mag : ByteArray) : Int := if neg then -(val (bN mag) : Int) else val (bN mag)
theorem val_size {mag : ByteArray} (h : mag.size ≤ 8) : val (bN mag) < 18446744073709551616 := by
  have h1 := val_lt (bN mag) (bN_rng mag)
  rw [bN_length] at h1
  have : 256 ^ mag.size ≤ 256 ^ 8 := Nat.pow_le_pow_right (by decide) h
  have e : 256 ^ 8 = 18446744073709551616 := by decide
  omega

set_option maxHeartbeats 1600000 in
set_option maxRecDepth 1000000 in
theorem small_no (neg : Bool) (mag : ByteArray) (hm : mag.size ≤ maxLen) (h : may neg mag = false) (w : World) :
    Calls Tryz.prog 11 #[whole neg mag] w fun e w' => e = .returned (.tuple #[.int .i64 0, .bool false]) ∧ w.grownBy w' none := by
  go_enter Tryz.func11, Tryz.ntmps11
  go_wp2_with (go_at_call 17; refine (check_any neg mag hm _).mono ?_; rw [chk_no h]; rintro e w' ⟨rfl, rfl⟩)
  go_ret2
  exact ⟨rfl, grow2 _ _ _⟩

set_option maxHeartbeats 1600000 in
set_option maxRecDepth 1000000 in
theorem small_yes (neg : Bool) (mag : ByteArray) (h : may neg mag = true) (w : World) :
    Calls Tryz.prog 11 #[whole neg mag] w fun e w' => e = .returned (.tuple #[.int .i64 (if isSmall neg mag = true then num neg mag else 0), .bool (isSmall neg mag)]) ∧ w.grownBy w' none := by
  have hm1 := may_size h
  have hm : mag.size ≤ maxLen := by unfold maxLen; omega
  by_cases h8 : mag.size ≤ 8
  · have hv := val_size h8
    have hwo := wordOf_any mag h8
    cases neg
    · by_cases hs : val (bN mag) < 9223372036854775808
      · have e1 : isSmall false mag = true := by simp [isSmall, h8, hs]
        have e2 : num false mag = val (bN mag) := rfl
        rw [e1, if_pos rfl, e2]
        have HW : Hid (∀ w, Calls Tryz.prog 57 #[.string mag] w fun e w' => e = .returned (.int .u64 (val (bN mag))) ∧ w' = w) := hwo
        clear hwo e1 e2
        have hs1 : ((val (bN mag) : Nat) : Int) < 9223372036854775808 := by omega
        have hs0 : (0 : Int) ≤ ((val (bN mag) : Nat) : Int) := by omega
        clear hs hv
        generalize ((val (bN mag) : Nat) : Int) = v at *
        go_enter Tryz.func11, Tryz.ntmps11
        go_wp2_with (first | (go_at_call 17; refine (check_any false mag hm _).mono ?_; rw [chk_yes h]; rintro e w' ⟨rfl, rfl⟩) | (go_at_call 57; refine (HW.out _).mono ?_; rintro e w' ⟨rfl, rfl⟩))
        go_ret2
        exact ⟨rfl, grow2 _ _ _⟩
      · have e1 : isSmall false mag = false := by simp [isSmall, hs]
        rw [e1, if_neg (by simp)]
        have HW : Hid (∀ w, Calls Tryz.prog 57 #[.string mag] w fun e w' => e = .returned (.int .u64 (val (bN mag))) ∧ w' = w) := hwo
        clear hwo e1
        have hs1 : 9223372036854775808 ≤ ((val (bN mag) : Nat) : Int) := by omega
        clear hs hv
        generalize ((val (bN mag) : Nat) : Int) = v at *
        go_enter Tryz.func11, Tryz.ntmps11
        go_wp2_with (first | (go_at_call 17; refine (check_any false mag hm _).mono ?_; rw [chk_yes h]; rintro e w' ⟨rfl, rfl⟩) | (go_at_call 57; refine (HW.out _).mono ?_; rintro e w' ⟨rfl, rfl⟩))
        go_ret2
        exact ⟨rfl, grow2 _ _ _⟩
    · by_cases hs : val (bN mag) ≤ 9223372036854775808
      · have e1 : isSmall true mag = true := by simp [isSmall, h8, hs]
        have e2 : num true mag = -(val (bN mag) : Int) := rfl
        rw [e1, if_pos rfl, e2]
        have HW : Hid (∀ w, Calls Tryz.prog 57 #[.string mag] w fun e w' => e = .returned (.int .u64 (val (bN mag))) ∧ w' = w) := hwo
        clear hwo e1 e2
        generalize val (bN mag) = v at *
        have HWR : Hid (wrap64 (-wrap64 (v : Int)) = -(v : Int)) := by
          have hw : wrap64 (-wrap64 (v : Int)) = -(v : Int) := by unfold wrap64; omega
          exact hw
        go_enter Tryz.func11, Tryz.ntmps11
        go_wp2_with (first | (go_at_call 17; refine (check_any true mag hm _).mono ?_; rw [chk_yes h]; rintro e w' ⟨rfl, rfl⟩) | (go_at_call 57; refine (HW.out _).mono ?_; rintro e w' ⟨rfl, rfl⟩))
        go_ret2
        rw [← HWR.out]
        exact ⟨rfl, grow2 _ _ _⟩
      · have e1 : isSmall true mag = false := by simp [isSmall, hs]
        rw [e1, if_neg (by simp)]
        have HW : Hid (∀ w, Calls Tryz.prog 57 #[.string mag] w fun e w' => e = .returned (.int .u64 (val (bN mag))) ∧ w' = w) := hwo
        clear hwo e1
        generalize val (bN mag) = v at *
        go_enter Tryz.func11, Tryz.ntmps11
        go_wp2_with (first | (go_at_call 17; refine (check_any true mag hm _).mono ?_; rw [chk_yes h]; rintro e w' ⟨rfl, rfl⟩) | (go_at_call 57; refine (HW.out _).mono ?_; rintro e w' ⟨rfl, rfl⟩))
        go_ret2
        exact ⟨rfl, grow2 _ _ _⟩
  · have e1 : isSmall neg mag = false := by simp [isSmall, h8]
    rw [e1, if_neg (by simp)]
    clear e1
    go_enter Tryz.func11, Tryz.ntmps11
    go_wp2_with (go_at_call 17; refine (check_any neg mag hm _).mono ?_; rw [chk_yes h]; rintro e w' ⟨rfl, rfl⟩)
    go_ret2
    exact ⟨rfl, grow2 _ _ _⟩
end Go.Proofs.YtaldmfbicddcbaaGreatDoor
