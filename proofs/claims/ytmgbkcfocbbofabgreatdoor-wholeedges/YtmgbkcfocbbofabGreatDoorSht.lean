/-
  The program's short, divShort, gcdWords, gcd of short numbers.
-/
import Derived.Test.YtmgbkcfocbbofabGreatDoorAll
namespace Go.Proofs.YtmgbkcfocbbofabGreatDoor
open Go.RowKit Go.Lib Go.Sort

theorem grownBy_undrew {a b : World} {row : Option Nat} (h : a.drew.grownBy b row) : a.grownBy b row :=
  ⟨h.os, h.tape, h.output, h.size, fun i hi hn => h.block i hi hn⟩
theorem at_alloc3 (w : World) (a b c : Obj) : (((w.alloc a).alloc b).alloc c).heap[w.heap.size + 2]? = some c := by
  have h := heap_alloc_new ((w.alloc a).alloc b) c
  rw [World.size_alloc, World.size_alloc] at h
  exact h
theorem isSmall_seven {neg : Bool} {mag : ByteArray} (h : mag.size ≤ 7) : isSmall neg mag = true := by
  have h1 := val_lt (bN mag) (bN_rng mag)
  rw [bN_length] at h1
  have h2 : 256 ^ mag.size ≤ 256 ^ 7 := Nat.pow_le_pow_right (by decide) h
  have e : 256 ^ 7 = 72057594037927936 := by decide
  unfold isSmall
  rw [decide_eq_true (by omega), Bool.true_and]
  cases neg
  · simp only [Bool.false_eq_true, if_false]
    exact decide_eq_true (by omega)
  · simp only [if_true]
    exact decide_eq_true (by omega)
theorem small_seven (neg : Bool) (mag : ByteArray) (h : may neg mag = true) (h7 : mag.size ≤ 7) (w : World) :
    Calls Tryz.prog 71 #[whole neg mag] w fun e w' => e = .returned (.tuple #[.int .i64 (num neg mag), .bool true]) ∧ w.grownBy w' none := by
  have := small_yes neg mag h w
  rw [isSmall_seven h7, if_pos rfl] at this
  exact this

set_option maxHeartbeats 1600000 in
set_option maxRecDepth 1000000 in
theorem short_yes (n1 n2 : Bool) (m1 m2 : ByteArray) (h1 : may n1 m1 = true) (h2 : may n2 m2 = true) (h8 : m1.size + m2.size ≤ 7) (w : World) :
    Calls Tryz.prog 48 #[whole n1 m1, whole n2 m2] w fun e w' => e = .returned (.tuple #[.int .i64 (num n1 m1), .int .i64 (num n2 m2), .bool true]) ∧ w.grownBy w' none := by
  have s1 := fun w => small_seven n1 m1 h1 (by omega) w
  have s2 := fun w => small_seven n2 m2 h2 (by omega) w
  have S1 : Hid (∀ w, Calls Tryz.prog 71 #[whole n1 m1] w fun e w' => e = .returned (.tuple #[.int .i64 (num n1 m1), .bool true]) ∧ w.grownBy w' none) := s1
  have S2 : Hid (∀ w, Calls Tryz.prog 71 #[whole n2 m2] w fun e w' => e = .returned (.tuple #[.int .i64 (num n2 m2), .bool true]) ∧ w.grownBy w' none) := s2
  clear s1 s2
  generalize num n1 m1 = x at *
  generalize num n2 m2 = y at *
  go_enter Tryz.func48, Tryz.ntmps48
  go_wp2_with fail
  refine (S1.out _).mono ?_
  rintro e w1 ⟨rfl, hg1⟩
  have hb2 : WBlk w1 (w.heap.size + 1) (.bool n2) (.string m2) := WBlk.kept (w := (w.alloc (wObj n1 m1)).alloc (wObj n2 m2)) (heap_alloc2_new _ _ _) hg1 (by simp)
  have hc0 := hb2.c0
  have hc1 := hb2.c1
  have HG1 : Hid (w.grownBy w1 none) := grownBy_trans (grow2 _ _ _) hg1
  clear hg1 hb2 S1
  go_wp2_with fail
  refine (S2.out _).mono ?_
  rintro e w2 ⟨rfl, hg2⟩
  have HG2 : Hid (w.grownBy w2 none) := grownBy_trans HG1.out hg2
  clear hg2 S2
  go_wp2_with fail
  go_ret3
  exact ⟨rfl, HG2.out⟩

set_option maxHeartbeats 1600000 in
set_option maxRecDepth 1000000 in
theorem gcdWords_any (a b : Nat) (ha : a ≤ 18446744073709551615) (hb : b ≤ 18446744073709551615) (w : World) :
    Calls Tryz.prog 78 #[.int .u64 a, .int .u64 b] w fun e w' => e = .returned (.int .u64 ((Nat.gcd a b : Nat) : Int)) ∧ w.grownBy w' none := by
  obtain ⟨g, hg⟩ : ∃ g, Nat.gcd a b = g := ⟨_, rfl⟩
  rw [hg]
  have HG : Unit → Nat.gcd a b = g := fun _ => hg
  clear hg
  go_enter Tryz.func78, Tryz.ntmps78
  go_wp2
  go_loopw [0, 1] (fun s t wr => ∃ (x y : Nat), s = .int .u64 x ∧ t = .int .u64 y ∧ x ≤ 18446744073709551615 ∧ y ≤ 18446744073709551615 ∧ Nat.gcd x y = g ∧ w.grownBy wr none) (fun _ t _ => (RowKit.intOf t).toNat)
  case atStart => exact ⟨a, b, rfl, rfl, ha, hb, HG (), World.grownBy.refl _ _⟩
  case round =>
    obtain ⟨x, y, rfl, rfl, hx, hy, he, hgr⟩ := hrel
    have HE : Unit → Nat.gcd x y = g := fun _ => he
    have HGr : Hid (w.grownBy wr none) := hgr
    clear he hgr
    by_cases hy0 : y = 0
    · subst hy0
      have : x = g := by rw [← HE (), Nat.gcd_zero_right]
      subst this
      go_wp2
      go_ret
      exact ⟨rfl, HGr.out⟩
    · have hyI : (0 : Int) < y := by omega
      have hne : ((y : Int) == 0) = false := by rw [beq_eq_false_iff_ne]; omega
      go_wp2
      go_region
      go_wp2
      go_roundw
      case rel =>
        refine ⟨y, x % y, rfl, num_eq (by omega), hy, ?_, ?_, grow_drew HGr.out⟩
        · have := Nat.mod_lt x (show 0 < y by omega)
          omega
        · rw [← HE (), Nat.gcd_comm y, ← Nat.gcd_rec, Nat.gcd_comm]
      case measure =>
        have := Nat.mod_lt x (show 0 < y by omega)
        simp [RowKit.intOf]
        omega

set_option maxHeartbeats 1600000 in
set_option maxRecDepth 1000000 in
theorem gcd_small (n1 n2 : Bool) (m1 m2 : ByteArray) (h1 : m1.size ≤ 8) (h2 : m2.size ≤ 8) (w : World) :
    Calls Tryz.prog 54 #[whole n1 m1, whole n2 m2] w fun e w' => ∃ s, e = .returned (whole false s) ∧ bN s = magN (Nat.gcd (val (bN m1)) (val (bN m2))) ∧ w.grownBy w' none := by
  have v1 := val_size h1
  have v2 := val_size h2
  have g0 := fun w => gcdWords_any (val (bN m1)) (val (bN m2)) (by omega) (by omega) w
  have hgl : Nat.gcd (val (bN m1)) (val (bN m2)) < 18446744073709551616 := by
    rcases Nat.eq_zero_or_pos (val (bN m1)) with h | h
    · rw [h, Nat.gcd_zero_left]; exact v2
    · exact Nat.lt_of_le_of_lt (Nat.gcd_le_left _ h) v1
  have mg := fun w => magOfWord_any (Nat.gcd (val (bN m1)) (val (bN m2))) hgl w
  have G0 : Hid (∀ w, Calls Tryz.prog 78 #[.int .u64 (val (bN m1)), .int .u64 (val (bN m2))] w fun e w' => e = .returned (.int .u64 ((Nat.gcd (val (bN m1)) (val (bN m2)) : Nat) : Int)) ∧ w.grownBy w' none) := g0
  have MG : Hid (∀ w, Calls Tryz.prog 60 #[.int .u64 ((Nat.gcd (val (bN m1)) (val (bN m2)) : Nat) : Int)] w fun e w' => ∃ s, e = .returned (.string s) ∧ bN s = magN (Nat.gcd (val (bN m1)) (val (bN m2))) ∧ w.grownBy w' none) := mg
  clear g0 mg v1 v2 hgl
  generalize Nat.gcd (val (bN m1)) (val (bN m2)) = g at *
  go_enter Tryz.func54, Tryz.ntmps54
  go_wp2_with fail
  have HKK : Hid (∀ w', ((w.alloc (wObj n1 m1)).alloc (wObj n2 m2)).grownBy w' none → w'.cell? ⟨w.heap.size, 1, none⟩ = some (Value.string m1) ∧ w'.cell? ⟨w.heap.size + 1, 1, none⟩ = some (Value.string m2) ∧ ((w.alloc (wObj n1 m1)).alloc (wObj n2 m2)).grownBy w' none) :=
    fun w' hg => ⟨grownBy_cell hg (WBlk.c1 (a := .bool n1) (old_alloc _ _ (heap_alloc_new _ _))) (by simp), grownBy_cell hg (WBlk.c1 (a := .bool n2) (heap_alloc2_new _ _ _)) (by simp), hg⟩
  go_region_held3 (fun w' => w'.cell? ⟨w.heap.size, 1, none⟩ = some (Value.string m1) ∧ w'.cell? ⟨w.heap.size + 1, 1, none⟩ = some (Value.string m2) ∧ ((w.alloc (wObj n1 m1)).alloc (wObj n2 m2)).grownBy w' none) (first | (go_keep; done) | exact HKK.out _ (grow_drew (grow1 _ _)) | exact HKK.out _ (grown_set (grown_set (grownBy_trans (grow1 _ _) GM) (by simp)) (by simp)) | exact HKK.out _ (grownBy_trans (grow1 _ _) GM) | exact HKK.out _ (grownBy_trans (grow1 _ _) GG) | fail) (first | (go_at_call 79; refine (wordOf_any _ (by first | exact h1 | exact h2) _).mono ?_; rintro e w' ⟨rfl, rfl⟩) | (go_at_call 78; refine (G0.out _).mono ?_; rintro e wG ⟨rfl, hgG⟩; have GG : ((((w.alloc (wObj n1 m1)).alloc (wObj n2 m2)).alloc (wObj false eS))).grownBy wG none := grownBy_undrew hgG) | (go_at_call 60; refine (MG.out _).mono ?_; rintro e wM ⟨s, rfl, hs, hgM⟩; have GM : ((((w.alloc (wObj n1 m1)).alloc (wObj n2 m2)).alloc (wObj false eS))).grownBy wM none := grownBy_trans GG hgM; have hW : WBlk wM (w.heap.size + 2) (.bool false) (.string eS) := WBlk.kept (w := (((w.alloc (wObj n1 m1)).alloc (wObj n2 m2)).alloc (wObj false eS))) (at_alloc3 _ _ _ _) GM (by simp); have hc0 := hW.c0; have hc1 := hW.c1; have hf0 := hW.fr 0; have hf1 := hW.fr 1) | fail)
  go_wp2_with fail
  refine bodyPost_ret (res_cell rfl _ _ (w.heap.size + 2) _ _ _ _ rfl (hW.put _ _)) rfl ?_
  exact ⟨s, rfl, hs, grown_set (grown_set (grownBy_trans (grow3 _ _ _ _) GM) (by omega)) (by omega)⟩
end Go.Proofs.YtmgbkcfocbbofabGreatDoor
