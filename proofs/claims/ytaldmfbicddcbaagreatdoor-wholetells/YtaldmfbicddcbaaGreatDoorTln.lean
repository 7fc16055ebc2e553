/-
  The walk over WholeTells, of a number that may be, and is no int64.
-/
import Derived.Test.YtaldmfbicddcbaaGreatDoorTls
namespace Go.Proofs.YtaldmfbicddcbaaGreatDoor
open Go.RowKit Go.Lib Go.Sort

set_option maxHeartbeats 6400000 in
set_option maxRecDepth 1000000 in
theorem tells_no (neg : Bool) (mag : ByteArray) (hb : may neg mag = true) (hS : isSmall neg mag = false) (i bt er : Int) (HBt : Hid (∀ w, Calls Tryz.prog 12 #[whole neg mag, .int .i64 i] w fun e w' => e = .returned (.tuple #[.int .i64 bt, .int .i64 er]) ∧ w.grownBy w' none))
    (hE : (i < 0 ∧ bt = 0 ∧ er = 2) ∨ (0 ≤ i ∧ er = 0 ∧ ∀ w, Calls Tryz.prog 27 #[whole neg mag, .int .i64 i] w fun e w' => e = .returned (.int .i64 bt) ∧ w.grownBy w' none)) (n : Int) (h0 : -9223372036854775808 ≤ n) (h1 : n ≤ 9223372036854775807) (w : World) (htab : Lib.TabIs Tryz.prog w "internal/strconv.uint64pow10" .u64 Lib.pow10Tab) :
    Calls Tryz.prog 3 #[whole neg mag, .int .i64 i, .int .i64 n] w fun e w' => e = .returned (.bool true) ∧ w.grownBy w' none := by
  obtain ⟨gp, hgp⟩ := pow10_g
  have HT : Hid (∀ w', w.grownBy w' none → Lib.TabIs Tryz.prog w' "internal/strconv.uint64pow10" .u64 Lib.pow10Tab) := fun w' hg => tab_kept hgp htab hg
  clear htab hgp
  have hm1 := may_size hb
  have hm : mag.size ≤ maxLen := by unfold maxLen; omega
  have HNg : Hid (∀ w, Calls Tryz.prog 9 #[whole neg mag] w fun e w' => e = .returned (.tuple #[whole (ngs neg mag) mag, .int .i64 0]) ∧ w.grownBy w' none) := fun w => neg_yes neg mag hm hb w
  have HRNg : Hid (∀ w, Calls Tryz.prog 23 #[whole neg mag] w fun e w' => e = .returned (whole (ngs neg mag) mag) ∧ w.grownBy w' none) := fun w => rNeg_any neg mag w
  have HSm : Hid (∀ w, Calls Tryz.prog 11 #[whole neg mag] w fun e w' => e = .returned (.tuple #[.int .i64 0, .bool false]) ∧ w.grownBy w' none) := fun w => by
    have := small_yes neg mag hb w
    rw [hS] at this
    rw [if_neg (by simp)] at this
    exact this
  have HRSm : Hid (∀ w, Calls Tryz.prog 22 #[whole neg mag] w fun e w' => ∃ y, e = .returned (.tuple #[.int .i64 y, .bool false]) ∧ True ∧ w.grownBy w' none) := fun w => by
    refine (rSmall_any neg mag hb w).mono ?_
    rw [hS]
    rintro e w' ⟨y, rfl, hy, hg⟩
    exact ⟨y, rfl, trivial, hg⟩
  have HSg : Hid (∀ w, Calls Tryz.prog 19 #[whole neg mag] w fun e w' => e = .returned (.int .i64 (sgn neg mag)) ∧ w.grownBy w' none) := fun w => sign_yes neg mag hm hb w
  have HRSg : Hid (∀ w, Calls Tryz.prog 25 #[whole neg mag] w fun e w' => e = .returned (.int .i64 (sgn neg mag)) ∧ w.grownBy w' none) := fun w => rSign_any neg mag w
  have HBs : Hid (∀ w, Calls Tryz.prog 20 #[whole neg mag] w fun e w' => e = .returned (.int .i64 (bl (val (bN mag)))) ∧ w.grownBy w' none) := fun w => bits_yes neg mag hb w
  have HRBs : Hid (∀ w, Calls Tryz.prog 26 #[whole neg mag] w fun e w' => e = .returned (.int .i64 (bl (val (bN mag)))) ∧ w.grownBy w' none) := fun w => rBits_any neg mag hb w
  have HCk : Hid (∀ w, Calls Tryz.prog 17 #[whole neg mag] w fun e w' => e = .returned (.int .i64 0) ∧ w' = w.alloc (wObj neg mag)) := fun w => by
    have := check_any neg mag hm w
    rw [chk_yes hb] at this
    exact this
  have HE : Hid ((i < 0 ∧ bt = 0 ∧ er = 2) ∨ (0 ≤ i ∧ er = 0 ∧ ∀ w, Calls Tryz.prog 27 #[whole neg mag, .int .i64 i] w fun e w' => e = .returned (.int .i64 bt) ∧ w.grownBy w' none)) := hE
  clear hE
  generalize ((bl (val (bN mag)) : Nat) : Int) = bv at *
  generalize sgn neg mag = sg at *
  generalize ngs neg mag = ng at *
  go_enter Tryz.func3, Tryz.ntmps3
  go_wp2_with fail
  refine (HNg.out _).mono ?_
  rintro e w1 ⟨rfl, g1⟩
  have b1 : WBlk w1 w.heap.size (.bool neg) (.string mag) := WBlk.kept (heap_alloc_new _ _) g1 (by simp)
  have G1 := grownBy_trans (grow1 _ _) g1
  have c0 := (b1.kept (grow1 w1 (wObj ng mag)) (by simp)).c0
  have c1 := (b1.kept (grow1 w1 (wObj ng mag)) (by simp)).c1
  clear g1 HNg
  go_wp2_with fail
  refine (abs_yes neg mag hm hb _).mono ?_
  rintro e w2 ⟨rfl, g2⟩
  have k2 : WBlk w2 w1.heap.size (.bool ng) (.string mag) := WBlk.kept (heap_alloc_new _ _) g2 (by simp)
  have b2 := b1.kept (grownBy_trans (grow1 _ _) g2) (by simp)
  have G2 := grownBy_trans G1 (grownBy_trans (grow1 _ _) g2)
  clear g2 G1 b1 c0 c1
  have c0 := (b2.kept (grow1 w2 (wObj false mag)) (by simp)).c0
  have c1 := (b2.kept (grow1 w2 (wObj false mag)) (by simp)).c1
  go_wp2_with fail
  refine (HSm.out _).mono ?_
  rintro e w3 ⟨rfl, g3⟩
  have j3 : WBlk w3 w2.heap.size (.bool false) (.string mag) := WBlk.kept (heap_alloc_new _ _) g3 (by simp)
  have k3 := k2.kept (grownBy_trans (grow1 _ _) g3) (by simp)
  have b3 := b2.kept (grownBy_trans (grow1 _ _) g3) (by simp)
  have G3 := grownBy_trans G2 (grownBy_trans (grow1 _ _) g3)
  clear g3 G2 b2 k2 c0 c1 HSm
  have c0 := b3.c0
  have c1 := b3.c1
  go_wp2_with fail
  refine (HBt.out _).mono ?_
  rintro e w4 ⟨rfl, g4⟩
  have j4 := j3.kept g4 (by simp)
  have k4 := k3.kept g4 (by simp)
  have b4 := b3.kept g4 (by simp)
  have G4 := grownBy_trans G3 g4
  clear g4 G3 b3 k3 j3 c0 c1 HBt
  go_wp2_with fail
  refine (of_any n h0 h1 _).mono ?_
  rintro e w5 ⟨s, rfl, hs, g5⟩
  go_wp2_with fail
  refine (rOf_any n h0 h1 _).mono ?_
  rintro e w6 ⟨s', rfl, hs', g6⟩
  obtain rfl : s = s' := bN_inj (hs.trans hs'.symm)
  have j6 := j4.kept (grownBy_trans g5 g6) (by simp)
  have k6 := k4.kept (grownBy_trans g5 g6) (by simp)
  have b6 := b4.kept (grownBy_trans g5 g6) (by simp)
  have G6 := grownBy_trans G4 (grownBy_trans g5 g6)
  clear g5 g6 G4 b4 k4 j4 hs hs'
  have c0 := b6.c0
  have c1 := b6.c1
  go_wp2_with fail
  refine (bad_any _ _ _ (dw_one w6 neg mag) (by simp) (by intro p hp; simp at hp; subst hp; exact hm)).mono ?_
  rintro e w7 ⟨rfl, g7⟩
  have hmb : mayAll [(neg, mag)] = true := by simp [mayAll, hb]
  rw [hmb]
  have g7 := grownBy_trans (grow1 _ _) g7
  have j7 := j6.kept g7 (by simp)
  have k7 := k6.kept g7 (by simp)
  have b7 := b6.kept g7 (by simp)
  have G7 := grownBy_trans G6 g7
  clear g7 G6 b6 k6 j6 c0 c1 hmb
  have c0 := b7.c0
  have c1 := b7.c1
  go_wp2_with fail
  refine (HRSm.out _).mono ?_
  rintro e w8 ⟨y, rfl, _, g8⟩
  have HKK : Hid (∀ w', w8.grownBy w' none → w'.cell? ⟨w.heap.size, 0, none⟩ = some (Value.bool neg) ∧ w'.cell? ⟨w.heap.size, 1, none⟩ = some (Value.string mag) ∧ w'.cell? ⟨w1.heap.size, 0, none⟩ = some (Value.bool ng) ∧ w'.cell? ⟨w1.heap.size, 1, none⟩ = some (Value.string mag) ∧ w'.cell? ⟨w2.heap.size, 0, none⟩ = some (Value.bool false) ∧ w'.cell? ⟨w2.heap.size, 1, none⟩ = some (Value.string mag)) :=
    fun w' hg => ⟨((b7.kept g8 (by simp)).kept hg (by simp)).c0, ((b7.kept g8 (by simp)).kept hg (by simp)).c1, ((k7.kept g8 (by simp)).kept hg (by simp)).c0, ((k7.kept g8 (by simp)).kept hg (by simp)).c1, ((j7.kept g8 (by simp)).kept hg (by simp)).c0, ((j7.kept g8 (by simp)).kept hg (by simp)).c1⟩
  have HG8 : Hid (w.grownBy w8 none) := grownBy_trans G7 g8
  clear g8 G7 b7 k7 j7 c0 c1 HRSm
  obtain ⟨c0, c1, c2, c3, c4, c5⟩ := HKK.out _ (World.grownBy.refl _ _)
  go_wp2_with fail
  go_region_held3 (fun w' => w'.cell? ⟨w.heap.size, 0, none⟩ = some (Value.bool neg) ∧ w'.cell? ⟨w.heap.size, 1, none⟩ = some (Value.string mag) ∧ w'.cell? ⟨w1.heap.size, 0, none⟩ = some (Value.bool ng) ∧ w'.cell? ⟨w1.heap.size, 1, none⟩ = some (Value.string mag) ∧ w'.cell? ⟨w2.heap.size, 0, none⟩ = some (Value.bool false) ∧ w'.cell? ⟨w2.heap.size, 1, none⟩ = some (Value.string mag))
    (first | (go_keep; done) | exact HKK.out _ (by assumption) | exact HKK.out _ (grow_drew (World.grownBy.refl _ _)) | fail)
    (first
      | (go_at_call 16; refine (num_any _ _).mono ?_; rintro e w' ⟨rfl, rfl⟩)
      | (go_at_call 17; refine (HCk.out _).mono ?_; rintro e w' ⟨rfl, rfl⟩; have GA : w8.grownBy (w8.alloc (wObj neg mag)) none := grow1 _ _; have GA' : w8.grownBy (w8.alloc (wObj neg mag)).drew none := grow_drew (grow1 _ _))
      | (go_at_call 23; refine (HRNg.out _).mono ?_; rintro e wA ⟨rfl, hgA⟩; have GA : w8.grownBy wA none := (by first | exact grownBy_trans (by assumption) hgA | fail))
      | (go_at_call 24; refine (rAbs_any neg mag _).mono ?_; rintro e wA ⟨rfl, hgA⟩; have GA : w8.grownBy wA none := (by first | exact grownBy_trans (by assumption) hgA | fail))
      | (go_at_call 19; refine (HSg.out _).mono ?_; rintro e wA ⟨rfl, hgA⟩; have GA : w8.grownBy wA none := (by first | exact grownBy_trans (by assumption) hgA | fail))
      | (go_at_call 25; refine (HRSg.out _).mono ?_; rintro e wA ⟨rfl, hgA⟩; have GA : w8.grownBy wA none := (by first | exact grownBy_trans (by assumption) hgA | fail))
      | (go_at_call 20; refine (HBs.out _).mono ?_; rintro e wA ⟨rfl, hgA⟩; have GA : w8.grownBy wA none := (by first | exact grownBy_trans (by assumption) hgA | fail))
      | (go_at_call 26; refine (HRBs.out _).mono ?_; rintro e wA ⟨rfl, hgA⟩; have GA : w8.grownBy wA none := (by first | exact grownBy_trans (by assumption) hgA | fail))
      | fail)
  have HGA : Hid (w8.grownBy wA none) := GA
  have HD := HKK.out _ GA
  clear c0 c1 c2 c3 c4 c5
  rcases HE.out with ⟨hi, rfl, rfl⟩ | ⟨hi, rfl, hRB⟩
  · go_wp2_with (go_at_call 16; refine (num_any _ _).mono ?_; rintro e w' ⟨rfl, rfl⟩)
    have GB := grownBy_trans HG8.out HGA.out
    refine (works_any _ (HT.out _ GB)).mono ?_
    rintro e wB ⟨rfl, gB⟩
    have HGB : Hid (w.grownBy wB none) := grownBy_trans GB gB
    clear gB GB HD
    go_wp2_with fail
    go_ret
    exact ⟨rfl, HGB.out⟩
  · obtain ⟨d0, d1, _, _, _, _⟩ := HD
    have HRB : Hid (∀ w, Calls Tryz.prog 27 #[whole neg mag, .int .i64 i] w fun e w' => e = .returned (.int .i64 bt) ∧ w.grownBy w' none) := hRB
    clear hRB HE
    go_wp2_with (go_at_call 16; refine (num_any _ _).mono ?_; rintro e w' ⟨rfl, rfl⟩)
    refine (HRB.out _).mono ?_
    rintro e wC ⟨rfl, gC⟩
    have GC : w.grownBy wC none := grownBy_trans HG8.out (grownBy_trans HGA.out gC)
    clear gC d0 d1 HRB
    go_wp2_with (go_at_call 16; refine (num_any _ _).mono ?_; rintro e w' ⟨rfl, rfl⟩)
    refine (works_any _ (HT.out _ GC)).mono ?_
    rintro e wB ⟨rfl, gB⟩
    have HGB : Hid (w.grownBy wB none) := grownBy_trans GC gB
    clear gB GC
    go_wp2_with fail
    go_ret
    exact ⟨rfl, HGB.out⟩

end Go.Proofs.YtaldmfbicddcbaaGreatDoor
