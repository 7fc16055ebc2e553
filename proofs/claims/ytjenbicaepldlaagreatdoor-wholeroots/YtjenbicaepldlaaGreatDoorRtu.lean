/-
  The walk over WholeRoots: squares.
-/
import Derived.Test.YtjenbicaepldlaaGreatDoorRpw
namespace Go.Proofs.YtjenbicaepldlaaGreatDoor
set_option linter.unusedVariables false
open Go.RowKit Go.Lib Go.Sort

set_option maxHeartbeats 3200000 in
set_option maxRecDepth 1000000 in
theorem roots_s1 (neg : Bool) (mag : ByteArray) (n : Int) (z : mag.size ≤ maxLen) (hl : isLong (neg, mag) = false) {rs ts : ByteArray} 
    (HRt : Hid (∀ w, Calls Tryz.prog 21 #[whole neg mag] w fun e w' => e = .returned (.tuple #[whole false rs, whole false ts, .int .i64 0]) ∧ w.grownBy w' none))
    (HSq : Hid (∀ w, Calls Tryz.prog 22 #[whole neg mag] w fun e w' => e = .returned (.tuple #[whole false rs, .bool true]) ∧ w.grownBy w' none))
    (hma : may neg mag = true) (hng : neg = false) (hts : (ts.toList == []) = true) (HRr : Hid (∀ w, Calls Tryz.prog 24 #[whole neg mag] w fun e w' => e = .returned (.tuple #[whole false rs, whole false ts]) ∧ w.grownBy w' none)) (hn : n < 0) (HPw : Hid (∀ w, Calls Tryz.prog 23 #[whole neg mag, .int .i64 n] w fun e w' => e = .returned (.tuple #[whole false eS, .int .i64 2]) ∧ w.grownBy w' none))
    (w : World) (htab : Lib.TabIs Tryz.prog w "internal/strconv.uint64pow10" .u64 Lib.pow10Tab) :
    Calls Tryz.prog 5 #[whole neg mag, .int .i64 n] w fun e w' => e = .returned (.bool true) ∧ w.grownBy w' none := by
  subst hng
  obtain ⟨gp, hgp⟩ := pow10_g
  have HT : Hid (∀ w', w.grownBy w' none → Lib.TabIs Tryz.prog w' "internal/strconv.uint64pow10" .u64 Lib.pow10Tab) := fun w' hg => tab_kept hgp htab hg
  have HL := longOne false mag z w
  rw [hl] at HL
  have HB1 := badOne1 false mag z
  have HK : Hid (∀ w', (w.alloc (wObj false mag)).grownBy w' none → w'.cell? ⟨w.heap.size, 0, none⟩ = some (Value.bool false) ∧ w'.cell? ⟨w.heap.size, 1, none⟩ = some (Value.string mag)) := fun w' hg => ⟨(WBlk.kept (w := w.alloc (wObj false mag)) (heap_alloc_new _ _) hg (by simp)).c0, (WBlk.kept (w := w.alloc (wObj false mag)) (heap_alloc_new _ _) hg (by simp)).c1⟩
  clear htab hgp hl
  go_enter Tryz.func5, Tryz.ntmps5
  go_wp2_with fail
  refine HL.out.mono ?_
  rintro e w1 ⟨rfl, g1⟩
  have G1 : (w.alloc (wObj false mag)).grownBy w1 none := grownBy_trans (grow1 _ _) g1
  obtain ⟨c0, c1⟩ := HK.out _ G1
  clear g1 HL
  go_wp2_with fail
  refine (HRt.out _).mono ?_
  rintro e w2 ⟨rfl, g2⟩
  have G2 := grownBy_trans G1 g2
  clear G1 g2 c0 c1
  obtain ⟨c0, c1⟩ := HK.out _ (grownBy_trans G2 (grow2 w2 (wObj false rs) (wObj false ts)))
  go_wp2_with fail
  refine (HSq.out _).mono ?_
  rintro e w3 ⟨rfl, g3⟩
  have q3 : WBlk w3 w2.heap.size (.bool false) (.string rs) := WBlk.kept (at_alloc1 _ _ _) g3 (by simp)
  have r3 : WBlk w3 (w2.heap.size + 1) (.bool false) (.string ts) := WBlk.kept (heap_alloc2_new _ _ _) g3 (by simp)
  have G3 := grownBy_trans G2 (grownBy_trans (grow2 _ _ _) g3)
  clear G2 g3 c0 c1
  obtain ⟨c0, c1⟩ := HK.out _ (grownBy_trans G3 (grow1 w3 (wObj false rs)))
  go_wp2_with fail
  refine (HB1.out _ _).mono ?_
  rintro e w4 ⟨rfl, g4⟩
  have q4 := q3.kept (grownBy_trans (grow2 _ _ _) g4) (by simp)
  have r4 := r3.kept (grownBy_trans (grow2 _ _ _) g4) (by simp)
  have s4 : WBlk w4 w3.heap.size (.bool false) (.string rs) := WBlk.kept (heap_alloc_new _ _) (grownBy_trans (grow1 _ _) g4) (by simp)
  have G4 := grownBy_trans G3 (grownBy_trans (grow2 _ _ _) g4)
  have HKK : Hid (∀ w', w4.grownBy w' none → (w'.cell? ⟨w2.heap.size, 0, none⟩ = some (Value.bool false) ∧ w'.cell? ⟨w2.heap.size, 1, none⟩ = some (Value.string rs) ∧ w'.cell? ⟨w2.heap.size + 1, 0, none⟩ = some (Value.bool false) ∧ w'.cell? ⟨w2.heap.size + 1, 1, none⟩ = some (Value.string ts) ∧ w'.cell? ⟨w3.heap.size, 0, none⟩ = some (Value.bool false) ∧ w'.cell? ⟨w3.heap.size, 1, none⟩ = some (Value.string rs)) ∧ (w'.cell? ⟨w.heap.size, 0, none⟩ = some (Value.bool false) ∧ w'.cell? ⟨w.heap.size, 1, none⟩ = some (Value.string mag))) :=
    fun w' hg => ⟨⟨(q4.kept hg (by simp)).c0, (q4.kept hg (by simp)).c1, (r4.kept hg (by simp)).c0, (r4.kept hg (by simp)).c1, (s4.kept hg (by simp)).c0, (s4.kept hg (by simp)).c1⟩, HK.out _ (grownBy_trans G4 hg)⟩
  have HG4 : Hid (w.grownBy w4 none) := grownBy_trans (grow1 _ _) G4
  clear g4 G3 G4 q3 r3 q4 r4 s4 c0 c1 HB1 HK HRt HSq
  rw [hma]
  clear hma
  obtain ⟨⟨k0, k1, k2, k3, k4, k5⟩, c0, c1⟩ := HKK.out _ (World.grownBy.refl _ _)
  go_wp2_with fail
  refine (HRr.out _).mono ?_
  rintro e w5 ⟨rfl, g5⟩
  have HGC : Hid (w4.grownBy ((w5.alloc (wObj false rs)).alloc (wObj false ts)) none) := grownBy_trans g5 (grow2 _ _ _)
  clear g5
  clear k0 k1 k2 k3 k4 k5 c0 c1
  obtain ⟨⟨k0, k1, k2, k3, k4, k5⟩, c0, c1⟩ := HKK.out _ HGC.out
  go_wp2_with (go_at_call 18; refine (num_any _ _).mono ?_; rintro e wn ⟨rfl, hn5⟩; have hn5 := hn5.symm; subst hn5)
  have HG6 := HGC
  refine (HPw.out _).mono ?_
  rintro e w7 ⟨rfl, g7⟩
  have HG7 : Hid (w4.grownBy (w7.alloc (wObj false eS)) none) := grownBy_trans HG6.out (grownBy_trans g7 (grow1 _ _))
  clear g7
  clear k0 k1 k2 k3 k4 k5 c0 c1
  obtain ⟨⟨k0, k1, k2, k3, k4, k5⟩, c0, c1⟩ := HKK.out _ HG7.out
  go_wp2_with fail
  refine (arg_yes _).mono ?_
  rintro e w9 ⟨rfl, rfl⟩
  clear k0 k1 k2 k3 k4 k5 c0 c1
  go_wp2_with fail
  have GE := grownBy_trans HG4.out (grownBy_trans HG7.out (grow1 _ (wObj false eS)))
  refine (works_any _ (HT.out _ GE)).mono ?_
  rintro e wZ ⟨rfl, gZ⟩
  have HGZ : Hid (w.grownBy wZ none) := grownBy_trans GE gZ
  clear gZ
  go_wp2_with fail
  go_ret
  exact ⟨rfl, HGZ.out⟩

set_option maxHeartbeats 3200000 in
set_option maxRecDepth 1000000 in
theorem roots_s2 (neg : Bool) (mag : ByteArray) (n : Int) (z : mag.size ≤ maxLen) (hl : isLong (neg, mag) = false) {rs ts : ByteArray} 
    (HRt : Hid (∀ w, Calls Tryz.prog 21 #[whole neg mag] w fun e w' => e = .returned (.tuple #[whole false rs, whole false ts, .int .i64 0]) ∧ w.grownBy w' none))
    (HSq : Hid (∀ w, Calls Tryz.prog 22 #[whole neg mag] w fun e w' => e = .returned (.tuple #[whole false rs, .bool true]) ∧ w.grownBy w' none))
    (hma : may neg mag = true) (hng : neg = false) (hts : (ts.toList == []) = true) (HRr : Hid (∀ w, Calls Tryz.prog 24 #[whole neg mag] w fun e w' => e = .returned (.tuple #[whole false rs, whole false ts]) ∧ w.grownBy w' none)) (hn : n = 0) {pb tb : Bool} {pm tm : ByteArray} {pe : Int} (HRp : Hid (∀ w, Calls Tryz.prog 26 #[whole neg mag, .int .i64 n] w fun e w' => e = .returned (whole tb tm) ∧ w.grownBy w' none)) (HIs : Hid (∀ w, Calls Tryz.prog 15 #[whole pb pm, .int .i64 pe, whole tb tm] w fun e w' => e = .returned (.bool true) ∧ w.grownBy w' none)) (HPw : Hid (∀ w, Calls Tryz.prog 23 #[whole neg mag, .int .i64 n] w fun e w' => e = .returned (.tuple #[whole pb pm, .int .i64 pe]) ∧ w.grownBy w' none)) (HVa : Hid (∀ w, Calls Tryz.prog 25 #[whole neg mag, .int .i64 n] w fun e w' => e = .returned (.bool false) ∧ w.grownBy w' none))
    (w : World) (htab : Lib.TabIs Tryz.prog w "internal/strconv.uint64pow10" .u64 Lib.pow10Tab) :
    Calls Tryz.prog 5 #[whole neg mag, .int .i64 n] w fun e w' => e = .returned (.bool true) ∧ w.grownBy w' none := by
  subst hng
  subst hn
  obtain ⟨gp, hgp⟩ := pow10_g
  have HT : Hid (∀ w', w.grownBy w' none → Lib.TabIs Tryz.prog w' "internal/strconv.uint64pow10" .u64 Lib.pow10Tab) := fun w' hg => tab_kept hgp htab hg
  have HL := longOne false mag z w
  rw [hl] at HL
  have HB1 := badOne1 false mag z
  have HK : Hid (∀ w', (w.alloc (wObj false mag)).grownBy w' none → w'.cell? ⟨w.heap.size, 0, none⟩ = some (Value.bool false) ∧ w'.cell? ⟨w.heap.size, 1, none⟩ = some (Value.string mag)) := fun w' hg => ⟨(WBlk.kept (w := w.alloc (wObj false mag)) (heap_alloc_new _ _) hg (by simp)).c0, (WBlk.kept (w := w.alloc (wObj false mag)) (heap_alloc_new _ _) hg (by simp)).c1⟩
  clear htab hgp hl
  go_enter Tryz.func5, Tryz.ntmps5
  go_wp2_with fail
  refine HL.out.mono ?_
  rintro e w1 ⟨rfl, g1⟩
  have G1 : (w.alloc (wObj false mag)).grownBy w1 none := grownBy_trans (grow1 _ _) g1
  obtain ⟨c0, c1⟩ := HK.out _ G1
  clear g1 HL
  go_wp2_with fail
  refine (HRt.out _).mono ?_
  rintro e w2 ⟨rfl, g2⟩
  have G2 := grownBy_trans G1 g2
  clear G1 g2 c0 c1
  obtain ⟨c0, c1⟩ := HK.out _ (grownBy_trans G2 (grow2 w2 (wObj false rs) (wObj false ts)))
  go_wp2_with fail
  refine (HSq.out _).mono ?_
  rintro e w3 ⟨rfl, g3⟩
  have q3 : WBlk w3 w2.heap.size (.bool false) (.string rs) := WBlk.kept (at_alloc1 _ _ _) g3 (by simp)
  have r3 : WBlk w3 (w2.heap.size + 1) (.bool false) (.string ts) := WBlk.kept (heap_alloc2_new _ _ _) g3 (by simp)
  have G3 := grownBy_trans G2 (grownBy_trans (grow2 _ _ _) g3)
  clear G2 g3 c0 c1
  obtain ⟨c0, c1⟩ := HK.out _ (grownBy_trans G3 (grow1 w3 (wObj false rs)))
  go_wp2_with fail
  refine (HB1.out _ _).mono ?_
  rintro e w4 ⟨rfl, g4⟩
  have q4 := q3.kept (grownBy_trans (grow2 _ _ _) g4) (by simp)
  have r4 := r3.kept (grownBy_trans (grow2 _ _ _) g4) (by simp)
  have s4 : WBlk w4 w3.heap.size (.bool false) (.string rs) := WBlk.kept (heap_alloc_new _ _) (grownBy_trans (grow1 _ _) g4) (by simp)
  have G4 := grownBy_trans G3 (grownBy_trans (grow2 _ _ _) g4)
  have HKK : Hid (∀ w', w4.grownBy w' none → (w'.cell? ⟨w2.heap.size, 0, none⟩ = some (Value.bool false) ∧ w'.cell? ⟨w2.heap.size, 1, none⟩ = some (Value.string rs) ∧ w'.cell? ⟨w2.heap.size + 1, 0, none⟩ = some (Value.bool false) ∧ w'.cell? ⟨w2.heap.size + 1, 1, none⟩ = some (Value.string ts) ∧ w'.cell? ⟨w3.heap.size, 0, none⟩ = some (Value.bool false) ∧ w'.cell? ⟨w3.heap.size, 1, none⟩ = some (Value.string rs)) ∧ (w'.cell? ⟨w.heap.size, 0, none⟩ = some (Value.bool false) ∧ w'.cell? ⟨w.heap.size, 1, none⟩ = some (Value.string mag))) :=
    fun w' hg => ⟨⟨(q4.kept hg (by simp)).c0, (q4.kept hg (by simp)).c1, (r4.kept hg (by simp)).c0, (r4.kept hg (by simp)).c1, (s4.kept hg (by simp)).c0, (s4.kept hg (by simp)).c1⟩, HK.out _ (grownBy_trans G4 hg)⟩
  have HG4 : Hid (w.grownBy w4 none) := grownBy_trans (grow1 _ _) G4
  clear g4 G3 G4 q3 r3 q4 r4 s4 c0 c1 HB1 HK HRt HSq
  rw [hma]
  clear hma
  obtain ⟨⟨k0, k1, k2, k3, k4, k5⟩, c0, c1⟩ := HKK.out _ (World.grownBy.refl _ _)
  go_wp2_with fail
  refine (HRr.out _).mono ?_
  rintro e w5 ⟨rfl, g5⟩
  have HGC : Hid (w4.grownBy ((w5.alloc (wObj false rs)).alloc (wObj false ts)) none) := grownBy_trans g5 (grow2 _ _ _)
  clear g5
  clear k0 k1 k2 k3 k4 k5 c0 c1
  obtain ⟨⟨k0, k1, k2, k3, k4, k5⟩, c0, c1⟩ := HKK.out _ HGC.out
  go_wp2_with (go_at_call 18; refine (num_any _ _).mono ?_; rintro e wn ⟨rfl, hn5⟩; have hn5 := hn5.symm; subst hn5)
  have HG6 := HGC
  refine (HPw.out _).mono ?_
  rintro e w7 ⟨rfl, g7⟩
  have HG7 : Hid (w4.grownBy (w7.alloc (wObj pb pm)) none) := grownBy_trans HG6.out (grownBy_trans g7 (grow1 _ _))
  clear g7
  clear k0 k1 k2 k3 k4 k5 c0 c1
  obtain ⟨⟨k0, k1, k2, k3, k4, k5⟩, c0, c1⟩ := HKK.out _ HG7.out
  go_wp2_with fail
  refine (HVa.out _).mono ?_
  rintro e w8 ⟨rfl, g8⟩
  have hP8 : WBlk w8 w7.heap.size (.bool pb) (.string pm) := WBlk.kept (heap_alloc_new _ _) g8 (by simp)
  have HG8 : Hid (w4.grownBy w8 none) := grownBy_trans HG7.out g8
  have HP8 : Hid (WBlk w8 w7.heap.size (.bool pb) (.string pm)) := hP8
  clear g8 hP8
  clear k0 k1 k2 k3 k4 k5 c0 c1
  obtain ⟨⟨k0, k1, k2, k3, k4, k5⟩, c0, c1⟩ := HKK.out _ HG8.out
  have p0 := HP8.out.c0
  have p1 := HP8.out.c1
  have HKP : Hid (∀ w', w8.grownBy w' none → w'.cell? ⟨w7.heap.size, 0, none⟩ = some (Value.bool pb) ∧ w'.cell? ⟨w7.heap.size, 1, none⟩ = some (Value.string pm) ∧ w'.cell? ⟨w.heap.size, 0, none⟩ = some (Value.bool false) ∧ w'.cell? ⟨w.heap.size, 1, none⟩ = some (Value.string mag)) := fun w' hg => ⟨(HP8.out.kept hg (by simp)).c0, (HP8.out.kept hg (by simp)).c1, (HKK.out _ (grownBy_trans HG8.out hg)).2.1, (HKK.out _ (grownBy_trans HG8.out hg)).2.2⟩
  go_wp2_with fail
  go_region_held3 (fun w' => w'.cell? ⟨w7.heap.size, 0, none⟩ = some (Value.bool pb) ∧ w'.cell? ⟨w7.heap.size, 1, none⟩ = some (Value.string pm) ∧ w'.cell? ⟨w.heap.size, 0, none⟩ = some (Value.bool false) ∧ w'.cell? ⟨w.heap.size, 1, none⟩ = some (Value.string mag))
    (first | (go_keep; done) | exact HKP.out _ (by assumption) | exact HKP.out _ (grow_drew (World.grownBy.refl _ _)) | fail)
    (first
      | (go_at_call 26; refine (HRp.out _).mono ?_; rintro e wA ⟨rfl, gA⟩; have GA : w8.grownBy wA none := (by first | exact gA | exact grownBy_undrew gA | fail))
      | (go_at_call 15; refine (HIs.out _).mono ?_; rintro e wB ⟨rfl, gB⟩; have GB : w8.grownBy wB none := grownBy_trans GA (by first | exact gB | exact grownBy_undrew gB | fail))
      | (go_at_call 8; refine (works_any _ (HT.out _ (grownBy_trans HG4.out (grownBy_trans HG8.out GB)))).mono ?_; rintro e wC ⟨rfl, gC⟩; have GC : w8.grownBy wC none := grownBy_trans GB (by first | exact gC | exact grownBy_undrew gC | fail))
      | fail)
  have HGZ : Hid (w.grownBy wC none) := grownBy_trans HG4.out (grownBy_trans HG8.out GC)
  go_wp2_with fail
  go_ret
  exact ⟨rfl, HGZ.out⟩

set_option maxHeartbeats 3200000 in
set_option maxRecDepth 1000000 in
theorem roots_s3 (neg : Bool) (mag : ByteArray) (n : Int) (z : mag.size ≤ maxLen) (hl : isLong (neg, mag) = false) {rs ts : ByteArray} 
    (HRt : Hid (∀ w, Calls Tryz.prog 21 #[whole neg mag] w fun e w' => e = .returned (.tuple #[whole false rs, whole false ts, .int .i64 0]) ∧ w.grownBy w' none))
    (HSq : Hid (∀ w, Calls Tryz.prog 22 #[whole neg mag] w fun e w' => e = .returned (.tuple #[whole false rs, .bool true]) ∧ w.grownBy w' none))
    (hma : may neg mag = true) (hng : neg = false) (hts : (ts.toList == []) = true) (HRr : Hid (∀ w, Calls Tryz.prog 24 #[whole neg mag] w fun e w' => e = .returned (.tuple #[whole false rs, whole false ts]) ∧ w.grownBy w' none)) (hn : 0 < n) (HPw : Hid (∀ w, Calls Tryz.prog 23 #[whole neg mag, .int .i64 n] w fun e w' => e = .returned (.tuple #[whole false eS, .int .i64 4]) ∧ w.grownBy w' none)) (HVa : Hid (∀ w, Calls Tryz.prog 25 #[whole neg mag, .int .i64 n] w fun e w' => e = .returned (.bool true) ∧ w.grownBy w' none))
    (w : World) (htab : Lib.TabIs Tryz.prog w "internal/strconv.uint64pow10" .u64 Lib.pow10Tab) :
    Calls Tryz.prog 5 #[whole neg mag, .int .i64 n] w fun e w' => e = .returned (.bool true) ∧ w.grownBy w' none := by
  subst hng
  obtain ⟨gp, hgp⟩ := pow10_g
  have HT : Hid (∀ w', w.grownBy w' none → Lib.TabIs Tryz.prog w' "internal/strconv.uint64pow10" .u64 Lib.pow10Tab) := fun w' hg => tab_kept hgp htab hg
  have HL := longOne false mag z w
  rw [hl] at HL
  have HB1 := badOne1 false mag z
  have HK : Hid (∀ w', (w.alloc (wObj false mag)).grownBy w' none → w'.cell? ⟨w.heap.size, 0, none⟩ = some (Value.bool false) ∧ w'.cell? ⟨w.heap.size, 1, none⟩ = some (Value.string mag)) := fun w' hg => ⟨(WBlk.kept (w := w.alloc (wObj false mag)) (heap_alloc_new _ _) hg (by simp)).c0, (WBlk.kept (w := w.alloc (wObj false mag)) (heap_alloc_new _ _) hg (by simp)).c1⟩
  clear htab hgp hl
  go_enter Tryz.func5, Tryz.ntmps5
  go_wp2_with fail
  refine HL.out.mono ?_
  rintro e w1 ⟨rfl, g1⟩
  have G1 : (w.alloc (wObj false mag)).grownBy w1 none := grownBy_trans (grow1 _ _) g1
  obtain ⟨c0, c1⟩ := HK.out _ G1
  clear g1 HL
  go_wp2_with fail
  refine (HRt.out _).mono ?_
  rintro e w2 ⟨rfl, g2⟩
  have G2 := grownBy_trans G1 g2
  clear G1 g2 c0 c1
  obtain ⟨c0, c1⟩ := HK.out _ (grownBy_trans G2 (grow2 w2 (wObj false rs) (wObj false ts)))
  go_wp2_with fail
  refine (HSq.out _).mono ?_
  rintro e w3 ⟨rfl, g3⟩
  have q3 : WBlk w3 w2.heap.size (.bool false) (.string rs) := WBlk.kept (at_alloc1 _ _ _) g3 (by simp)
  have r3 : WBlk w3 (w2.heap.size + 1) (.bool false) (.string ts) := WBlk.kept (heap_alloc2_new _ _ _) g3 (by simp)
  have G3 := grownBy_trans G2 (grownBy_trans (grow2 _ _ _) g3)
  clear G2 g3 c0 c1
  obtain ⟨c0, c1⟩ := HK.out _ (grownBy_trans G3 (grow1 w3 (wObj false rs)))
  go_wp2_with fail
  refine (HB1.out _ _).mono ?_
  rintro e w4 ⟨rfl, g4⟩
  have q4 := q3.kept (grownBy_trans (grow2 _ _ _) g4) (by simp)
  have r4 := r3.kept (grownBy_trans (grow2 _ _ _) g4) (by simp)
  have s4 : WBlk w4 w3.heap.size (.bool false) (.string rs) := WBlk.kept (heap_alloc_new _ _) (grownBy_trans (grow1 _ _) g4) (by simp)
  have G4 := grownBy_trans G3 (grownBy_trans (grow2 _ _ _) g4)
  have HKK : Hid (∀ w', w4.grownBy w' none → (w'.cell? ⟨w2.heap.size, 0, none⟩ = some (Value.bool false) ∧ w'.cell? ⟨w2.heap.size, 1, none⟩ = some (Value.string rs) ∧ w'.cell? ⟨w2.heap.size + 1, 0, none⟩ = some (Value.bool false) ∧ w'.cell? ⟨w2.heap.size + 1, 1, none⟩ = some (Value.string ts) ∧ w'.cell? ⟨w3.heap.size, 0, none⟩ = some (Value.bool false) ∧ w'.cell? ⟨w3.heap.size, 1, none⟩ = some (Value.string rs)) ∧ (w'.cell? ⟨w.heap.size, 0, none⟩ = some (Value.bool false) ∧ w'.cell? ⟨w.heap.size, 1, none⟩ = some (Value.string mag))) :=
    fun w' hg => ⟨⟨(q4.kept hg (by simp)).c0, (q4.kept hg (by simp)).c1, (r4.kept hg (by simp)).c0, (r4.kept hg (by simp)).c1, (s4.kept hg (by simp)).c0, (s4.kept hg (by simp)).c1⟩, HK.out _ (grownBy_trans G4 hg)⟩
  have HG4 : Hid (w.grownBy w4 none) := grownBy_trans (grow1 _ _) G4
  clear g4 G3 G4 q3 r3 q4 r4 s4 c0 c1 HB1 HK HRt HSq
  rw [hma]
  clear hma
  obtain ⟨⟨k0, k1, k2, k3, k4, k5⟩, c0, c1⟩ := HKK.out _ (World.grownBy.refl _ _)
  go_wp2_with fail
  refine (HRr.out _).mono ?_
  rintro e w5 ⟨rfl, g5⟩
  have HGC : Hid (w4.grownBy ((w5.alloc (wObj false rs)).alloc (wObj false ts)) none) := grownBy_trans g5 (grow2 _ _ _)
  clear g5
  clear k0 k1 k2 k3 k4 k5 c0 c1
  obtain ⟨⟨k0, k1, k2, k3, k4, k5⟩, c0, c1⟩ := HKK.out _ HGC.out
  go_wp2_with (go_at_call 18; refine (num_any _ _).mono ?_; rintro e wn ⟨rfl, hn5⟩; have hn5 := hn5.symm; subst hn5)
  refine (HVa.out _).mono ?_
  rintro e w6 ⟨rfl, g6⟩
  have HG6 : Hid (w4.grownBy w6 none) := grownBy_trans HGC.out g6
  clear g6
  clear k0 k1 k2 k3 k4 k5 c0 c1
  obtain ⟨⟨k0, k1, k2, k3, k4, k5⟩, c0, c1⟩ := HKK.out _ HG6.out
  go_wp2_with fail
  refine (HPw.out _).mono ?_
  rintro e w7 ⟨rfl, g7⟩
  have HG7 : Hid (w4.grownBy (w7.alloc (wObj false eS)) none) := grownBy_trans HG6.out (grownBy_trans g7 (grow1 _ _))
  clear g7
  clear k0 k1 k2 k3 k4 k5 c0 c1
  obtain ⟨⟨k0, k1, k2, k3, k4, k5⟩, c0, c1⟩ := HKK.out _ HG7.out
  go_wp2_with fail
  refine (HVa.out _).mono ?_
  rintro e w8 ⟨rfl, g8⟩
  have hP8 : WBlk w8 w7.heap.size (.bool false) (.string eS) := WBlk.kept (heap_alloc_new _ _) g8 (by simp)
  have HG8 : Hid (w4.grownBy w8 none) := grownBy_trans HG7.out g8
  have HP8 : Hid (WBlk w8 w7.heap.size (.bool false) (.string eS)) := hP8
  clear g8 hP8
  clear k0 k1 k2 k3 k4 k5 c0 c1
  obtain ⟨⟨k0, k1, k2, k3, k4, k5⟩, c0, c1⟩ := HKK.out _ HG8.out
  have p0 := HP8.out.c0
  have p1 := HP8.out.c1
  go_wp2_with (go_at_call 18; refine (num_any _ _).mono ?_; rintro e wn ⟨rfl, hn5⟩; have hn5 := hn5.symm; subst hn5)
  have GE := grownBy_trans HG4.out HG8.out
  refine (works_any _ (HT.out _ GE)).mono ?_
  rintro e wZ ⟨rfl, gZ⟩
  have HGZ : Hid (w.grownBy wZ none) := grownBy_trans GE gZ
  clear gZ
  go_wp2_with fail
  go_ret
  exact ⟨rfl, HGZ.out⟩

set_option maxHeartbeats 3200000 in
set_option maxRecDepth 1000000 in
theorem roots_s4 (neg : Bool) (mag : ByteArray) (n : Int) (z : mag.size ≤ maxLen) (hl : isLong (neg, mag) = false) {rs ts : ByteArray} 
    (HRt : Hid (∀ w, Calls Tryz.prog 21 #[whole neg mag] w fun e w' => e = .returned (.tuple #[whole false rs, whole false ts, .int .i64 0]) ∧ w.grownBy w' none))
    (HSq : Hid (∀ w, Calls Tryz.prog 22 #[whole neg mag] w fun e w' => e = .returned (.tuple #[whole false rs, .bool true]) ∧ w.grownBy w' none))
    (hma : may neg mag = true) (hng : neg = false) (hts : (ts.toList == []) = true) (HRr : Hid (∀ w, Calls Tryz.prog 24 #[whole neg mag] w fun e w' => e = .returned (.tuple #[whole false rs, whole false ts]) ∧ w.grownBy w' none)) (hn : 0 < n) (he0 : (mag.toList == []) = false) (he1 : (mag.toList == [1]) = false) {Q m : Int} (hm : (mag.size : Int) = m) (hm0 : 0 < m) (hQ : 20000 / m = Q) (hnQ : Q < n) (HVa : Hid (∀ w, Calls Tryz.prog 25 #[whole neg mag, .int .i64 n] w fun e w' => e = .returned (.bool false) ∧ w.grownBy w' none))
    (w : World) (htab : Lib.TabIs Tryz.prog w "internal/strconv.uint64pow10" .u64 Lib.pow10Tab) :
    Calls Tryz.prog 5 #[whole neg mag, .int .i64 n] w fun e w' => e = .returned (.bool true) ∧ w.grownBy w' none := by
  subst hng
  obtain ⟨gp, hgp⟩ := pow10_g
  have HT : Hid (∀ w', w.grownBy w' none → Lib.TabIs Tryz.prog w' "internal/strconv.uint64pow10" .u64 Lib.pow10Tab) := fun w' hg => tab_kept hgp htab hg
  have HL := longOne false mag z w
  rw [hl] at HL
  have HB1 := badOne1 false mag z
  have HK : Hid (∀ w', (w.alloc (wObj false mag)).grownBy w' none → w'.cell? ⟨w.heap.size, 0, none⟩ = some (Value.bool false) ∧ w'.cell? ⟨w.heap.size, 1, none⟩ = some (Value.string mag)) := fun w' hg => ⟨(WBlk.kept (w := w.alloc (wObj false mag)) (heap_alloc_new _ _) hg (by simp)).c0, (WBlk.kept (w := w.alloc (wObj false mag)) (heap_alloc_new _ _) hg (by simp)).c1⟩
  clear htab hgp hl
  go_enter Tryz.func5, Tryz.ntmps5
  go_wp2_with fail
  refine HL.out.mono ?_
  rintro e w1 ⟨rfl, g1⟩
  have G1 : (w.alloc (wObj false mag)).grownBy w1 none := grownBy_trans (grow1 _ _) g1
  obtain ⟨c0, c1⟩ := HK.out _ G1
  clear g1 HL
  go_wp2_with fail
  refine (HRt.out _).mono ?_
  rintro e w2 ⟨rfl, g2⟩
  have G2 := grownBy_trans G1 g2
  clear G1 g2 c0 c1
  obtain ⟨c0, c1⟩ := HK.out _ (grownBy_trans G2 (grow2 w2 (wObj false rs) (wObj false ts)))
  go_wp2_with fail
  refine (HSq.out _).mono ?_
  rintro e w3 ⟨rfl, g3⟩
  have q3 : WBlk w3 w2.heap.size (.bool false) (.string rs) := WBlk.kept (at_alloc1 _ _ _) g3 (by simp)
  have r3 : WBlk w3 (w2.heap.size + 1) (.bool false) (.string ts) := WBlk.kept (heap_alloc2_new _ _ _) g3 (by simp)
  have G3 := grownBy_trans G2 (grownBy_trans (grow2 _ _ _) g3)
  clear G2 g3 c0 c1
  obtain ⟨c0, c1⟩ := HK.out _ (grownBy_trans G3 (grow1 w3 (wObj false rs)))
  go_wp2_with fail
  refine (HB1.out _ _).mono ?_
  rintro e w4 ⟨rfl, g4⟩
  have q4 := q3.kept (grownBy_trans (grow2 _ _ _) g4) (by simp)
  have r4 := r3.kept (grownBy_trans (grow2 _ _ _) g4) (by simp)
  have s4 : WBlk w4 w3.heap.size (.bool false) (.string rs) := WBlk.kept (heap_alloc_new _ _) (grownBy_trans (grow1 _ _) g4) (by simp)
  have G4 := grownBy_trans G3 (grownBy_trans (grow2 _ _ _) g4)
  have HKK : Hid (∀ w', w4.grownBy w' none → (w'.cell? ⟨w2.heap.size, 0, none⟩ = some (Value.bool false) ∧ w'.cell? ⟨w2.heap.size, 1, none⟩ = some (Value.string rs) ∧ w'.cell? ⟨w2.heap.size + 1, 0, none⟩ = some (Value.bool false) ∧ w'.cell? ⟨w2.heap.size + 1, 1, none⟩ = some (Value.string ts) ∧ w'.cell? ⟨w3.heap.size, 0, none⟩ = some (Value.bool false) ∧ w'.cell? ⟨w3.heap.size, 1, none⟩ = some (Value.string rs)) ∧ (w'.cell? ⟨w.heap.size, 0, none⟩ = some (Value.bool false) ∧ w'.cell? ⟨w.heap.size, 1, none⟩ = some (Value.string mag))) :=
    fun w' hg => ⟨⟨(q4.kept hg (by simp)).c0, (q4.kept hg (by simp)).c1, (r4.kept hg (by simp)).c0, (r4.kept hg (by simp)).c1, (s4.kept hg (by simp)).c0, (s4.kept hg (by simp)).c1⟩, HK.out _ (grownBy_trans G4 hg)⟩
  have HG4 : Hid (w.grownBy w4 none) := grownBy_trans (grow1 _ _) G4
  clear g4 G3 G4 q3 r3 q4 r4 s4 c0 c1 HB1 HK HRt HSq
  rw [hma]
  clear hma
  obtain ⟨⟨k0, k1, k2, k3, k4, k5⟩, c0, c1⟩ := HKK.out _ (World.grownBy.refl _ _)
  go_wp2_with fail
  refine (HRr.out _).mono ?_
  rintro e w5 ⟨rfl, g5⟩
  have HGC : Hid (w4.grownBy ((w5.alloc (wObj false rs)).alloc (wObj false ts)) none) := grownBy_trans g5 (grow2 _ _ _)
  clear g5
  clear k0 k1 k2 k3 k4 k5 c0 c1
  obtain ⟨⟨k0, k1, k2, k3, k4, k5⟩, c0, c1⟩ := HKK.out _ HGC.out
  go_wp2_with (go_at_call 18; refine (num_any _ _).mono ?_; rintro e wn ⟨rfl, hn5⟩; have hn5 := hn5.symm; subst hn5)
  refine (HVa.out _).mono ?_
  rintro e w6 ⟨rfl, g6⟩
  have HG6 : Hid (w4.grownBy w6 none) := grownBy_trans HGC.out g6
  clear g6
  clear k0 k1 k2 k3 k4 k5 c0 c1
  obtain ⟨⟨k0, k1, k2, k3, k4, k5⟩, c0, c1⟩ := HKK.out _ HG6.out
  go_wp2_with fail
  have GE := grownBy_trans HG4.out HG6.out
  refine (works_any _ (HT.out _ GE)).mono ?_
  rintro e wZ ⟨rfl, gZ⟩
  have HGZ : Hid (w.grownBy wZ none) := grownBy_trans GE gZ
  clear gZ
  go_wp2_with fail
  go_ret
  exact ⟨rfl, HGZ.out⟩

set_option maxHeartbeats 3200000 in
set_option maxRecDepth 1000000 in
theorem roots_s5 (neg : Bool) (mag : ByteArray) (n : Int) (z : mag.size ≤ maxLen) (hl : isLong (neg, mag) = false) {rs ts : ByteArray} 
    (HRt : Hid (∀ w, Calls Tryz.prog 21 #[whole neg mag] w fun e w' => e = .returned (.tuple #[whole false rs, whole false ts, .int .i64 0]) ∧ w.grownBy w' none))
    (HSq : Hid (∀ w, Calls Tryz.prog 22 #[whole neg mag] w fun e w' => e = .returned (.tuple #[whole false rs, .bool true]) ∧ w.grownBy w' none))
    (hma : may neg mag = true) (hng : neg = false) (hts : (ts.toList == []) = true) (HRr : Hid (∀ w, Calls Tryz.prog 24 #[whole neg mag] w fun e w' => e = .returned (.tuple #[whole false rs, whole false ts]) ∧ w.grownBy w' none)) (hn : 0 < n) (hm : (mag.size : Int) = 0) {pb tb : Bool} {pm tm : ByteArray} {pe : Int} (HRp : Hid (∀ w, Calls Tryz.prog 26 #[whole neg mag, .int .i64 n] w fun e w' => e = .returned (whole tb tm) ∧ w.grownBy w' none)) (HIs : Hid (∀ w, Calls Tryz.prog 15 #[whole pb pm, .int .i64 pe, whole tb tm] w fun e w' => e = .returned (.bool true) ∧ w.grownBy w' none)) (HPw : Hid (∀ w, Calls Tryz.prog 23 #[whole neg mag, .int .i64 n] w fun e w' => e = .returned (.tuple #[whole pb pm, .int .i64 pe]) ∧ w.grownBy w' none)) (HVa : Hid (∀ w, Calls Tryz.prog 25 #[whole neg mag, .int .i64 n] w fun e w' => e = .returned (.bool false) ∧ w.grownBy w' none))
    (w : World) (htab : Lib.TabIs Tryz.prog w "internal/strconv.uint64pow10" .u64 Lib.pow10Tab) :
    Calls Tryz.prog 5 #[whole neg mag, .int .i64 n] w fun e w' => e = .returned (.bool true) ∧ w.grownBy w' none := by
  subst hng
  obtain ⟨gp, hgp⟩ := pow10_g
  have HT : Hid (∀ w', w.grownBy w' none → Lib.TabIs Tryz.prog w' "internal/strconv.uint64pow10" .u64 Lib.pow10Tab) := fun w' hg => tab_kept hgp htab hg
  have HL := longOne false mag z w
  rw [hl] at HL
  have HB1 := badOne1 false mag z
  have HK : Hid (∀ w', (w.alloc (wObj false mag)).grownBy w' none → w'.cell? ⟨w.heap.size, 0, none⟩ = some (Value.bool false) ∧ w'.cell? ⟨w.heap.size, 1, none⟩ = some (Value.string mag)) := fun w' hg => ⟨(WBlk.kept (w := w.alloc (wObj false mag)) (heap_alloc_new _ _) hg (by simp)).c0, (WBlk.kept (w := w.alloc (wObj false mag)) (heap_alloc_new _ _) hg (by simp)).c1⟩
  clear htab hgp hl
  go_enter Tryz.func5, Tryz.ntmps5
  go_wp2_with fail
  refine HL.out.mono ?_
  rintro e w1 ⟨rfl, g1⟩
  have G1 : (w.alloc (wObj false mag)).grownBy w1 none := grownBy_trans (grow1 _ _) g1
  obtain ⟨c0, c1⟩ := HK.out _ G1
  clear g1 HL
  go_wp2_with fail
  refine (HRt.out _).mono ?_
  rintro e w2 ⟨rfl, g2⟩
  have G2 := grownBy_trans G1 g2
  clear G1 g2 c0 c1
  obtain ⟨c0, c1⟩ := HK.out _ (grownBy_trans G2 (grow2 w2 (wObj false rs) (wObj false ts)))
  go_wp2_with fail
  refine (HSq.out _).mono ?_
  rintro e w3 ⟨rfl, g3⟩
  have q3 : WBlk w3 w2.heap.size (.bool false) (.string rs) := WBlk.kept (at_alloc1 _ _ _) g3 (by simp)
  have r3 : WBlk w3 (w2.heap.size + 1) (.bool false) (.string ts) := WBlk.kept (heap_alloc2_new _ _ _) g3 (by simp)
  have G3 := grownBy_trans G2 (grownBy_trans (grow2 _ _ _) g3)
  clear G2 g3 c0 c1
  obtain ⟨c0, c1⟩ := HK.out _ (grownBy_trans G3 (grow1 w3 (wObj false rs)))
  go_wp2_with fail
  refine (HB1.out _ _).mono ?_
  rintro e w4 ⟨rfl, g4⟩
  have q4 := q3.kept (grownBy_trans (grow2 _ _ _) g4) (by simp)
  have r4 := r3.kept (grownBy_trans (grow2 _ _ _) g4) (by simp)
  have s4 : WBlk w4 w3.heap.size (.bool false) (.string rs) := WBlk.kept (heap_alloc_new _ _) (grownBy_trans (grow1 _ _) g4) (by simp)
  have G4 := grownBy_trans G3 (grownBy_trans (grow2 _ _ _) g4)
  have HKK : Hid (∀ w', w4.grownBy w' none → (w'.cell? ⟨w2.heap.size, 0, none⟩ = some (Value.bool false) ∧ w'.cell? ⟨w2.heap.size, 1, none⟩ = some (Value.string rs) ∧ w'.cell? ⟨w2.heap.size + 1, 0, none⟩ = some (Value.bool false) ∧ w'.cell? ⟨w2.heap.size + 1, 1, none⟩ = some (Value.string ts) ∧ w'.cell? ⟨w3.heap.size, 0, none⟩ = some (Value.bool false) ∧ w'.cell? ⟨w3.heap.size, 1, none⟩ = some (Value.string rs)) ∧ (w'.cell? ⟨w.heap.size, 0, none⟩ = some (Value.bool false) ∧ w'.cell? ⟨w.heap.size, 1, none⟩ = some (Value.string mag))) :=
    fun w' hg => ⟨⟨(q4.kept hg (by simp)).c0, (q4.kept hg (by simp)).c1, (r4.kept hg (by simp)).c0, (r4.kept hg (by simp)).c1, (s4.kept hg (by simp)).c0, (s4.kept hg (by simp)).c1⟩, HK.out _ (grownBy_trans G4 hg)⟩
  have HG4 : Hid (w.grownBy w4 none) := grownBy_trans (grow1 _ _) G4
  clear g4 G3 G4 q3 r3 q4 r4 s4 c0 c1 HB1 HK HRt HSq
  rw [hma]
  clear hma
  obtain ⟨⟨k0, k1, k2, k3, k4, k5⟩, c0, c1⟩ := HKK.out _ (World.grownBy.refl _ _)
  go_wp2_with fail
  refine (HRr.out _).mono ?_
  rintro e w5 ⟨rfl, g5⟩
  have HGC : Hid (w4.grownBy ((w5.alloc (wObj false rs)).alloc (wObj false ts)) none) := grownBy_trans g5 (grow2 _ _ _)
  clear g5
  clear k0 k1 k2 k3 k4 k5 c0 c1
  obtain ⟨⟨k0, k1, k2, k3, k4, k5⟩, c0, c1⟩ := HKK.out _ HGC.out
  go_wp2_with (go_at_call 18; refine (num_any _ _).mono ?_; rintro e wn ⟨rfl, hn5⟩; have hn5 := hn5.symm; subst hn5)
  refine (HVa.out _).mono ?_
  rintro e w6 ⟨rfl, g6⟩
  have HG6 : Hid (w4.grownBy w6 none) := grownBy_trans HGC.out g6
  clear g6
  clear k0 k1 k2 k3 k4 k5 c0 c1
  obtain ⟨⟨k0, k1, k2, k3, k4, k5⟩, c0, c1⟩ := HKK.out _ HG6.out
  go_wp2_with fail
  refine (HPw.out _).mono ?_
  rintro e w7 ⟨rfl, g7⟩
  have HG7 : Hid (w4.grownBy (w7.alloc (wObj pb pm)) none) := grownBy_trans HG6.out (grownBy_trans g7 (grow1 _ _))
  clear g7
  clear k0 k1 k2 k3 k4 k5 c0 c1
  obtain ⟨⟨k0, k1, k2, k3, k4, k5⟩, c0, c1⟩ := HKK.out _ HG7.out
  go_wp2_with fail
  refine (HVa.out _).mono ?_
  rintro e w8 ⟨rfl, g8⟩
  have hP8 : WBlk w8 w7.heap.size (.bool pb) (.string pm) := WBlk.kept (heap_alloc_new _ _) g8 (by simp)
  have HG8 : Hid (w4.grownBy w8 none) := grownBy_trans HG7.out g8
  have HP8 : Hid (WBlk w8 w7.heap.size (.bool pb) (.string pm)) := hP8
  clear g8 hP8
  clear k0 k1 k2 k3 k4 k5 c0 c1
  obtain ⟨⟨k0, k1, k2, k3, k4, k5⟩, c0, c1⟩ := HKK.out _ HG8.out
  have p0 := HP8.out.c0
  have p1 := HP8.out.c1
  have HKP : Hid (∀ w', w8.grownBy w' none → w'.cell? ⟨w7.heap.size, 0, none⟩ = some (Value.bool pb) ∧ w'.cell? ⟨w7.heap.size, 1, none⟩ = some (Value.string pm) ∧ w'.cell? ⟨w.heap.size, 0, none⟩ = some (Value.bool false) ∧ w'.cell? ⟨w.heap.size, 1, none⟩ = some (Value.string mag)) := fun w' hg => ⟨(HP8.out.kept hg (by simp)).c0, (HP8.out.kept hg (by simp)).c1, (HKK.out _ (grownBy_trans HG8.out hg)).2.1, (HKK.out _ (grownBy_trans HG8.out hg)).2.2⟩
  go_wp2_with fail
  go_region_held3 (fun w' => w'.cell? ⟨w7.heap.size, 0, none⟩ = some (Value.bool pb) ∧ w'.cell? ⟨w7.heap.size, 1, none⟩ = some (Value.string pm) ∧ w'.cell? ⟨w.heap.size, 0, none⟩ = some (Value.bool false) ∧ w'.cell? ⟨w.heap.size, 1, none⟩ = some (Value.string mag))
    (first | (go_keep; done) | exact HKP.out _ (by assumption) | exact HKP.out _ (grow_drew (World.grownBy.refl _ _)) | fail)
    (first
      | (go_at_call 26; refine (HRp.out _).mono ?_; rintro e wA ⟨rfl, gA⟩; have GA : w8.grownBy wA none := (by first | exact gA | exact grownBy_undrew gA | fail))
      | (go_at_call 15; refine (HIs.out _).mono ?_; rintro e wB ⟨rfl, gB⟩; have GB : w8.grownBy wB none := grownBy_trans GA (by first | exact gB | exact grownBy_undrew gB | fail))
      | (go_at_call 8; refine (works_any _ (HT.out _ (grownBy_trans HG4.out (grownBy_trans HG8.out GB)))).mono ?_; rintro e wC ⟨rfl, gC⟩; have GC : w8.grownBy wC none := grownBy_trans GB (by first | exact gC | exact grownBy_undrew gC | fail))
      | fail)
  have HGZ : Hid (w.grownBy wC none) := grownBy_trans HG4.out (grownBy_trans HG8.out GC)
  go_wp2_with fail
  go_ret
  exact ⟨rfl, HGZ.out⟩

set_option maxHeartbeats 3200000 in
set_option maxRecDepth 1000000 in
theorem roots_s6 (neg : Bool) (mag : ByteArray) (n : Int) (z : mag.size ≤ maxLen) (hl : isLong (neg, mag) = false) {rs ts : ByteArray} 
    (HRt : Hid (∀ w, Calls Tryz.prog 21 #[whole neg mag] w fun e w' => e = .returned (.tuple #[whole false rs, whole false ts, .int .i64 0]) ∧ w.grownBy w' none))
    (HSq : Hid (∀ w, Calls Tryz.prog 22 #[whole neg mag] w fun e w' => e = .returned (.tuple #[whole false rs, .bool true]) ∧ w.grownBy w' none))
    (hma : may neg mag = true) (hng : neg = false) (hts : (ts.toList == []) = true) (HRr : Hid (∀ w, Calls Tryz.prog 24 #[whole neg mag] w fun e w' => e = .returned (.tuple #[whole false rs, whole false ts]) ∧ w.grownBy w' none)) (hn : 0 < n) {m : Int} (hm : (mag.size : Int) = m) (hm0 : 0 < m) (he1 : (mag.toList == [1]) = true) {pb tb : Bool} {pm tm : ByteArray} {pe : Int} (HRp : Hid (∀ w, Calls Tryz.prog 26 #[whole neg mag, .int .i64 n] w fun e w' => e = .returned (whole tb tm) ∧ w.grownBy w' none)) (HIs : Hid (∀ w, Calls Tryz.prog 15 #[whole pb pm, .int .i64 pe, whole tb tm] w fun e w' => e = .returned (.bool true) ∧ w.grownBy w' none)) (HPw : Hid (∀ w, Calls Tryz.prog 23 #[whole neg mag, .int .i64 n] w fun e w' => e = .returned (.tuple #[whole pb pm, .int .i64 pe]) ∧ w.grownBy w' none)) (HVa : Hid (∀ w, Calls Tryz.prog 25 #[whole neg mag, .int .i64 n] w fun e w' => e = .returned (.bool false) ∧ w.grownBy w' none))
    (w : World) (htab : Lib.TabIs Tryz.prog w "internal/strconv.uint64pow10" .u64 Lib.pow10Tab) :
    Calls Tryz.prog 5 #[whole neg mag, .int .i64 n] w fun e w' => e = .returned (.bool true) ∧ w.grownBy w' none := by
  subst hng
  obtain ⟨gp, hgp⟩ := pow10_g
  have HT : Hid (∀ w', w.grownBy w' none → Lib.TabIs Tryz.prog w' "internal/strconv.uint64pow10" .u64 Lib.pow10Tab) := fun w' hg => tab_kept hgp htab hg
  have HL := longOne false mag z w
  rw [hl] at HL
  have HB1 := badOne1 false mag z
  have HK : Hid (∀ w', (w.alloc (wObj false mag)).grownBy w' none → w'.cell? ⟨w.heap.size, 0, none⟩ = some (Value.bool false) ∧ w'.cell? ⟨w.heap.size, 1, none⟩ = some (Value.string mag)) := fun w' hg => ⟨(WBlk.kept (w := w.alloc (wObj false mag)) (heap_alloc_new _ _) hg (by simp)).c0, (WBlk.kept (w := w.alloc (wObj false mag)) (heap_alloc_new _ _) hg (by simp)).c1⟩
  clear htab hgp hl
  go_enter Tryz.func5, Tryz.ntmps5
  go_wp2_with fail
  refine HL.out.mono ?_
  rintro e w1 ⟨rfl, g1⟩
  have G1 : (w.alloc (wObj false mag)).grownBy w1 none := grownBy_trans (grow1 _ _) g1
  obtain ⟨c0, c1⟩ := HK.out _ G1
  clear g1 HL
  go_wp2_with fail
  refine (HRt.out _).mono ?_
  rintro e w2 ⟨rfl, g2⟩
  have G2 := grownBy_trans G1 g2
  clear G1 g2 c0 c1
  obtain ⟨c0, c1⟩ := HK.out _ (grownBy_trans G2 (grow2 w2 (wObj false rs) (wObj false ts)))
  go_wp2_with fail
  refine (HSq.out _).mono ?_
  rintro e w3 ⟨rfl, g3⟩
  have q3 : WBlk w3 w2.heap.size (.bool false) (.string rs) := WBlk.kept (at_alloc1 _ _ _) g3 (by simp)
  have r3 : WBlk w3 (w2.heap.size + 1) (.bool false) (.string ts) := WBlk.kept (heap_alloc2_new _ _ _) g3 (by simp)
  have G3 := grownBy_trans G2 (grownBy_trans (grow2 _ _ _) g3)
  clear G2 g3 c0 c1
  obtain ⟨c0, c1⟩ := HK.out _ (grownBy_trans G3 (grow1 w3 (wObj false rs)))
  go_wp2_with fail
  refine (HB1.out _ _).mono ?_
  rintro e w4 ⟨rfl, g4⟩
  have q4 := q3.kept (grownBy_trans (grow2 _ _ _) g4) (by simp)
  have r4 := r3.kept (grownBy_trans (grow2 _ _ _) g4) (by simp)
  have s4 : WBlk w4 w3.heap.size (.bool false) (.string rs) := WBlk.kept (heap_alloc_new _ _) (grownBy_trans (grow1 _ _) g4) (by simp)
  have G4 := grownBy_trans G3 (grownBy_trans (grow2 _ _ _) g4)
  have HKK : Hid (∀ w', w4.grownBy w' none → (w'.cell? ⟨w2.heap.size, 0, none⟩ = some (Value.bool false) ∧ w'.cell? ⟨w2.heap.size, 1, none⟩ = some (Value.string rs) ∧ w'.cell? ⟨w2.heap.size + 1, 0, none⟩ = some (Value.bool false) ∧ w'.cell? ⟨w2.heap.size + 1, 1, none⟩ = some (Value.string ts) ∧ w'.cell? ⟨w3.heap.size, 0, none⟩ = some (Value.bool false) ∧ w'.cell? ⟨w3.heap.size, 1, none⟩ = some (Value.string rs)) ∧ (w'.cell? ⟨w.heap.size, 0, none⟩ = some (Value.bool false) ∧ w'.cell? ⟨w.heap.size, 1, none⟩ = some (Value.string mag))) :=
    fun w' hg => ⟨⟨(q4.kept hg (by simp)).c0, (q4.kept hg (by simp)).c1, (r4.kept hg (by simp)).c0, (r4.kept hg (by simp)).c1, (s4.kept hg (by simp)).c0, (s4.kept hg (by simp)).c1⟩, HK.out _ (grownBy_trans G4 hg)⟩
  have HG4 : Hid (w.grownBy w4 none) := grownBy_trans (grow1 _ _) G4
  clear g4 G3 G4 q3 r3 q4 r4 s4 c0 c1 HB1 HK HRt HSq
  rw [hma]
  clear hma
  obtain ⟨⟨k0, k1, k2, k3, k4, k5⟩, c0, c1⟩ := HKK.out _ (World.grownBy.refl _ _)
  go_wp2_with fail
  refine (HRr.out _).mono ?_
  rintro e w5 ⟨rfl, g5⟩
  have HGC : Hid (w4.grownBy ((w5.alloc (wObj false rs)).alloc (wObj false ts)) none) := grownBy_trans g5 (grow2 _ _ _)
  clear g5
  clear k0 k1 k2 k3 k4 k5 c0 c1
  obtain ⟨⟨k0, k1, k2, k3, k4, k5⟩, c0, c1⟩ := HKK.out _ HGC.out
  go_wp2_with (go_at_call 18; refine (num_any _ _).mono ?_; rintro e wn ⟨rfl, hn5⟩; have hn5 := hn5.symm; subst hn5)
  refine (HVa.out _).mono ?_
  rintro e w6 ⟨rfl, g6⟩
  have HG6 : Hid (w4.grownBy w6 none) := grownBy_trans HGC.out g6
  clear g6
  clear k0 k1 k2 k3 k4 k5 c0 c1
  obtain ⟨⟨k0, k1, k2, k3, k4, k5⟩, c0, c1⟩ := HKK.out _ HG6.out
  go_wp2_with fail
  refine (HPw.out _).mono ?_
  rintro e w7 ⟨rfl, g7⟩
  have HG7 : Hid (w4.grownBy (w7.alloc (wObj pb pm)) none) := grownBy_trans HG6.out (grownBy_trans g7 (grow1 _ _))
  clear g7
  clear k0 k1 k2 k3 k4 k5 c0 c1
  obtain ⟨⟨k0, k1, k2, k3, k4, k5⟩, c0, c1⟩ := HKK.out _ HG7.out
  go_wp2_with fail
  refine (HVa.out _).mono ?_
  rintro e w8 ⟨rfl, g8⟩
  have hP8 : WBlk w8 w7.heap.size (.bool pb) (.string pm) := WBlk.kept (heap_alloc_new _ _) g8 (by simp)
  have HG8 : Hid (w4.grownBy w8 none) := grownBy_trans HG7.out g8
  have HP8 : Hid (WBlk w8 w7.heap.size (.bool pb) (.string pm)) := hP8
  clear g8 hP8
  clear k0 k1 k2 k3 k4 k5 c0 c1
  obtain ⟨⟨k0, k1, k2, k3, k4, k5⟩, c0, c1⟩ := HKK.out _ HG8.out
  have p0 := HP8.out.c0
  have p1 := HP8.out.c1
  have HKP : Hid (∀ w', w8.grownBy w' none → w'.cell? ⟨w7.heap.size, 0, none⟩ = some (Value.bool pb) ∧ w'.cell? ⟨w7.heap.size, 1, none⟩ = some (Value.string pm) ∧ w'.cell? ⟨w.heap.size, 0, none⟩ = some (Value.bool false) ∧ w'.cell? ⟨w.heap.size, 1, none⟩ = some (Value.string mag)) := fun w' hg => ⟨(HP8.out.kept hg (by simp)).c0, (HP8.out.kept hg (by simp)).c1, (HKK.out _ (grownBy_trans HG8.out hg)).2.1, (HKK.out _ (grownBy_trans HG8.out hg)).2.2⟩
  go_wp2_with fail
  go_region_held3 (fun w' => w'.cell? ⟨w7.heap.size, 0, none⟩ = some (Value.bool pb) ∧ w'.cell? ⟨w7.heap.size, 1, none⟩ = some (Value.string pm) ∧ w'.cell? ⟨w.heap.size, 0, none⟩ = some (Value.bool false) ∧ w'.cell? ⟨w.heap.size, 1, none⟩ = some (Value.string mag))
    (first | (go_keep; done) | exact HKP.out _ (by assumption) | exact HKP.out _ (grow_drew (World.grownBy.refl _ _)) | fail)
    (first
      | (go_at_call 26; refine (HRp.out _).mono ?_; rintro e wA ⟨rfl, gA⟩; have GA : w8.grownBy wA none := (by first | exact gA | exact grownBy_undrew gA | fail))
      | (go_at_call 15; refine (HIs.out _).mono ?_; rintro e wB ⟨rfl, gB⟩; have GB : w8.grownBy wB none := grownBy_trans GA (by first | exact gB | exact grownBy_undrew gB | fail))
      | (go_at_call 8; refine (works_any _ (HT.out _ (grownBy_trans HG4.out (grownBy_trans HG8.out GB)))).mono ?_; rintro e wC ⟨rfl, gC⟩; have GC : w8.grownBy wC none := grownBy_trans GB (by first | exact gC | exact grownBy_undrew gC | fail))
      | fail)
  have HGZ : Hid (w.grownBy wC none) := grownBy_trans HG4.out (grownBy_trans HG8.out GC)
  go_wp2_with fail
  go_ret
  exact ⟨rfl, HGZ.out⟩

set_option maxHeartbeats 3200000 in
set_option maxRecDepth 1000000 in
theorem roots_s7 (neg : Bool) (mag : ByteArray) (n : Int) (z : mag.size ≤ maxLen) (hl : isLong (neg, mag) = false) {rs ts : ByteArray} 
    (HRt : Hid (∀ w, Calls Tryz.prog 21 #[whole neg mag] w fun e w' => e = .returned (.tuple #[whole false rs, whole false ts, .int .i64 0]) ∧ w.grownBy w' none))
    (HSq : Hid (∀ w, Calls Tryz.prog 22 #[whole neg mag] w fun e w' => e = .returned (.tuple #[whole false rs, .bool true]) ∧ w.grownBy w' none))
    (hma : may neg mag = true) (hng : neg = false) (hts : (ts.toList == []) = true) (HRr : Hid (∀ w, Calls Tryz.prog 24 #[whole neg mag] w fun e w' => e = .returned (.tuple #[whole false rs, whole false ts]) ∧ w.grownBy w' none)) (hn : 0 < n) (he1 : (mag.toList == [1]) = false) {Q m : Int} (hm : (mag.size : Int) = m) (hm0 : 0 < m) (hQ : 20000 / m = Q) (hnQ : n ≤ Q) {pb tb : Bool} {pm tm : ByteArray} {pe : Int} (HRp : Hid (∀ w, Calls Tryz.prog 26 #[whole neg mag, .int .i64 n] w fun e w' => e = .returned (whole tb tm) ∧ w.grownBy w' none)) (HIs : Hid (∀ w, Calls Tryz.prog 15 #[whole pb pm, .int .i64 pe, whole tb tm] w fun e w' => e = .returned (.bool true) ∧ w.grownBy w' none)) (HPw : Hid (∀ w, Calls Tryz.prog 23 #[whole neg mag, .int .i64 n] w fun e w' => e = .returned (.tuple #[whole pb pm, .int .i64 pe]) ∧ w.grownBy w' none)) (HVa : Hid (∀ w, Calls Tryz.prog 25 #[whole neg mag, .int .i64 n] w fun e w' => e = .returned (.bool false) ∧ w.grownBy w' none))
    (w : World) (htab : Lib.TabIs Tryz.prog w "internal/strconv.uint64pow10" .u64 Lib.pow10Tab) :
    Calls Tryz.prog 5 #[whole neg mag, .int .i64 n] w fun e w' => e = .returned (.bool true) ∧ w.grownBy w' none := by
  subst hng
  obtain ⟨gp, hgp⟩ := pow10_g
  have HT : Hid (∀ w', w.grownBy w' none → Lib.TabIs Tryz.prog w' "internal/strconv.uint64pow10" .u64 Lib.pow10Tab) := fun w' hg => tab_kept hgp htab hg
  have HL := longOne false mag z w
  rw [hl] at HL
  have HB1 := badOne1 false mag z
  have HK : Hid (∀ w', (w.alloc (wObj false mag)).grownBy w' none → w'.cell? ⟨w.heap.size, 0, none⟩ = some (Value.bool false) ∧ w'.cell? ⟨w.heap.size, 1, none⟩ = some (Value.string mag)) := fun w' hg => ⟨(WBlk.kept (w := w.alloc (wObj false mag)) (heap_alloc_new _ _) hg (by simp)).c0, (WBlk.kept (w := w.alloc (wObj false mag)) (heap_alloc_new _ _) hg (by simp)).c1⟩
  clear htab hgp hl
  go_enter Tryz.func5, Tryz.ntmps5
  go_wp2_with fail
  refine HL.out.mono ?_
  rintro e w1 ⟨rfl, g1⟩
  have G1 : (w.alloc (wObj false mag)).grownBy w1 none := grownBy_trans (grow1 _ _) g1
  obtain ⟨c0, c1⟩ := HK.out _ G1
  clear g1 HL
  go_wp2_with fail
  refine (HRt.out _).mono ?_
  rintro e w2 ⟨rfl, g2⟩
  have G2 := grownBy_trans G1 g2
  clear G1 g2 c0 c1
  obtain ⟨c0, c1⟩ := HK.out _ (grownBy_trans G2 (grow2 w2 (wObj false rs) (wObj false ts)))
  go_wp2_with fail
  refine (HSq.out _).mono ?_
  rintro e w3 ⟨rfl, g3⟩
  have q3 : WBlk w3 w2.heap.size (.bool false) (.string rs) := WBlk.kept (at_alloc1 _ _ _) g3 (by simp)
  have r3 : WBlk w3 (w2.heap.size + 1) (.bool false) (.string ts) := WBlk.kept (heap_alloc2_new _ _ _) g3 (by simp)
  have G3 := grownBy_trans G2 (grownBy_trans (grow2 _ _ _) g3)
  clear G2 g3 c0 c1
  obtain ⟨c0, c1⟩ := HK.out _ (grownBy_trans G3 (grow1 w3 (wObj false rs)))
  go_wp2_with fail
  refine (HB1.out _ _).mono ?_
  rintro e w4 ⟨rfl, g4⟩
  have q4 := q3.kept (grownBy_trans (grow2 _ _ _) g4) (by simp)
  have r4 := r3.kept (grownBy_trans (grow2 _ _ _) g4) (by simp)
  have s4 : WBlk w4 w3.heap.size (.bool false) (.string rs) := WBlk.kept (heap_alloc_new _ _) (grownBy_trans (grow1 _ _) g4) (by simp)
  have G4 := grownBy_trans G3 (grownBy_trans (grow2 _ _ _) g4)
  have HKK : Hid (∀ w', w4.grownBy w' none → (w'.cell? ⟨w2.heap.size, 0, none⟩ = some (Value.bool false) ∧ w'.cell? ⟨w2.heap.size, 1, none⟩ = some (Value.string rs) ∧ w'.cell? ⟨w2.heap.size + 1, 0, none⟩ = some (Value.bool false) ∧ w'.cell? ⟨w2.heap.size + 1, 1, none⟩ = some (Value.string ts) ∧ w'.cell? ⟨w3.heap.size, 0, none⟩ = some (Value.bool false) ∧ w'.cell? ⟨w3.heap.size, 1, none⟩ = some (Value.string rs)) ∧ (w'.cell? ⟨w.heap.size, 0, none⟩ = some (Value.bool false) ∧ w'.cell? ⟨w.heap.size, 1, none⟩ = some (Value.string mag))) :=
    fun w' hg => ⟨⟨(q4.kept hg (by simp)).c0, (q4.kept hg (by simp)).c1, (r4.kept hg (by simp)).c0, (r4.kept hg (by simp)).c1, (s4.kept hg (by simp)).c0, (s4.kept hg (by simp)).c1⟩, HK.out _ (grownBy_trans G4 hg)⟩
  have HG4 : Hid (w.grownBy w4 none) := grownBy_trans (grow1 _ _) G4
  clear g4 G3 G4 q3 r3 q4 r4 s4 c0 c1 HB1 HK HRt HSq
  rw [hma]
  clear hma
  obtain ⟨⟨k0, k1, k2, k3, k4, k5⟩, c0, c1⟩ := HKK.out _ (World.grownBy.refl _ _)
  go_wp2_with fail
  refine (HRr.out _).mono ?_
  rintro e w5 ⟨rfl, g5⟩
  have HGC : Hid (w4.grownBy ((w5.alloc (wObj false rs)).alloc (wObj false ts)) none) := grownBy_trans g5 (grow2 _ _ _)
  clear g5
  clear k0 k1 k2 k3 k4 k5 c0 c1
  obtain ⟨⟨k0, k1, k2, k3, k4, k5⟩, c0, c1⟩ := HKK.out _ HGC.out
  go_wp2_with (go_at_call 18; refine (num_any _ _).mono ?_; rintro e wn ⟨rfl, hn5⟩; have hn5 := hn5.symm; subst hn5)
  refine (HVa.out _).mono ?_
  rintro e w6 ⟨rfl, g6⟩
  have HG6 : Hid (w4.grownBy w6 none) := grownBy_trans HGC.out g6
  clear g6
  clear k0 k1 k2 k3 k4 k5 c0 c1
  obtain ⟨⟨k0, k1, k2, k3, k4, k5⟩, c0, c1⟩ := HKK.out _ HG6.out
  go_wp2_with fail
  refine (HPw.out _).mono ?_
  rintro e w7 ⟨rfl, g7⟩
  have HG7 : Hid (w4.grownBy (w7.alloc (wObj pb pm)) none) := grownBy_trans HG6.out (grownBy_trans g7 (grow1 _ _))
  clear g7
  clear k0 k1 k2 k3 k4 k5 c0 c1
  obtain ⟨⟨k0, k1, k2, k3, k4, k5⟩, c0, c1⟩ := HKK.out _ HG7.out
  go_wp2_with fail
  refine (HVa.out _).mono ?_
  rintro e w8 ⟨rfl, g8⟩
  have hP8 : WBlk w8 w7.heap.size (.bool pb) (.string pm) := WBlk.kept (heap_alloc_new _ _) g8 (by simp)
  have HG8 : Hid (w4.grownBy w8 none) := grownBy_trans HG7.out g8
  have HP8 : Hid (WBlk w8 w7.heap.size (.bool pb) (.string pm)) := hP8
  clear g8 hP8
  clear k0 k1 k2 k3 k4 k5 c0 c1
  obtain ⟨⟨k0, k1, k2, k3, k4, k5⟩, c0, c1⟩ := HKK.out _ HG8.out
  have p0 := HP8.out.c0
  have p1 := HP8.out.c1
  have HKP : Hid (∀ w', w8.grownBy w' none → w'.cell? ⟨w7.heap.size, 0, none⟩ = some (Value.bool pb) ∧ w'.cell? ⟨w7.heap.size, 1, none⟩ = some (Value.string pm) ∧ w'.cell? ⟨w.heap.size, 0, none⟩ = some (Value.bool false) ∧ w'.cell? ⟨w.heap.size, 1, none⟩ = some (Value.string mag)) := fun w' hg => ⟨(HP8.out.kept hg (by simp)).c0, (HP8.out.kept hg (by simp)).c1, (HKK.out _ (grownBy_trans HG8.out hg)).2.1, (HKK.out _ (grownBy_trans HG8.out hg)).2.2⟩
  go_wp2_with fail
  go_region_held3 (fun w' => w'.cell? ⟨w7.heap.size, 0, none⟩ = some (Value.bool pb) ∧ w'.cell? ⟨w7.heap.size, 1, none⟩ = some (Value.string pm) ∧ w'.cell? ⟨w.heap.size, 0, none⟩ = some (Value.bool false) ∧ w'.cell? ⟨w.heap.size, 1, none⟩ = some (Value.string mag))
    (first | (go_keep; done) | exact HKP.out _ (by assumption) | exact HKP.out _ (grow_drew (World.grownBy.refl _ _)) | fail)
    (first
      | (go_at_call 26; refine (HRp.out _).mono ?_; rintro e wA ⟨rfl, gA⟩; have GA : w8.grownBy wA none := (by first | exact gA | exact grownBy_undrew gA | fail))
      | (go_at_call 15; refine (HIs.out _).mono ?_; rintro e wB ⟨rfl, gB⟩; have GB : w8.grownBy wB none := grownBy_trans GA (by first | exact gB | exact grownBy_undrew gB | fail))
      | (go_at_call 8; refine (works_any _ (HT.out _ (grownBy_trans HG4.out (grownBy_trans HG8.out GB)))).mono ?_; rintro e wC ⟨rfl, gC⟩; have GC : w8.grownBy wC none := grownBy_trans GB (by first | exact gC | exact grownBy_undrew gC | fail))
      | fail)
  have HGZ : Hid (w.grownBy wC none) := grownBy_trans HG4.out (grownBy_trans HG8.out GC)
  go_wp2_with fail
  go_ret
  exact ⟨rfl, HGZ.out⟩

end Go.Proofs.YtjenbicaepldlaaGreatDoor
