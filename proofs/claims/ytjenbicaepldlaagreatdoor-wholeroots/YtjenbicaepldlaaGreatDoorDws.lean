/-
  The walk over WholeDivs.
-/
import Derived.Test.YtjenbicaepldlaaGreatDoorBunTls
import Derived.Test.YtjenbicaepldlaaGreatDoorBunRsh
import Derived.Test.YtjenbicaepldlaaGreatDoorRdo
import Derived.Test.YtjenbicaepldlaaGreatDoorRdq
namespace Go.Proofs.YtjenbicaepldlaaGreatDoor
open Go.RowKit Go.Lib Go.Sort

/-- The document's DivMod. -/
theorem rDivMod_z (n1 n2 : Bool) (m1 m2 : ByteArray) (h1 : may n1 m1 = true) (h2 : may n2 m2 = true) (h0 : m2.size ≠ 0) (w : World) :
    Calls Tryz.prog 20 #[whole n1 m1, whole n2 m2] w (DmR (num n1 m1) (num n2 m2) w) := by
  cases n1
  · exact rDivMod_pos n2 m1 m2 h1 h2 h0 w
  · by_cases hfl : val (bN m1) % val (bN m2) = 0
    · exact rDivMod_flat n2 m1 m2 h1 h2 h0 hfl w
    · cases n2
      · exact rDivMod_negpos m1 m2 h1 h2 h0 hfl w
      · exact rDivMod_negneg m1 m2 h1 h2 h0 hfl w

set_option maxHeartbeats 3200000 in
set_option maxRecDepth 1000000 in
theorem divs_long (n1 n2 : Bool) (m1 m2 : ByteArray) (n : Int) (z1 : m1.size ≤ maxLen) (z2 : m2.size ≤ maxLen) (hl : anyLong [(n1, m1), (n2, m2)] = true) (w : World) (htab : Lib.TabIs Tryz.prog w "internal/strconv.uint64pow10" .u64 Lib.pow10Tab) :
    Calls Tryz.prog 4 #[whole n1 m1, whole n2 m2, .int .i64 n] w fun e w' => e = .returned (.bool true) ∧ w.grownBy w' none := by
  obtain ⟨gp, hgp⟩ := pow10_g
  have HT : Hid (∀ w', w.grownBy w' none → Lib.TabIs Tryz.prog w' "internal/strconv.uint64pow10" .u64 Lib.pow10Tab) := fun w' hg => tab_kept hgp htab hg
  have HL := longTwo n1 n2 m1 m2 z1 z2 w
  rw [hl] at HL
  clear htab hgp hl
  go_enter Tryz.func4, Tryz.ntmps4
  go_wp2_with fail
  refine HL.out.mono ?_
  rintro e w1 ⟨rfl, g1⟩
  have G1 := grownBy_trans (grow3 _ _ _ _) g1
  clear g1 HL
  go_wp2_with fail
  refine (works_any _ (HT.out _ G1)).mono ?_
  rintro e w2 ⟨rfl, g2⟩
  have HG2 : Hid (w.grownBy w2 none) := grownBy_trans G1 g2
  clear G1 g2
  go_wp2_with fail
  go_ret
  exact ⟨rfl, HG2.out⟩

theorem badTwo0 (n1 n2 : Bool) (m1 m2 : ByteArray) (z1 : m1.size ≤ maxLen) (z2 : m2.size ≤ maxLen) :
    Hid (∀ (w : World), Calls Tryz.prog 11 #[.slice (some ⟨w.heap.size, 0, none⟩) 2 2] (w.alloc (.cells #[.bool n1, .string m1, .bool n2, .string m2] 26)) fun e w' => e = .returned (.bool (!mayAll [(n1, m1), (n2, m2)])) ∧ (w.alloc (.cells #[.bool n1, .string m1, .bool n2, .string m2] 26)).grownBy w' none) := fun w =>
  bad_any _ _ _ (dw_two _ n1 n2 m1 m2) (by simp) (sizes2 z1 z2)
theorem nonempty_b {m : ByteArray} (h : m.size ≠ 0) : (m.toList == []) = false := by
  rw [beq_eq_false_iff_ne]
  intro e
  have := congrArg List.length e
  rw [ByteArray.toList_eq, Array.length_toList] at this
  exact h this

set_option maxHeartbeats 3200000 in
set_option maxRecDepth 1000000 in
theorem divs_a1b1 (n1 n2 : Bool) (m1 m2 : ByteArray) (n : Int) (z1 : m1.size ≤ maxLen) (z2 : m2.size ≤ maxLen) (hl : anyLong [(n1, m1), (n2, m2)] = false) 
    (HDv : Hid (∀ w, Calls Tryz.prog 16 #[whole n1 m1, whole n2 m2] w fun e w' => e = .returned (.tuple #[whole false eS, whole false eS, .int .i64 2]) ∧ w.grownBy w' none))
    (HSh : Hid (∀ w, Calls Tryz.prog 17 #[whole n1 m1, .int .i64 n] w fun e w' => e = .returned (.tuple #[whole false eS, .int .i64 2]) ∧ w.grownBy w' none))
    (hma : may n1 m1 = false) (hmb : mayAll [(n1, m1), (n2, m2)] = false)
    (w : World) (htab : Lib.TabIs Tryz.prog w "internal/strconv.uint64pow10" .u64 Lib.pow10Tab) :
    Calls Tryz.prog 4 #[whole n1 m1, whole n2 m2, .int .i64 n] w fun e w' => e = .returned (.bool true) ∧ w.grownBy w' none := by
  obtain ⟨gp, hgp⟩ := pow10_g
  have HT : Hid (∀ w', w.grownBy w' none → Lib.TabIs Tryz.prog w' "internal/strconv.uint64pow10" .u64 Lib.pow10Tab) := fun w' hg => tab_kept hgp htab hg
  have HL := longTwo n1 n2 m1 m2 z1 z2 w
  rw [hl] at HL
  have HB1 := badOne1 n1 m1 z1
  have HB2 := badTwo n1 n2 m1 m2 z1 z2
  have HB0 := badTwo0 n1 n2 m1 m2 z1 z2
  have HK : Hid (∀ w', ((w.alloc (wObj n1 m1)).alloc (wObj n2 m2)).grownBy w' none → w'.cell? ⟨w.heap.size, 0, none⟩ = some (Value.bool n1) ∧ w'.cell? ⟨w.heap.size, 1, none⟩ = some (Value.string m1) ∧ w'.cell? ⟨w.heap.size + 1, 0, none⟩ = some (Value.bool n2) ∧ w'.cell? ⟨w.heap.size + 1, 1, none⟩ = some (Value.string m2)) := keep2 w n1 n2 m1 m2
  clear htab hgp hl
  go_enter Tryz.func4, Tryz.ntmps4
  go_wp2_with fail
  refine HL.out.mono ?_
  rintro e w1 ⟨rfl, g1⟩
  have G1 : ((w.alloc (wObj n1 m1)).alloc (wObj n2 m2)).grownBy w1 none := grownBy_trans (grow1 _ _) g1
  obtain ⟨c0, c1, c2, c3⟩ := HK.out _ G1
  clear g1 HL
  go_wp2_with fail
  refine (HDv.out _).mono ?_
  rintro e w2 ⟨rfl, g2⟩
  have G2 := grownBy_trans G1 g2
  clear G1 g2 c0 c1 c2 c3
  obtain ⟨c0, c1, c2, c3⟩ := HK.out _ (grownBy_trans G2 (grow2 w2 (wObj false eS) (wObj false eS)))
  go_wp2_with fail
  refine (HSh.out _).mono ?_
  rintro e w3 ⟨rfl, g3⟩
  have q3 : WBlk w3 w2.heap.size (.bool false) (.string eS) := WBlk.kept (at_alloc1 _ _ _) g3 (by simp)
  have r3 : WBlk w3 (w2.heap.size + 1) (.bool false) (.string eS) := WBlk.kept (heap_alloc2_new _ _ _) g3 (by simp)
  have G3 := grownBy_trans G2 (grownBy_trans (grow2 _ _ _) g3)
  clear G2 g3 c0 c1 c2 c3
  obtain ⟨c0, c1, c2, c3⟩ := HK.out _ (grownBy_trans G3 (grow1 w3 (wObj false eS)))
  go_wp2_with fail
  refine (HB1.out _ _).mono ?_
  rintro e w4 ⟨rfl, g4⟩
  have q4 := q3.kept (grownBy_trans (grow2 _ _ _) g4) (by simp)
  have r4 := r3.kept (grownBy_trans (grow2 _ _ _) g4) (by simp)
  have s4 : WBlk w4 w3.heap.size (.bool false) (.string eS) := WBlk.kept (heap_alloc_new _ _) (grownBy_trans (grow1 _ _) g4) (by simp)
  have G4 := grownBy_trans G3 (grownBy_trans (grow2 _ _ _) g4)
  have HKK : Hid (∀ w', w4.grownBy w' none → (w'.cell? ⟨w2.heap.size, 0, none⟩ = some (Value.bool false) ∧ w'.cell? ⟨w2.heap.size, 1, none⟩ = some (Value.string eS) ∧ w'.cell? ⟨w2.heap.size + 1, 0, none⟩ = some (Value.bool false) ∧ w'.cell? ⟨w2.heap.size + 1, 1, none⟩ = some (Value.string eS) ∧ w'.cell? ⟨w3.heap.size, 0, none⟩ = some (Value.bool false) ∧ w'.cell? ⟨w3.heap.size, 1, none⟩ = some (Value.string eS)) ∧ (w'.cell? ⟨w.heap.size, 0, none⟩ = some (Value.bool n1) ∧ w'.cell? ⟨w.heap.size, 1, none⟩ = some (Value.string m1) ∧ w'.cell? ⟨w.heap.size + 1, 0, none⟩ = some (Value.bool n2) ∧ w'.cell? ⟨w.heap.size + 1, 1, none⟩ = some (Value.string m2))) :=
    fun w' hg => ⟨⟨(q4.kept hg (by simp)).c0, (q4.kept hg (by simp)).c1, (r4.kept hg (by simp)).c0, (r4.kept hg (by simp)).c1, (s4.kept hg (by simp)).c0, (s4.kept hg (by simp)).c1⟩, HK.out _ (grownBy_trans G4 hg)⟩
  have HG4 : Hid (w.grownBy w4 none) := grownBy_trans (grow2 _ _ _) G4
  clear g4 G3 G4 q3 r3 q4 r4 s4 c0 c1 c2 c3 HB1 HK HDv HSh
  rw [hma]
  clear hma
  obtain ⟨⟨k0, k1, k2, k3, k4, k5⟩, c0, c1, c2, c3⟩ := HKK.out _ (World.grownBy.refl _ _)
  go_wp2_with fail
  refine (arg_yes _).mono ?_
  rintro e w5 ⟨rfl, rfl⟩
  clear k0 k1 k2 k3 k4 k5 c0 c1 c2 c3
  obtain ⟨⟨k0, k1, k2, k3, k4, k5⟩, c0, c1, c2, c3⟩ := HKK.out _ (grow1 w4 (wObj false eS))
  go_wp2_with fail
  refine (HB2.out _ _).mono ?_
  rintro e w6 ⟨rfl, g6⟩
  have G6 : w4.grownBy w6 none := grownBy_trans (grow2 _ _ _) g6
  have HG6 : Hid (w4.grownBy w6 none) := G6
  clear g6 HB0 HB2 k0 k1 k2 k3 k4 k5 c0 c1 c2 c3
  obtain ⟨⟨k0, k1, k2, k3, k4, k5⟩, c0, c1, c2, c3⟩ := HKK.out _ G6
  clear G6
  rw [hmb]
  clear hmb
  go_wp2_with fail
  refine (arg_yes _).mono ?_
  rintro e w7 ⟨rfl, rfl⟩
  clear k0 k1 k2 k3 k4 k5 c0 c1 c2 c3
  obtain ⟨⟨k0, k1, k2, k3, k4, k5⟩, c0, c1, c2, c3⟩ := HKK.out _ (grownBy_trans HG6.out (grow1 w6 (wObj false eS)))
  go_wp2_with fail
  have G9 := grownBy_trans HG4.out (grownBy_trans HG6.out (grow1 w6 (wObj false eS)))
  refine (works_any _ (HT.out _ G9)).mono ?_
  rintro e wZ ⟨rfl, gZ⟩
  have HGZ : Hid (w.grownBy wZ none) := grownBy_trans G9 gZ
  clear gZ G9 k0 k1 k2 k3 k4 k5 c0 c1 c2 c3
  go_wp2_with fail
  go_ret
  exact ⟨rfl, HGZ.out⟩

set_option maxHeartbeats 3200000 in
set_option maxRecDepth 1000000 in
theorem divs_a2b1 (n1 n2 : Bool) (m1 m2 : ByteArray) (n : Int) (z1 : m1.size ≤ maxLen) (z2 : m2.size ≤ maxLen) (hl : anyLong [(n1, m1), (n2, m2)] = false) 
    (HDv : Hid (∀ w, Calls Tryz.prog 16 #[whole n1 m1, whole n2 m2] w fun e w' => e = .returned (.tuple #[whole false eS, whole false eS, .int .i64 2]) ∧ w.grownBy w' none))
    (HSh : Hid (∀ w, Calls Tryz.prog 17 #[whole n1 m1, .int .i64 n] w fun e w' => e = .returned (.tuple #[whole false eS, .int .i64 4]) ∧ w.grownBy w' none))
    (hma : may n1 m1 = true) (he : (m1.toList == []) = false) (hn : 131072 < n) (hmb : mayAll [(n1, m1), (n2, m2)] = false)
    (w : World) (htab : Lib.TabIs Tryz.prog w "internal/strconv.uint64pow10" .u64 Lib.pow10Tab) :
    Calls Tryz.prog 4 #[whole n1 m1, whole n2 m2, .int .i64 n] w fun e w' => e = .returned (.bool true) ∧ w.grownBy w' none := by
  obtain ⟨gp, hgp⟩ := pow10_g
  have HT : Hid (∀ w', w.grownBy w' none → Lib.TabIs Tryz.prog w' "internal/strconv.uint64pow10" .u64 Lib.pow10Tab) := fun w' hg => tab_kept hgp htab hg
  have HL := longTwo n1 n2 m1 m2 z1 z2 w
  rw [hl] at HL
  have HB1 := badOne1 n1 m1 z1
  have HB2 := badTwo n1 n2 m1 m2 z1 z2
  have HB0 := badTwo0 n1 n2 m1 m2 z1 z2
  have HK : Hid (∀ w', ((w.alloc (wObj n1 m1)).alloc (wObj n2 m2)).grownBy w' none → w'.cell? ⟨w.heap.size, 0, none⟩ = some (Value.bool n1) ∧ w'.cell? ⟨w.heap.size, 1, none⟩ = some (Value.string m1) ∧ w'.cell? ⟨w.heap.size + 1, 0, none⟩ = some (Value.bool n2) ∧ w'.cell? ⟨w.heap.size + 1, 1, none⟩ = some (Value.string m2)) := keep2 w n1 n2 m1 m2
  clear htab hgp hl
  go_enter Tryz.func4, Tryz.ntmps4
  go_wp2_with fail
  refine HL.out.mono ?_
  rintro e w1 ⟨rfl, g1⟩
  have G1 : ((w.alloc (wObj n1 m1)).alloc (wObj n2 m2)).grownBy w1 none := grownBy_trans (grow1 _ _) g1
  obtain ⟨c0, c1, c2, c3⟩ := HK.out _ G1
  clear g1 HL
  go_wp2_with fail
  refine (HDv.out _).mono ?_
  rintro e w2 ⟨rfl, g2⟩
  have G2 := grownBy_trans G1 g2
  clear G1 g2 c0 c1 c2 c3
  obtain ⟨c0, c1, c2, c3⟩ := HK.out _ (grownBy_trans G2 (grow2 w2 (wObj false eS) (wObj false eS)))
  go_wp2_with fail
  refine (HSh.out _).mono ?_
  rintro e w3 ⟨rfl, g3⟩
  have q3 : WBlk w3 w2.heap.size (.bool false) (.string eS) := WBlk.kept (at_alloc1 _ _ _) g3 (by simp)
  have r3 : WBlk w3 (w2.heap.size + 1) (.bool false) (.string eS) := WBlk.kept (heap_alloc2_new _ _ _) g3 (by simp)
  have G3 := grownBy_trans G2 (grownBy_trans (grow2 _ _ _) g3)
  clear G2 g3 c0 c1 c2 c3
  obtain ⟨c0, c1, c2, c3⟩ := HK.out _ (grownBy_trans G3 (grow1 w3 (wObj false eS)))
  go_wp2_with fail
  refine (HB1.out _ _).mono ?_
  rintro e w4 ⟨rfl, g4⟩
  have q4 := q3.kept (grownBy_trans (grow2 _ _ _) g4) (by simp)
  have r4 := r3.kept (grownBy_trans (grow2 _ _ _) g4) (by simp)
  have s4 : WBlk w4 w3.heap.size (.bool false) (.string eS) := WBlk.kept (heap_alloc_new _ _) (grownBy_trans (grow1 _ _) g4) (by simp)
  have G4 := grownBy_trans G3 (grownBy_trans (grow2 _ _ _) g4)
  have HKK : Hid (∀ w', w4.grownBy w' none → (w'.cell? ⟨w2.heap.size, 0, none⟩ = some (Value.bool false) ∧ w'.cell? ⟨w2.heap.size, 1, none⟩ = some (Value.string eS) ∧ w'.cell? ⟨w2.heap.size + 1, 0, none⟩ = some (Value.bool false) ∧ w'.cell? ⟨w2.heap.size + 1, 1, none⟩ = some (Value.string eS) ∧ w'.cell? ⟨w3.heap.size, 0, none⟩ = some (Value.bool false) ∧ w'.cell? ⟨w3.heap.size, 1, none⟩ = some (Value.string eS)) ∧ (w'.cell? ⟨w.heap.size, 0, none⟩ = some (Value.bool n1) ∧ w'.cell? ⟨w.heap.size, 1, none⟩ = some (Value.string m1) ∧ w'.cell? ⟨w.heap.size + 1, 0, none⟩ = some (Value.bool n2) ∧ w'.cell? ⟨w.heap.size + 1, 1, none⟩ = some (Value.string m2))) :=
    fun w' hg => ⟨⟨(q4.kept hg (by simp)).c0, (q4.kept hg (by simp)).c1, (r4.kept hg (by simp)).c0, (r4.kept hg (by simp)).c1, (s4.kept hg (by simp)).c0, (s4.kept hg (by simp)).c1⟩, HK.out _ (grownBy_trans G4 hg)⟩
  have HG4 : Hid (w.grownBy w4 none) := grownBy_trans (grow2 _ _ _) G4
  clear g4 G3 G4 q3 r3 q4 r4 s4 c0 c1 c2 c3 HB1 HK HDv HSh
  rw [hma]
  clear hma
  obtain ⟨⟨k0, k1, k2, k3, k4, k5⟩, c0, c1, c2, c3⟩ := HKK.out _ (World.grownBy.refl _ _)
  go_wp2_with (go_at_call 18; refine (num_any _ _).mono ?_; rintro e w5 ⟨rfl, h5⟩; have h5 := h5.symm; subst h5)
  refine (HB0.out _).mono ?_
  rintro e w6 ⟨rfl, g6⟩
  have G6 := grownBy_trans (grow1 _ _) g6
  have HG6 : Hid (w4.grownBy w6 none) := G6
  clear g6 HB0 HB2 k0 k1 k2 k3 k4 k5 c0 c1 c2 c3
  obtain ⟨⟨k0, k1, k2, k3, k4, k5⟩, c0, c1, c2, c3⟩ := HKK.out _ G6
  clear G6
  rw [hmb]
  clear hmb
  go_wp2_with fail
  refine (arg_yes _).mono ?_
  rintro e w7 ⟨rfl, rfl⟩
  clear k0 k1 k2 k3 k4 k5 c0 c1 c2 c3
  obtain ⟨⟨k0, k1, k2, k3, k4, k5⟩, c0, c1, c2, c3⟩ := HKK.out _ (grownBy_trans HG6.out (grow1 w6 (wObj false eS)))
  go_wp2_with fail
  have G9 := grownBy_trans HG4.out (grownBy_trans HG6.out (grow1 w6 (wObj false eS)))
  refine (works_any _ (HT.out _ G9)).mono ?_
  rintro e wZ ⟨rfl, gZ⟩
  have HGZ : Hid (w.grownBy wZ none) := grownBy_trans G9 gZ
  clear gZ G9 k0 k1 k2 k3 k4 k5 c0 c1 c2 c3
  go_wp2_with fail
  go_ret
  exact ⟨rfl, HGZ.out⟩

set_option maxHeartbeats 3200000 in
set_option maxRecDepth 1000000 in
theorem divs_a2b2 (n1 n2 : Bool) (m1 m2 : ByteArray) (n : Int) (z1 : m1.size ≤ maxLen) (z2 : m2.size ≤ maxLen) (hl : anyLong [(n1, m1), (n2, m2)] = false) 
    (HDv : Hid (∀ w, Calls Tryz.prog 16 #[whole n1 m1, whole n2 m2] w fun e w' => e = .returned (.tuple #[whole false eS, whole false eS, .int .i64 5]) ∧ w.grownBy w' none))
    (HSh : Hid (∀ w, Calls Tryz.prog 17 #[whole n1 m1, .int .i64 n] w fun e w' => e = .returned (.tuple #[whole false eS, .int .i64 4]) ∧ w.grownBy w' none))
    (hma : may n1 m1 = true) (he : (m1.toList == []) = false) (hn : 131072 < n) (hmb : mayAll [(n1, m1), (n2, m2)] = true) (hb0 : (m2.toList == []) = true)
    (w : World) (htab : Lib.TabIs Tryz.prog w "internal/strconv.uint64pow10" .u64 Lib.pow10Tab) :
    Calls Tryz.prog 4 #[whole n1 m1, whole n2 m2, .int .i64 n] w fun e w' => e = .returned (.bool true) ∧ w.grownBy w' none := by
  obtain ⟨gp, hgp⟩ := pow10_g
  have HT : Hid (∀ w', w.grownBy w' none → Lib.TabIs Tryz.prog w' "internal/strconv.uint64pow10" .u64 Lib.pow10Tab) := fun w' hg => tab_kept hgp htab hg
  have HL := longTwo n1 n2 m1 m2 z1 z2 w
  rw [hl] at HL
  have HB1 := badOne1 n1 m1 z1
  have HB2 := badTwo n1 n2 m1 m2 z1 z2
  have HB0 := badTwo0 n1 n2 m1 m2 z1 z2
  have HK : Hid (∀ w', ((w.alloc (wObj n1 m1)).alloc (wObj n2 m2)).grownBy w' none → w'.cell? ⟨w.heap.size, 0, none⟩ = some (Value.bool n1) ∧ w'.cell? ⟨w.heap.size, 1, none⟩ = some (Value.string m1) ∧ w'.cell? ⟨w.heap.size + 1, 0, none⟩ = some (Value.bool n2) ∧ w'.cell? ⟨w.heap.size + 1, 1, none⟩ = some (Value.string m2)) := keep2 w n1 n2 m1 m2
  clear htab hgp hl
  go_enter Tryz.func4, Tryz.ntmps4
  go_wp2_with fail
  refine HL.out.mono ?_
  rintro e w1 ⟨rfl, g1⟩
  have G1 : ((w.alloc (wObj n1 m1)).alloc (wObj n2 m2)).grownBy w1 none := grownBy_trans (grow1 _ _) g1
  obtain ⟨c0, c1, c2, c3⟩ := HK.out _ G1
  clear g1 HL
  go_wp2_with fail
  refine (HDv.out _).mono ?_
  rintro e w2 ⟨rfl, g2⟩
  have G2 := grownBy_trans G1 g2
  clear G1 g2 c0 c1 c2 c3
  obtain ⟨c0, c1, c2, c3⟩ := HK.out _ (grownBy_trans G2 (grow2 w2 (wObj false eS) (wObj false eS)))
  go_wp2_with fail
  refine (HSh.out _).mono ?_
  rintro e w3 ⟨rfl, g3⟩
  have q3 : WBlk w3 w2.heap.size (.bool false) (.string eS) := WBlk.kept (at_alloc1 _ _ _) g3 (by simp)
  have r3 : WBlk w3 (w2.heap.size + 1) (.bool false) (.string eS) := WBlk.kept (heap_alloc2_new _ _ _) g3 (by simp)
  have G3 := grownBy_trans G2 (grownBy_trans (grow2 _ _ _) g3)
  clear G2 g3 c0 c1 c2 c3
  obtain ⟨c0, c1, c2, c3⟩ := HK.out _ (grownBy_trans G3 (grow1 w3 (wObj false eS)))
  go_wp2_with fail
  refine (HB1.out _ _).mono ?_
  rintro e w4 ⟨rfl, g4⟩
  have q4 := q3.kept (grownBy_trans (grow2 _ _ _) g4) (by simp)
  have r4 := r3.kept (grownBy_trans (grow2 _ _ _) g4) (by simp)
  have s4 : WBlk w4 w3.heap.size (.bool false) (.string eS) := WBlk.kept (heap_alloc_new _ _) (grownBy_trans (grow1 _ _) g4) (by simp)
  have G4 := grownBy_trans G3 (grownBy_trans (grow2 _ _ _) g4)
  have HKK : Hid (∀ w', w4.grownBy w' none → (w'.cell? ⟨w2.heap.size, 0, none⟩ = some (Value.bool false) ∧ w'.cell? ⟨w2.heap.size, 1, none⟩ = some (Value.string eS) ∧ w'.cell? ⟨w2.heap.size + 1, 0, none⟩ = some (Value.bool false) ∧ w'.cell? ⟨w2.heap.size + 1, 1, none⟩ = some (Value.string eS) ∧ w'.cell? ⟨w3.heap.size, 0, none⟩ = some (Value.bool false) ∧ w'.cell? ⟨w3.heap.size, 1, none⟩ = some (Value.string eS)) ∧ (w'.cell? ⟨w.heap.size, 0, none⟩ = some (Value.bool n1) ∧ w'.cell? ⟨w.heap.size, 1, none⟩ = some (Value.string m1) ∧ w'.cell? ⟨w.heap.size + 1, 0, none⟩ = some (Value.bool n2) ∧ w'.cell? ⟨w.heap.size + 1, 1, none⟩ = some (Value.string m2))) :=
    fun w' hg => ⟨⟨(q4.kept hg (by simp)).c0, (q4.kept hg (by simp)).c1, (r4.kept hg (by simp)).c0, (r4.kept hg (by simp)).c1, (s4.kept hg (by simp)).c0, (s4.kept hg (by simp)).c1⟩, HK.out _ (grownBy_trans G4 hg)⟩
  have HG4 : Hid (w.grownBy w4 none) := grownBy_trans (grow2 _ _ _) G4
  clear g4 G3 G4 q3 r3 q4 r4 s4 c0 c1 c2 c3 HB1 HK HDv HSh
  rw [hma]
  clear hma
  obtain ⟨⟨k0, k1, k2, k3, k4, k5⟩, c0, c1, c2, c3⟩ := HKK.out _ (World.grownBy.refl _ _)
  go_wp2_with (go_at_call 18; refine (num_any _ _).mono ?_; rintro e w5 ⟨rfl, h5⟩; have h5 := h5.symm; subst h5)
  refine (HB0.out _).mono ?_
  rintro e w6 ⟨rfl, g6⟩
  have G6 := grownBy_trans (grow1 _ _) g6
  have HG6 : Hid (w4.grownBy w6 none) := G6
  clear g6 HB0 HB2 k0 k1 k2 k3 k4 k5 c0 c1 c2 c3
  obtain ⟨⟨k0, k1, k2, k3, k4, k5⟩, c0, c1, c2, c3⟩ := HKK.out _ G6
  clear G6
  rw [hmb]
  clear hmb
  go_wp2_with (go_at_call 18; refine (num_any _ _).mono ?_; rintro e w7 ⟨rfl, rfl⟩)
  have G9 := grownBy_trans HG4.out HG6.out
  refine (works_any _ (HT.out _ G9)).mono ?_
  rintro e wZ ⟨rfl, gZ⟩
  have HGZ : Hid (w.grownBy wZ none) := grownBy_trans G9 gZ
  clear gZ G9 k0 k1 k2 k3 k4 k5 c0 c1 c2 c3
  go_wp2_with fail
  go_ret
  exact ⟨rfl, HGZ.out⟩

set_option maxHeartbeats 3200000 in
set_option maxRecDepth 1000000 in
theorem divs_a2b3 (n1 n2 : Bool) (m1 m2 : ByteArray) (n : Int) (z1 : m1.size ≤ maxLen) (z2 : m2.size ≤ maxLen) (hl : anyLong [(n1, m1), (n2, m2)] = false) {dq ds : Bool} {qm rm : ByteArray} 
    (HDv : Hid (∀ w, Calls Tryz.prog 16 #[whole n1 m1, whole n2 m2] w fun e w' => e = .returned (.tuple #[whole dq qm, whole ds rm, .int .i64 0]) ∧ w.grownBy w' none))
    (HSh : Hid (∀ w, Calls Tryz.prog 17 #[whole n1 m1, .int .i64 n] w fun e w' => e = .returned (.tuple #[whole false eS, .int .i64 4]) ∧ w.grownBy w' none))
    (hma : may n1 m1 = true) (he : (m1.toList == []) = false) (hn : 131072 < n) (hmb : mayAll [(n1, m1), (n2, m2)] = true) (hb0 : (m2.toList == []) = false) (HRd : Hid (∀ w, Calls Tryz.prog 20 #[whole n1 m1, whole n2 m2] w fun e w' => e = .returned (.tuple #[whole dq qm, whole ds rm]) ∧ w.grownBy w' none))
    (w : World) (htab : Lib.TabIs Tryz.prog w "internal/strconv.uint64pow10" .u64 Lib.pow10Tab) :
    Calls Tryz.prog 4 #[whole n1 m1, whole n2 m2, .int .i64 n] w fun e w' => e = .returned (.bool true) ∧ w.grownBy w' none := by
  obtain ⟨gp, hgp⟩ := pow10_g
  have HT : Hid (∀ w', w.grownBy w' none → Lib.TabIs Tryz.prog w' "internal/strconv.uint64pow10" .u64 Lib.pow10Tab) := fun w' hg => tab_kept hgp htab hg
  have HL := longTwo n1 n2 m1 m2 z1 z2 w
  rw [hl] at HL
  have HB1 := badOne1 n1 m1 z1
  have HB2 := badTwo n1 n2 m1 m2 z1 z2
  have HB0 := badTwo0 n1 n2 m1 m2 z1 z2
  have HK : Hid (∀ w', ((w.alloc (wObj n1 m1)).alloc (wObj n2 m2)).grownBy w' none → w'.cell? ⟨w.heap.size, 0, none⟩ = some (Value.bool n1) ∧ w'.cell? ⟨w.heap.size, 1, none⟩ = some (Value.string m1) ∧ w'.cell? ⟨w.heap.size + 1, 0, none⟩ = some (Value.bool n2) ∧ w'.cell? ⟨w.heap.size + 1, 1, none⟩ = some (Value.string m2)) := keep2 w n1 n2 m1 m2
  clear htab hgp hl
  go_enter Tryz.func4, Tryz.ntmps4
  go_wp2_with fail
  refine HL.out.mono ?_
  rintro e w1 ⟨rfl, g1⟩
  have G1 : ((w.alloc (wObj n1 m1)).alloc (wObj n2 m2)).grownBy w1 none := grownBy_trans (grow1 _ _) g1
  obtain ⟨c0, c1, c2, c3⟩ := HK.out _ G1
  clear g1 HL
  go_wp2_with fail
  refine (HDv.out _).mono ?_
  rintro e w2 ⟨rfl, g2⟩
  have G2 := grownBy_trans G1 g2
  clear G1 g2 c0 c1 c2 c3
  obtain ⟨c0, c1, c2, c3⟩ := HK.out _ (grownBy_trans G2 (grow2 w2 (wObj dq qm) (wObj ds rm)))
  go_wp2_with fail
  refine (HSh.out _).mono ?_
  rintro e w3 ⟨rfl, g3⟩
  have q3 : WBlk w3 w2.heap.size (.bool dq) (.string qm) := WBlk.kept (at_alloc1 _ _ _) g3 (by simp)
  have r3 : WBlk w3 (w2.heap.size + 1) (.bool ds) (.string rm) := WBlk.kept (heap_alloc2_new _ _ _) g3 (by simp)
  have G3 := grownBy_trans G2 (grownBy_trans (grow2 _ _ _) g3)
  clear G2 g3 c0 c1 c2 c3
  obtain ⟨c0, c1, c2, c3⟩ := HK.out _ (grownBy_trans G3 (grow1 w3 (wObj false eS)))
  go_wp2_with fail
  refine (HB1.out _ _).mono ?_
  rintro e w4 ⟨rfl, g4⟩
  have q4 := q3.kept (grownBy_trans (grow2 _ _ _) g4) (by simp)
  have r4 := r3.kept (grownBy_trans (grow2 _ _ _) g4) (by simp)
  have s4 : WBlk w4 w3.heap.size (.bool false) (.string eS) := WBlk.kept (heap_alloc_new _ _) (grownBy_trans (grow1 _ _) g4) (by simp)
  have G4 := grownBy_trans G3 (grownBy_trans (grow2 _ _ _) g4)
  have HKK : Hid (∀ w', w4.grownBy w' none → (w'.cell? ⟨w2.heap.size, 0, none⟩ = some (Value.bool dq) ∧ w'.cell? ⟨w2.heap.size, 1, none⟩ = some (Value.string qm) ∧ w'.cell? ⟨w2.heap.size + 1, 0, none⟩ = some (Value.bool ds) ∧ w'.cell? ⟨w2.heap.size + 1, 1, none⟩ = some (Value.string rm) ∧ w'.cell? ⟨w3.heap.size, 0, none⟩ = some (Value.bool false) ∧ w'.cell? ⟨w3.heap.size, 1, none⟩ = some (Value.string eS)) ∧ (w'.cell? ⟨w.heap.size, 0, none⟩ = some (Value.bool n1) ∧ w'.cell? ⟨w.heap.size, 1, none⟩ = some (Value.string m1) ∧ w'.cell? ⟨w.heap.size + 1, 0, none⟩ = some (Value.bool n2) ∧ w'.cell? ⟨w.heap.size + 1, 1, none⟩ = some (Value.string m2))) :=
    fun w' hg => ⟨⟨(q4.kept hg (by simp)).c0, (q4.kept hg (by simp)).c1, (r4.kept hg (by simp)).c0, (r4.kept hg (by simp)).c1, (s4.kept hg (by simp)).c0, (s4.kept hg (by simp)).c1⟩, HK.out _ (grownBy_trans G4 hg)⟩
  have HG4 : Hid (w.grownBy w4 none) := grownBy_trans (grow2 _ _ _) G4
  clear g4 G3 G4 q3 r3 q4 r4 s4 c0 c1 c2 c3 HB1 HK HDv HSh
  rw [hma]
  clear hma
  obtain ⟨⟨k0, k1, k2, k3, k4, k5⟩, c0, c1, c2, c3⟩ := HKK.out _ (World.grownBy.refl _ _)
  go_wp2_with (go_at_call 18; refine (num_any _ _).mono ?_; rintro e w5 ⟨rfl, h5⟩; have h5 := h5.symm; subst h5)
  refine (HB0.out _).mono ?_
  rintro e w6 ⟨rfl, g6⟩
  have G6 := grownBy_trans (grow1 _ _) g6
  have HG6 : Hid (w4.grownBy w6 none) := G6
  clear g6 HB0 HB2 k0 k1 k2 k3 k4 k5 c0 c1 c2 c3
  obtain ⟨⟨k0, k1, k2, k3, k4, k5⟩, c0, c1, c2, c3⟩ := HKK.out _ G6
  clear G6
  rw [hmb]
  clear hmb
  go_wp2_with fail
  refine (HRd.out _).mono ?_
  rintro e w7 ⟨rfl, g7⟩
  have G7 := grownBy_trans HG6.out g7
  clear k0 k1 k2 k3 k4 k5 c0 c1 c2 c3 g7
  obtain ⟨⟨k0, k1, k2, k3, k4, k5⟩, c0, c1, c2, c3⟩ := HKK.out _ (grownBy_trans G7 (grow2 w7 (wObj dq qm) (wObj ds rm)))
  have HG7 : Hid (w.grownBy ((w7.alloc (wObj dq qm)).alloc (wObj ds rm)) none) := grownBy_trans HG4.out (grownBy_trans G7 (grow2 _ _ _))
  clear G7
  go_wp2_with (go_at_call 18; refine (num_any _ _).mono ?_; rintro e w8 ⟨rfl, rfl⟩)
  refine (works_any _ (HT.out _ HG7.out)).mono ?_
  rintro e wZ ⟨rfl, gZ⟩
  have HGZ : Hid (w.grownBy wZ none) := grownBy_trans HG7.out gZ
  clear gZ k0 k1 k2 k3 k4 k5 c0 c1 c2 c3
  go_wp2_with fail
  go_ret
  exact ⟨rfl, HGZ.out⟩

set_option maxHeartbeats 3200000 in
set_option maxRecDepth 1000000 in
theorem divs_a3b1 (n1 n2 : Bool) (m1 m2 : ByteArray) (n : Int) (z1 : m1.size ≤ maxLen) (z2 : m2.size ≤ maxLen) (hl : anyLong [(n1, m1), (n2, m2)] = false) 
    (HDv : Hid (∀ w, Calls Tryz.prog 16 #[whole n1 m1, whole n2 m2] w fun e w' => e = .returned (.tuple #[whole false eS, whole false eS, .int .i64 2]) ∧ w.grownBy w' none))
    (HSh : Hid (∀ w, Calls Tryz.prog 17 #[whole n1 m1, .int .i64 n] w fun e w' => e = .returned (.tuple #[whole n1 m1, .int .i64 0]) ∧ w.grownBy w' none))
    (hma : may n1 m1 = true) (he : (m1.toList == []) = true) (hmb : mayAll [(n1, m1), (n2, m2)] = false)
    (w : World) (htab : Lib.TabIs Tryz.prog w "internal/strconv.uint64pow10" .u64 Lib.pow10Tab) :
    Calls Tryz.prog 4 #[whole n1 m1, whole n2 m2, .int .i64 n] w fun e w' => e = .returned (.bool true) ∧ w.grownBy w' none := by
  obtain ⟨gp, hgp⟩ := pow10_g
  have HT : Hid (∀ w', w.grownBy w' none → Lib.TabIs Tryz.prog w' "internal/strconv.uint64pow10" .u64 Lib.pow10Tab) := fun w' hg => tab_kept hgp htab hg
  have HL := longTwo n1 n2 m1 m2 z1 z2 w
  rw [hl] at HL
  have HB1 := badOne1 n1 m1 z1
  have HB2 := badTwo n1 n2 m1 m2 z1 z2
  have HB0 := badTwo0 n1 n2 m1 m2 z1 z2
  have HK : Hid (∀ w', ((w.alloc (wObj n1 m1)).alloc (wObj n2 m2)).grownBy w' none → w'.cell? ⟨w.heap.size, 0, none⟩ = some (Value.bool n1) ∧ w'.cell? ⟨w.heap.size, 1, none⟩ = some (Value.string m1) ∧ w'.cell? ⟨w.heap.size + 1, 0, none⟩ = some (Value.bool n2) ∧ w'.cell? ⟨w.heap.size + 1, 1, none⟩ = some (Value.string m2)) := keep2 w n1 n2 m1 m2
  clear htab hgp hl
  go_enter Tryz.func4, Tryz.ntmps4
  go_wp2_with fail
  refine HL.out.mono ?_
  rintro e w1 ⟨rfl, g1⟩
  have G1 : ((w.alloc (wObj n1 m1)).alloc (wObj n2 m2)).grownBy w1 none := grownBy_trans (grow1 _ _) g1
  obtain ⟨c0, c1, c2, c3⟩ := HK.out _ G1
  clear g1 HL
  go_wp2_with fail
  refine (HDv.out _).mono ?_
  rintro e w2 ⟨rfl, g2⟩
  have G2 := grownBy_trans G1 g2
  clear G1 g2 c0 c1 c2 c3
  obtain ⟨c0, c1, c2, c3⟩ := HK.out _ (grownBy_trans G2 (grow2 w2 (wObj false eS) (wObj false eS)))
  go_wp2_with fail
  refine (HSh.out _).mono ?_
  rintro e w3 ⟨rfl, g3⟩
  have q3 : WBlk w3 w2.heap.size (.bool false) (.string eS) := WBlk.kept (at_alloc1 _ _ _) g3 (by simp)
  have r3 : WBlk w3 (w2.heap.size + 1) (.bool false) (.string eS) := WBlk.kept (heap_alloc2_new _ _ _) g3 (by simp)
  have G3 := grownBy_trans G2 (grownBy_trans (grow2 _ _ _) g3)
  clear G2 g3 c0 c1 c2 c3
  obtain ⟨c0, c1, c2, c3⟩ := HK.out _ (grownBy_trans G3 (grow1 w3 (wObj n1 m1)))
  go_wp2_with fail
  refine (HB1.out _ _).mono ?_
  rintro e w4 ⟨rfl, g4⟩
  have q4 := q3.kept (grownBy_trans (grow2 _ _ _) g4) (by simp)
  have r4 := r3.kept (grownBy_trans (grow2 _ _ _) g4) (by simp)
  have s4 : WBlk w4 w3.heap.size (.bool n1) (.string m1) := WBlk.kept (heap_alloc_new _ _) (grownBy_trans (grow1 _ _) g4) (by simp)
  have G4 := grownBy_trans G3 (grownBy_trans (grow2 _ _ _) g4)
  have HKK : Hid (∀ w', w4.grownBy w' none → (w'.cell? ⟨w2.heap.size, 0, none⟩ = some (Value.bool false) ∧ w'.cell? ⟨w2.heap.size, 1, none⟩ = some (Value.string eS) ∧ w'.cell? ⟨w2.heap.size + 1, 0, none⟩ = some (Value.bool false) ∧ w'.cell? ⟨w2.heap.size + 1, 1, none⟩ = some (Value.string eS) ∧ w'.cell? ⟨w3.heap.size, 0, none⟩ = some (Value.bool n1) ∧ w'.cell? ⟨w3.heap.size, 1, none⟩ = some (Value.string m1)) ∧ (w'.cell? ⟨w.heap.size, 0, none⟩ = some (Value.bool n1) ∧ w'.cell? ⟨w.heap.size, 1, none⟩ = some (Value.string m1) ∧ w'.cell? ⟨w.heap.size + 1, 0, none⟩ = some (Value.bool n2) ∧ w'.cell? ⟨w.heap.size + 1, 1, none⟩ = some (Value.string m2))) :=
    fun w' hg => ⟨⟨(q4.kept hg (by simp)).c0, (q4.kept hg (by simp)).c1, (r4.kept hg (by simp)).c0, (r4.kept hg (by simp)).c1, (s4.kept hg (by simp)).c0, (s4.kept hg (by simp)).c1⟩, HK.out _ (grownBy_trans G4 hg)⟩
  have HG4 : Hid (w.grownBy w4 none) := grownBy_trans (grow2 _ _ _) G4
  clear g4 G3 G4 q3 r3 q4 r4 s4 c0 c1 c2 c3 HB1 HK HDv HSh
  rw [hma]
  clear hma
  obtain ⟨⟨k0, k1, k2, k3, k4, k5⟩, c0, c1, c2, c3⟩ := HKK.out _ (World.grownBy.refl _ _)
  go_wp2_with (go_at_call 18; refine (num_any _ _).mono ?_; rintro e w5 ⟨rfl, h5⟩; have h5 := h5.symm; subst h5)
  refine (HB0.out _).mono ?_
  rintro e w6 ⟨rfl, g6⟩
  have G6 := grownBy_trans (grow1 _ _) g6
  have HG6 : Hid (w4.grownBy w6 none) := G6
  clear g6 HB0 HB2 k0 k1 k2 k3 k4 k5 c0 c1 c2 c3
  obtain ⟨⟨k0, k1, k2, k3, k4, k5⟩, c0, c1, c2, c3⟩ := HKK.out _ G6
  clear G6
  rw [hmb]
  clear hmb
  go_wp2_with fail
  refine (arg_yes _).mono ?_
  rintro e w7 ⟨rfl, rfl⟩
  clear k0 k1 k2 k3 k4 k5 c0 c1 c2 c3
  obtain ⟨⟨k0, k1, k2, k3, k4, k5⟩, c0, c1, c2, c3⟩ := HKK.out _ (grownBy_trans HG6.out (grow1 w6 (wObj false eS)))
  go_wp2_with fail
  have G9 := grownBy_trans HG4.out (grownBy_trans HG6.out (grow1 w6 (wObj false eS)))
  refine (works_any _ (HT.out _ G9)).mono ?_
  rintro e wZ ⟨rfl, gZ⟩
  have HGZ : Hid (w.grownBy wZ none) := grownBy_trans G9 gZ
  clear gZ G9 k0 k1 k2 k3 k4 k5 c0 c1 c2 c3
  go_wp2_with fail
  go_ret
  exact ⟨rfl, HGZ.out⟩

set_option maxHeartbeats 3200000 in
set_option maxRecDepth 1000000 in
theorem divs_a3b2 (n1 n2 : Bool) (m1 m2 : ByteArray) (n : Int) (z1 : m1.size ≤ maxLen) (z2 : m2.size ≤ maxLen) (hl : anyLong [(n1, m1), (n2, m2)] = false) 
    (HDv : Hid (∀ w, Calls Tryz.prog 16 #[whole n1 m1, whole n2 m2] w fun e w' => e = .returned (.tuple #[whole false eS, whole false eS, .int .i64 5]) ∧ w.grownBy w' none))
    (HSh : Hid (∀ w, Calls Tryz.prog 17 #[whole n1 m1, .int .i64 n] w fun e w' => e = .returned (.tuple #[whole n1 m1, .int .i64 0]) ∧ w.grownBy w' none))
    (hma : may n1 m1 = true) (he : (m1.toList == []) = true) (hmb : mayAll [(n1, m1), (n2, m2)] = true) (hb0 : (m2.toList == []) = true)
    (w : World) (htab : Lib.TabIs Tryz.prog w "internal/strconv.uint64pow10" .u64 Lib.pow10Tab) :
    Calls Tryz.prog 4 #[whole n1 m1, whole n2 m2, .int .i64 n] w fun e w' => e = .returned (.bool true) ∧ w.grownBy w' none := by
  obtain ⟨gp, hgp⟩ := pow10_g
  have HT : Hid (∀ w', w.grownBy w' none → Lib.TabIs Tryz.prog w' "internal/strconv.uint64pow10" .u64 Lib.pow10Tab) := fun w' hg => tab_kept hgp htab hg
  have HL := longTwo n1 n2 m1 m2 z1 z2 w
  rw [hl] at HL
  have HB1 := badOne1 n1 m1 z1
  have HB2 := badTwo n1 n2 m1 m2 z1 z2
  have HB0 := badTwo0 n1 n2 m1 m2 z1 z2
  have HK : Hid (∀ w', ((w.alloc (wObj n1 m1)).alloc (wObj n2 m2)).grownBy w' none → w'.cell? ⟨w.heap.size, 0, none⟩ = some (Value.bool n1) ∧ w'.cell? ⟨w.heap.size, 1, none⟩ = some (Value.string m1) ∧ w'.cell? ⟨w.heap.size + 1, 0, none⟩ = some (Value.bool n2) ∧ w'.cell? ⟨w.heap.size + 1, 1, none⟩ = some (Value.string m2)) := keep2 w n1 n2 m1 m2
  clear htab hgp hl
  go_enter Tryz.func4, Tryz.ntmps4
  go_wp2_with fail
  refine HL.out.mono ?_
  rintro e w1 ⟨rfl, g1⟩
  have G1 : ((w.alloc (wObj n1 m1)).alloc (wObj n2 m2)).grownBy w1 none := grownBy_trans (grow1 _ _) g1
  obtain ⟨c0, c1, c2, c3⟩ := HK.out _ G1
  clear g1 HL
  go_wp2_with fail
  refine (HDv.out _).mono ?_
  rintro e w2 ⟨rfl, g2⟩
  have G2 := grownBy_trans G1 g2
  clear G1 g2 c0 c1 c2 c3
  obtain ⟨c0, c1, c2, c3⟩ := HK.out _ (grownBy_trans G2 (grow2 w2 (wObj false eS) (wObj false eS)))
  go_wp2_with fail
  refine (HSh.out _).mono ?_
  rintro e w3 ⟨rfl, g3⟩
  have q3 : WBlk w3 w2.heap.size (.bool false) (.string eS) := WBlk.kept (at_alloc1 _ _ _) g3 (by simp)
  have r3 : WBlk w3 (w2.heap.size + 1) (.bool false) (.string eS) := WBlk.kept (heap_alloc2_new _ _ _) g3 (by simp)
  have G3 := grownBy_trans G2 (grownBy_trans (grow2 _ _ _) g3)
  clear G2 g3 c0 c1 c2 c3
  obtain ⟨c0, c1, c2, c3⟩ := HK.out _ (grownBy_trans G3 (grow1 w3 (wObj n1 m1)))
  go_wp2_with fail
  refine (HB1.out _ _).mono ?_
  rintro e w4 ⟨rfl, g4⟩
  have q4 := q3.kept (grownBy_trans (grow2 _ _ _) g4) (by simp)
  have r4 := r3.kept (grownBy_trans (grow2 _ _ _) g4) (by simp)
  have s4 : WBlk w4 w3.heap.size (.bool n1) (.string m1) := WBlk.kept (heap_alloc_new _ _) (grownBy_trans (grow1 _ _) g4) (by simp)
  have G4 := grownBy_trans G3 (grownBy_trans (grow2 _ _ _) g4)
  have HKK : Hid (∀ w', w4.grownBy w' none → (w'.cell? ⟨w2.heap.size, 0, none⟩ = some (Value.bool false) ∧ w'.cell? ⟨w2.heap.size, 1, none⟩ = some (Value.string eS) ∧ w'.cell? ⟨w2.heap.size + 1, 0, none⟩ = some (Value.bool false) ∧ w'.cell? ⟨w2.heap.size + 1, 1, none⟩ = some (Value.string eS) ∧ w'.cell? ⟨w3.heap.size, 0, none⟩ = some (Value.bool n1) ∧ w'.cell? ⟨w3.heap.size, 1, none⟩ = some (Value.string m1)) ∧ (w'.cell? ⟨w.heap.size, 0, none⟩ = some (Value.bool n1) ∧ w'.cell? ⟨w.heap.size, 1, none⟩ = some (Value.string m1) ∧ w'.cell? ⟨w.heap.size + 1, 0, none⟩ = some (Value.bool n2) ∧ w'.cell? ⟨w.heap.size + 1, 1, none⟩ = some (Value.string m2))) :=
    fun w' hg => ⟨⟨(q4.kept hg (by simp)).c0, (q4.kept hg (by simp)).c1, (r4.kept hg (by simp)).c0, (r4.kept hg (by simp)).c1, (s4.kept hg (by simp)).c0, (s4.kept hg (by simp)).c1⟩, HK.out _ (grownBy_trans G4 hg)⟩
  have HG4 : Hid (w.grownBy w4 none) := grownBy_trans (grow2 _ _ _) G4
  clear g4 G3 G4 q3 r3 q4 r4 s4 c0 c1 c2 c3 HB1 HK HDv HSh
  rw [hma]
  clear hma
  obtain ⟨⟨k0, k1, k2, k3, k4, k5⟩, c0, c1, c2, c3⟩ := HKK.out _ (World.grownBy.refl _ _)
  go_wp2_with (go_at_call 18; refine (num_any _ _).mono ?_; rintro e w5 ⟨rfl, h5⟩; have h5 := h5.symm; subst h5)
  refine (HB0.out _).mono ?_
  rintro e w6 ⟨rfl, g6⟩
  have G6 := grownBy_trans (grow1 _ _) g6
  have HG6 : Hid (w4.grownBy w6 none) := G6
  clear g6 HB0 HB2 k0 k1 k2 k3 k4 k5 c0 c1 c2 c3
  obtain ⟨⟨k0, k1, k2, k3, k4, k5⟩, c0, c1, c2, c3⟩ := HKK.out _ G6
  clear G6
  rw [hmb]
  clear hmb
  go_wp2_with (go_at_call 18; refine (num_any _ _).mono ?_; rintro e w7 ⟨rfl, rfl⟩)
  have G9 := grownBy_trans HG4.out HG6.out
  refine (works_any _ (HT.out _ G9)).mono ?_
  rintro e wZ ⟨rfl, gZ⟩
  have HGZ : Hid (w.grownBy wZ none) := grownBy_trans G9 gZ
  clear gZ G9 k0 k1 k2 k3 k4 k5 c0 c1 c2 c3
  go_wp2_with fail
  go_ret
  exact ⟨rfl, HGZ.out⟩

set_option maxHeartbeats 3200000 in
set_option maxRecDepth 1000000 in
theorem divs_a3b3 (n1 n2 : Bool) (m1 m2 : ByteArray) (n : Int) (z1 : m1.size ≤ maxLen) (z2 : m2.size ≤ maxLen) (hl : anyLong [(n1, m1), (n2, m2)] = false) {dq ds : Bool} {qm rm : ByteArray} 
    (HDv : Hid (∀ w, Calls Tryz.prog 16 #[whole n1 m1, whole n2 m2] w fun e w' => e = .returned (.tuple #[whole dq qm, whole ds rm, .int .i64 0]) ∧ w.grownBy w' none))
    (HSh : Hid (∀ w, Calls Tryz.prog 17 #[whole n1 m1, .int .i64 n] w fun e w' => e = .returned (.tuple #[whole n1 m1, .int .i64 0]) ∧ w.grownBy w' none))
    (hma : may n1 m1 = true) (he : (m1.toList == []) = true) (hmb : mayAll [(n1, m1), (n2, m2)] = true) (hb0 : (m2.toList == []) = false) (HRd : Hid (∀ w, Calls Tryz.prog 20 #[whole n1 m1, whole n2 m2] w fun e w' => e = .returned (.tuple #[whole dq qm, whole ds rm]) ∧ w.grownBy w' none))
    (w : World) (htab : Lib.TabIs Tryz.prog w "internal/strconv.uint64pow10" .u64 Lib.pow10Tab) :
    Calls Tryz.prog 4 #[whole n1 m1, whole n2 m2, .int .i64 n] w fun e w' => e = .returned (.bool true) ∧ w.grownBy w' none := by
  obtain ⟨gp, hgp⟩ := pow10_g
  have HT : Hid (∀ w', w.grownBy w' none → Lib.TabIs Tryz.prog w' "internal/strconv.uint64pow10" .u64 Lib.pow10Tab) := fun w' hg => tab_kept hgp htab hg
  have HL := longTwo n1 n2 m1 m2 z1 z2 w
  rw [hl] at HL
  have HB1 := badOne1 n1 m1 z1
  have HB2 := badTwo n1 n2 m1 m2 z1 z2
  have HB0 := badTwo0 n1 n2 m1 m2 z1 z2
  have HK : Hid (∀ w', ((w.alloc (wObj n1 m1)).alloc (wObj n2 m2)).grownBy w' none → w'.cell? ⟨w.heap.size, 0, none⟩ = some (Value.bool n1) ∧ w'.cell? ⟨w.heap.size, 1, none⟩ = some (Value.string m1) ∧ w'.cell? ⟨w.heap.size + 1, 0, none⟩ = some (Value.bool n2) ∧ w'.cell? ⟨w.heap.size + 1, 1, none⟩ = some (Value.string m2)) := keep2 w n1 n2 m1 m2
  clear htab hgp hl
  go_enter Tryz.func4, Tryz.ntmps4
  go_wp2_with fail
  refine HL.out.mono ?_
  rintro e w1 ⟨rfl, g1⟩
  have G1 : ((w.alloc (wObj n1 m1)).alloc (wObj n2 m2)).grownBy w1 none := grownBy_trans (grow1 _ _) g1
  obtain ⟨c0, c1, c2, c3⟩ := HK.out _ G1
  clear g1 HL
  go_wp2_with fail
  refine (HDv.out _).mono ?_
  rintro e w2 ⟨rfl, g2⟩
  have G2 := grownBy_trans G1 g2
  clear G1 g2 c0 c1 c2 c3
  obtain ⟨c0, c1, c2, c3⟩ := HK.out _ (grownBy_trans G2 (grow2 w2 (wObj dq qm) (wObj ds rm)))
  go_wp2_with fail
  refine (HSh.out _).mono ?_
  rintro e w3 ⟨rfl, g3⟩
  have q3 : WBlk w3 w2.heap.size (.bool dq) (.string qm) := WBlk.kept (at_alloc1 _ _ _) g3 (by simp)
  have r3 : WBlk w3 (w2.heap.size + 1) (.bool ds) (.string rm) := WBlk.kept (heap_alloc2_new _ _ _) g3 (by simp)
  have G3 := grownBy_trans G2 (grownBy_trans (grow2 _ _ _) g3)
  clear G2 g3 c0 c1 c2 c3
  obtain ⟨c0, c1, c2, c3⟩ := HK.out _ (grownBy_trans G3 (grow1 w3 (wObj n1 m1)))
  go_wp2_with fail
  refine (HB1.out _ _).mono ?_
  rintro e w4 ⟨rfl, g4⟩
  have q4 := q3.kept (grownBy_trans (grow2 _ _ _) g4) (by simp)
  have r4 := r3.kept (grownBy_trans (grow2 _ _ _) g4) (by simp)
  have s4 : WBlk w4 w3.heap.size (.bool n1) (.string m1) := WBlk.kept (heap_alloc_new _ _) (grownBy_trans (grow1 _ _) g4) (by simp)
  have G4 := grownBy_trans G3 (grownBy_trans (grow2 _ _ _) g4)
  have HKK : Hid (∀ w', w4.grownBy w' none → (w'.cell? ⟨w2.heap.size, 0, none⟩ = some (Value.bool dq) ∧ w'.cell? ⟨w2.heap.size, 1, none⟩ = some (Value.string qm) ∧ w'.cell? ⟨w2.heap.size + 1, 0, none⟩ = some (Value.bool ds) ∧ w'.cell? ⟨w2.heap.size + 1, 1, none⟩ = some (Value.string rm) ∧ w'.cell? ⟨w3.heap.size, 0, none⟩ = some (Value.bool n1) ∧ w'.cell? ⟨w3.heap.size, 1, none⟩ = some (Value.string m1)) ∧ (w'.cell? ⟨w.heap.size, 0, none⟩ = some (Value.bool n1) ∧ w'.cell? ⟨w.heap.size, 1, none⟩ = some (Value.string m1) ∧ w'.cell? ⟨w.heap.size + 1, 0, none⟩ = some (Value.bool n2) ∧ w'.cell? ⟨w.heap.size + 1, 1, none⟩ = some (Value.string m2))) :=
    fun w' hg => ⟨⟨(q4.kept hg (by simp)).c0, (q4.kept hg (by simp)).c1, (r4.kept hg (by simp)).c0, (r4.kept hg (by simp)).c1, (s4.kept hg (by simp)).c0, (s4.kept hg (by simp)).c1⟩, HK.out _ (grownBy_trans G4 hg)⟩
  have HG4 : Hid (w.grownBy w4 none) := grownBy_trans (grow2 _ _ _) G4
  clear g4 G3 G4 q3 r3 q4 r4 s4 c0 c1 c2 c3 HB1 HK HDv HSh
  rw [hma]
  clear hma
  obtain ⟨⟨k0, k1, k2, k3, k4, k5⟩, c0, c1, c2, c3⟩ := HKK.out _ (World.grownBy.refl _ _)
  go_wp2_with (go_at_call 18; refine (num_any _ _).mono ?_; rintro e w5 ⟨rfl, h5⟩; have h5 := h5.symm; subst h5)
  refine (HB0.out _).mono ?_
  rintro e w6 ⟨rfl, g6⟩
  have G6 := grownBy_trans (grow1 _ _) g6
  have HG6 : Hid (w4.grownBy w6 none) := G6
  clear g6 HB0 HB2 k0 k1 k2 k3 k4 k5 c0 c1 c2 c3
  obtain ⟨⟨k0, k1, k2, k3, k4, k5⟩, c0, c1, c2, c3⟩ := HKK.out _ G6
  clear G6
  rw [hmb]
  clear hmb
  go_wp2_with fail
  refine (HRd.out _).mono ?_
  rintro e w7 ⟨rfl, g7⟩
  have G7 := grownBy_trans HG6.out g7
  clear k0 k1 k2 k3 k4 k5 c0 c1 c2 c3 g7
  obtain ⟨⟨k0, k1, k2, k3, k4, k5⟩, c0, c1, c2, c3⟩ := HKK.out _ (grownBy_trans G7 (grow2 w7 (wObj dq qm) (wObj ds rm)))
  have HG7 : Hid (w.grownBy ((w7.alloc (wObj dq qm)).alloc (wObj ds rm)) none) := grownBy_trans HG4.out (grownBy_trans G7 (grow2 _ _ _))
  clear G7
  go_wp2_with (go_at_call 18; refine (num_any _ _).mono ?_; rintro e w8 ⟨rfl, rfl⟩)
  refine (works_any _ (HT.out _ HG7.out)).mono ?_
  rintro e wZ ⟨rfl, gZ⟩
  have HGZ : Hid (w.grownBy wZ none) := grownBy_trans HG7.out gZ
  clear gZ k0 k1 k2 k3 k4 k5 c0 c1 c2 c3
  go_wp2_with fail
  go_ret
  exact ⟨rfl, HGZ.out⟩

set_option maxHeartbeats 3200000 in
set_option maxRecDepth 1000000 in
theorem divs_a4b1 (n1 n2 : Bool) (m1 m2 : ByteArray) (n : Int) (z1 : m1.size ≤ maxLen) (z2 : m2.size ≤ maxLen) (hl : anyLong [(n1, m1), (n2, m2)] = false) {sb : Bool} {sm : ByteArray} {se : Int} 
    (HDv : Hid (∀ w, Calls Tryz.prog 16 #[whole n1 m1, whole n2 m2] w fun e w' => e = .returned (.tuple #[whole false eS, whole false eS, .int .i64 2]) ∧ w.grownBy w' none))
    (HSh : Hid (∀ w, Calls Tryz.prog 17 #[whole n1 m1, .int .i64 n] w fun e w' => e = .returned (.tuple #[whole sb sm, .int .i64 se]) ∧ w.grownBy w' none))
    {tb : Bool} {ts : ByteArray} (hma : may n1 m1 = true) (he : (m1.toList == []) = false) (hn : n ≤ 131072) (HRs : Hid (∀ w, Calls Tryz.prog 19 #[whole n1 m1, .int .i64 n] w fun e w' => e = .returned (whole tb ts) ∧ w.grownBy w' none)) (HIs : Hid (∀ w, Calls Tryz.prog 15 #[whole sb sm, .int .i64 se, whole tb ts] w fun e w' => e = .returned (.bool true) ∧ w.grownBy w' none)) (hmb : mayAll [(n1, m1), (n2, m2)] = false)
    (w : World) (htab : Lib.TabIs Tryz.prog w "internal/strconv.uint64pow10" .u64 Lib.pow10Tab) :
    Calls Tryz.prog 4 #[whole n1 m1, whole n2 m2, .int .i64 n] w fun e w' => e = .returned (.bool true) ∧ w.grownBy w' none := by
  obtain ⟨gp, hgp⟩ := pow10_g
  have HT : Hid (∀ w', w.grownBy w' none → Lib.TabIs Tryz.prog w' "internal/strconv.uint64pow10" .u64 Lib.pow10Tab) := fun w' hg => tab_kept hgp htab hg
  have HL := longTwo n1 n2 m1 m2 z1 z2 w
  rw [hl] at HL
  have HB1 := badOne1 n1 m1 z1
  have HB2 := badTwo n1 n2 m1 m2 z1 z2
  have HB0 := badTwo0 n1 n2 m1 m2 z1 z2
  have HK : Hid (∀ w', ((w.alloc (wObj n1 m1)).alloc (wObj n2 m2)).grownBy w' none → w'.cell? ⟨w.heap.size, 0, none⟩ = some (Value.bool n1) ∧ w'.cell? ⟨w.heap.size, 1, none⟩ = some (Value.string m1) ∧ w'.cell? ⟨w.heap.size + 1, 0, none⟩ = some (Value.bool n2) ∧ w'.cell? ⟨w.heap.size + 1, 1, none⟩ = some (Value.string m2)) := keep2 w n1 n2 m1 m2
  clear htab hgp hl
  go_enter Tryz.func4, Tryz.ntmps4
  go_wp2_with fail
  refine HL.out.mono ?_
  rintro e w1 ⟨rfl, g1⟩
  have G1 : ((w.alloc (wObj n1 m1)).alloc (wObj n2 m2)).grownBy w1 none := grownBy_trans (grow1 _ _) g1
  obtain ⟨c0, c1, c2, c3⟩ := HK.out _ G1
  clear g1 HL
  go_wp2_with fail
  refine (HDv.out _).mono ?_
  rintro e w2 ⟨rfl, g2⟩
  have G2 := grownBy_trans G1 g2
  clear G1 g2 c0 c1 c2 c3
  obtain ⟨c0, c1, c2, c3⟩ := HK.out _ (grownBy_trans G2 (grow2 w2 (wObj false eS) (wObj false eS)))
  go_wp2_with fail
  refine (HSh.out _).mono ?_
  rintro e w3 ⟨rfl, g3⟩
  have q3 : WBlk w3 w2.heap.size (.bool false) (.string eS) := WBlk.kept (at_alloc1 _ _ _) g3 (by simp)
  have r3 : WBlk w3 (w2.heap.size + 1) (.bool false) (.string eS) := WBlk.kept (heap_alloc2_new _ _ _) g3 (by simp)
  have G3 := grownBy_trans G2 (grownBy_trans (grow2 _ _ _) g3)
  clear G2 g3 c0 c1 c2 c3
  obtain ⟨c0, c1, c2, c3⟩ := HK.out _ (grownBy_trans G3 (grow1 w3 (wObj sb sm)))
  go_wp2_with fail
  refine (HB1.out _ _).mono ?_
  rintro e w4 ⟨rfl, g4⟩
  have q4 := q3.kept (grownBy_trans (grow2 _ _ _) g4) (by simp)
  have r4 := r3.kept (grownBy_trans (grow2 _ _ _) g4) (by simp)
  have s4 : WBlk w4 w3.heap.size (.bool sb) (.string sm) := WBlk.kept (heap_alloc_new _ _) (grownBy_trans (grow1 _ _) g4) (by simp)
  have G4 := grownBy_trans G3 (grownBy_trans (grow2 _ _ _) g4)
  have HKK : Hid (∀ w', w4.grownBy w' none → (w'.cell? ⟨w2.heap.size, 0, none⟩ = some (Value.bool false) ∧ w'.cell? ⟨w2.heap.size, 1, none⟩ = some (Value.string eS) ∧ w'.cell? ⟨w2.heap.size + 1, 0, none⟩ = some (Value.bool false) ∧ w'.cell? ⟨w2.heap.size + 1, 1, none⟩ = some (Value.string eS) ∧ w'.cell? ⟨w3.heap.size, 0, none⟩ = some (Value.bool sb) ∧ w'.cell? ⟨w3.heap.size, 1, none⟩ = some (Value.string sm)) ∧ (w'.cell? ⟨w.heap.size, 0, none⟩ = some (Value.bool n1) ∧ w'.cell? ⟨w.heap.size, 1, none⟩ = some (Value.string m1) ∧ w'.cell? ⟨w.heap.size + 1, 0, none⟩ = some (Value.bool n2) ∧ w'.cell? ⟨w.heap.size + 1, 1, none⟩ = some (Value.string m2))) :=
    fun w' hg => ⟨⟨(q4.kept hg (by simp)).c0, (q4.kept hg (by simp)).c1, (r4.kept hg (by simp)).c0, (r4.kept hg (by simp)).c1, (s4.kept hg (by simp)).c0, (s4.kept hg (by simp)).c1⟩, HK.out _ (grownBy_trans G4 hg)⟩
  have HG4 : Hid (w.grownBy w4 none) := grownBy_trans (grow2 _ _ _) G4
  clear g4 G3 G4 q3 r3 q4 r4 s4 c0 c1 c2 c3 HB1 HK HDv HSh
  rw [hma]
  clear hma
  obtain ⟨⟨k0, k1, k2, k3, k4, k5⟩, c0, c1, c2, c3⟩ := HKK.out _ (World.grownBy.refl _ _)
  go_wp2_with fail
  go_region_held3 (fun w' => (w'.cell? ⟨w2.heap.size, 0, none⟩ = some (Value.bool false) ∧ w'.cell? ⟨w2.heap.size, 1, none⟩ = some (Value.string eS) ∧ w'.cell? ⟨w2.heap.size + 1, 0, none⟩ = some (Value.bool false) ∧ w'.cell? ⟨w2.heap.size + 1, 1, none⟩ = some (Value.string eS) ∧ w'.cell? ⟨w3.heap.size, 0, none⟩ = some (Value.bool sb) ∧ w'.cell? ⟨w3.heap.size, 1, none⟩ = some (Value.string sm)) ∧ (w'.cell? ⟨w.heap.size, 0, none⟩ = some (Value.bool n1) ∧ w'.cell? ⟨w.heap.size, 1, none⟩ = some (Value.string m1) ∧ w'.cell? ⟨w.heap.size + 1, 0, none⟩ = some (Value.bool n2) ∧ w'.cell? ⟨w.heap.size + 1, 1, none⟩ = some (Value.string m2)))
    (first | (go_keep; done) | exact HKK.out _ (by assumption) | exact HKK.out _ (grow_drew (World.grownBy.refl _ _)) | fail)
    (first
      | (go_at_call 19; refine (HRs.out _).mono ?_; rintro e wA ⟨rfl, gA⟩; have GA : w4.grownBy wA none := (by first | exact gA | exact grownBy_undrew gA | fail))
      | (go_at_call 15; refine (HIs.out _).mono ?_; rintro e wB ⟨rfl, gB⟩; have GB : w4.grownBy wB none := grownBy_trans GA (by first | exact gB | exact grownBy_undrew gB | fail))
      | fail)
  have HGB : Hid (w4.grownBy wB none) := GB
  obtain ⟨⟨j0, j1, j2, j3, j4, j5⟩, d0, d1, d2, d3⟩ := HKK.out _ GB
  clear GA GB gA gB k0 k1 k2 k3 k4 k5 c0 c1 c2 c3
  go_wp2_with fail
  refine (HB0.out _).mono ?_
  rintro e w6 ⟨rfl, g6⟩
  have G6 := grownBy_trans HGB.out (grownBy_trans (grow1 _ _) g6)
  have HG6 : Hid (w4.grownBy w6 none) := G6
  clear g6 HB0 HB2 j0 j1 j2 j3 j4 j5 d0 d1 d2 d3
  obtain ⟨⟨k0, k1, k2, k3, k4, k5⟩, c0, c1, c2, c3⟩ := HKK.out _ G6
  clear G6
  rw [hmb]
  clear hmb
  go_wp2_with fail
  refine (arg_yes _).mono ?_
  rintro e w7 ⟨rfl, rfl⟩
  clear k0 k1 k2 k3 k4 k5 c0 c1 c2 c3
  obtain ⟨⟨k0, k1, k2, k3, k4, k5⟩, c0, c1, c2, c3⟩ := HKK.out _ (grownBy_trans HG6.out (grow1 w6 (wObj false eS)))
  go_wp2_with fail
  have G9 := grownBy_trans HG4.out (grownBy_trans HG6.out (grow1 w6 (wObj false eS)))
  refine (works_any _ (HT.out _ G9)).mono ?_
  rintro e wZ ⟨rfl, gZ⟩
  have HGZ : Hid (w.grownBy wZ none) := grownBy_trans G9 gZ
  clear gZ G9 k0 k1 k2 k3 k4 k5 c0 c1 c2 c3
  go_wp2_with fail
  go_ret
  exact ⟨rfl, HGZ.out⟩

set_option maxHeartbeats 3200000 in
set_option maxRecDepth 1000000 in
theorem divs_a4b2 (n1 n2 : Bool) (m1 m2 : ByteArray) (n : Int) (z1 : m1.size ≤ maxLen) (z2 : m2.size ≤ maxLen) (hl : anyLong [(n1, m1), (n2, m2)] = false) {sb : Bool} {sm : ByteArray} {se : Int} 
    (HDv : Hid (∀ w, Calls Tryz.prog 16 #[whole n1 m1, whole n2 m2] w fun e w' => e = .returned (.tuple #[whole false eS, whole false eS, .int .i64 5]) ∧ w.grownBy w' none))
    (HSh : Hid (∀ w, Calls Tryz.prog 17 #[whole n1 m1, .int .i64 n] w fun e w' => e = .returned (.tuple #[whole sb sm, .int .i64 se]) ∧ w.grownBy w' none))
    {tb : Bool} {ts : ByteArray} (hma : may n1 m1 = true) (he : (m1.toList == []) = false) (hn : n ≤ 131072) (HRs : Hid (∀ w, Calls Tryz.prog 19 #[whole n1 m1, .int .i64 n] w fun e w' => e = .returned (whole tb ts) ∧ w.grownBy w' none)) (HIs : Hid (∀ w, Calls Tryz.prog 15 #[whole sb sm, .int .i64 se, whole tb ts] w fun e w' => e = .returned (.bool true) ∧ w.grownBy w' none)) (hmb : mayAll [(n1, m1), (n2, m2)] = true) (hb0 : (m2.toList == []) = true)
    (w : World) (htab : Lib.TabIs Tryz.prog w "internal/strconv.uint64pow10" .u64 Lib.pow10Tab) :
    Calls Tryz.prog 4 #[whole n1 m1, whole n2 m2, .int .i64 n] w fun e w' => e = .returned (.bool true) ∧ w.grownBy w' none := by
  obtain ⟨gp, hgp⟩ := pow10_g
  have HT : Hid (∀ w', w.grownBy w' none → Lib.TabIs Tryz.prog w' "internal/strconv.uint64pow10" .u64 Lib.pow10Tab) := fun w' hg => tab_kept hgp htab hg
  have HL := longTwo n1 n2 m1 m2 z1 z2 w
  rw [hl] at HL
  have HB1 := badOne1 n1 m1 z1
  have HB2 := badTwo n1 n2 m1 m2 z1 z2
  have HB0 := badTwo0 n1 n2 m1 m2 z1 z2
  have HK : Hid (∀ w', ((w.alloc (wObj n1 m1)).alloc (wObj n2 m2)).grownBy w' none → w'.cell? ⟨w.heap.size, 0, none⟩ = some (Value.bool n1) ∧ w'.cell? ⟨w.heap.size, 1, none⟩ = some (Value.string m1) ∧ w'.cell? ⟨w.heap.size + 1, 0, none⟩ = some (Value.bool n2) ∧ w'.cell? ⟨w.heap.size + 1, 1, none⟩ = some (Value.string m2)) := keep2 w n1 n2 m1 m2
  clear htab hgp hl
  go_enter Tryz.func4, Tryz.ntmps4
  go_wp2_with fail
  refine HL.out.mono ?_
  rintro e w1 ⟨rfl, g1⟩
  have G1 : ((w.alloc (wObj n1 m1)).alloc (wObj n2 m2)).grownBy w1 none := grownBy_trans (grow1 _ _) g1
  obtain ⟨c0, c1, c2, c3⟩ := HK.out _ G1
  clear g1 HL
  go_wp2_with fail
  refine (HDv.out _).mono ?_
  rintro e w2 ⟨rfl, g2⟩
  have G2 := grownBy_trans G1 g2
  clear G1 g2 c0 c1 c2 c3
  obtain ⟨c0, c1, c2, c3⟩ := HK.out _ (grownBy_trans G2 (grow2 w2 (wObj false eS) (wObj false eS)))
  go_wp2_with fail
  refine (HSh.out _).mono ?_
  rintro e w3 ⟨rfl, g3⟩
  have q3 : WBlk w3 w2.heap.size (.bool false) (.string eS) := WBlk.kept (at_alloc1 _ _ _) g3 (by simp)
  have r3 : WBlk w3 (w2.heap.size + 1) (.bool false) (.string eS) := WBlk.kept (heap_alloc2_new _ _ _) g3 (by simp)
  have G3 := grownBy_trans G2 (grownBy_trans (grow2 _ _ _) g3)
  clear G2 g3 c0 c1 c2 c3
  obtain ⟨c0, c1, c2, c3⟩ := HK.out _ (grownBy_trans G3 (grow1 w3 (wObj sb sm)))
  go_wp2_with fail
  refine (HB1.out _ _).mono ?_
  rintro e w4 ⟨rfl, g4⟩
  have q4 := q3.kept (grownBy_trans (grow2 _ _ _) g4) (by simp)
  have r4 := r3.kept (grownBy_trans (grow2 _ _ _) g4) (by simp)
  have s4 : WBlk w4 w3.heap.size (.bool sb) (.string sm) := WBlk.kept (heap_alloc_new _ _) (grownBy_trans (grow1 _ _) g4) (by simp)
  have G4 := grownBy_trans G3 (grownBy_trans (grow2 _ _ _) g4)
  have HKK : Hid (∀ w', w4.grownBy w' none → (w'.cell? ⟨w2.heap.size, 0, none⟩ = some (Value.bool false) ∧ w'.cell? ⟨w2.heap.size, 1, none⟩ = some (Value.string eS) ∧ w'.cell? ⟨w2.heap.size + 1, 0, none⟩ = some (Value.bool false) ∧ w'.cell? ⟨w2.heap.size + 1, 1, none⟩ = some (Value.string eS) ∧ w'.cell? ⟨w3.heap.size, 0, none⟩ = some (Value.bool sb) ∧ w'.cell? ⟨w3.heap.size, 1, none⟩ = some (Value.string sm)) ∧ (w'.cell? ⟨w.heap.size, 0, none⟩ = some (Value.bool n1) ∧ w'.cell? ⟨w.heap.size, 1, none⟩ = some (Value.string m1) ∧ w'.cell? ⟨w.heap.size + 1, 0, none⟩ = some (Value.bool n2) ∧ w'.cell? ⟨w.heap.size + 1, 1, none⟩ = some (Value.string m2))) :=
    fun w' hg => ⟨⟨(q4.kept hg (by simp)).c0, (q4.kept hg (by simp)).c1, (r4.kept hg (by simp)).c0, (r4.kept hg (by simp)).c1, (s4.kept hg (by simp)).c0, (s4.kept hg (by simp)).c1⟩, HK.out _ (grownBy_trans G4 hg)⟩
  have HG4 : Hid (w.grownBy w4 none) := grownBy_trans (grow2 _ _ _) G4
  clear g4 G3 G4 q3 r3 q4 r4 s4 c0 c1 c2 c3 HB1 HK HDv HSh
  rw [hma]
  clear hma
  obtain ⟨⟨k0, k1, k2, k3, k4, k5⟩, c0, c1, c2, c3⟩ := HKK.out _ (World.grownBy.refl _ _)
  go_wp2_with fail
  go_region_held3 (fun w' => (w'.cell? ⟨w2.heap.size, 0, none⟩ = some (Value.bool false) ∧ w'.cell? ⟨w2.heap.size, 1, none⟩ = some (Value.string eS) ∧ w'.cell? ⟨w2.heap.size + 1, 0, none⟩ = some (Value.bool false) ∧ w'.cell? ⟨w2.heap.size + 1, 1, none⟩ = some (Value.string eS) ∧ w'.cell? ⟨w3.heap.size, 0, none⟩ = some (Value.bool sb) ∧ w'.cell? ⟨w3.heap.size, 1, none⟩ = some (Value.string sm)) ∧ (w'.cell? ⟨w.heap.size, 0, none⟩ = some (Value.bool n1) ∧ w'.cell? ⟨w.heap.size, 1, none⟩ = some (Value.string m1) ∧ w'.cell? ⟨w.heap.size + 1, 0, none⟩ = some (Value.bool n2) ∧ w'.cell? ⟨w.heap.size + 1, 1, none⟩ = some (Value.string m2)))
    (first | (go_keep; done) | exact HKK.out _ (by assumption) | exact HKK.out _ (grow_drew (World.grownBy.refl _ _)) | fail)
    (first
      | (go_at_call 19; refine (HRs.out _).mono ?_; rintro e wA ⟨rfl, gA⟩; have GA : w4.grownBy wA none := (by first | exact gA | exact grownBy_undrew gA | fail))
      | (go_at_call 15; refine (HIs.out _).mono ?_; rintro e wB ⟨rfl, gB⟩; have GB : w4.grownBy wB none := grownBy_trans GA (by first | exact gB | exact grownBy_undrew gB | fail))
      | fail)
  have HGB : Hid (w4.grownBy wB none) := GB
  obtain ⟨⟨j0, j1, j2, j3, j4, j5⟩, d0, d1, d2, d3⟩ := HKK.out _ GB
  clear GA GB gA gB k0 k1 k2 k3 k4 k5 c0 c1 c2 c3
  go_wp2_with fail
  refine (HB0.out _).mono ?_
  rintro e w6 ⟨rfl, g6⟩
  have G6 := grownBy_trans HGB.out (grownBy_trans (grow1 _ _) g6)
  have HG6 : Hid (w4.grownBy w6 none) := G6
  clear g6 HB0 HB2 j0 j1 j2 j3 j4 j5 d0 d1 d2 d3
  obtain ⟨⟨k0, k1, k2, k3, k4, k5⟩, c0, c1, c2, c3⟩ := HKK.out _ G6
  clear G6
  rw [hmb]
  clear hmb
  go_wp2_with (go_at_call 18; refine (num_any _ _).mono ?_; rintro e w7 ⟨rfl, rfl⟩)
  have G9 := grownBy_trans HG4.out HG6.out
  refine (works_any _ (HT.out _ G9)).mono ?_
  rintro e wZ ⟨rfl, gZ⟩
  have HGZ : Hid (w.grownBy wZ none) := grownBy_trans G9 gZ
  clear gZ G9 k0 k1 k2 k3 k4 k5 c0 c1 c2 c3
  go_wp2_with fail
  go_ret
  exact ⟨rfl, HGZ.out⟩

set_option maxHeartbeats 3200000 in
set_option maxRecDepth 1000000 in
theorem divs_a4b3 (n1 n2 : Bool) (m1 m2 : ByteArray) (n : Int) (z1 : m1.size ≤ maxLen) (z2 : m2.size ≤ maxLen) (hl : anyLong [(n1, m1), (n2, m2)] = false) {dq ds sb : Bool} {qm rm sm : ByteArray} {se : Int} 
    (HDv : Hid (∀ w, Calls Tryz.prog 16 #[whole n1 m1, whole n2 m2] w fun e w' => e = .returned (.tuple #[whole dq qm, whole ds rm, .int .i64 0]) ∧ w.grownBy w' none))
    (HSh : Hid (∀ w, Calls Tryz.prog 17 #[whole n1 m1, .int .i64 n] w fun e w' => e = .returned (.tuple #[whole sb sm, .int .i64 se]) ∧ w.grownBy w' none))
    {tb : Bool} {ts : ByteArray} (hma : may n1 m1 = true) (he : (m1.toList == []) = false) (hn : n ≤ 131072) (HRs : Hid (∀ w, Calls Tryz.prog 19 #[whole n1 m1, .int .i64 n] w fun e w' => e = .returned (whole tb ts) ∧ w.grownBy w' none)) (HIs : Hid (∀ w, Calls Tryz.prog 15 #[whole sb sm, .int .i64 se, whole tb ts] w fun e w' => e = .returned (.bool true) ∧ w.grownBy w' none)) (hmb : mayAll [(n1, m1), (n2, m2)] = true) (hb0 : (m2.toList == []) = false) (HRd : Hid (∀ w, Calls Tryz.prog 20 #[whole n1 m1, whole n2 m2] w fun e w' => e = .returned (.tuple #[whole dq qm, whole ds rm]) ∧ w.grownBy w' none))
    (w : World) (htab : Lib.TabIs Tryz.prog w "internal/strconv.uint64pow10" .u64 Lib.pow10Tab) :
    Calls Tryz.prog 4 #[whole n1 m1, whole n2 m2, .int .i64 n] w fun e w' => e = .returned (.bool true) ∧ w.grownBy w' none := by
  obtain ⟨gp, hgp⟩ := pow10_g
  have HT : Hid (∀ w', w.grownBy w' none → Lib.TabIs Tryz.prog w' "internal/strconv.uint64pow10" .u64 Lib.pow10Tab) := fun w' hg => tab_kept hgp htab hg
  have HL := longTwo n1 n2 m1 m2 z1 z2 w
  rw [hl] at HL
  have HB1 := badOne1 n1 m1 z1
  have HB2 := badTwo n1 n2 m1 m2 z1 z2
  have HB0 := badTwo0 n1 n2 m1 m2 z1 z2
  have HK : Hid (∀ w', ((w.alloc (wObj n1 m1)).alloc (wObj n2 m2)).grownBy w' none → w'.cell? ⟨w.heap.size, 0, none⟩ = some (Value.bool n1) ∧ w'.cell? ⟨w.heap.size, 1, none⟩ = some (Value.string m1) ∧ w'.cell? ⟨w.heap.size + 1, 0, none⟩ = some (Value.bool n2) ∧ w'.cell? ⟨w.heap.size + 1, 1, none⟩ = some (Value.string m2)) := keep2 w n1 n2 m1 m2
  clear htab hgp hl
  go_enter Tryz.func4, Tryz.ntmps4
  go_wp2_with fail
  refine HL.out.mono ?_
  rintro e w1 ⟨rfl, g1⟩
  have G1 : ((w.alloc (wObj n1 m1)).alloc (wObj n2 m2)).grownBy w1 none := grownBy_trans (grow1 _ _) g1
  obtain ⟨c0, c1, c2, c3⟩ := HK.out _ G1
  clear g1 HL
  go_wp2_with fail
  refine (HDv.out _).mono ?_
  rintro e w2 ⟨rfl, g2⟩
  have G2 := grownBy_trans G1 g2
  clear G1 g2 c0 c1 c2 c3
  obtain ⟨c0, c1, c2, c3⟩ := HK.out _ (grownBy_trans G2 (grow2 w2 (wObj dq qm) (wObj ds rm)))
  go_wp2_with fail
  refine (HSh.out _).mono ?_
  rintro e w3 ⟨rfl, g3⟩
  have q3 : WBlk w3 w2.heap.size (.bool dq) (.string qm) := WBlk.kept (at_alloc1 _ _ _) g3 (by simp)
  have r3 : WBlk w3 (w2.heap.size + 1) (.bool ds) (.string rm) := WBlk.kept (heap_alloc2_new _ _ _) g3 (by simp)
  have G3 := grownBy_trans G2 (grownBy_trans (grow2 _ _ _) g3)
  clear G2 g3 c0 c1 c2 c3
  obtain ⟨c0, c1, c2, c3⟩ := HK.out _ (grownBy_trans G3 (grow1 w3 (wObj sb sm)))
  go_wp2_with fail
  refine (HB1.out _ _).mono ?_
  rintro e w4 ⟨rfl, g4⟩
  have q4 := q3.kept (grownBy_trans (grow2 _ _ _) g4) (by simp)
  have r4 := r3.kept (grownBy_trans (grow2 _ _ _) g4) (by simp)
  have s4 : WBlk w4 w3.heap.size (.bool sb) (.string sm) := WBlk.kept (heap_alloc_new _ _) (grownBy_trans (grow1 _ _) g4) (by simp)
  have G4 := grownBy_trans G3 (grownBy_trans (grow2 _ _ _) g4)
  have HKK : Hid (∀ w', w4.grownBy w' none → (w'.cell? ⟨w2.heap.size, 0, none⟩ = some (Value.bool dq) ∧ w'.cell? ⟨w2.heap.size, 1, none⟩ = some (Value.string qm) ∧ w'.cell? ⟨w2.heap.size + 1, 0, none⟩ = some (Value.bool ds) ∧ w'.cell? ⟨w2.heap.size + 1, 1, none⟩ = some (Value.string rm) ∧ w'.cell? ⟨w3.heap.size, 0, none⟩ = some (Value.bool sb) ∧ w'.cell? ⟨w3.heap.size, 1, none⟩ = some (Value.string sm)) ∧ (w'.cell? ⟨w.heap.size, 0, none⟩ = some (Value.bool n1) ∧ w'.cell? ⟨w.heap.size, 1, none⟩ = some (Value.string m1) ∧ w'.cell? ⟨w.heap.size + 1, 0, none⟩ = some (Value.bool n2) ∧ w'.cell? ⟨w.heap.size + 1, 1, none⟩ = some (Value.string m2))) :=
    fun w' hg => ⟨⟨(q4.kept hg (by simp)).c0, (q4.kept hg (by simp)).c1, (r4.kept hg (by simp)).c0, (r4.kept hg (by simp)).c1, (s4.kept hg (by simp)).c0, (s4.kept hg (by simp)).c1⟩, HK.out _ (grownBy_trans G4 hg)⟩
  have HG4 : Hid (w.grownBy w4 none) := grownBy_trans (grow2 _ _ _) G4
  clear g4 G3 G4 q3 r3 q4 r4 s4 c0 c1 c2 c3 HB1 HK HDv HSh
  rw [hma]
  clear hma
  obtain ⟨⟨k0, k1, k2, k3, k4, k5⟩, c0, c1, c2, c3⟩ := HKK.out _ (World.grownBy.refl _ _)
  go_wp2_with fail
  go_region_held3 (fun w' => (w'.cell? ⟨w2.heap.size, 0, none⟩ = some (Value.bool dq) ∧ w'.cell? ⟨w2.heap.size, 1, none⟩ = some (Value.string qm) ∧ w'.cell? ⟨w2.heap.size + 1, 0, none⟩ = some (Value.bool ds) ∧ w'.cell? ⟨w2.heap.size + 1, 1, none⟩ = some (Value.string rm) ∧ w'.cell? ⟨w3.heap.size, 0, none⟩ = some (Value.bool sb) ∧ w'.cell? ⟨w3.heap.size, 1, none⟩ = some (Value.string sm)) ∧ (w'.cell? ⟨w.heap.size, 0, none⟩ = some (Value.bool n1) ∧ w'.cell? ⟨w.heap.size, 1, none⟩ = some (Value.string m1) ∧ w'.cell? ⟨w.heap.size + 1, 0, none⟩ = some (Value.bool n2) ∧ w'.cell? ⟨w.heap.size + 1, 1, none⟩ = some (Value.string m2)))
    (first | (go_keep; done) | exact HKK.out _ (by assumption) | exact HKK.out _ (grow_drew (World.grownBy.refl _ _)) | fail)
    (first
      | (go_at_call 19; refine (HRs.out _).mono ?_; rintro e wA ⟨rfl, gA⟩; have GA : w4.grownBy wA none := (by first | exact gA | exact grownBy_undrew gA | fail))
      | (go_at_call 15; refine (HIs.out _).mono ?_; rintro e wB ⟨rfl, gB⟩; have GB : w4.grownBy wB none := grownBy_trans GA (by first | exact gB | exact grownBy_undrew gB | fail))
      | fail)
  have HGB : Hid (w4.grownBy wB none) := GB
  obtain ⟨⟨j0, j1, j2, j3, j4, j5⟩, d0, d1, d2, d3⟩ := HKK.out _ GB
  clear GA GB gA gB k0 k1 k2 k3 k4 k5 c0 c1 c2 c3
  go_wp2_with fail
  refine (HB0.out _).mono ?_
  rintro e w6 ⟨rfl, g6⟩
  have G6 := grownBy_trans HGB.out (grownBy_trans (grow1 _ _) g6)
  have HG6 : Hid (w4.grownBy w6 none) := G6
  clear g6 HB0 HB2 j0 j1 j2 j3 j4 j5 d0 d1 d2 d3
  obtain ⟨⟨k0, k1, k2, k3, k4, k5⟩, c0, c1, c2, c3⟩ := HKK.out _ G6
  clear G6
  rw [hmb]
  clear hmb
  go_wp2_with fail
  refine (HRd.out _).mono ?_
  rintro e w7 ⟨rfl, g7⟩
  have G7 := grownBy_trans HG6.out g7
  clear k0 k1 k2 k3 k4 k5 c0 c1 c2 c3 g7
  obtain ⟨⟨k0, k1, k2, k3, k4, k5⟩, c0, c1, c2, c3⟩ := HKK.out _ (grownBy_trans G7 (grow2 w7 (wObj dq qm) (wObj ds rm)))
  have HG7 : Hid (w.grownBy ((w7.alloc (wObj dq qm)).alloc (wObj ds rm)) none) := grownBy_trans HG4.out (grownBy_trans G7 (grow2 _ _ _))
  clear G7
  go_wp2_with (go_at_call 18; refine (num_any _ _).mono ?_; rintro e w8 ⟨rfl, rfl⟩)
  refine (works_any _ (HT.out _ HG7.out)).mono ?_
  rintro e wZ ⟨rfl, gZ⟩
  have HGZ : Hid (w.grownBy wZ none) := grownBy_trans HG7.out gZ
  clear gZ k0 k1 k2 k3 k4 k5 c0 c1 c2 c3
  go_wp2_with fail
  go_ret
  exact ⟨rfl, HGZ.out⟩

end Go.Proofs.YtjenbicaepldlaaGreatDoor
