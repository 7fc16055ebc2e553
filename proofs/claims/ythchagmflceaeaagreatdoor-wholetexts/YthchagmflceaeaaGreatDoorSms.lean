/-
  The walk over WholeSums.
-/
import Derived.Test.YthchagmflceaeaaGreatDoorBunOps
import Derived.Test.YthchagmflceaeaaGreatDoorTls
namespace Go.Proofs.YthchagmflceaeaaGreatDoor
open Go.RowKit Go.Lib Go.Sort

theorem sizes2 {n1 n2 : Bool} {m1 m2 : ByteArray} (z1 : m1.size ≤ maxLen) (z2 : m2.size ≤ maxLen) : ∀ p ∈ [(n1, m1), (n2, m2)], p.2.size ≤ maxLen := by
  intro p hp; simp at hp; rcases hp with rfl | rfl <;> assumption
/-- The law's long of two, at the law's own world. -/
theorem longTwo (n1 n2 : Bool) (m1 m2 : ByteArray) (z1 : m1.size ≤ maxLen) (z2 : m2.size ≤ maxLen) (w : World) :
    Hid (Calls Tryz.prog 28 #[.slice (some ⟨w.heap.size + 1 + 1, 0, none⟩) 2 2] (((w.alloc (wObj n1 m1)).alloc (wObj n2 m2)).alloc (.cells #[.bool n1, .string m1, .bool n2, .string m2] 23)) fun e w' => e = .returned (.bool (anyLong [(n1, m1), (n2, m2)])) ∧ (((w.alloc (wObj n1 m1)).alloc (wObj n2 m2)).alloc (.cells #[.bool n1, .string m1, .bool n2, .string m2] 23)).grownBy w' none) := by
  have e : ((w.alloc (wObj n1 m1)).alloc (wObj n2 m2)).heap.size = w.heap.size + 1 + 1 := by simp
  rw [← e]
  exact long_any _ _ _ (dw_two _ n1 n2 m1 m2) (by simp) (sizes2 z1 z2)
/-- The law's bad of two, behind a block. -/
theorem badTwo (n1 n2 : Bool) (m1 m2 : ByteArray) (z1 : m1.size ≤ maxLen) (z2 : m2.size ≤ maxLen) :
    Hid (∀ (w : World) (o : Obj), Calls Tryz.prog 15 #[.slice (some ⟨w.heap.size + 1, 0, none⟩) 2 2] ((w.alloc o).alloc (.cells #[.bool n1, .string m1, .bool n2, .string m2] 23)) fun e w' => e = .returned (.bool (!mayAll [(n1, m1), (n2, m2)])) ∧ ((w.alloc o).alloc (.cells #[.bool n1, .string m1, .bool n2, .string m2] 23)).grownBy w' none) := fun w o => by
  have e : (w.alloc o).heap.size = w.heap.size + 1 := by simp
  rw [← e]
  exact bad_any _ _ _ (dw_two _ n1 n2 m1 m2) (by simp) (sizes2 z1 z2)

set_option maxHeartbeats 3200000 in
set_option maxRecDepth 1000000 in
theorem sums_long (n1 n2 : Bool) (m1 m2 : ByteArray) (z1 : m1.size ≤ maxLen) (z2 : m2.size ≤ maxLen) (hl : anyLong [(n1, m1), (n2, m2)] = true) (w : World) (htab : Lib.TabIs Tryz.prog w "internal/strconv.uint64pow10" .u64 Lib.pow10Tab) :
    Calls Tryz.prog 4 #[whole n1 m1, whole n2 m2] w fun e w' => e = .returned (.bool true) ∧ w.grownBy w' none := by
  obtain ⟨gp, hgp⟩ := pow10_g
  have HT : Hid (∀ w', w.grownBy w' none → Lib.TabIs Tryz.prog w' "internal/strconv.uint64pow10" .u64 Lib.pow10Tab) := fun w' hg => tab_kept hgp htab hg
  have HL := longTwo n1 n2 m1 m2 z1 z2 w
  rw [hl] at HL
  clear htab hgp hl
  go_enter Tryz.func4, Tryz.ntmps4
  go_wp2_with fail
  refine HL.out.mono ?_
  rintro e w1 ⟨rfl, g1⟩
  have G1 := grownBy_trans (grow3 _ _ _ _) g1
  clear g1 HL
  go_wp2_with fail
  refine (works_any _ (HT.out _ G1)).mono ?_
  rintro e w2 ⟨rfl, g2⟩
  have HG2 : Hid (w.grownBy w2 none) := grownBy_trans G1 g2
  clear G1 g2
  go_wp2_with fail
  go_ret
  exact ⟨rfl, HG2.out⟩

set_option maxHeartbeats 3200000 in
set_option maxRecDepth 1000000 in
theorem sums_bad (n1 n2 : Bool) (m1 m2 : ByteArray) (z1 : m1.size ≤ maxLen) (z2 : m2.size ≤ maxLen) (hl : anyLong [(n1, m1), (n2, m2)] = false) (hb : ¬ (may n1 m1 = true ∧ may n2 m2 = true)) (w : World) (htab : Lib.TabIs Tryz.prog w "internal/strconv.uint64pow10" .u64 Lib.pow10Tab) :
    Calls Tryz.prog 4 #[whole n1 m1, whole n2 m2] w fun e w' => e = .returned (.bool true) ∧ w.grownBy w' none := by
  obtain ⟨gp, hgp⟩ := pow10_g
  have HT : Hid (∀ w', w.grownBy w' none → Lib.TabIs Tryz.prog w' "internal/strconv.uint64pow10" .u64 Lib.pow10Tab) := fun w' hg => tab_kept hgp htab hg
  have HL := longTwo n1 n2 m1 m2 z1 z2 w
  rw [hl] at HL
  have HB := badTwo n1 n2 m1 m2 z1 z2
  rw [show mayAll [(n1, m1), (n2, m2)] = false by cases a : may n1 m1 <;> cases b : may n2 m2 <;> simp_all [mayAll]] at HB
  have HC : Hid (∀ w, Calls Tryz.prog 29 #[whole n1 m1, whole n2 m2] w fun e w' => e = .returned (.tuple #[.int .i64 0, .int .i64 2]) ∧ w.grownBy w' none) := fun w => cmp_no n1 n2 m1 m2 z1 z2 hb w
  have HA : Hid (∀ w, Calls Tryz.prog 30 #[whole n1 m1, whole n2 m2] w fun e w' => e = .returned (.tuple #[whole false eS, .int .i64 2]) ∧ w.grownBy w' none) := fun w => add_no n1 n2 m1 m2 z1 z2 hb w
  have HS : Hid (∀ w, Calls Tryz.prog 31 #[whole n1 m1, whole n2 m2] w fun e w' => e = .returned (.tuple #[whole false eS, .int .i64 2]) ∧ w.grownBy w' none) := fun w => sub_no n1 n2 m1 m2 z1 z2 hb w
  have HM : Hid (∀ w, Calls Tryz.prog 32 #[whole n1 m1, whole n2 m2] w fun e w' => e = .returned (.tuple #[whole false eS, .int .i64 2]) ∧ w.grownBy w' none) := fun w => mul_no n1 n2 m1 m2 z1 z2 hb w
  have HK : Hid (∀ w', ((w.alloc (wObj n1 m1)).alloc (wObj n2 m2)).grownBy w' none → w'.cell? ⟨w.heap.size, 0, none⟩ = some (Value.bool n1) ∧ w'.cell? ⟨w.heap.size, 1, none⟩ = some (Value.string m1) ∧ w'.cell? ⟨w.heap.size + 1, 0, none⟩ = some (Value.bool n2) ∧ w'.cell? ⟨w.heap.size + 1, 1, none⟩ = some (Value.string m2)) := keep2 w n1 n2 m1 m2
  clear htab hgp hl hb
  go_enter Tryz.func4, Tryz.ntmps4
  go_wp2_with fail
  refine HL.out.mono ?_
  rintro e w1 ⟨rfl, g1⟩
  have G1 : ((w.alloc (wObj n1 m1)).alloc (wObj n2 m2)).grownBy w1 none := grownBy_trans (grow1 _ _) g1
  obtain ⟨c0, c1, c2, c3⟩ := HK.out _ G1
  clear g1 HL
  go_wp2_with fail
  refine (HC.out _).mono ?_
  rintro e w2 ⟨rfl, g2⟩
  have G2 := grownBy_trans G1 g2
  clear G1 g2 c0 c1 c2 c3 HC
  obtain ⟨c0, c1, c2, c3⟩ := HK.out _ G2
  go_wp2_with fail
  refine (HA.out _).mono ?_
  rintro e w3 ⟨rfl, g3⟩
  have G3 := grownBy_trans G2 g3
  clear G2 g3 c0 c1 c2 c3 HA
  obtain ⟨c0, c1, c2, c3⟩ := HK.out _ (grownBy_trans G3 (grow1 w3 (wObj false eS)))
  go_wp2_with fail
  refine (HS.out _).mono ?_
  rintro e w4 ⟨rfl, g4⟩
  have s4 : WBlk w4 w3.heap.size (.bool false) (.string eS) := WBlk.kept (heap_alloc_new _ _) g4 (by simp)
  have G4 := grownBy_trans G3 (grownBy_trans (grow1 _ _) g4)
  clear G3 g4 c0 c1 c2 c3 HS
  obtain ⟨c0, c1, c2, c3⟩ := HK.out _ (grownBy_trans G4 (grow1 w4 (wObj false eS)))
  go_wp2_with fail
  refine (HM.out _).mono ?_
  rintro e w5 ⟨rfl, g5⟩
  have s5 := s4.kept (grownBy_trans (grow1 _ _) g5) (by simp)
  have d5 : WBlk w5 w4.heap.size (.bool false) (.string eS) := WBlk.kept (heap_alloc_new _ _) g5 (by simp)
  have G5 := grownBy_trans G4 (grownBy_trans (grow1 _ _) g5)
  clear G4 g5 c0 c1 c2 c3 HM s4
  obtain ⟨c0, c1, c2, c3⟩ := HK.out _ (grownBy_trans G5 (grow1 w5 (wObj false eS)))
  go_wp2_with fail
  refine (HB.out _ _).mono ?_
  rintro e w6 ⟨rfl, g6⟩
  have s6 := s5.kept (grownBy_trans (grow2 _ _ _) g6) (by simp)
  have d6 := d5.kept (grownBy_trans (grow2 _ _ _) g6) (by simp)
  have p6 : WBlk w6 w5.heap.size (.bool false) (.string eS) := WBlk.kept (heap_alloc_new _ _) (grownBy_trans (grow1 _ _) g6) (by simp)
  have G6 := grownBy_trans G5 (grownBy_trans (grow2 _ _ _) g6)
  have HKK : Hid (∀ w', w6.grownBy w' none → w'.cell? ⟨w3.heap.size, 0, none⟩ = some (Value.bool false) ∧ w'.cell? ⟨w3.heap.size, 1, none⟩ = some (Value.string eS) ∧ w'.cell? ⟨w4.heap.size, 0, none⟩ = some (Value.bool false) ∧ w'.cell? ⟨w4.heap.size, 1, none⟩ = some (Value.string eS) ∧ w'.cell? ⟨w5.heap.size, 0, none⟩ = some (Value.bool false) ∧ w'.cell? ⟨w5.heap.size, 1, none⟩ = some (Value.string eS)) :=
    fun w' hg => ⟨(s6.kept hg (by simp)).c0, (s6.kept hg (by simp)).c1, (d6.kept hg (by simp)).c0, (d6.kept hg (by simp)).c1, (p6.kept hg (by simp)).c0, (p6.kept hg (by simp)).c1⟩
  have HG6 : Hid (w.grownBy w6 none) := grownBy_trans (grow2 _ _ _) G6
  clear g6 G5 G6 s5 d5 s6 d6 p6 c0 c1 c2 c3 HB
  obtain ⟨c0, c1, c2, c3, c4, c5⟩ := HKK.out _ (World.grownBy.refl _ _)
  go_wp2_with (go_at_call 16; refine (num_any _ _).mono ?_; rintro e w' ⟨rfl, rfl⟩)
  refine (arg_yes _).mono ?_
  rintro e w' ⟨rfl, rfl⟩
  clear c0 c1 c2 c3 c4 c5
  obtain ⟨c0, c1, c2, c3, c4, c5⟩ := HKK.out _ (grow1 _ (wObj false eS))
  go_wp2_with fail
  refine (arg_yes _).mono ?_
  rintro e w' ⟨rfl, rfl⟩
  clear c0 c1 c2 c3 c4 c5
  obtain ⟨c0, c1, c2, c3, c4, c5⟩ := HKK.out _ (grow2 _ (wObj false eS) (wObj false eS))
  go_wp2_with fail
  refine (arg_yes _).mono ?_
  rintro e w' ⟨rfl, rfl⟩
  clear c0 c1 c2 c3 c4 c5
  go_wp2_with fail
  have G9 := grownBy_trans HG6.out (grow3 _ (wObj false eS) (wObj false eS) (wObj false eS))
  refine (works_any _ (HT.out _ G9)).mono ?_
  rintro e wA ⟨rfl, gA⟩
  have HGA : Hid (w.grownBy wA none) := grownBy_trans G9 gA
  clear gA G9
  go_wp2_with fail
  go_ret
  exact ⟨rfl, HGA.out⟩

theorem bl_of_lt {z : Nat} {k : Nat} (h : z < 256 ^ k) : bl z ≤ 8 * k := by
  refine bl_le ?_
  rw [Nat.pow_mul]
  exact h
theorem three_lt {x y z : Int} {k : Nat} (hk : 1 ≤ k) (a : x.natAbs < 256 ^ k) (b : y.natAbs < 256 ^ k) (hz : z = x + y ∨ z = x - y ∨ z = x * y) : z.natAbs < 256 ^ (k + k) := by
  have ht : 2 * 256 ^ k ≤ 256 ^ k * 256 ^ k := Nat.mul_le_mul_right _ (Nat.le_trans (by decide) (Nat.pow_le_pow_right (n := 256) (by decide) hk))
  rw [Nat.pow_add]
  generalize 256 ^ k = P at *
  rcases hz with rfl | rfl | rfl
  · omega
  · omega
  · rw [Int.natAbs_mul]
    exact Nat.mul_lt_mul'' a b
theorem three_small' {n1 n2 : Bool} {m1 m2 : ByteArray} {k : Nat} (hk : 1 ≤ k) (l1 : m1.size ≤ k) (l2 : m2.size ≤ k) {z : Int} (hz : z = num n1 m1 + num n2 m2 ∨ z = num n1 m1 - num n2 m2 ∨ z = num n1 m1 * num n2 m2) : bl z.natAbs ≤ 8 * (k + k) :=
  bl_of_lt (three_lt hk (Nat.lt_of_lt_of_le (num_lt n1 m1) (Nat.pow_le_pow_right (by decide) l1)) (Nat.lt_of_lt_of_le (num_lt n2 m2) (Nat.pow_le_pow_right (by decide) l2)) hz)
theorem three_small {n1 n2 : Bool} {m1 m2 : ByteArray} (h1 : may n1 m1 = true) (h2 : may n2 m2 = true) {z : Int} (hz : z = num n1 m1 + num n2 m2 ∨ z = num n1 m1 - num n2 m2 ∨ z = num n1 m1 * num n2 m2) : bl z.natAbs ≤ 10000000 := by
  have h := three_small' (k := 16384) (by omega) (may_size h1) (may_size h2) hz
  omega
/-- An answer, as the number z, with its parts. -/
def ZAns (z : Int) (n : Bool) (s : ByteArray) (er : Int) : Prop := ZRes z (.returned (.tuple #[whole n s, .int .i64 er]))
set_option maxHeartbeats 6400000 in
set_option maxRecDepth 1000000 in
theorem sums_yes (n1 n2 : Bool) (m1 m2 : ByteArray) (h1 : may n1 m1 = true) (h2 : may n2 m2 = true) (hl : anyLong [(n1, m1), (n2, m2)] = false) (w : World) (htab : Lib.TabIs Tryz.prog w "internal/strconv.uint64pow10" .u64 Lib.pow10Tab) :
    Calls Tryz.prog 4 #[whole n1 m1, whole n2 m2] w fun e w' => e = .returned (.bool true) ∧ w.grownBy w' none := by
  obtain ⟨gp, hgp⟩ := pow10_g
  have HT : Hid (∀ w', w.grownBy w' none → Lib.TabIs Tryz.prog w' "internal/strconv.uint64pow10" .u64 Lib.pow10Tab) := fun w' hg => tab_kept hgp htab hg
  have z1 : m1.size ≤ maxLen := by have := may_size h1; unfold maxLen; omega
  have z2 : m2.size ≤ maxLen := by have := may_size h2; unfold maxLen; omega
  have HL := longTwo n1 n2 m1 m2 z1 z2 w
  rw [hl] at HL
  have HB := badTwo n1 n2 m1 m2 z1 z2
  rw [show mayAll [(n1, m1), (n2, m2)] = true by simp [mayAll, h1, h2]] at HB
  have HC : Hid (∀ w, Calls Tryz.prog 29 #[whole n1 m1, whole n2 m2] w fun e w' => e = .returned (.tuple #[.int .i64 (cmpZ (num n1 m1) (num n2 m2)), .int .i64 0]) ∧ w.grownBy w' none) := fun w => cmp_yes n1 n2 m1 m2 h1 h2 w
  have HA : Hid (∀ w, Calls Tryz.prog 30 #[whole n1 m1, whole n2 m2] w fun e w' => ∃ n s er, e = .returned (.tuple #[whole n s, .int .i64 er]) ∧ ZAns (num n1 m1 + num n2 m2) n s er ∧ w.grownBy w' none) := fun w => by
    refine (add_yes n1 n2 m1 m2 h1 h2 w).mono ?_
    rintro e w' ⟨hz, hg⟩
    obtain ⟨n, s, er, rfl⟩ := hz.ans
    exact ⟨n, s, er, rfl, hz, hg⟩
  have HS : Hid (∀ w, Calls Tryz.prog 31 #[whole n1 m1, whole n2 m2] w fun e w' => ∃ n s er, e = .returned (.tuple #[whole n s, .int .i64 er]) ∧ ZAns (num n1 m1 - num n2 m2) n s er ∧ w.grownBy w' none) := fun w => by
    refine (sub_yes n1 n2 m1 m2 h1 h2 w).mono ?_
    rintro e w' ⟨hz, hg⟩
    obtain ⟨n, s, er, rfl⟩ := hz.ans
    exact ⟨n, s, er, rfl, hz, hg⟩
  have HM : Hid (∀ w, Calls Tryz.prog 32 #[whole n1 m1, whole n2 m2] w fun e w' => ∃ n s er, e = .returned (.tuple #[whole n s, .int .i64 er]) ∧ ZAns (num n1 m1 * num n2 m2) n s er ∧ w.grownBy w' none) := fun w => by
    refine (mul_yes n1 n2 m1 m2 h1 h2 w).mono ?_
    rintro e w' ⟨hz, hg⟩
    obtain ⟨n, s, er, rfl⟩ := hz.ans
    exact ⟨n, s, er, rfl, hz, hg⟩
  have HRC : Hid (∀ w, Calls Tryz.prog 33 #[whole n1 m1, whole n2 m2] w fun e w' => e = .returned (.int .i64 (cmpZ (num n1 m1) (num n2 m2))) ∧ w.grownBy w' none) := fun w => rCmp_z n1 n2 m1 m2 h1 h2 w
  have HRP : Hid (∀ w, Calls Tryz.prog 35 #[whole n1 m1, whole n2 m2] w fun e w' => ∃ n s, e = .returned (whole n s) ∧ IsZ (num n1 m1 + num n2 m2) n s ∧ w.grownBy w' none) := fun w => rPlus_z n1 n2 m1 m2 h1 h2 w
  have HRM : Hid (∀ w, Calls Tryz.prog 36 #[whole n1 m1, whole n2 m2] w fun e w' => ∃ n s, e = .returned (whole n s) ∧ IsZ (num n1 m1 - num n2 m2) n s ∧ w.grownBy w' none) := fun w => rMinus_z n1 n2 m1 m2 h1 h2 w
  have HRT : Hid (∀ w, Calls Tryz.prog 37 #[whole n1 m1, whole n2 m2] w fun e w' => ∃ n s, e = .returned (whole n s) ∧ IsZ (num n1 m1 * num n2 m2) n s ∧ w.grownBy w' none) := fun w => rTimes_z n1 n2 m1 m2 h1 h2 w
  have HI : Hid (∀ z n s er n' s' w, (z = num n1 m1 + num n2 m2 ∨ z = num n1 m1 - num n2 m2 ∨ z = num n1 m1 * num n2 m2) → ZAns z n s er → IsZ z n' s' → Calls Tryz.prog 34 #[whole n s, .int .i64 er, whole n' s'] w fun e w' => e = .returned (.bool true) ∧ w.grownBy w' none) := fun z n s er n' s' w hz h h' => is_yes h h' (three_small h1 h2 hz) w
  have HK : Hid (∀ w', ((w.alloc (wObj n1 m1)).alloc (wObj n2 m2)).grownBy w' none → w'.cell? ⟨w.heap.size, 0, none⟩ = some (Value.bool n1) ∧ w'.cell? ⟨w.heap.size, 1, none⟩ = some (Value.string m1) ∧ w'.cell? ⟨w.heap.size + 1, 0, none⟩ = some (Value.bool n2) ∧ w'.cell? ⟨w.heap.size + 1, 1, none⟩ = some (Value.string m2)) := keep2 w n1 n2 m1 m2
  clear htab hgp hl h1 h2
  generalize num n1 m1 + num n2 m2 = zs at *
  generalize num n1 m1 - num n2 m2 = zd at *
  generalize num n1 m1 * num n2 m2 = zp at *
  generalize cmpZ (num n1 m1) (num n2 m2) = cc at *
  go_enter Tryz.func4, Tryz.ntmps4
  go_wp2_with fail
  refine HL.out.mono ?_
  rintro e w1 ⟨rfl, g1⟩
  have G1 : ((w.alloc (wObj n1 m1)).alloc (wObj n2 m2)).grownBy w1 none := grownBy_trans (grow1 _ _) g1
  obtain ⟨c0, c1, c2, c3⟩ := HK.out _ G1
  clear g1 HL
  go_wp2_with fail
  refine (HC.out _).mono ?_
  rintro e w2 ⟨rfl, g2⟩
  have G2 := grownBy_trans G1 g2
  clear G1 g2 c0 c1 c2 c3 HC
  obtain ⟨c0, c1, c2, c3⟩ := HK.out _ G2
  go_wp2_with fail
  refine (HA.out _).mono ?_
  rintro e w3 ⟨sn, ss, se, rfl, sz, g3⟩
  have HSZ : Hid (ZAns zs sn ss se) := sz
  have G3 := grownBy_trans G2 g3
  clear G2 g3 c0 c1 c2 c3 HA sz
  obtain ⟨c0, c1, c2, c3⟩ := HK.out _ (grownBy_trans G3 (grow1 w3 (wObj sn ss)))
  go_wp2_with fail
  refine (HS.out _).mono ?_
  rintro e w4 ⟨dn, ds, de, rfl, dz, g4⟩
  have HDZ : Hid (ZAns zd dn ds de) := dz
  have s4 : WBlk w4 w3.heap.size (.bool sn) (.string ss) := WBlk.kept (heap_alloc_new _ _) g4 (by simp)
  have G4 := grownBy_trans G3 (grownBy_trans (grow1 _ _) g4)
  clear G3 g4 c0 c1 c2 c3 HS dz
  obtain ⟨c0, c1, c2, c3⟩ := HK.out _ (grownBy_trans G4 (grow1 w4 (wObj dn ds)))
  go_wp2_with fail
  refine (HM.out _).mono ?_
  rintro e w5 ⟨pn, ps, pe, rfl, pz, g5⟩
  have HPZ : Hid (ZAns zp pn ps pe) := pz
  have s5 := s4.kept (grownBy_trans (grow1 _ _) g5) (by simp)
  have d5 : WBlk w5 w4.heap.size (.bool dn) (.string ds) := WBlk.kept (heap_alloc_new _ _) g5 (by simp)
  have G5 := grownBy_trans G4 (grownBy_trans (grow1 _ _) g5)
  clear G4 g5 c0 c1 c2 c3 HM s4 pz
  obtain ⟨c0, c1, c2, c3⟩ := HK.out _ (grownBy_trans G5 (grow1 w5 (wObj pn ps)))
  go_wp2_with fail
  refine (HB.out _ _).mono ?_
  rintro e w6 ⟨rfl, g6⟩
  have s6 := s5.kept (grownBy_trans (grow2 _ _ _) g6) (by simp)
  have d6 := d5.kept (grownBy_trans (grow2 _ _ _) g6) (by simp)
  have p6 : WBlk w6 w5.heap.size (.bool pn) (.string ps) := WBlk.kept (heap_alloc_new _ _) (grownBy_trans (grow1 _ _) g6) (by simp)
  have G6 := grownBy_trans G5 (grownBy_trans (grow2 _ _ _) g6)
  have HKK : Hid (∀ w', w6.grownBy w' none → w'.cell? ⟨w.heap.size, 0, none⟩ = some (Value.bool n1) ∧ w'.cell? ⟨w.heap.size, 1, none⟩ = some (Value.string m1) ∧ w'.cell? ⟨w.heap.size + 1, 0, none⟩ = some (Value.bool n2) ∧ w'.cell? ⟨w.heap.size + 1, 1, none⟩ = some (Value.string m2) ∧ w'.cell? ⟨w3.heap.size, 0, none⟩ = some (Value.bool sn) ∧ w'.cell? ⟨w3.heap.size, 1, none⟩ = some (Value.string ss) ∧ w'.cell? ⟨w4.heap.size, 0, none⟩ = some (Value.bool dn) ∧ w'.cell? ⟨w4.heap.size, 1, none⟩ = some (Value.string ds) ∧ w'.cell? ⟨w5.heap.size, 0, none⟩ = some (Value.bool pn) ∧ w'.cell? ⟨w5.heap.size, 1, none⟩ = some (Value.string ps)) :=
    fun w' hg => ⟨(HK.out _ (grownBy_trans G6 hg)).1, (HK.out _ (grownBy_trans G6 hg)).2.1, (HK.out _ (grownBy_trans G6 hg)).2.2.1, (HK.out _ (grownBy_trans G6 hg)).2.2.2, (s6.kept hg (by simp)).c0, (s6.kept hg (by simp)).c1, (d6.kept hg (by simp)).c0, (d6.kept hg (by simp)).c1, (p6.kept hg (by simp)).c0, (p6.kept hg (by simp)).c1⟩
  have HG6 : Hid (w.grownBy w6 none) := grownBy_trans (grow2 _ _ _) G6
  clear g6 G5 G6 s5 d5 s6 d6 p6 c0 c1 c2 c3 HB
  obtain ⟨c0, c1, c2, c3, c4, c5, c6, c7, c8, c9⟩ := HKK.out _ (World.grownBy.refl _ _)
  go_wp2_with fail
  go_region_held3 (fun w' => w'.cell? ⟨w.heap.size, 0, none⟩ = some (Value.bool n1) ∧ w'.cell? ⟨w.heap.size, 1, none⟩ = some (Value.string m1) ∧ w'.cell? ⟨w.heap.size + 1, 0, none⟩ = some (Value.bool n2) ∧ w'.cell? ⟨w.heap.size + 1, 1, none⟩ = some (Value.string m2) ∧ w'.cell? ⟨w3.heap.size, 0, none⟩ = some (Value.bool sn) ∧ w'.cell? ⟨w3.heap.size, 1, none⟩ = some (Value.string ss) ∧ w'.cell? ⟨w4.heap.size, 0, none⟩ = some (Value.bool dn) ∧ w'.cell? ⟨w4.heap.size, 1, none⟩ = some (Value.string ds) ∧ w'.cell? ⟨w5.heap.size, 0, none⟩ = some (Value.bool pn) ∧ w'.cell? ⟨w5.heap.size, 1, none⟩ = some (Value.string ps))
    (first | (go_keep; done) | exact HKK.out _ (by assumption) | exact HKK.out _ (grow_drew (World.grownBy.refl _ _)) | fail)
    (first
      | (go_at_call 16; refine (num_any _ _).mono ?_; rintro e w' ⟨rfl, rfl⟩)
      | (go_at_call 33; refine (HRC.out _).mono ?_; rintro e wA ⟨rfl, hgA⟩; have GA : w6.grownBy wA none := (by first | exact grownBy_trans (by assumption) hgA | exact grownBy_undrew hgA | exact hgA | fail))
      | (go_at_call 35; refine (HRP.out _).mono ?_; rintro e wA ⟨rn, rs, rfl, hPl, hgA⟩; have GA : w6.grownBy wA none := (by first | exact grownBy_trans (by assumption) hgA | exact grownBy_undrew hgA | exact hgA | fail))
      | (go_at_call 36; refine (HRM.out _).mono ?_; rintro e wA ⟨rn, rs, rfl, hMi, hgA⟩; have GA : w6.grownBy wA none := (by first | exact grownBy_trans (by assumption) hgA | exact grownBy_undrew hgA | exact hgA | fail))
      | (go_at_call 37; refine (HRT.out _).mono ?_; rintro e wA ⟨rn, rs, rfl, hTi, hgA⟩; have GA : w6.grownBy wA none := (by first | exact grownBy_trans (by assumption) hgA | exact grownBy_undrew hgA | exact hgA | fail))
      | (go_at_call 34; (first | (have hQ := hTi; refine (HI.out zp _ _ _ _ _ _ (.inr (.inr rfl)) HPZ.out hQ).mono ?_) | (have hQ := hMi; refine (HI.out zd _ _ _ _ _ _ (.inr (.inl rfl)) HDZ.out hQ).mono ?_) | (have hQ := hPl; refine (HI.out zs _ _ _ _ _ _ (.inl rfl) HSZ.out hQ).mono ?_) | fail); rintro e wA ⟨rfl, hgA⟩; have GA : w6.grownBy wA none := (by first | exact grownBy_trans (by assumption) hgA | exact grownBy_undrew hgA | exact hgA | fail))
      | (go_at_call 21; refine (works_any _ (HT.out _ (grownBy_trans HG6.out (by assumption)))).mono ?_; rintro e wW ⟨rfl, gW⟩; have GW : w6.grownBy wW none := grownBy_trans (by assumption) gW)
      | fail)
  go_wp2_with fail
  go_ret
  exact ⟨rfl, grownBy_trans HG6.out GW⟩

theorem sums_any (n1 n2 : Bool) (m1 m2 : ByteArray) (z1 : m1.size ≤ maxLen) (z2 : m2.size ≤ maxLen) (w : World) (htab : Lib.TabIs Tryz.prog w "internal/strconv.uint64pow10" .u64 Lib.pow10Tab) :
    Calls Tryz.prog 4 #[whole n1 m1, whole n2 m2] w fun e w' => e = .returned (.bool true) ∧ w.grownBy w' none := by
  cases hl : anyLong [(n1, m1), (n2, m2)]
  · by_cases hb : may n1 m1 = true ∧ may n2 m2 = true
    · exact sums_yes n1 n2 m1 m2 hb.1 hb.2 hl w htab
    · exact sums_bad n1 n2 m1 m2 z1 z2 hl hb w htab
  · exact sums_long n1 n2 m1 m2 z1 z2 hl w htab
end Go.Proofs.YthchagmflceaeaaGreatDoor
