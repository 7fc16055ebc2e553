/-
  The program's divShort, and Div of short numbers.
  The program's Div.
-/
import Derived.Test.YtgemkfiippooeaaGreatDoorBunPrg
import Derived.Test.YtgemkfiippooeaaGreatDoorBunRdn
import Derived.Test.YtgemkfiippooeaaGreatDoorBunTtm
namespace Go.Proofs.YtgemkfiippooeaaGreatDoor
open Go.RowKit Go.Lib Go.Sort

/-- Go's quotient and rest, and those whose rest is not below 0. -/
theorem ds_eq {x y q r : Int} (hy : y ≠ 0) (hq : x.tdiv y = q) (hr : x.tmod y = r) :
    (0 ≤ r → x / y = q ∧ x % y = r) ∧ (r < 0 → y < 0 → x / y = q + 1 ∧ x % y = r - y) ∧ (r < 0 → 0 < y → x / y = q - 1 ∧ x % y = r + y) ∧ q.natAbs ≤ x.natAbs ∧ r.natAbs < y.natAbs := by
  have h1 := Int.tmod_add_mul_tdiv x y
  rw [hq, hr] at h1
  have hlt : r.natAbs < y.natAbs := by
    rcases Int.lt_or_lt_of_ne hy with h | h
    · have a := Int.tmod_lt_of_pos x (show 0 < -y by omega)
      have b := Int.lt_tmod_of_pos x (show 0 < -y by omega)
      rw [Int.tmod_neg, hr] at a b
      omega
    · have a := Int.tmod_lt_of_pos x h
      have b := Int.lt_tmod_of_pos x h
      rw [hr] at a b
      omega
  refine ⟨fun h0 => ?_, fun h0 hy' => ?_, fun h0 hy' => ?_, ?_, hlt⟩
  · rcases Int.lt_or_lt_of_ne hy with h | h
    · exact (Int.ediv_emod_unique' h).2 ⟨h1, h0, by omega⟩
    · exact (Int.ediv_emod_unique h).2 ⟨h1, h0, by omega⟩
  · refine (Int.ediv_emod_unique' hy').2 ⟨?_, by omega, by omega⟩
    rw [Int.mul_add, Int.mul_one]; omega
  · refine (Int.ediv_emod_unique hy').2 ⟨?_, by omega, by omega⟩
    rw [Int.mul_sub, Int.mul_one]; omega
  · rw [← hq, Int.natAbs_tdiv]
    exact Nat.div_le_self _ _

/-- What divShort answers. -/
def DsQ (x y : Int) (e : Ending) : Prop := ∃ n s n' s', e = .returned (.tuple #[whole n s, whole n' s']) ∧ IsZ (x / y) n s ∧ IsZ (x % y) n' s'
set_option maxHeartbeats 1600000 in
set_option maxRecDepth 1000000 in
theorem divShort_any (x y : Int) (hx0 : -72057594037927936 < x) (hx1 : x < 72057594037927936) (hy0 : -72057594037927936 < y) (hy1 : y < 72057594037927936) (hy : y ≠ 0) (w : World) :
    Calls Tryz.prog 103 #[.int .i64 x, .int .i64 y] w fun e w' => DsQ x y e ∧ w.grownBy w' none := by
  have hyz : (y == 0) = false := by rw [beq_eq_false_iff_ne]; exact hy
  obtain ⟨q, hq⟩ : ∃ q, x.tdiv y = q := ⟨_, rfl⟩
  obtain ⟨r, hr⟩ : ∃ r, x.tmod y = r := ⟨_, rfl⟩
  obtain ⟨k1, k2, k3, k4, k5⟩ := ds_eq hy hq hr
  have hw1 : wrap64 q = q := by unfold wrap64; omega
  have key : ∀ (a b : Int), x / y = a → x % y = b → -9223372036854775808 ≤ a → a ≤ 9223372036854775807 → -9223372036854775808 ≤ b → b ≤ 9223372036854775807 → (∀ W, Calls Tryz.prog 68 #[.int .i64 a] W fun e w' => ∃ n s, e = .returned (whole n s) ∧ IsZ (x / y) n s ∧ W.grownBy w' none) ∧ (∀ W, Calls Tryz.prog 68 #[.int .i64 b] W fun e w' => ∃ n s, e = .returned (whole n s) ∧ IsZ (x % y) n s ∧ W.grownBy w' none) := by
    intro a b ha hb h1 h2 h3 h4
    rw [ha, hb]
    refine ⟨fun W => ?_, fun W => ?_⟩
    · refine (of_any a h1 h2 W).mono ?_
      rintro e w' ⟨s, rfl, hs, hg⟩
      exact ⟨_, s, rfl, ⟨rfl, hs⟩, hg⟩
    · refine (of_any b h3 h4 W).mono ?_
      rintro e w' ⟨s, rfl, hs, hg⟩
      exact ⟨_, s, rfl, ⟨rfl, hs⟩, hg⟩
  have HFIN : Hid (∀ (w1 w2 : World) (n n' : Bool) (s s' : ByteArray), (((w.alloc (wObj false eS)).alloc (wObj false eS)).drew).grownBy w1 none → w1.grownBy w2 none → WBlk w2 w.heap.size (.bool false) (.string eS) ∧ WBlk w2 (w.heap.size + 1) (.bool false) (.string eS) ∧ w.grownBy w2 none) := fun w1 w2 n n' s s' h1 h2 => by
    have hg := grownBy_undrew (grownBy_trans h1 h2)
    exact ⟨WBlk.kept (w := (w.alloc (wObj false eS)).alloc (wObj false eS)) (old_alloc _ _ (heap_alloc_new _ _)) hg (by simp), WBlk.kept (w := (w.alloc (wObj false eS)).alloc (wObj false eS)) (heap_alloc2_new _ _ _) hg (by simp), grownBy_trans (grow2 _ _ _) hg⟩
  by_cases hr0 : 0 ≤ r
  · have hrn : ¬ r < 0 := by omega
    have HO : Hid ((∀ W, Calls Tryz.prog 68 #[.int .i64 (q)] W fun e w' => ∃ n s, e = .returned (whole n s) ∧ IsZ (x / y) n s ∧ W.grownBy w' none) ∧ (∀ W, Calls Tryz.prog 68 #[.int .i64 (r)] W fun e w' => ∃ n s, e = .returned (whole n s) ∧ IsZ (x % y) n s ∧ W.grownBy w' none)) := key _ _ (k1 hr0).1 (k1 hr0).2 (by omega) (by omega) (by omega) (by omega)
    clear key k1 k2 k3 k4 k5
    go_enter Tryz.func103, Tryz.ntmps103
    go_wp2_with fail
    go_region
    go_wp2_with fail
    refine (HO.out.1 _).mono ?_
    rintro e w1 ⟨n, s, rfl, z1, g1⟩
    go_wp2_with fail
    refine (HO.out.2 _).mono ?_
    rintro e w2 ⟨n', s', rfl, z2, g2⟩
    obtain ⟨hA, hB, hG⟩ := HFIN.out w1 w2 n n' s s' g1 g2
    have HZ : Hid (IsZ (x / y) n s ∧ IsZ (x % y) n' s') := ⟨z1, z2⟩
    have HG : Hid (w.grownBy w2 none) := hG
    have a0 := hA.c0
    have a1 := hA.c1
    have a2 := hA.fr 0
    have a3 := hA.fr 1
    have b0 := hB.c0
    have b1 := hB.c1
    have b2 := hB.fr 0
    have b3 := hB.fr 1
    clear hG g1 g2 z1 z2 HO HFIN
    go_wp2_with fail
    refine bodyPost_ret (res2_cell rfl _ _ w.heap.size (w.heap.size + 1) _ _ _ _ _ _ _ _ rfl (((hA.put _ _).other (by omega)).other (by omega)) rfl (((hB.other (by omega)).other (by omega)).put _ _)) rfl ?_
    exact ⟨⟨n, s, n', s', rfl, HZ.out.1, HZ.out.2⟩, grown_set (grown_set (grown_set (grown_set HG.out (Nat.le_refl _)) (Nat.le_refl _)) (by omega)) (by omega)⟩
  · have hrn : r < 0 := by omega
    by_cases hyn : y < 0
    · have HO : Hid ((∀ W, Calls Tryz.prog 68 #[.int .i64 (q + 1)] W fun e w' => ∃ n s, e = .returned (whole n s) ∧ IsZ (x / y) n s ∧ W.grownBy w' none) ∧ (∀ W, Calls Tryz.prog 68 #[.int .i64 (r - y)] W fun e w' => ∃ n s, e = .returned (whole n s) ∧ IsZ (x % y) n s ∧ W.grownBy w' none)) := key _ _ (k2 hrn hyn).1 (k2 hrn hyn).2 (by omega) (by omega) (by omega) (by omega)
      have hw2 : wrap64 (q + 1) = q + 1 := by unfold wrap64; omega
      have hw3 : wrap64 (r - y) = r - y := by unfold wrap64; omega
      clear key k1 k2 k3 k4 k5
      go_enter Tryz.func103, Tryz.ntmps103
      go_wp2_with fail
      go_region
      go_wp2_with fail
      refine (HO.out.1 _).mono ?_
      rintro e w1 ⟨n, s, rfl, z1, g1⟩
      go_wp2_with fail
      refine (HO.out.2 _).mono ?_
      rintro e w2 ⟨n', s', rfl, z2, g2⟩
      obtain ⟨hA, hB, hG⟩ := HFIN.out w1 w2 n n' s s' g1 g2
      have HZ : Hid (IsZ (x / y) n s ∧ IsZ (x % y) n' s') := ⟨z1, z2⟩
      have HG : Hid (w.grownBy w2 none) := hG
      have a0 := hA.c0
      have a1 := hA.c1
      have a2 := hA.fr 0
      have a3 := hA.fr 1
      have b0 := hB.c0
      have b1 := hB.c1
      have b2 := hB.fr 0
      have b3 := hB.fr 1
      clear hG g1 g2 z1 z2 HO HFIN
      go_wp2_with fail
      refine bodyPost_ret (res2_cell rfl _ _ w.heap.size (w.heap.size + 1) _ _ _ _ _ _ _ _ rfl (((hA.put _ _).other (by omega)).other (by omega)) rfl (((hB.other (by omega)).other (by omega)).put _ _)) rfl ?_
      exact ⟨⟨n, s, n', s', rfl, HZ.out.1, HZ.out.2⟩, grown_set (grown_set (grown_set (grown_set HG.out (Nat.le_refl _)) (Nat.le_refl _)) (by omega)) (by omega)⟩
    · have hyp : 0 < y := by omega
      have HO : Hid ((∀ W, Calls Tryz.prog 68 #[.int .i64 (q - 1)] W fun e w' => ∃ n s, e = .returned (whole n s) ∧ IsZ (x / y) n s ∧ W.grownBy w' none) ∧ (∀ W, Calls Tryz.prog 68 #[.int .i64 (r + y)] W fun e w' => ∃ n s, e = .returned (whole n s) ∧ IsZ (x % y) n s ∧ W.grownBy w' none)) := key _ _ (k3 hrn hyp).1 (k3 hrn hyp).2 (by omega) (by omega) (by omega) (by omega)
      have hw2 : wrap64 (q - 1) = q - 1 := by unfold wrap64; omega
      have hw3 : wrap64 (r + y) = r + y := by unfold wrap64; omega
      clear key k1 k2 k3 k4 k5
      go_enter Tryz.func103, Tryz.ntmps103
      go_wp2_with fail
      go_region
      go_wp2_with fail
      refine (HO.out.1 _).mono ?_
      rintro e w1 ⟨n, s, rfl, z1, g1⟩
      go_wp2_with fail
      refine (HO.out.2 _).mono ?_
      rintro e w2 ⟨n', s', rfl, z2, g2⟩
      obtain ⟨hA, hB, hG⟩ := HFIN.out w1 w2 n n' s s' g1 g2
      have HZ : Hid (IsZ (x / y) n s ∧ IsZ (x % y) n' s') := ⟨z1, z2⟩
      have HG : Hid (w.grownBy w2 none) := hG
      have a0 := hA.c0
      have a1 := hA.c1
      have a2 := hA.fr 0
      have a3 := hA.fr 1
      have b0 := hB.c0
      have b1 := hB.c1
      have b2 := hB.fr 0
      have b3 := hB.fr 1
      clear hG g1 g2 z1 z2 HO HFIN
      go_wp2_with fail
      refine bodyPost_ret (res2_cell rfl _ _ w.heap.size (w.heap.size + 1) _ _ _ _ _ _ _ _ rfl (((hA.put _ _).other (by omega)).other (by omega)) rfl (((hB.other (by omega)).other (by omega)).put _ _)) rfl ?_
      exact ⟨⟨n, s, n', s', rfl, HZ.out.1, HZ.out.2⟩, grown_set (grown_set (grown_set (grown_set HG.out (Nat.le_refl _)) (Nat.le_refl _)) (by omega)) (by omega)⟩
end Go.Proofs.YtgemkfiippooeaaGreatDoor

namespace Go.Proofs.YtgemkfiippooeaaGreatDoor
open Go.RowKit Go.Lib Go.Sort

/-- A number divided by one that is not 0: by their magnitudes. -/
theorem div_num {n1 n2 : Bool} {m1 m2 : ByteArray} (hD : 0 < val (bN m2)) :
    ((n1 = false ∨ val (bN m1) % val (bN m2) = 0) → num n1 m1 / num n2 m2 = (if (n1 != n2) then -((val (bN m1) / val (bN m2) : Nat) : Int) else ((val (bN m1) / val (bN m2) : Nat) : Int)) ∧ num n1 m1 % num n2 m2 = ((val (bN m1) % val (bN m2) : Nat) : Int)) ∧
    ((n1 = true ∧ val (bN m1) % val (bN m2) ≠ 0) → num n1 m1 / num n2 m2 = (if (n1 != n2) then -((val (bN m1) / val (bN m2) + 1 : Nat) : Int) else ((val (bN m1) / val (bN m2) + 1 : Nat) : Int)) ∧ num n1 m1 % num n2 m2 = ((val (bN m2) - val (bN m1) % val (bN m2) : Nat) : Int)) := by
  have h1 := Nat.div_add_mod (val (bN m1)) (val (bN m2))
  have h2 := Nat.mod_lt (val (bN m1)) hD
  generalize val (bN m1) / val (bN m2) = q at *
  generalize hr : val (bN m1) % val (bN m2) = r at *
  have e1 : ((val (bN m2) * q : Nat) : Int) = (val (bN m2) : Int) * (q : Int) := by simp
  generalize hA : val (bN m1) = A at *
  generalize hB : val (bN m2) = D at *
  have f1 : num false m1 = (A : Int) := by rw [num_f, hA]
  have f2 : num true m1 = -(A : Int) := by rw [num_t, hA]
  have f3 : num false m2 = (D : Int) := by rw [num_f, hB]
  have f4 : num true m2 = -(D : Int) := by rw [num_t, hB]
  constructor
  · rintro (rfl | h0)
    · cases n2
      · rw [f1, f3]
        exact (Int.ediv_emod_unique (by omega)).2 ⟨by simp; omega, by omega, by omega⟩
      · rw [f1, f4]
        exact (Int.ediv_emod_unique' (by omega)).2 ⟨by simp [Int.neg_mul_neg]; omega, by omega, by omega⟩
    · subst h0
      cases n1 <;> cases n2
      · rw [f1, f3]
        exact (Int.ediv_emod_unique (by omega)).2 ⟨by simp; omega, by omega, by omega⟩
      · rw [f1, f4]
        exact (Int.ediv_emod_unique' (by omega)).2 ⟨by simp [Int.neg_mul_neg]; omega, by omega, by omega⟩
      · rw [f2, f3]
        exact (Int.ediv_emod_unique (by omega)).2 ⟨by simp [Int.mul_neg]; omega, by omega, by omega⟩
      · rw [f2, f4]
        exact (Int.ediv_emod_unique' (by omega)).2 ⟨by simp [Int.neg_mul]; omega, by omega, by omega⟩
  · rintro ⟨rfl, h0⟩
    have e2 : (D : Int) * ((q + 1 : Nat) : Int) = (D : Int) * q + D := by rw [Int.natCast_add, Int.mul_add]; simp
    cases n2
    · rw [f2, f3]
      refine (Int.ediv_emod_unique (by omega)).2 ⟨?_, by omega, by omega⟩
      rw [if_pos (by decide), Int.mul_neg, e2]
      omega
    · rw [f2, f4]
      refine (Int.ediv_emod_unique' (by omega)).2 ⟨?_, by omega, by omega⟩
      rw [if_neg (by decide), Int.neg_mul, e2]
      omega
theorem made_fits {neg : Bool} {n : Nat} {e : Ending} {z : Int} (h : Made neg n e) (hb : bl n ≤ 131072) (hz : z = if neg then -(n : Int) else n) : ∃ b s, e = .returned (.tuple #[whole b s, .int .i64 0]) ∧ IsZ z b s := by
  have hZ := made_z h hz
  have ha : z.natAbs = n := by rw [hz]; cases neg <;> simp
  rcases hZ with ⟨_, b, s, rfl, hs⟩ | ⟨h9, _⟩
  · exact ⟨b, s, rfl, hs⟩
  · rw [ha] at h9; omega
/-- The five blocks that Div lays: its arguments, its results. -/
theorem blks4 {n1 n2 : Bool} {m1 m2 : ByteArray} {w w1 : World} (g : ((((w.alloc (wObj n1 m1)).alloc (wObj n2 m2)).alloc (wObj false eS)).alloc (wObj false eS)).grownBy w1 none) :
    WBlk w1 w.heap.size (.bool n1) (.string m1) ∧ WBlk w1 (w.heap.size + 1) (.bool n2) (.string m2) ∧ WBlk w1 (w.heap.size + 1 + 1) (.bool false) (.string eS) ∧ WBlk w1 (w.heap.size + 1 + 1 + 1) (.bool false) (.string eS) := by
  refine ⟨WBlk.kept (old_alloc _ _ (old_alloc _ _ (old_alloc _ _ (heap_alloc_new _ _)))) g (by simp), WBlk.kept (old_alloc _ _ (old_alloc _ _ (heap_alloc2_new _ _ _))) g (by simp), WBlk.kept (old_alloc _ _ (at_alloc3 _ _ _ _)) g (by simp), WBlk.kept ?_ g (by simp)⟩
  have := heap_alloc_new (((w.alloc (wObj n1 m1)).alloc (wObj n2 m2)).alloc (wObj false eS)) (wObj false eS)
  simp only [World.size_alloc] at this
  exact this
theorem checkTwo4 (n1 n2 : Bool) (m1 m2 : ByteArray) (z1 : m1.size ≤ maxLen) (z2 : m2.size ≤ maxLen) (w : World) :
    Hid (Calls Tryz.prog 90 #[.slice (some ⟨w.heap.size + 1 + 1 + 1 + 1, 0, none⟩) 2 2] (((((w.alloc (wObj n1 m1)).alloc (wObj n2 m2)).alloc (wObj false eS)).alloc (wObj false eS)).alloc (.cells #[.bool n1, .string m1, .bool n2, .string m2] 23)) fun e w' => e = .returned (.int .i64 (if may n1 m1 = true ∧ may n2 m2 = true then 0 else 2)) ∧ ((((w.alloc (wObj n1 m1)).alloc (wObj n2 m2)).alloc (wObj false eS)).alloc (wObj false eS)).grownBy w' none) := by
  have h := (checkTwo n1 n2 m1 m2 z1 z2)
  have e : ((((w.alloc (wObj n1 m1)).alloc (wObj n2 m2)).alloc (wObj false eS)).alloc (wObj false eS)).heap.size = w.heap.size + 1 + 1 + 1 + 1 := by simp
  rw [← e]
  refine (h.out _).mono ?_
  rintro e w' ⟨rfl, hg⟩
  exact ⟨rfl, grownBy_trans (grow1 _ _) hg⟩

set_option maxHeartbeats 1600000 in
set_option maxRecDepth 1000000 in
theorem div_no (n1 n2 : Bool) (m1 m2 : ByteArray) (z1 : m1.size ≤ maxLen) (z2 : m2.size ≤ maxLen) (h : ¬ (may n1 m1 = true ∧ may n2 m2 = true)) (w : World) :
    Calls Tryz.prog 69 #[whole n1 m1, whole n2 m2] w fun e w' => e = .returned (.tuple #[whole false eS, whole false eS, .int .i64 2]) ∧ w.grownBy w' none := by
  have HC := checkTwo4 n1 n2 m1 m2 z1 z2 w
  rw [if_neg h] at HC
  clear h
  go_enter Tryz.func69, Tryz.ntmps69
  go_wp2_with fail
  refine HC.out.mono ?_
  rintro e w1 ⟨rfl, g1⟩
  have HG1 : Hid (((((w.alloc (wObj n1 m1)).alloc (wObj n2 m2)).alloc (wObj false eS)).alloc (wObj false eS)).grownBy w1 none) := g1
  clear g1 HC
  go_wp2_with fail
  refine (zero_any _).mono ?_
  rintro e w2 ⟨rfl, rfl⟩
  go_wp2_with fail
  refine (zero_any _).mono ?_
  rintro e w2 ⟨rfl, rfl⟩
  have HG2 : Hid (((((w.alloc (wObj n1 m1)).alloc (wObj n2 m2)).alloc (wObj false eS)).alloc (wObj false eS)).grownBy ((w1.alloc (wObj false eS)).alloc (wObj false eS)) none) := grownBy_trans HG1.out (grow2 _ _ _)
  obtain ⟨_, _, hC, hD⟩ := blks4 HG2.out
  have c0 := hC.c0
  have c1 := hC.c1
  have c2 := hC.fr 0
  have c3 := hC.fr 1
  have d0 := hD.c0
  have d1 := hD.c1
  have d2 := hD.fr 0
  have d3 := hD.fr 1
  go_wp2_with fail
  refine bodyPost_ret (res_cell2_tmp rfl _ _ (w.heap.size + 1 + 1) (w.heap.size + 1 + 1 + 1) _ _ _ _ _ _ _ _ rfl (((hC.put _ _).other (by omega)).other (by omega)) rfl (((hD.other (by omega)).other (by omega)).put _ _)) rfl ?_
  exact ⟨rfl, grown_set (grown_set (grown_set (grown_set (grownBy_trans (grow4 _ _ _ _ _) HG2.out) (by omega)) (by omega)) (by omega)) (by omega)⟩

set_option maxHeartbeats 1600000 in
set_option maxRecDepth 1000000 in
theorem div_zero (n1 n2 : Bool) (m1 m2 : ByteArray) (h1 : may n1 m1 = true) (h2 : may n2 m2 = true) (h0 : m2.size = 0) (w : World) :
    Calls Tryz.prog 69 #[whole n1 m1, whole n2 m2] w fun e w' => e = .returned (.tuple #[whole false eS, whole false eS, .int .i64 5]) ∧ w.grownBy w' none := by
  have l1 := may_size h1
  have l2 := may_size h2
  have HC := checkTwo4 n1 n2 m1 m2 (by unfold maxLen; omega) (by unfold maxLen; omega) w
  rw [if_pos ⟨h1, h2⟩] at HC
  obtain rfl := empty_of_size h0
  obtain rfl := may_empty h2
  clear h1 h2 h0 l1 l2
  go_enter Tryz.func69, Tryz.ntmps69
  go_wp2_with fail
  refine HC.out.mono ?_
  rintro e w1 ⟨rfl, g1⟩
  have HG1 : Hid (((((w.alloc (wObj n1 m1)).alloc (wObj false ByteArray.empty)).alloc (wObj false eS)).alloc (wObj false eS)).grownBy w1 none) := g1
  obtain ⟨_, hB, _, _⟩ := blks4 g1
  have b0 := hB.c0
  have b1 := hB.c1
  clear g1 HC
  go_wp2_with fail
  go_region_held3 (fun w' => w'.cell? ⟨w.heap.size + 1, 0, none⟩ = some (Value.bool false) ∧ w'.cell? ⟨w.heap.size + 1, 1, none⟩ = some (Value.string ByteArray.empty)) (first | (go_keep; done) | exact ⟨(hB.kept (grow1 _ (wObj false eS)) (by simp)).c0, (hB.kept (grow1 _ (wObj false eS)) (by simp)).c1⟩ | fail) (first | (go_at_call 88; refine (zero_any _).mono ?_; rintro e w' ⟨rfl, rfl⟩) | fail)
  go_wp2_with fail
  refine (zero_any _).mono ?_
  rintro e w2 ⟨rfl, rfl⟩
  go_wp2_with fail
  refine (zero_any _).mono ?_
  rintro e w2 ⟨rfl, rfl⟩
  have HG2 : Hid (((((w.alloc (wObj n1 m1)).alloc (wObj false ByteArray.empty)).alloc (wObj false eS)).alloc (wObj false eS)).grownBy (((w1.alloc (wObj false eS)).alloc (wObj false eS)).alloc (wObj false eS)) none) := grownBy_trans HG1.out (grow3 _ _ _ _)
  clear b0 b1 hB
  obtain ⟨_, _, hC, hD⟩ := blks4 HG2.out
  have c0 := hC.c0
  have c1 := hC.c1
  have c2 := hC.fr 0
  have c3 := hC.fr 1
  have d0 := hD.c0
  have d1 := hD.c1
  have d2 := hD.fr 0
  have d3 := hD.fr 1
  go_wp2_with fail
  refine bodyPost_ret (res_cell2_tmp rfl _ _ (w.heap.size + 1 + 1) (w.heap.size + 1 + 1 + 1) _ _ _ _ _ _ _ _ rfl (((hC.put _ _).other (by omega)).other (by omega)) rfl (((hD.other (by omega)).other (by omega)).put _ _)) rfl ?_
  exact ⟨rfl, grow_drew (grown_set (grown_set (grown_set (grown_set (grownBy_trans (grow4 _ _ _ _ _) HG2.out) (by omega)) (by omega)) (by omega)) (by omega))⟩

/-- What Div answers of numbers that may be. -/
def DivR (x y : Int) (e : Ending) : Prop := ∃ n s n' s', e = .returned (.tuple #[whole n s, whole n' s', .int .i64 0]) ∧ IsZ (x / y) n s ∧ IsZ (x % y) n' s'

set_option maxHeartbeats 1600000 in
set_option maxRecDepth 1000000 in
theorem div_short (n1 n2 : Bool) (m1 m2 : ByteArray) (h1 : may n1 m1 = true) (h2 : may n2 m2 = true) (h0 : m2.size ≠ 0) (h7 : m1.size + m2.size ≤ 7) (w : World) :
    Calls Tryz.prog 69 #[whole n1 m1, whole n2 m2] w fun e w' => DivR (num n1 m1) (num n2 m2) e ∧ w.grownBy w' none := by
  have HC := checkTwo4 n1 n2 m1 m2 (by unfold maxLen; omega) (by unfold maxLen; omega) w
  rw [if_pos ⟨h1, h2⟩] at HC
  have he := isEmpty_of h0
  have HS : Hid (∀ w, Calls Tryz.prog 85 #[whole n1 m1, whole n2 m2] w fun e w' => e = .returned (.tuple #[.int .i64 (num n1 m1), .int .i64 (num n2 m2), .bool true]) ∧ w.grownBy w' none) := fun w => short_yes n1 n2 m1 m2 h1 h2 h7 w
  have a1 := num_seven (n := n1) (show m1.size ≤ 7 by omega)
  have a2 := num_seven (n := n2) (show m2.size ≤ 7 by omega)
  have hv := val_pos h2 h0
  have hy : num n2 m2 ≠ 0 := by cases n2 <;> simp [num_f, num_t] <;> omega
  have HDS : Hid (∀ w, Calls Tryz.prog 103 #[.int .i64 (num n1 m1), .int .i64 (num n2 m2)] w fun e w' => DsQ (num n1 m1) (num n2 m2) e ∧ w.grownBy w' none) := fun w => divShort_any _ _ (by omega) (by omega) (by omega) (by omega) hy w
  clear h1 h2 h7 a1 a2 hv hy
  generalize num n1 m1 = x at *
  generalize num n2 m2 = y at *
  go_enter Tryz.func69, Tryz.ntmps69
  go_wp2_with fail
  refine HC.out.mono ?_
  rintro e w1 ⟨rfl, g1⟩
  have HG1 : Hid (((((w.alloc (wObj n1 m1)).alloc (wObj n2 m2)).alloc (wObj false eS)).alloc (wObj false eS)).grownBy w1 none) := g1
  obtain ⟨_, hB, _, _⟩ := blks4 g1
  have b0 := hB.c0
  have b1 := hB.c1
  clear g1 HC
  go_wp2_with fail
  go_region_held3 (fun w' => w'.cell? ⟨w.heap.size + 1, 0, none⟩ = some (Value.bool n2) ∧ w'.cell? ⟨w.heap.size + 1, 1, none⟩ = some (Value.string m2)) (first | (go_keep; done) | exact ⟨(hB.kept (grow1 _ (wObj false eS)) (by simp)).c0, (hB.kept (grow1 _ (wObj false eS)) (by simp)).c1⟩ | fail) (first | (go_at_call 88; refine (zero_any _).mono ?_; rintro e w' ⟨rfl, rfl⟩) | fail)
  have HG1b : Hid (((((w.alloc (wObj n1 m1)).alloc (wObj n2 m2)).alloc (wObj false eS)).alloc (wObj false eS)).grownBy (w1.alloc (wObj false eS)) none) := grownBy_trans HG1.out (grow1 _ _)
  clear b0 b1 hB
  obtain ⟨hA2, hB2, _, _⟩ := blks4 HG1b.out
  have x0 := hA2.c0
  have x1 := hA2.c1
  have y0 := hB2.c0
  have y1 := hB2.c1
  go_wp2_with fail
  refine (HS.out _).mono ?_
  rintro e w2 ⟨rfl, g2⟩
  have HG2 : Hid (((((w.alloc (wObj n1 m1)).alloc (wObj n2 m2)).alloc (wObj false eS)).alloc (wObj false eS)).grownBy w2 none) := grownBy_trans HG1b.out (grownBy_undrew g2)
  clear x0 x1 y0 y1 hA2 hB2 g2 HS
  go_wp2_with fail
  refine (HDS.out _).mono ?_
  rintro e w3 ⟨⟨n, s, n', s', rfl, z1, z2⟩, g3⟩
  have HZ : Hid (IsZ (x / y) n s ∧ IsZ (x % y) n' s') := ⟨z1, z2⟩
  have hG3 := grownBy_trans HG2.out g3
  obtain ⟨_, _, hC3, hD3⟩ := blks4 hG3
  have HG3 : Hid (w.grownBy w3 none) := grownBy_trans (grow4 _ _ _ _ _) hG3
  clear hG3 g3 z1 z2 HDS HG1 HG1b HG2
  have c0 := hC3.c0
  have c1 := hC3.c1
  have c2 := hC3.fr 0
  have c3 := hC3.fr 1
  have d0 := hD3.c0
  have d1 := hD3.c1
  have d2 := hD3.fr 0
  have d3 := hD3.fr 1
  go_wp2_with fail
  have hC4 := ((hC3.put (.bool n) (.string s)).other (B' := w.heap.size + 1 + 1 + 1) (i := 0) (v := .bool n') (by omega)).other (B' := w.heap.size + 1 + 1 + 1) (i := 1) (v := .string s') (by omega)
  have hD4 := ((hD3.other (B' := w.heap.size + 1 + 1) (i := 0) (v := .bool n) (by omega)).other (B' := w.heap.size + 1 + 1) (i := 1) (v := .string s) (by omega)).put (.bool n') (.string s')
  have HG4 : Hid (w.grownBy ((((w3.setCell ⟨w.heap.size + 1 + 1, 0, none⟩ (.bool n)).setCell ⟨w.heap.size + 1 + 1, 1, none⟩ (.string s)).setCell ⟨w.heap.size + 1 + 1 + 1, 0, none⟩ (.bool n')).setCell ⟨w.heap.size + 1 + 1 + 1, 1, none⟩ (.string s')) none) :=
    grown_set (grown_set (grown_set (grown_set HG3.out (by omega)) (by omega)) (by omega)) (by omega)
  clear hC3 hD3 c0 c1 c2 c3 d0 d1 d2 d3 HG3
  generalize ((((w3.setCell ⟨w.heap.size + 1 + 1, 0, none⟩ (.bool n)).setCell ⟨w.heap.size + 1 + 1, 1, none⟩ (.string s)).setCell ⟨w.heap.size + 1 + 1 + 1, 0, none⟩ (.bool n')).setCell ⟨w.heap.size + 1 + 1 + 1, 1, none⟩ (.string s')) = w4 at *
  have c0 := hC4.c0
  have c1 := hC4.c1
  have c2 := hC4.fr 0
  have c3 := hC4.fr 1
  have d0 := hD4.c0
  have d1 := hD4.c1
  have d2 := hD4.fr 0
  have d3 := hD4.fr 1
  go_region
  all_goals go_wp2_with fail
  all_goals refine bodyPost_ret (res_cell2_tmp rfl _ _ (w.heap.size + 1 + 1) (w.heap.size + 1 + 1 + 1) _ _ _ _ _ _ _ _ rfl (((hC4.put _ _).other (by omega)).other (by omega)) rfl (((hD4.other (by omega)).other (by omega)).put _ _)) rfl ?_
  all_goals exact ⟨⟨n, s, n', s', rfl, HZ.out.1, HZ.out.2⟩, grow_drew (grown_set (grown_set (grown_set (grown_set HG4.out (by omega)) (by omega)) (by omega)) (by omega))⟩
end Go.Proofs.YtgemkfiippooeaaGreatDoor
