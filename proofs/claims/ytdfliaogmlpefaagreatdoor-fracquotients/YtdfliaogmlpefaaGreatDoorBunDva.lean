/-
  The program's divShort, and Div of short numbers.
  The program's Div.
  The program's Div of numbers that are not short.
-/
import Derived.Test.YtdfliaogmlpefaaGreatDoorBunPrg
import Derived.Test.YtdfliaogmlpefaaGreatDoorBunRdn
import Derived.Test.YtdfliaogmlpefaaGreatDoorBunTtm
namespace Go.Proofs.YtdfliaogmlpefaaGreatDoor
open Go.RowKit Go.Lib Go.Sort
set_option maxHeartbeats 12800000
set_option maxRecDepth 1000000
theorem ds_eq {x y q r : Int} (hy : y ≠ 0) (hq : x.tdiv y = q) (hr : x.tmod y = r) :
    (0 ≤ r → x / y = q ∧ x % y = r) ∧ (r < 0 → y < 0 → x / y = q + 1 ∧ x % y = r - y) ∧ (r < 0 → 0 < y → x / y = q - 1 ∧ x % y = r + y) ∧ q.natAbs ≤ x.natAbs ∧ r.natAbs < y.natAbs := by
  have h1 := Int.tmod_add_mul_tdiv x y
  rw [hq, hr] at h1
  have hlt : r.natAbs < y.natAbs := by
    rcases Int.lt_or_lt_of_ne hy with h | h
    · have a := Int.tmod_lt_of_pos x (show 0 < -y by omega)
      have b := Int.lt_tmod_of_pos x (show 0 < -y by omega)
      rw [Int.tmod_neg, hr] at a b
      omega
    · have a := Int.tmod_lt_of_pos x h
      have b := Int.lt_tmod_of_pos x h
      rw [hr] at a b
      omega
  refine ⟨fun h0 => ?_, fun h0 hy' => ?_, fun h0 hy' => ?_, ?_, hlt⟩
  · rcases Int.lt_or_lt_of_ne hy with h | h
    · exact (Int.ediv_emod_unique' h).2 ⟨h1, h0, by omega⟩
    · exact (Int.ediv_emod_unique h).2 ⟨h1, h0, by omega⟩
  · refine (Int.ediv_emod_unique' hy').2 ⟨?_, by omega, by omega⟩
    rw [Int.mul_add, Int.mul_one]; omega
  · refine (Int.ediv_emod_unique hy').2 ⟨?_, by omega, by omega⟩
    rw [Int.mul_sub, Int.mul_one]; omega
  · rw [← hq, Int.natAbs_tdiv]
    exact Nat.div_le_self _ _
def DsQ (x y : Int) (e : Ending) : Prop := ∃ n s n' s', e = .returned (.tuple #[whole n s, whole n' s']) ∧ IsZ (x / y) n s ∧ IsZ (x % y) n' s'
theorem divShort_any (x y : Int) (hx0 : -72057594037927936 < x) (hx1 : x < 72057594037927936) (hy0 : -72057594037927936 < y) (hy1 : y < 72057594037927936) (hy : y ≠ 0) (w : World) :
    Calls Tryz.prog 105 #[.int .i64 x, .int .i64 y] w fun e w' => DsQ x y e ∧ w.grownBy w' none := by
  have hyz : (y == 0) = false := by rw [beq_eq_false_iff_ne]; exact hy
  obtain ⟨q, hq⟩ : ∃ q, x.tdiv y = q := ⟨_, rfl⟩
  obtain ⟨r, hr⟩ : ∃ r, x.tmod y = r := ⟨_, rfl⟩
  obtain ⟨k1, k2, k3, k4, k5⟩ := ds_eq hy hq hr
  have hw1 : wrap64 q = q := by unfold wrap64; omega
  have key : ∀ (a b : Int), x / y = a → x % y = b → -9223372036854775808 ≤ a → a ≤ 9223372036854775807 → -9223372036854775808 ≤ b → b ≤ 9223372036854775807 → (∀ W, Calls Tryz.prog 52 #[.int .i64 a] W fun e w' => ∃ n s, e = .returned (whole n s) ∧ IsZ (x / y) n s ∧ W.grownBy w' none) ∧ (∀ W, Calls Tryz.prog 52 #[.int .i64 b] W fun e w' => ∃ n s, e = .returned (whole n s) ∧ IsZ (x % y) n s ∧ W.grownBy w' none) := by
    intro a b ha hb h1 h2 h3 h4
    rw [ha, hb]
    refine ⟨fun W => ?_, fun W => ?_⟩
    · refine (of_any a h1 h2 W).mono ?_
      rintro e w' ⟨s, rfl, hs, hg⟩
      exact ⟨_, s, rfl, ⟨rfl, hs⟩, hg⟩
    · refine (of_any b h3 h4 W).mono ?_
      rintro e w' ⟨s, rfl, hs, hg⟩
      exact ⟨_, s, rfl, ⟨rfl, hs⟩, hg⟩
  have HFIN : Hid (∀ (w1 w2 : World) (n n' : Bool) (s s' : ByteArray), (((w.alloc (wObj false eS)).alloc (wObj false eS)).drew).grownBy w1 none → w1.grownBy w2 none → WBlk w2 w.heap.size (.bool false) (.string eS) ∧ WBlk w2 (w.heap.size + 1) (.bool false) (.string eS) ∧ w.grownBy w2 none) := fun w1 w2 n n' s s' h1 h2 => by
    have hg := grownBy_undrew (grownBy_trans h1 h2)
    exact ⟨WBlk.kept (w := (w.alloc (wObj false eS)).alloc (wObj false eS)) (old_alloc _ _ (heap_alloc_new _ _)) hg (by simp), WBlk.kept (w := (w.alloc (wObj false eS)).alloc (wObj false eS)) (heap_alloc2_new _ _ _) hg (by simp), grownBy_trans (grow2 _ _ _) hg⟩
  by_cases hr0 : 0 ≤ r
  · have hrn : ¬ r < 0 := by omega
    have HO : Hid ((∀ W, Calls Tryz.prog 52 #[.int .i64 (q)] W fun e w' => ∃ n s, e = .returned (whole n s) ∧ IsZ (x / y) n s ∧ W.grownBy w' none) ∧ (∀ W, Calls Tryz.prog 52 #[.int .i64 (r)] W fun e w' => ∃ n s, e = .returned (whole n s) ∧ IsZ (x % y) n s ∧ W.grownBy w' none)) := key _ _ (k1 hr0).1 (k1 hr0).2 (by omega) (by omega) (by omega) (by omega)
    clear key k1 k2 k3 k4 k5
    go_enter Tryz.func105, Tryz.ntmps105
    go_wp2_with fail
    go_region
    go_wp2_with fail
    refine (HO.out.1 _).mono ?_
    rintro e w1 ⟨n, s, rfl, z1, g1⟩
    go_wp2_with fail
    refine (HO.out.2 _).mono ?_
    rintro e w2 ⟨n', s', rfl, z2, g2⟩
    obtain ⟨hA, hB, hG⟩ := HFIN.out w1 w2 n n' s s' g1 g2
    have HZ : Hid (IsZ (x / y) n s ∧ IsZ (x % y) n' s') := ⟨z1, z2⟩
    have HG : Hid (w.grownBy w2 none) := hG
    have a0 := hA.c0
    have a1 := hA.c1
    have a2 := hA.fr 0
    have a3 := hA.fr 1
    have b0 := hB.c0
    have b1 := hB.c1
    have b2 := hB.fr 0
    have b3 := hB.fr 1
    clear hG g1 g2 z1 z2 HO HFIN
    go_wp2_with fail
    refine bodyPost_ret (res2_cell rfl _ _ w.heap.size (w.heap.size + 1) _ _ _ _ _ _ _ _ rfl (((hA.put _ _).other (by omega)).other (by omega)) rfl (((hB.other (by omega)).other (by omega)).put _ _)) rfl ?_
    exact ⟨⟨n, s, n', s', rfl, HZ.out.1, HZ.out.2⟩, grown_set (grown_set (grown_set (grown_set HG.out (Nat.le_refl _)) (Nat.le_refl _)) (by omega)) (by omega)⟩
  · have hrn : r < 0 := by omega
    by_cases hyn : y < 0
    · have HO : Hid ((∀ W, Calls Tryz.prog 52 #[.int .i64 (q + 1)] W fun e w' => ∃ n s, e = .returned (whole n s) ∧ IsZ (x / y) n s ∧ W.grownBy w' none) ∧ (∀ W, Calls Tryz.prog 52 #[.int .i64 (r - y)] W fun e w' => ∃ n s, e = .returned (whole n s) ∧ IsZ (x % y) n s ∧ W.grownBy w' none)) := key _ _ (k2 hrn hyn).1 (k2 hrn hyn).2 (by omega) (by omega) (by omega) (by omega)
      have hw2 : wrap64 (q + 1) = q + 1 := by unfold wrap64; omega
      have hw3 : wrap64 (r - y) = r - y := by unfold wrap64; omega
      clear key k1 k2 k3 k4 k5
      go_enter Tryz.func105, Tryz.ntmps105
      go_wp2_with fail
      go_region
      go_wp2_with fail
      refine (HO.out.1 _).mono ?_
      rintro e w1 ⟨n, s, rfl, z1, g1⟩
      go_wp2_with fail
      refine (HO.out.2 _).mono ?_
      rintro e w2 ⟨n', s', rfl, z2, g2⟩
      obtain ⟨hA, hB, hG⟩ := HFIN.out w1 w2 n n' s s' g1 g2
      have HZ : Hid (IsZ (x / y) n s ∧ IsZ (x % y) n' s') := ⟨z1, z2⟩
      have HG : Hid (w.grownBy w2 none) := hG
      have a0 := hA.c0
      have a1 := hA.c1
      have a2 := hA.fr 0
      have a3 := hA.fr 1
      have b0 := hB.c0
      have b1 := hB.c1
      have b2 := hB.fr 0
      have b3 := hB.fr 1
      clear hG g1 g2 z1 z2 HO HFIN
      go_wp2_with fail
      refine bodyPost_ret (res2_cell rfl _ _ w.heap.size (w.heap.size + 1) _ _ _ _ _ _ _ _ rfl (((hA.put _ _).other (by omega)).other (by omega)) rfl (((hB.other (by omega)).other (by omega)).put _ _)) rfl ?_
      exact ⟨⟨n, s, n', s', rfl, HZ.out.1, HZ.out.2⟩, grown_set (grown_set (grown_set (grown_set HG.out (Nat.le_refl _)) (Nat.le_refl _)) (by omega)) (by omega)⟩
    · have hyp : 0 < y := by omega
      have HO : Hid ((∀ W, Calls Tryz.prog 52 #[.int .i64 (q - 1)] W fun e w' => ∃ n s, e = .returned (whole n s) ∧ IsZ (x / y) n s ∧ W.grownBy w' none) ∧ (∀ W, Calls Tryz.prog 52 #[.int .i64 (r + y)] W fun e w' => ∃ n s, e = .returned (whole n s) ∧ IsZ (x % y) n s ∧ W.grownBy w' none)) := key _ _ (k3 hrn hyp).1 (k3 hrn hyp).2 (by omega) (by omega) (by omega) (by omega)
      have hw2 : wrap64 (q - 1) = q - 1 := by unfold wrap64; omega
      have hw3 : wrap64 (r + y) = r + y := by unfold wrap64; omega
      clear key k1 k2 k3 k4 k5
      go_enter Tryz.func105, Tryz.ntmps105
      go_wp2_with fail
      go_region
      go_wp2_with fail
      refine (HO.out.1 _).mono ?_
      rintro e w1 ⟨n, s, rfl, z1, g1⟩
      go_wp2_with fail
      refine (HO.out.2 _).mono ?_
      rintro e w2 ⟨n', s', rfl, z2, g2⟩
      obtain ⟨hA, hB, hG⟩ := HFIN.out w1 w2 n n' s s' g1 g2
      have HZ : Hid (IsZ (x / y) n s ∧ IsZ (x % y) n' s') := ⟨z1, z2⟩
      have HG : Hid (w.grownBy w2 none) := hG
      have a0 := hA.c0
      have a1 := hA.c1
      have a2 := hA.fr 0
      have a3 := hA.fr 1
      have b0 := hB.c0
      have b1 := hB.c1
      have b2 := hB.fr 0
      have b3 := hB.fr 1
      clear hG g1 g2 z1 z2 HO HFIN
      go_wp2_with fail
      refine bodyPost_ret (res2_cell rfl _ _ w.heap.size (w.heap.size + 1) _ _ _ _ _ _ _ _ rfl (((hA.put _ _).other (by omega)).other (by omega)) rfl (((hB.other (by omega)).other (by omega)).put _ _)) rfl ?_
      exact ⟨⟨n, s, n', s', rfl, HZ.out.1, HZ.out.2⟩, grown_set (grown_set (grown_set (grown_set HG.out (Nat.le_refl _)) (Nat.le_refl _)) (by omega)) (by omega)⟩
theorem div_num {n1 n2 : Bool} {m1 m2 : ByteArray} (hD : 0 < val (bN m2)) :
    ((n1 = false ∨ val (bN m1) % val (bN m2) = 0) → num n1 m1 / num n2 m2 = (if (n1 != n2) then -((val (bN m1) / val (bN m2) : Nat) : Int) else ((val (bN m1) / val (bN m2) : Nat) : Int)) ∧ num n1 m1 % num n2 m2 = ((val (bN m1) % val (bN m2) : Nat) : Int)) ∧
    ((n1 = true ∧ val (bN m1) % val (bN m2) ≠ 0) → num n1 m1 / num n2 m2 = (if (n1 != n2) then -((val (bN m1) / val (bN m2) + 1 : Nat) : Int) else ((val (bN m1) / val (bN m2) + 1 : Nat) : Int)) ∧ num n1 m1 % num n2 m2 = ((val (bN m2) - val (bN m1) % val (bN m2) : Nat) : Int)) := by
  have h1 := Nat.div_add_mod (val (bN m1)) (val (bN m2))
  have h2 := Nat.mod_lt (val (bN m1)) hD
  generalize val (bN m1) / val (bN m2) = q at *
  generalize hr : val (bN m1) % val (bN m2) = r at *
  have e1 : ((val (bN m2) * q : Nat) : Int) = (val (bN m2) : Int) * (q : Int) := by simp
  generalize hA : val (bN m1) = A at *
  generalize hB : val (bN m2) = D at *
  have f1 : num false m1 = (A : Int) := by rw [num_f, hA]
  have f2 : num true m1 = -(A : Int) := by rw [num_t, hA]
  have f3 : num false m2 = (D : Int) := by rw [num_f, hB]
  have f4 : num true m2 = -(D : Int) := by rw [num_t, hB]
  constructor
  · rintro (rfl | h0)
    · cases n2
      · rw [f1, f3]
        exact (Int.ediv_emod_unique (by omega)).2 ⟨by simp; omega, by omega, by omega⟩
      · rw [f1, f4]
        exact (Int.ediv_emod_unique' (by omega)).2 ⟨by simp [Int.neg_mul_neg]; omega, by omega, by omega⟩
    · subst h0
      cases n1 <;> cases n2
      · rw [f1, f3]
        exact (Int.ediv_emod_unique (by omega)).2 ⟨by simp; omega, by omega, by omega⟩
      · rw [f1, f4]
        exact (Int.ediv_emod_unique' (by omega)).2 ⟨by simp [Int.neg_mul_neg]; omega, by omega, by omega⟩
      · rw [f2, f3]
        exact (Int.ediv_emod_unique (by omega)).2 ⟨by simp [Int.mul_neg]; omega, by omega, by omega⟩
      · rw [f2, f4]
        exact (Int.ediv_emod_unique' (by omega)).2 ⟨by simp [Int.neg_mul]; omega, by omega, by omega⟩
  · rintro ⟨rfl, h0⟩
    have e2 : (D : Int) * ((q + 1 : Nat) : Int) = (D : Int) * q + D := by rw [Int.natCast_add, Int.mul_add]; simp
    cases n2
    · rw [f2, f3]
      refine (Int.ediv_emod_unique (by omega)).2 ⟨?_, by omega, by omega⟩
      rw [if_pos (by decide), Int.mul_neg, e2]
      omega
    · rw [f2, f4]
      refine (Int.ediv_emod_unique' (by omega)).2 ⟨?_, by omega, by omega⟩
      rw [if_neg (by decide), Int.neg_mul, e2]
      omega
theorem made_fits {neg : Bool} {n : Nat} {e : Ending} {z : Int} (h : Made neg n e) (hb : bl n ≤ 131072) (hz : z = if neg then -(n : Int) else n) : ∃ b s, e = .returned (.tuple #[whole b s, .int .i64 0]) ∧ IsZ z b s := by
  have hZ := made_z h hz
  have ha : z.natAbs = n := by rw [hz]; cases neg <;> simp
  rcases hZ with ⟨_, b, s, rfl, hs⟩ | ⟨h9, _⟩
  · exact ⟨b, s, rfl, hs⟩
  · rw [ha] at h9; omega
theorem blks4 {n1 n2 : Bool} {m1 m2 : ByteArray} {w w1 : World} (g : ((((w.alloc (wObj n1 m1)).alloc (wObj n2 m2)).alloc (wObj false eS)).alloc (wObj false eS)).grownBy w1 none) :
    WBlk w1 w.heap.size (.bool n1) (.string m1) ∧ WBlk w1 (w.heap.size + 1) (.bool n2) (.string m2) ∧ WBlk w1 (w.heap.size + 1 + 1) (.bool false) (.string eS) ∧ WBlk w1 (w.heap.size + 1 + 1 + 1) (.bool false) (.string eS) := by
  refine ⟨WBlk.kept (old_alloc _ _ (old_alloc _ _ (old_alloc _ _ (heap_alloc_new _ _)))) g (by simp), WBlk.kept (old_alloc _ _ (old_alloc _ _ (heap_alloc2_new _ _ _))) g (by simp), WBlk.kept (old_alloc _ _ (at_alloc3 _ _ _ _)) g (by simp), WBlk.kept ?_ g (by simp)⟩
  have := heap_alloc_new (((w.alloc (wObj n1 m1)).alloc (wObj n2 m2)).alloc (wObj false eS)) (wObj false eS)
  simp only [World.size_alloc] at this
  exact this
theorem checkTwo4 (n1 n2 : Bool) (m1 m2 : ByteArray) (z1 : m1.size ≤ maxLen) (z2 : m2.size ≤ maxLen) (w : World) :
    Hid (Calls Tryz.prog 103 #[.slice (some ⟨w.heap.size + 1 + 1 + 1 + 1, 0, none⟩) 2 2] (((((w.alloc (wObj n1 m1)).alloc (wObj n2 m2)).alloc (wObj false eS)).alloc (wObj false eS)).alloc (.cells #[.bool n1, .string m1, .bool n2, .string m2] 23)) fun e w' => e = .returned (.int .i64 (if may n1 m1 = true ∧ may n2 m2 = true then 0 else 2)) ∧ ((((w.alloc (wObj n1 m1)).alloc (wObj n2 m2)).alloc (wObj false eS)).alloc (wObj false eS)).grownBy w' none) := by
  have h := (checkTwo n1 n2 m1 m2 z1 z2)
  have e : ((((w.alloc (wObj n1 m1)).alloc (wObj n2 m2)).alloc (wObj false eS)).alloc (wObj false eS)).heap.size = w.heap.size + 1 + 1 + 1 + 1 := by simp
  rw [← e]
  refine (h.out _).mono ?_
  rintro e w' ⟨rfl, hg⟩
  exact ⟨rfl, grownBy_trans (grow1 _ _) hg⟩
theorem div_zero (n1 n2 : Bool) (m1 m2 : ByteArray) (h1 : may n1 m1 = true) (h2 : may n2 m2 = true) (h0 : m2.size = 0) (w : World) :
    Calls Tryz.prog 55 #[whole n1 m1, whole n2 m2] w fun e w' => e = .returned (.tuple #[whole false eS, whole false eS, .int .i64 5]) ∧ w.grownBy w' none := by
  have l1 := may_size h1
  have l2 := may_size h2
  have HC := checkTwo4 n1 n2 m1 m2 (by unfold maxLen; omega) (by unfold maxLen; omega) w
  rw [if_pos ⟨h1, h2⟩] at HC
  obtain rfl := empty_of_size h0
  obtain rfl := may_empty h2
  clear h1 h2 h0 l1 l2
  go_enter Tryz.func55, Tryz.ntmps55
  go_wp2_with fail
  refine HC.out.mono ?_
  rintro e w1 ⟨rfl, g1⟩
  have HG1 : Hid (((((w.alloc (wObj n1 m1)).alloc (wObj false ByteArray.empty)).alloc (wObj false eS)).alloc (wObj false eS)).grownBy w1 none) := g1
  obtain ⟨_, hB, _, _⟩ := blks4 g1
  have b0 := hB.c0
  have b1 := hB.c1
  clear g1 HC
  go_wp2_with fail
  go_region_held3 (fun w' => w'.cell? ⟨w.heap.size + 1, 0, none⟩ = some (Value.bool false) ∧ w'.cell? ⟨w.heap.size + 1, 1, none⟩ = some (Value.string ByteArray.empty)) (first | (go_keep; done) | exact ⟨(hB.kept (grow1 _ (wObj false eS)) (by simp)).c0, (hB.kept (grow1 _ (wObj false eS)) (by simp)).c1⟩ | fail) (first | (go_at_call 104; refine (zero_any _).mono ?_; rintro e w' ⟨rfl, rfl⟩) | fail)
  go_wp2_with fail
  refine (zero_any _).mono ?_
  rintro e w2 ⟨rfl, rfl⟩
  go_wp2_with fail
  refine (zero_any _).mono ?_
  rintro e w2 ⟨rfl, rfl⟩
  have HG2 : Hid (((((w.alloc (wObj n1 m1)).alloc (wObj false ByteArray.empty)).alloc (wObj false eS)).alloc (wObj false eS)).grownBy (((w1.alloc (wObj false eS)).alloc (wObj false eS)).alloc (wObj false eS)) none) := grownBy_trans HG1.out (grow3 _ _ _ _)
  clear b0 b1 hB
  obtain ⟨_, _, hC, hD⟩ := blks4 HG2.out
  have c0 := hC.c0
  have c1 := hC.c1
  have c2 := hC.fr 0
  have c3 := hC.fr 1
  have d0 := hD.c0
  have d1 := hD.c1
  have d2 := hD.fr 0
  have d3 := hD.fr 1
  go_wp2_with fail
  refine bodyPost_ret (res_cell2_tmp rfl _ _ (w.heap.size + 1 + 1) (w.heap.size + 1 + 1 + 1) _ _ _ _ _ _ _ _ rfl (((hC.put _ _).other (by omega)).other (by omega)) rfl (((hD.other (by omega)).other (by omega)).put _ _)) rfl ?_
  exact ⟨rfl, grow_drew (grown_set (grown_set (grown_set (grown_set (grownBy_trans (grow4 _ _ _ _ _) HG2.out) (by omega)) (by omega)) (by omega)) (by omega))⟩
def DivR (x y : Int) (e : Ending) : Prop := ∃ n s n' s', e = .returned (.tuple #[whole n s, whole n' s', .int .i64 0]) ∧ IsZ (x / y) n s ∧ IsZ (x % y) n' s'
theorem div_short (n1 n2 : Bool) (m1 m2 : ByteArray) (h1 : may n1 m1 = true) (h2 : may n2 m2 = true) (h0 : m2.size ≠ 0) (h7 : m1.size + m2.size ≤ 7) (w : World) :
    Calls Tryz.prog 55 #[whole n1 m1, whole n2 m2] w fun e w' => DivR (num n1 m1) (num n2 m2) e ∧ w.grownBy w' none := by
  have HC := checkTwo4 n1 n2 m1 m2 (by unfold maxLen; omega) (by unfold maxLen; omega) w
  rw [if_pos ⟨h1, h2⟩] at HC
  have he := isEmpty_of h0
  have HS : Hid (∀ w, Calls Tryz.prog 100 #[whole n1 m1, whole n2 m2] w fun e w' => e = .returned (.tuple #[.int .i64 (num n1 m1), .int .i64 (num n2 m2), .bool true]) ∧ w.grownBy w' none) := fun w => short_yes n1 n2 m1 m2 h1 h2 h7 w
  have a1 := num_seven (n := n1) (show m1.size ≤ 7 by omega)
  have a2 := num_seven (n := n2) (show m2.size ≤ 7 by omega)
  have hv := val_pos h2 h0
  have hy : num n2 m2 ≠ 0 := by cases n2 <;> simp [num_f, num_t] <;> omega
  have HDS : Hid (∀ w, Calls Tryz.prog 105 #[.int .i64 (num n1 m1), .int .i64 (num n2 m2)] w fun e w' => DsQ (num n1 m1) (num n2 m2) e ∧ w.grownBy w' none) := fun w => divShort_any _ _ (by omega) (by omega) (by omega) (by omega) hy w
  clear h1 h2 h7 a1 a2 hv hy
  generalize num n1 m1 = x at *
  generalize num n2 m2 = y at *
  go_enter Tryz.func55, Tryz.ntmps55
  go_wp2_with fail
  refine HC.out.mono ?_
  rintro e w1 ⟨rfl, g1⟩
  have HG1 : Hid (((((w.alloc (wObj n1 m1)).alloc (wObj n2 m2)).alloc (wObj false eS)).alloc (wObj false eS)).grownBy w1 none) := g1
  obtain ⟨_, hB, _, _⟩ := blks4 g1
  have b0 := hB.c0
  have b1 := hB.c1
  clear g1 HC
  go_wp2_with fail
  go_region_held3 (fun w' => w'.cell? ⟨w.heap.size + 1, 0, none⟩ = some (Value.bool n2) ∧ w'.cell? ⟨w.heap.size + 1, 1, none⟩ = some (Value.string m2)) (first | (go_keep; done) | exact ⟨(hB.kept (grow1 _ (wObj false eS)) (by simp)).c0, (hB.kept (grow1 _ (wObj false eS)) (by simp)).c1⟩ | fail) (first | (go_at_call 104; refine (zero_any _).mono ?_; rintro e w' ⟨rfl, rfl⟩) | fail)
  have HG1b : Hid (((((w.alloc (wObj n1 m1)).alloc (wObj n2 m2)).alloc (wObj false eS)).alloc (wObj false eS)).grownBy (w1.alloc (wObj false eS)) none) := grownBy_trans HG1.out (grow1 _ _)
  clear b0 b1 hB
  obtain ⟨hA2, hB2, _, _⟩ := blks4 HG1b.out
  have x0 := hA2.c0
  have x1 := hA2.c1
  have y0 := hB2.c0
  have y1 := hB2.c1
  go_wp2_with fail
  refine (HS.out _).mono ?_
  rintro e w2 ⟨rfl, g2⟩
  have HG2 : Hid (((((w.alloc (wObj n1 m1)).alloc (wObj n2 m2)).alloc (wObj false eS)).alloc (wObj false eS)).grownBy w2 none) := grownBy_trans HG1b.out (grownBy_undrew g2)
  clear x0 x1 y0 y1 hA2 hB2 g2 HS
  go_wp2_with fail
  refine (HDS.out _).mono ?_
  rintro e w3 ⟨⟨n, s, n', s', rfl, z1, z2⟩, g3⟩
  have HZ : Hid (IsZ (x / y) n s ∧ IsZ (x % y) n' s') := ⟨z1, z2⟩
  have hG3 := grownBy_trans HG2.out g3
  obtain ⟨_, _, hC3, hD3⟩ := blks4 hG3
  have HG3 : Hid (w.grownBy w3 none) := grownBy_trans (grow4 _ _ _ _ _) hG3
  clear hG3 g3 z1 z2 HDS HG1 HG1b HG2
  have c0 := hC3.c0
  have c1 := hC3.c1
  have c2 := hC3.fr 0
  have c3 := hC3.fr 1
  have d0 := hD3.c0
  have d1 := hD3.c1
  have d2 := hD3.fr 0
  have d3 := hD3.fr 1
  go_wp2_with fail
  have hC4 := ((hC3.put (.bool n) (.string s)).other (B' := w.heap.size + 1 + 1 + 1) (i := 0) (v := .bool n') (by omega)).other (B' := w.heap.size + 1 + 1 + 1) (i := 1) (v := .string s') (by omega)
  have hD4 := ((hD3.other (B' := w.heap.size + 1 + 1) (i := 0) (v := .bool n) (by omega)).other (B' := w.heap.size + 1 + 1) (i := 1) (v := .string s) (by omega)).put (.bool n') (.string s')
  have HG4 : Hid (w.grownBy ((((w3.setCell ⟨w.heap.size + 1 + 1, 0, none⟩ (.bool n)).setCell ⟨w.heap.size + 1 + 1, 1, none⟩ (.string s)).setCell ⟨w.heap.size + 1 + 1 + 1, 0, none⟩ (.bool n')).setCell ⟨w.heap.size + 1 + 1 + 1, 1, none⟩ (.string s')) none) :=
    grown_set (grown_set (grown_set (grown_set HG3.out (by omega)) (by omega)) (by omega)) (by omega)
  clear hC3 hD3 c0 c1 c2 c3 d0 d1 d2 d3 HG3
  generalize ((((w3.setCell ⟨w.heap.size + 1 + 1, 0, none⟩ (.bool n)).setCell ⟨w.heap.size + 1 + 1, 1, none⟩ (.string s)).setCell ⟨w.heap.size + 1 + 1 + 1, 0, none⟩ (.bool n')).setCell ⟨w.heap.size + 1 + 1 + 1, 1, none⟩ (.string s')) = w4 at *
  have c0 := hC4.c0
  have c1 := hC4.c1
  have c2 := hC4.fr 0
  have c3 := hC4.fr 1
  have d0 := hD4.c0
  have d1 := hD4.c1
  have d2 := hD4.fr 0
  have d3 := hD4.fr 1
  go_region
  all_goals go_wp2_with fail
  all_goals refine bodyPost_ret (res_cell2_tmp rfl _ _ (w.heap.size + 1 + 1) (w.heap.size + 1 + 1 + 1) _ _ _ _ _ _ _ _ rfl (((hC4.put _ _).other (by omega)).other (by omega)) rfl (((hD4.other (by omega)).other (by omega)).put _ _)) rfl ?_
  all_goals exact ⟨⟨n, s, n', s', rfl, HZ.out.1, HZ.out.2⟩, grow_drew (grown_set (grown_set (grown_set (grown_set HG4.out (by omega)) (by omega)) (by omega)) (by omega))⟩
theorem D4.past2 {W : World} {v : Value} {L : List Nat} {B i : Nat} {n : Bool} {t : ByteArray} {x : Value} (h : D4 W v L) (hB : WBlk W B (.bool n) (.string t)) : D4 (W.setCell ⟨B, i, none⟩ x) v L := by
  rcases h with h | ⟨B', off, c, rfl, hc, h⟩
  · exact .inl h
  · refine .inr ⟨B', off, c, rfl, hc, fun j hj => grownBy_cell (grownBy_setCell W B i x) (h j hj) (fun e => ?_)⟩
    have e2 : B = B' := Option.some.inj e
    subst e2
    have h1 := h j hj
    unfold WBlk at hB
    simp only [World.cell?, hB] at h1
    have h2 : off + j < 2 := by
      refine Nat.lt_of_not_le fun h3 => ?_
      rw [Array.getElem?_eq_none (by simpa using h3)] at h1
      cases h1
    rcases Nat.lt_or_ge (off + j) 1 with h3 | h3
    · rw [show off + j = 0 by omega] at h1
      simp at h1
    · rw [show off + j = 1 by omega] at h1
      simp at h1
theorem WBlk.put0 {w : World} {B : Nat} {a b : Value} (h : WBlk w B a b) (x : Value) : WBlk (w.setCell ⟨B, 0, none⟩ x) B x b := by
  unfold WBlk at *
  simp [World.setCell, Array.getElem?_modify, h]
theorem bne_f (b : Bool) : (false != b) = b := by cases b <;> rfl
theorem bne_t (b : Bool) : (true != b) = !b := by cases b <;> rfl
theorem div_long (n1 n2 : Bool) (m1 m2 : ByteArray) (h1 : may n1 m1 = true) (h2 : may n2 m2 = true) (h0 : m2.size ≠ 0) (h7 : ¬ m1.size + m2.size ≤ 7) (w : World) :
    Calls Tryz.prog 55 #[whole n1 m1, whole n2 m2] w fun e w' => DivR (num n1 m1) (num n2 m2) e ∧ w.grownBy w' none := by
  have l1 := may_size h1
  have l2 := may_size h2
  have HC := checkTwo4 n1 n2 m1 m2 (by unfold maxLen; omega) (by unfold maxLen; omega) w
  rw [if_pos ⟨h1, h2⟩] at HC
  have he := isEmpty_of h0
  have HS : Hid (∀ w, Calls Tryz.prog 100 #[whole n1 m1, whole n2 m2] w fun e w' => ∃ x y, e = .returned (.tuple #[.int .i64 x, .int .i64 y, .bool false]) ∧ w.grownBy w' none) := fun w => short_no n1 n2 m1 m2 (by unfold maxLen; omega) (by unfold maxLen; omega) (fun k => h7 k.2.2) w
  have hv := val_pos h2 h0
  have HM : Hid (may n1 m1 = true ∧ may n2 m2 = true ∧ 0 < val (bN m2)) := ⟨h1, h2, hv⟩
  clear h1 h2 h7 hv
  go_enter Tryz.func55, Tryz.ntmps55
  go_wp2_with fail
  refine HC.out.mono ?_
  rintro e w1 ⟨rfl, g1⟩
  have HG1 : Hid (((((w.alloc (wObj n1 m1)).alloc (wObj n2 m2)).alloc (wObj false eS)).alloc (wObj false eS)).grownBy w1 none) := g1
  obtain ⟨_, hB, _, _⟩ := blks4 g1
  have b0 := hB.c0
  have b1 := hB.c1
  clear g1 HC
  go_wp2_with fail
  go_region_held3 (fun w' => w'.cell? ⟨w.heap.size + 1, 0, none⟩ = some (Value.bool n2) ∧ w'.cell? ⟨w.heap.size + 1, 1, none⟩ = some (Value.string m2)) (first | (go_keep; done) | exact ⟨(hB.kept (grow1 _ (wObj false eS)) (by simp)).c0, (hB.kept (grow1 _ (wObj false eS)) (by simp)).c1⟩ | fail) (first | (go_at_call 104; refine (zero_any _).mono ?_; rintro e w' ⟨rfl, rfl⟩) | fail)
  have HG1b : Hid (((((w.alloc (wObj n1 m1)).alloc (wObj n2 m2)).alloc (wObj false eS)).alloc (wObj false eS)).grownBy (w1.alloc (wObj false eS)) none) := grownBy_trans HG1.out (grow1 _ _)
  clear b0 b1 hB
  obtain ⟨hA2, hB2, _, _⟩ := blks4 HG1b.out
  have x0 := hA2.c0
  have x1 := hA2.c1
  have y0 := hB2.c0
  have y1 := hB2.c1
  go_wp2_with fail
  refine (HS.out _).mono ?_
  rintro e w2 ⟨xs, ys, rfl, g2⟩
  have HG2 : Hid (((((w.alloc (wObj n1 m1)).alloc (wObj n2 m2)).alloc (wObj false eS)).alloc (wObj false eS)).grownBy w2 none) := grownBy_trans HG1b.out (grownBy_undrew g2)
  clear x0 x1 y0 y1 hA2 hB2 g2 HS HG1 HG1b
  obtain ⟨hA2, hB2, _, _⟩ := blks4 HG2.out
  have x0 := hA2.c0
  have x1 := hA2.c1
  have y0 := hB2.c0
  have y1 := hB2.c1
  go_wp2_with fail
  refine (digitsOf_any m2 l2 _).mono ?_
  rintro e w3 ⟨Bb, Lb, rfl, hBb, hbb, g3, hlb, hrb, hvb⟩
  have HG3 : Hid (((((w.alloc (wObj n1 m1)).alloc (wObj n2 m2)).alloc (wObj false eS)).alloc (wObj false eS)).grownBy w3 none) := grownBy_trans HG2.out g3
  have HLB : Hid (w2.heap.size ≤ Bb ∧ BlkL w3 Bb 103 enc4 (ints Lb) ∧ Lb.length = (m2.size + 3) / 4 ∧ (∀ x ∈ Lb, x < B32) ∧ nv B32 Lb = val (bN m2)) := ⟨hBb, hbb, hlb, hrb, hvb⟩
  clear x0 x1 y0 y1 hA2 hB2 hBb hbb g3 hlb hrb hvb
  obtain ⟨hA2, hB2, _, _⟩ := blks4 HG3.out
  have x0 := hA2.c0
  have x1 := hA2.c1
  clear hB2
  go_wp2_with fail
  refine (digitsOf_any m1 l1 _).mono ?_
  rintro e w4 ⟨Ba, La, rfl, hBa, hba, g4, hla, hra, hva⟩
  have HG4 : Hid (((((w.alloc (wObj n1 m1)).alloc (wObj n2 m2)).alloc (wObj false eS)).alloc (wObj false eS)).grownBy w4 none) := grownBy_trans HG3.out g4
  have tA : Trim La := trim_digits HM.out.1 hla hra hva
  have tB : Trim Lb := trim_digits HM.out.2.1 HLB.out.2.2.1 HLB.out.2.2.2.1 HLB.out.2.2.2.2
  have hDV := divide_any w4 (.slice (some ⟨Ba, 0, none⟩) La.length La.length) (.slice (some ⟨Bb, 0, none⟩) Lb.length Lb.length) La Lb hba.d4 ((HLB.out.2.1.kept g4 (by simp)).d4) hra HLB.out.2.2.2.1 tA tB (by omega) (by have := HLB.out.2.2.1; omega) (by have := HLB.out.2.2.1; omega)
  rw [hva, HLB.out.2.2.2.2] at hDV
  have HDV : Hid (Calls Tryz.prog 107 #[.slice (some ⟨Ba, 0, none⟩) La.length La.length, .slice (some ⟨Bb, 0, none⟩) Lb.length Lb.length] w4 (DivQ w4 (val (bN m1)) (val (bN m2)) La.length)) := hDV
  have HLL : Hid (La.length ≤ 4096 ∧ w3.heap.size ≤ Ba ∧ w3.grownBy w4 none) := ⟨by omega, hBa, g4⟩
  clear x0 x1 hA2 hba g4 hla hra hva hBa tA tB hDV
  go_wp2_with fail
  refine HDV.out.mono ?_
  rintro e w5 ⟨vq, vr, Kq, Kr, rfl, hRq, hRr, hap, rq, rr, tq, tr, nq, nr, lq, lr, g5⟩
  have hs4 : w.heap.size + 4 ≤ w4.heap.size := by have := HG4.out.size; simp at this; omega
  have HG5 : Hid (((((w.alloc (wObj n1 m1)).alloc (wObj n2 m2)).alloc (wObj false eS)).alloc (wObj false eS)).grownBy w5 none) := grownBy_trans HG4.out g5
  obtain ⟨kp, kn⟩ := div_num (n1 := n1) (n2 := n2) (m1 := m1) (m2 := m2) HM.out.2.2
  have hbA := (bl_max HM.out.1 _ rfl).2
  have hbD := (bl_max HM.out.2.1 _ rfl).2
  have HLB5 : Hid (BlkL w5 Bb 103 enc4 (ints Lb) ∧ Bb < w4.heap.size) := ⟨(HLB.out.2.1.kept HLL.out.2.2 (by simp)).kept g5 (by simp), Nat.lt_of_lt_of_le HLB.out.2.1.lt HLL.out.2.2.size⟩
  by_cases hneg : n1 = true ∧ val (bN m1) % val (bN m2) ≠ 0
  · obtain ⟨e1, e2⟩ := kn hneg
    have hKr0 : Kr.length ≠ 0 := fun h => hneg.2 (by rw [← nr, List.length_eq_zero_iff.1 h]; rfl)
    have HE : Hid (num n1 m1 / num n2 m2 = (if (n1 != n2) then -((val (bN m1) / val (bN m2) + 1 : Nat) : Int) else ((val (bN m1) / val (bN m2) + 1 : Nat) : Int)) ∧ num n1 m1 % num n2 m2 = ((val (bN m2) - val (bN m1) % val (bN m2) : Nat) : Int) ∧ bl (val (bN m1) / val (bN m2) + 1) ≤ 131072 ∧ bl (val (bN m2) - val (bN m1) % val (bN m2)) ≤ 131072) := (by
      refine ⟨e1, e2, Nat.le_trans (bl_mono ?_) hbA, Nat.le_trans (bl_mono (Nat.sub_le _ _)) hbD⟩
      have hD2 : 2 ≤ val (bN m2) := by
        have h1 := Nat.mod_lt (val (bN m1)) HM.out.2.2
        omega
      have h1 : val (bN m1) / val (bN m2) ≤ val (bN m1) / 2 := Nat.div_le_div_left hD2 (by decide)
      have h2 : val (bN m1) ≠ 0 := fun e => hneg.2 (by rw [e, Nat.zero_mod])
      omega)
    have hn1 : n1 = true := hneg.1
    have hKI : (1 : Int) ≤ Kr.length := by omega
    obtain ⟨ar, cr, hvr⟩ := hRr.d4.slice
    rw [hvr] at hRr hap ⊢
    have HRQ : Hid (Row w5 w4.heap.size vq Kq ∧ (∀ x ∈ Kq, x < B32) ∧ Kq.length ≤ 4096 ∧ nv B32 Kq = val (bN m1) / val (bN m2)) := ⟨hRq, rq, Nat.le_trans lq HLL.out.1, nq⟩
    have HRR : Hid (Row w5 w4.heap.size (.slice ar Kr.length cr) Kr ∧ (∀ x ∈ Kr, x < B32) ∧ Kr.length ≤ 4096 ∧ nv B32 Kr = val (bN m1) % val (bN m2) ∧ Apt vq (.slice ar Kr.length cr)) := ⟨hRr, rr, Nat.le_trans lr HLL.out.1, nr, hap⟩
    have HG5' : Hid (w4.grownBy w5 none) := g5
    have HTR : Hid (Trim Kr) := tr
    clear kp kn e1 e2 hbA hbD hneg hKr0 hRq hRr hap rq rr tq tr nq nr lq lr g5 hvr HDV
    obtain ⟨hA2, _, _, _⟩ := blks4 HG5.out
    have x0 := hA2.c0
    subst hn1
    clear hA2
    go_wp2_with fail
    have hRow5 : Row (w5.alloc (.cells #[.int .u32 1] 103)) w4.heap.size vq Kq := HRQ.out.1.kept (grow1 _ _) (by cases vq.ownBlock <;> simp)
    have hRr5 : Row (w5.alloc (.cells #[.int .u32 1] 103)) w4.heap.size (.slice ar Kr.length cr) Kr := HRR.out.1.kept (grow1 _ _) (by cases (Value.slice ar Kr.length cr).ownBlock <;> simp)
    have hBb5 : BlkL (w5.alloc (.cells #[.int .u32 1] 103)) Bb 103 enc4 (ints Lb) := old_alloc _ _ HLB5.out.1
    have hsz : w4.heap.size ≤ (w5.alloc (.cells #[.int .u32 1] 103)).heap.size := by have := HG5'.out.size; simp; omega
    have hG5a : ((((w.alloc (wObj true m1)).alloc (wObj n2 m2)).alloc (wObj false eS)).alloc (wObj false eS)).grownBy (w5.alloc (.cells #[.int .u32 1] 103)) none := grownBy_trans HG5.out (grow1 _ _)
    have HAD : Hid (Calls Tryz.prog 108 #[vq, .slice (some ⟨w5.heap.size, 0, none⟩) 1 1] (w5.alloc (.cells #[.int .u32 1] 103)) fun e w' => ∃ v' K', e = .returned v' ∧ Row w' w4.heap.size v' K' ∧ (∀ x ∈ K', x < B32) ∧ K'.length ≤ 5000 ∧ nv B32 K' = val (bN m1) / val (bN m2) + 1 ∧ Row w' w4.heap.size (.slice ar Kr.length cr) Kr ∧ BlkL w' Bb 103 enc4 (ints Lb) ∧ ((((w.alloc (wObj true m1)).alloc (wObj n2 m2)).alloc (wObj false eS)).alloc (wObj false eS)).grownBy w' none) := (by
      refine (addTo_row _ w4.heap.size vq _ Kq [1] hRow5 (one_new w5) ?_ HRQ.out.2.1 (by intro x hx; simp at hx; subst hx; decide) (by have := HRQ.out.2.2.1; omega) (by simp) hsz).mono ?_
      · intro b n c e h
        cases e
        have := (HRQ.out.1.lt h.symm).2
        simp at this
      · rintro e w' ⟨v', K', rfl, hR', r', n', _, l', _, _, g'⟩
        refine ⟨v', K', rfl, hR', r', by have := HRQ.out.2.2.1; simp at l'; omega, by rw [n', HRQ.out.2.2.2]; simp [nv], hRr5.kept g' HRR.out.2.2.2.2.swap, hBb5.kept g' ?_, ?_⟩
        · intro e
          have h1 := (HRQ.out.1.lt e).1
          have h2 := HLB5.out.2
          omega
        · cases hob : vq.ownBlock with
          | none => rw [hob] at g'; exact grownBy_trans hG5a g'
          | some g =>
            rw [hob] at g'
            have h1 := (HRQ.out.1.lt hob).1
            exact grownBy_new hG5a (by simp; omega) g')
    clear hRow5 hRr5 hBb5 hsz hG5a
    go_wp2_with fail
    refine HAD.out.mono ?_
    rintro e w6 ⟨vq6, Kq6, rfl, hR6, r6, l6, n6, hr6, hb6, g6⟩
    have HQ6 : Hid (Row w6 w4.heap.size vq6 Kq6 ∧ (∀ x ∈ Kq6, x < B32) ∧ Kq6.length ≤ 5000 ∧ nv B32 Kq6 = val (bN m1) / val (bN m2) + 1) := ⟨hR6, r6, l6, n6⟩
    have hlb9 : Lb.length ≤ 4096 := by have := HLB.out.2.2.1; omega
    have hs2 : w.heap.size + 4 ≤ w2.heap.size := by have := HG2.out.size; simp at this; omega
    have HTF : Hid (Calls Tryz.prog 109 #[.slice (some ⟨Bb, 0, none⟩) Lb.length Lb.length, .slice ar Kr.length cr] w6 fun e w' => ∃ v K, e = .returned v ∧ D4 w' v K ∧ (∀ x ∈ K, x < B32) ∧ K.length ≤ 5000 ∧ nv B32 K = val (bN m2) - val (bN m1) % val (bN m2) ∧ D4 w' vq6 Kq6 ∧ ((((w.alloc (wObj true m1)).alloc (wObj n2 m2)).alloc (wObj false eS)).alloc (wObj false eS)).grownBy w' none) := (by
      have hle : nv B32 Kr ≤ nv B32 Lb := by
        rw [HRR.out.2.2.2.1, HLB.out.2.2.2.2]
        exact Nat.le_of_lt (Nat.mod_lt _ HM.out.2.2)
      have hlen : Kr.length ≤ Lb.length := by
        refine trim_length HTR.out ?_
        exact Nat.lt_of_le_of_lt hle (nv_lt B32 Lb HLB.out.2.2.2.1)
      refine (takeFrom_row w6 (w.heap.size + 4) _ _ Lb Kr (hb6.row (Nat.le_trans hs2 HLB.out.1) (by unfold maxLen; omega)) hr6.d4 ?_ HLB.out.2.2.2.1 HRR.out.2.1 hlen hle (by omega)).mono ?_
      · intro b n c e h
        have h1 := ownBlock_row hr6 b n c e
        have h2 : (Value.slice (some ⟨Bb, 0, none⟩) Lb.length Lb.length).ownBlock = some Bb := rfl
        rw [h2] at h
        rw [h] at h1
        have h3 := (hr6.lt h1).1
        have h4 := HLB5.out.2
        omega
      · rintro e w' ⟨v, K, rfl, hD', rK, _, lK, nK, g'⟩
        refine ⟨v, K, rfl, hD', rK, by omega, by rw [nK, HLB.out.2.2.2.2, HRR.out.2.2.2.1], (hR6.kept g' ?_).d4, grownBy_new g6 (by have := HLB.out.1; simp; omega) g'⟩
        cases hob : vq6.ownBlock with
        | none => exact .inl rfl
        | some g =>
          right
          intro e
          have h1 := (hR6.lt hob).1
          have h2 : g = Bb := Option.some.inj e
          have h3 := HLB5.out.2
          omega)
    clear hR6 r6 l6 n6 hr6 hb6 g6 hlb9 hs2 HAD
    go_wp2_with fail
    refine HTF.out.mono ?_
    rintro e w7 ⟨vr7, Kr7, rfl, d7, r7, l7, n7, dq7, g7⟩
    have HQX : Hid (D4 w7 vq6 Kq6 ∧ (∀ x ∈ Kq6, x < B32) ∧ Kq6.length ≤ 100000000 ∧ nv B32 Kq6 = val (bN m1) / val (bN m2) + 1) := ⟨dq7, HQ6.out.2.1, by have := HQ6.out.2.2.1; omega, HQ6.out.2.2.2⟩
    have HRX : Hid (D4 w7 vr7 Kr7 ∧ (∀ x ∈ Kr7, x < B32) ∧ Kr7.length ≤ 100000000 ∧ nv B32 Kr7 = val (bN m2) - val (bN m1) % val (bN m2)) := ⟨d7, r7, by omega, n7⟩
    have HGX : Hid (((((w.alloc (wObj true m1)).alloc (wObj n2 m2)).alloc (wObj false eS)).alloc (wObj false eS)).grownBy w7 none) := g7
    clear d7 r7 l7 n7 dq7 g7 HTF HQ6 HRQ HRR
    obtain ⟨hA2, hB2, _, _⟩ := blks4 HGX.out
    have x0 := hA2.c0
    have y0 := hB2.c0
    have hMq := madeP_any (true != n2) w7 vq6 Kq6 HQX.out.1 HQX.out.2.1 HQX.out.2.2.1
    rw [HQX.out.2.2.2] at hMq
    have HMq : Hid (Calls Tryz.prog 110 #[.bool (!n2), vq6] w7 fun e w' => Made (true != n2) (val (bN m1) / val (bN m2) + 1) e ∧ w7.grownBy w' none) := (by rw [bne_t] at hMq ⊢; exact hMq)
    clear hMq hA2 hB2
    go_wp2_with fail
    refine HMq.out.mono ?_
    rintro e w8 ⟨hM8, g8⟩
    obtain ⟨n, s, rfl, z1⟩ := made_fits (z := num true m1 / num n2 m2) hM8 (HE.out.2.2.1) (HE.out.1)
    have hG8 := grownBy_trans HGX.out g8
    obtain ⟨_, _, hC8, hD8⟩ := blks4 hG8
    have HZ1 : Hid (IsZ (num true m1 / num n2 m2) n s) := z1
    have hR8 : D4 w8 vr7 Kr7 := HRX.out.1.kept g8
    have hR9 : D4 (w8.setCell ⟨w.heap.size + 1 + 1, 0, none⟩ (.bool n)) vr7 Kr7 := hR8.past2 hC8
    have hR10 : D4 ((w8.setCell ⟨w.heap.size + 1 + 1, 0, none⟩ (.bool n)).setCell ⟨w.heap.size + 1 + 1, 1, none⟩ (.string s)) vr7 Kr7 := (D4.past2 (i := 1) (x := .string s) hR9 (hC8.put0 (.bool n)))
    have hMr := madeP_any false _ vr7 Kr7 hR10 HRX.out.2.1 HRX.out.2.2.1
    rw [HRX.out.2.2.2] at hMr
    have HMr : Hid (Calls Tryz.prog 110 #[.bool false, vr7] ((w8.setCell ⟨w.heap.size + 1 + 1, 0, none⟩ (.bool n)).setCell ⟨w.heap.size + 1 + 1, 1, none⟩ (.string s)) fun e w' => Made false (val (bN m2) - val (bN m1) % val (bN m2)) e ∧ ((w8.setCell ⟨w.heap.size + 1 + 1, 0, none⟩ (.bool n)).setCell ⟨w.heap.size + 1 + 1, 1, none⟩ (.string s)).grownBy w' none) := hMr
    have c0 := hC8.c0
    have c1 := hC8.c1
    have c2 := hC8.fr 0
    have c3 := hC8.fr 1
    have HG8 : Hid (w.grownBy ((w8.setCell ⟨w.heap.size + 1 + 1, 0, none⟩ (.bool n)).setCell ⟨w.heap.size + 1 + 1, 1, none⟩ (.string s)) none) := grown_set (grown_set (grownBy_trans (grow4 _ _ _ _ _) hG8) (by omega)) (by omega)
    have hC9 := hC8.put (.bool n) (.string s)
    have hD9 := (hD8.other (B' := w.heap.size + 1 + 1) (i := 0) (v := .bool n) (by omega)).other (B' := w.heap.size + 1 + 1) (i := 1) (v := .string s) (by omega)
    clear hM8 g8 z1 hG8 hR8 hR9 hR10 hMr x0 y0 HMq hD8
    go_wp2_with fail
    refine HMr.out.mono ?_
    rintro e w9 ⟨hM9, g9⟩
    obtain ⟨n', s', rfl, z2⟩ := made_fits (z := num true m1 % num n2 m2) hM9 (HE.out.2.2.2) (by rw [HE.out.2.1]; rfl)
    have HZ : Hid (IsZ (num true m1 / num n2 m2) n s ∧ IsZ (num true m1 % num n2 m2) n' s') := ⟨HZ1.out, z2⟩
    have hC3 := hC9.kept g9 (by simp)
    have hD3 := hD9.kept g9 (by simp)
    have HG3' : Hid (w.grownBy w9 none) := grownBy_trans HG8.out g9
    clear hM9 g9 z2 c0 c1 c2 c3 hC8 hC9 hD9 HMr HG8
    have d0 := hD3.c0
    have d1 := hD3.c1
    have d2 := hD3.fr 0
    have d3 := hD3.fr 1
    go_wp2_with fail
    have hC4 := (hC3.other (B' := w.heap.size + 1 + 1 + 1) (i := 0) (v := .bool n') (by omega)).other (B' := w.heap.size + 1 + 1 + 1) (i := 1) (v := .string s') (by omega)
    have hD4 := hD3.put (.bool n') (.string s')
    have HG4' : Hid (w.grownBy ((w9.setCell ⟨w.heap.size + 1 + 1 + 1, 0, none⟩ (.bool n')).setCell ⟨w.heap.size + 1 + 1 + 1, 1, none⟩ (.string s')) none) := grown_set (grown_set HG3'.out (by omega)) (by omega)
    clear hC3 hD3 d0 d1 d2 d3 HG3'
    generalize ((w9.setCell ⟨w.heap.size + 1 + 1 + 1, 0, none⟩ (.bool n')).setCell ⟨w.heap.size + 1 + 1 + 1, 1, none⟩ (.string s')) = w10 at *
    have c0 := hC4.c0
    have c1 := hC4.c1
    have c2 := hC4.fr 0
    have c3 := hC4.fr 1
    have d0 := hD4.c0
    have d1 := hD4.c1
    have d2 := hD4.fr 0
    have d3 := hD4.fr 1
    go_region
    all_goals go_wp2_with fail
    all_goals refine bodyPost_ret (res_cell2_tmp rfl _ _ (w.heap.size + 1 + 1) (w.heap.size + 1 + 1 + 1) _ _ _ _ _ _ _ _ rfl (((hC4.put _ _).other (by omega)).other (by omega)) rfl (((hD4.other (by omega)).other (by omega)).put _ _)) rfl ?_
    all_goals exact ⟨⟨n, s, n', s', rfl, HZ.out.1, HZ.out.2⟩, grow_drew (grown_set (grown_set (grown_set (grown_set HG4'.out (by omega)) (by omega)) (by omega)) (by omega))⟩
  · obtain ⟨e1, e2⟩ := kp (by by_cases h : n1 = true; exact .inr (Classical.byContradiction fun h' => hneg ⟨h, h'⟩); exact .inl (by simpa using h))
    have HE : Hid (num n1 m1 / num n2 m2 = (if (n1 != n2) then -((val (bN m1) / val (bN m2) : Nat) : Int) else ((val (bN m1) / val (bN m2) : Nat) : Int)) ∧ num n1 m1 % num n2 m2 = ((val (bN m1) % val (bN m2) : Nat) : Int) ∧ bl (val (bN m1) / val (bN m2)) ≤ 131072 ∧ bl (val (bN m1) % val (bN m2)) ≤ 131072) :=
      ⟨e1, e2, Nat.le_trans (bl_mono (Nat.div_le_self _ _)) hbA, Nat.le_trans (bl_mono (Nat.mod_le _ _)) hbA⟩
    have hcond : n1 = false ∨ (n1 = true ∧ Kr.length = 0) := by
      by_cases h : n1 = true
      · refine .inr ⟨h, ?_⟩
        have h0 : nv B32 Kr = 0 := by rw [nr]; exact Classical.byContradiction fun h' => hneg ⟨h, h'⟩
        exact (trim_zero tr).1 h0
      · exact .inl (by simpa using h)
    obtain ⟨ar, cr, hvr⟩ := hRr.d4.slice
    obtain ⟨kl, hkl⟩ : ∃ kl, Kr.length = kl := ⟨_, rfl⟩
    rw [hkl] at hvr hcond
    rw [hvr] at hRr ⊢
    have HQX : Hid (D4 w5 vq Kq ∧ (∀ x ∈ Kq, x < B32) ∧ Kq.length ≤ 100000000 ∧ nv B32 Kq = val (bN m1) / val (bN m2)) := ⟨hRq.d4, rq, by have := HLL.out.1; omega, nq⟩
    have HRX : Hid (Row w5 (w.heap.size + 4) (.slice ar kl cr) Kr ∧ (∀ x ∈ Kr, x < B32) ∧ Kr.length ≤ 100000000 ∧ nv B32 Kr = val (bN m1) % val (bN m2)) := ⟨hRr.base hs4, rr, by have := HLL.out.1; omega, nr⟩
    have HGX : Hid (((((w.alloc (wObj n1 m1)).alloc (wObj n2 m2)).alloc (wObj false eS)).alloc (wObj false eS)).grownBy w5 none) := HG5.out
    clear kp kn e1 e2 hbA hbD hneg hRq hRr hap rq rr tq tr nq nr lq lr g5 hvr hkl HDV HG5 HLB5 HLB HLL
    rcases hcond with rfl | ⟨rfl, rfl⟩
    · obtain ⟨hA2, hB2, _, _⟩ := blks4 HGX.out
      have x0 := hA2.c0
      have y0 := hB2.c0
      have hMq := madeP_any (false != n2) w5 vq Kq HQX.out.1 HQX.out.2.1 HQX.out.2.2.1
      rw [HQX.out.2.2.2] at hMq
      have HMq : Hid (Calls Tryz.prog 110 #[.bool n2, vq] w5 fun e w' => Made (false != n2) (val (bN m1) / val (bN m2)) e ∧ w5.grownBy w' none) := (by rw [bne_f] at hMq ⊢; exact hMq)
      clear hMq hA2 hB2
      go_wp2_with fail
      refine HMq.out.mono ?_
      rintro e w8 ⟨hM8, g8⟩
      obtain ⟨n, s, rfl, z1⟩ := made_fits (z := num false m1 / num n2 m2) hM8 (HE.out.2.2.1) (HE.out.1)
      have hG8 := grownBy_trans HGX.out g8
      obtain ⟨_, _, hC8, hD8⟩ := blks4 hG8
      have HZ1 : Hid (IsZ (num false m1 / num n2 m2) n s) := z1
      have hR8 := HRX.out.1.kept g8 (by cases (Value.slice ar kl cr).ownBlock <;> simp)
      have hne : (Value.slice ar kl cr).ownBlock = none ∨ (Value.slice ar kl cr).ownBlock ≠ some (w.heap.size + 1 + 1) := by
        cases hob : (Value.slice ar kl cr).ownBlock with
        | none => exact .inl rfl
        | some g =>
          right
          intro e
          have h1 := (hR8.lt hob).1
          have h2 : g = w.heap.size + 1 + 1 := Option.some.inj e
          omega
      have hR9 := (hR8.kept (grownBy_setCell _ _ _ _) hne : Row (w8.setCell ⟨w.heap.size + 1 + 1, 0, none⟩ (.bool n)) (w.heap.size + 4) (.slice ar kl cr) Kr)
      have hR10 := (hR9.kept (grownBy_setCell _ _ _ _) hne : Row ((w8.setCell ⟨w.heap.size + 1 + 1, 0, none⟩ (.bool n)).setCell ⟨w.heap.size + 1 + 1, 1, none⟩ (.string s)) (w.heap.size + 4) (.slice ar kl cr) Kr)
      have hMr := madeP_any false _ (.slice ar kl cr) Kr hR10.d4 HRX.out.2.1 HRX.out.2.2.1
      rw [HRX.out.2.2.2] at hMr
      have HMr : Hid (Calls Tryz.prog 110 #[.bool false, (.slice ar kl cr)] ((w8.setCell ⟨w.heap.size + 1 + 1, 0, none⟩ (.bool n)).setCell ⟨w.heap.size + 1 + 1, 1, none⟩ (.string s)) fun e w' => Made false (val (bN m1) % val (bN m2)) e ∧ ((w8.setCell ⟨w.heap.size + 1 + 1, 0, none⟩ (.bool n)).setCell ⟨w.heap.size + 1 + 1, 1, none⟩ (.string s)).grownBy w' none) := hMr
      have c0 := hC8.c0
      have c1 := hC8.c1
      have c2 := hC8.fr 0
      have c3 := hC8.fr 1
      have HG8 : Hid (w.grownBy ((w8.setCell ⟨w.heap.size + 1 + 1, 0, none⟩ (.bool n)).setCell ⟨w.heap.size + 1 + 1, 1, none⟩ (.string s)) none) := grown_set (grown_set (grownBy_trans (grow4 _ _ _ _ _) hG8) (by omega)) (by omega)
      have hC9 := hC8.put (.bool n) (.string s)
      have hD9 := (hD8.other (B' := w.heap.size + 1 + 1) (i := 0) (v := .bool n) (by omega)).other (B' := w.heap.size + 1 + 1) (i := 1) (v := .string s) (by omega)
      clear hM8 g8 z1 hG8 hR8 hR9 hR10 hMr x0 y0 HMq hne hD8
      go_wp2_with fail
      refine HMr.out.mono ?_
      rintro e w9 ⟨hM9, g9⟩
      obtain ⟨n', s', rfl, z2⟩ := made_fits (z := num false m1 % num n2 m2) hM9 (HE.out.2.2.2) (by rw [HE.out.2.1]; rfl)
      have HZ : Hid (IsZ (num false m1 / num n2 m2) n s ∧ IsZ (num false m1 % num n2 m2) n' s') := ⟨HZ1.out, z2⟩
      have hC3 := hC9.kept g9 (by simp)
      have hD3 := hD9.kept g9 (by simp)
      have HG3' : Hid (w.grownBy w9 none) := grownBy_trans HG8.out g9
      clear hM9 g9 z2 c0 c1 c2 c3 hC8 hC9 hD9 HMr HG8
      have d0 := hD3.c0
      have d1 := hD3.c1
      have d2 := hD3.fr 0
      have d3 := hD3.fr 1
      go_wp2_with fail
      have hC4 := (hC3.other (B' := w.heap.size + 1 + 1 + 1) (i := 0) (v := .bool n') (by omega)).other (B' := w.heap.size + 1 + 1 + 1) (i := 1) (v := .string s') (by omega)
      have hD4 := hD3.put (.bool n') (.string s')
      have HG4' : Hid (w.grownBy ((w9.setCell ⟨w.heap.size + 1 + 1 + 1, 0, none⟩ (.bool n')).setCell ⟨w.heap.size + 1 + 1 + 1, 1, none⟩ (.string s')) none) := grown_set (grown_set HG3'.out (by omega)) (by omega)
      clear hC3 hD3 d0 d1 d2 d3 HG3'
      generalize ((w9.setCell ⟨w.heap.size + 1 + 1 + 1, 0, none⟩ (.bool n')).setCell ⟨w.heap.size + 1 + 1 + 1, 1, none⟩ (.string s')) = w10 at *
      have c0 := hC4.c0
      have c1 := hC4.c1
      have c2 := hC4.fr 0
      have c3 := hC4.fr 1
      have d0 := hD4.c0
      have d1 := hD4.c1
      have d2 := hD4.fr 0
      have d3 := hD4.fr 1
      go_region
      all_goals go_wp2_with fail
      all_goals refine bodyPost_ret (res_cell2_tmp rfl _ _ (w.heap.size + 1 + 1) (w.heap.size + 1 + 1 + 1) _ _ _ _ _ _ _ _ rfl (((hC4.put _ _).other (by omega)).other (by omega)) rfl (((hD4.other (by omega)).other (by omega)).put _ _)) rfl ?_
      all_goals exact ⟨⟨n, s, n', s', rfl, HZ.out.1, HZ.out.2⟩, grow_drew (grown_set (grown_set (grown_set (grown_set HG4'.out (by omega)) (by omega)) (by omega)) (by omega))⟩
    · obtain ⟨hA2, hB2, _, _⟩ := blks4 HGX.out
      have x0 := hA2.c0
      have y0 := hB2.c0
      have hMq := madeP_any (true != n2) w5 vq Kq HQX.out.1 HQX.out.2.1 HQX.out.2.2.1
      rw [HQX.out.2.2.2] at hMq
      have HMq : Hid (Calls Tryz.prog 110 #[.bool (!n2), vq] w5 fun e w' => Made (true != n2) (val (bN m1) / val (bN m2)) e ∧ w5.grownBy w' none) := (by rw [bne_t] at hMq ⊢; exact hMq)
      clear hMq hA2 hB2
      go_wp2_with fail
      refine HMq.out.mono ?_
      rintro e w8 ⟨hM8, g8⟩
      obtain ⟨n, s, rfl, z1⟩ := made_fits (z := num true m1 / num n2 m2) hM8 (HE.out.2.2.1) (HE.out.1)
      have hG8 := grownBy_trans HGX.out g8
      obtain ⟨_, _, hC8, hD8⟩ := blks4 hG8
      have HZ1 : Hid (IsZ (num true m1 / num n2 m2) n s) := z1
      have hR8 := HRX.out.1.kept g8 (by cases (Value.slice ar 0 cr).ownBlock <;> simp)
      have hne : (Value.slice ar 0 cr).ownBlock = none ∨ (Value.slice ar 0 cr).ownBlock ≠ some (w.heap.size + 1 + 1) := by
        cases hob : (Value.slice ar 0 cr).ownBlock with
        | none => exact .inl rfl
        | some g =>
          right
          intro e
          have h1 := (hR8.lt hob).1
          have h2 : g = w.heap.size + 1 + 1 := Option.some.inj e
          omega
      have hR9 := (hR8.kept (grownBy_setCell _ _ _ _) hne : Row (w8.setCell ⟨w.heap.size + 1 + 1, 0, none⟩ (.bool n)) (w.heap.size + 4) (.slice ar 0 cr) Kr)
      have hR10 := (hR9.kept (grownBy_setCell _ _ _ _) hne : Row ((w8.setCell ⟨w.heap.size + 1 + 1, 0, none⟩ (.bool n)).setCell ⟨w.heap.size + 1 + 1, 1, none⟩ (.string s)) (w.heap.size + 4) (.slice ar 0 cr) Kr)
      have hMr := madeP_any false _ (.slice ar 0 cr) Kr hR10.d4 HRX.out.2.1 HRX.out.2.2.1
      rw [HRX.out.2.2.2] at hMr
      have HMr : Hid (Calls Tryz.prog 110 #[.bool false, (.slice ar 0 cr)] ((w8.setCell ⟨w.heap.size + 1 + 1, 0, none⟩ (.bool n)).setCell ⟨w.heap.size + 1 + 1, 1, none⟩ (.string s)) fun e w' => Made false (val (bN m1) % val (bN m2)) e ∧ ((w8.setCell ⟨w.heap.size + 1 + 1, 0, none⟩ (.bool n)).setCell ⟨w.heap.size + 1 + 1, 1, none⟩ (.string s)).grownBy w' none) := hMr
      have c0 := hC8.c0
      have c1 := hC8.c1
      have c2 := hC8.fr 0
      have c3 := hC8.fr 1
      have HG8 : Hid (w.grownBy ((w8.setCell ⟨w.heap.size + 1 + 1, 0, none⟩ (.bool n)).setCell ⟨w.heap.size + 1 + 1, 1, none⟩ (.string s)) none) := grown_set (grown_set (grownBy_trans (grow4 _ _ _ _ _) hG8) (by omega)) (by omega)
      have hC9 := hC8.put (.bool n) (.string s)
      have hD9 := (hD8.other (B' := w.heap.size + 1 + 1) (i := 0) (v := .bool n) (by omega)).other (B' := w.heap.size + 1 + 1) (i := 1) (v := .string s) (by omega)
      clear hM8 g8 z1 hG8 hR8 hR9 hR10 hMr x0 y0 HMq hne hD8
      go_wp2_with fail
      refine HMr.out.mono ?_
      rintro e w9 ⟨hM9, g9⟩
      obtain ⟨n', s', rfl, z2⟩ := made_fits (z := num true m1 % num n2 m2) hM9 (HE.out.2.2.2) (by rw [HE.out.2.1]; rfl)
      have HZ : Hid (IsZ (num true m1 / num n2 m2) n s ∧ IsZ (num true m1 % num n2 m2) n' s') := ⟨HZ1.out, z2⟩
      have hC3 := hC9.kept g9 (by simp)
      have hD3 := hD9.kept g9 (by simp)
      have HG3' : Hid (w.grownBy w9 none) := grownBy_trans HG8.out g9
      clear hM9 g9 z2 c0 c1 c2 c3 hC8 hC9 hD9 HMr HG8
      have d0 := hD3.c0
      have d1 := hD3.c1
      have d2 := hD3.fr 0
      have d3 := hD3.fr 1
      go_wp2_with fail
      have hC4 := (hC3.other (B' := w.heap.size + 1 + 1 + 1) (i := 0) (v := .bool n') (by omega)).other (B' := w.heap.size + 1 + 1 + 1) (i := 1) (v := .string s') (by omega)
      have hD4 := hD3.put (.bool n') (.string s')
      have HG4' : Hid (w.grownBy ((w9.setCell ⟨w.heap.size + 1 + 1 + 1, 0, none⟩ (.bool n')).setCell ⟨w.heap.size + 1 + 1 + 1, 1, none⟩ (.string s')) none) := grown_set (grown_set HG3'.out (by omega)) (by omega)
      clear hC3 hD3 d0 d1 d2 d3 HG3'
      generalize ((w9.setCell ⟨w.heap.size + 1 + 1 + 1, 0, none⟩ (.bool n')).setCell ⟨w.heap.size + 1 + 1 + 1, 1, none⟩ (.string s')) = w10 at *
      have c0 := hC4.c0
      have c1 := hC4.c1
      have c2 := hC4.fr 0
      have c3 := hC4.fr 1
      have d0 := hD4.c0
      have d1 := hD4.c1
      have d2 := hD4.fr 0
      have d3 := hD4.fr 1
      go_region
      all_goals go_wp2_with fail
      all_goals refine bodyPost_ret (res_cell2_tmp rfl _ _ (w.heap.size + 1 + 1) (w.heap.size + 1 + 1 + 1) _ _ _ _ _ _ _ _ rfl (((hC4.put _ _).other (by omega)).other (by omega)) rfl (((hD4.other (by omega)).other (by omega)).put _ _)) rfl ?_
      all_goals exact ⟨⟨n, s, n', s', rfl, HZ.out.1, HZ.out.2⟩, grow_drew (grown_set (grown_set (grown_set (grown_set HG4'.out (by omega)) (by omega)) (by omega)) (by omega))⟩
theorem div_yes (n1 n2 : Bool) (m1 m2 : ByteArray) (h1 : may n1 m1 = true) (h2 : may n2 m2 = true) (h0 : m2.size ≠ 0) (w : World) :
    Calls Tryz.prog 55 #[whole n1 m1, whole n2 m2] w fun e w' => DivR (num n1 m1) (num n2 m2) e ∧ w.grownBy w' none := by
  by_cases h7 : m1.size + m2.size ≤ 7
  · exact div_short n1 n2 m1 m2 h1 h2 h0 h7 w
  · exact div_long n1 n2 m1 m2 h1 h2 h0 h7 w
end Go.Proofs.YtdfliaogmlpefaaGreatDoor
