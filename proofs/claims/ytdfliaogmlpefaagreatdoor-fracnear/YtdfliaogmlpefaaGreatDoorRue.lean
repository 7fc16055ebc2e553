/-
  frac's functions of what has a value; the laws' same, cmp.
-/
import Derived.Test.YtdfliaogmlpefaaGreatDoorBunGar
import Derived.Test.YtdfliaogmlpefaaGreatDoorBunFrq
namespace Go.Proofs.YtdfliaogmlpefaaGreatDoor
open Go.RowKit Go.Lib Go.Sort
set_option linter.unusedVariables false
set_option maxHeartbeats 1600000
set_option maxRecDepth 1000000
theorem fsign_by (n d : Bool) (s t : ByteArray) (c : Int)
    (HM : Hid (∀ w, Calls Tryz.prog 40 #[frac n s d t] w fun e w' => e = .returned (.bool true) ∧ w.grownBy w' none))
    (HS : Hid (∀ w, Calls Tryz.prog 64 #[whole n s] w fun e w' => e = .returned (.int .i64 c) ∧ w.grownBy w' none)) (w : World) :
    Calls Tryz.prog 22 #[frac n s d t] w fun e w' => e = .returned (.int .i64 c) ∧ w.grownBy w' none := by
  go_enter Tryz.func22, Tryz.ntmps22
  go_wp2_with fail
  refine (HM.out _).mono ?_
  rintro e w1 ⟨rfl, g1⟩
  have hQ : QBlk w1 w.heap.size (.bool n) (.string s) (.bool d) (.string t) := QBlk.kept (w := w.alloc (qObj n s d t)) (heap_alloc_new _ _) g1 (by simp)
  have HG : Hid (w.grownBy w1 none) := grownBy_trans (grow1 _ _) g1
  have c0 := hQ.c0
  have c1 := hQ.c1
  clear g1 hQ
  go_wp2_with fail
  refine (HS.out _).mono ?_
  rintro e w2 ⟨rfl, g2⟩
  have HG2 : Hid (w.grownBy w2 none) := grownBy_trans HG.out g2
  clear g2 c0 c1
  go_wp2_with fail
  go_ret
  exact ⟨rfl, HG2.out⟩
theorem fsign_any {x y : Int} {n d : Bool} {s t : ByteArray} (h : IsQ x y n s d t) (w : World) :
    Calls Tryz.prog 22 #[frac n s d t] w fun e w' => e = .returned (.int .i64 (sgn n s)) ∧ w.grownBy w' none :=
  fsign_by n d s t _ (fun w => h.call w) (fun w => sign_yes n s (by have := may_size (h.zn.may (by decide)); unfold maxLen; omega) (h.zn.may (by decide)) w) w
theorem lcmp_by (n d n2 d2 : Bool) (s t s2 t2 : ByteArray) (c er : Int)
    (HC : Hid (∀ w, Calls Tryz.prog 73 #[frac n s d t, frac n2 s2 d2 t2] w fun e w' => e = .returned (.tuple #[.int .i64 c, .int .i64 er]) ∧ w.grownBy w' none)) (w : World) :
    Calls Tryz.prog 43 #[frac n s d t, frac n2 s2 d2 t2] w fun e w' => e = .returned (.int .i64 c) ∧ w.grownBy w' none := by
  go_enter Tryz.func43, Tryz.ntmps43
  go_wp2_with fail
  refine (HC.out _).mono ?_
  rintro e w1 ⟨rfl, g1⟩
  have HG : Hid (w.grownBy w1 none) := grownBy_trans (grow2 _ _ _) g1
  clear g1
  go_wp2_with fail
  go_ret
  exact ⟨rfl, HG.out⟩
theorem pow_up {k l z : Nat} (h : z < 256 ^ k) (hl : k ≤ l) : z < 256 ^ l := Nat.lt_of_lt_of_le h (Nat.pow_le_pow_right (by decide) hl)
theorem sz_of {k l : Nat} {x : Int} {n : Bool} {s : ByteArray} (hz : IsZ x n s) (h : x.natAbs < 256 ^ k) (hl : k ≤ l) : Sz l x n s := ⟨hz, pow_up h hl⟩
theorem low_v {k : Nat} (hk : k ≤ 1024) {x y : Int} (hy : y ≠ 0) (hx : x.natAbs < 256 ^ k) (hyk : y.natAbs < 256 ^ k) :
    ∃ N D n s d t, IsQ N D n s d t ∧ N.natAbs < 256 ^ k ∧ D.natAbs < 256 ^ k ∧ N * y = x * D := by
  obtain ⟨n, s, d, t, L⟩ := low_ex x y
  have b1 := Nat.lt_of_le_of_lt (rn_abs x y) hx
  have b2 := Nat.lt_of_le_of_lt (rd_abs x y) hyk
  exact ⟨rn x y, rd x y, n, s, d, t, ⟨sz_of L.zn b1 hk, sz_of L.zd b2 hk, rd_pos hy, rnd_gcd hy⟩, b1, b2, rn_cross x y⟩
theorem told_fit {N D : Int} {n d : Bool} {s t : ByteArray} (h : IsQ N D n s d t) : toldV n s d t = frac n s d t ∧ toldE s t = 0 := by
  have hm := h.may
  have hf : fitsB s t = true := by
    unfold mayQ at hm
    unfold fitsB
    exact (Bool.and_eq_true_iff.1 hm).1
  unfold toldV toldE
  rw [hf]
  exact ⟨rfl, rfl⟩
theorem low_to {x y N D : Int} {n d : Bool} {s t : ByteArray} (hy : y ≠ 0) (h : IsQ N D n s d t) (e : N * y = x * D) : Low x y n s d t := by
  obtain ⟨e1, e2⟩ := rnd_one hy h.pos h.low e
  exact ⟨e1 ▸ h.zn.1, e2 ▸ h.zd.1⟩
theorem sgn_cmp {n : Bool} {s : ByteArray} (h : may n s = true) : sgn n s = cmpZ (num n s) 0 := by
  unfold cmpZ
  rcases sgn_cases h with ⟨a, _, c, _⟩ | ⟨a, _, c, _⟩ | ⟨a, _, c, _⟩
  · rw [if_neg (by omega), if_pos (by omega), a]
  · rw [if_neg (by omega), if_neg (by omega), a]
  · rw [if_pos (by omega), a]
theorem dq_three {W : World} {B : Nat} {n d n2 d2 n3 d3 : Bool} {s t s2 t2 s3 t3 : ByteArray} (hB : W.heap[B]? = some (.cells #[.bool n, .string s, .bool d, .string t, .bool n2, .string s2, .bool d2, .string t2, .bool n3, .string s3, .bool d3, .string t3] 25 (0, 0))) :
    DQ W (.slice (some ⟨B, 0, none⟩) 3 3) [(n, s, d, t), (n2, s2, d2, t2), (n3, s3, d3, t3)] := by
  refine ⟨B, 0, 3, rfl, by simp, fun j p hp => ?_⟩
  simp only [World.cell?, hB]
  match j, hp with
  | 0, hp => obtain rfl := Option.some.inj hp; exact ⟨rfl, rfl, rfl, rfl⟩
  | 1, hp => obtain rfl := Option.some.inj hp; exact ⟨rfl, rfl, rfl, rfl⟩
  | 2, hp => obtain rfl := Option.some.inj hp; exact ⟨rfl, rfl, rfl, rfl⟩
end Go.Proofs.YtdfliaogmlpefaaGreatDoor
