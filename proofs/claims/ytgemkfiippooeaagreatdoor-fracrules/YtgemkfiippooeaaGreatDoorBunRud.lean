/-
  Rules of fractions, over Int, by their values.
  frac's functions of what has a value; the laws' same, cmp.
  FracRules of any three.
-/
import Derived.Test.YtgemkfiippooeaaGreatDoorBunGar
import Derived.Test.YtgemkfiippooeaaGreatDoorBunFrp
import Derived.Test.YtgemkfiippooeaaGreatDoorBunRua
import Derived.Test.YtgemkfiippooeaaGreatDoorBunFrz
import Derived.Test.YtgemkfiippooeaaGreatDoorFrv
namespace Go.Proofs.YtgemkfiippooeaaGreatDoor
set_option linter.unusedVariables false

theorem ratCancel {x y z : Rat} (hz : z ≠ 0) (h : x * z = y * z) : x = y := by
  have e := congrArg (· * z⁻¹) h
  simp only [Rat.mul_assoc, Rat.mul_inv_cancel z hz, Rat.mul_one] at e
  exact e
theorem ratVal (a : Int) {b : Int} (hb : 0 < b) : ∃ q : Rat, (a : Rat) = q * (b : Rat) ∧ (b : Rat) ≠ 0 := by
  have hb' : (b : Rat) ≠ 0 := fun e => by
    have : b = 0 := Rat.intCast_inj.1 (by rw [e]; rfl)
    omega
  exact ⟨(a : Rat) * (b : Rat)⁻¹, by rw [Rat.mul_assoc, Rat.inv_mul_cancel _ hb', Rat.mul_one], hb'⟩
theorem ratNe {b : Int} (hb : b ≠ 0) : (b : Rat) ≠ 0 := fun e => hb (Rat.intCast_inj.1 (by rw [e]; rfl))

theorem vSum {a b c d N D : Int} {p q : Rat} (ha : (a : Rat) = p * b) (hc : (c : Rat) = q * d) (hb : (b : Rat) ≠ 0) (hd : (d : Rat) ≠ 0) (e : N * (b * d) = (a * d + c * b) * D) : (N : Rat) = (p + q) * D := by
  have e' : ((N * (b * d) : Int) : Rat) = (((a * d + c * b) * D : Int) : Rat) := by rw [e]
  simp only [Rat.intCast_mul, Rat.intCast_add] at e'
  rw [ha, hc] at e'
  have hbd : (b : Rat) * (d : Rat) ≠ 0 := fun h => (Rat.mul_eq_zero.1 h).elim hb hd
  exact ratCancel hbd (by grind)
theorem vMul {a b c d N D : Int} {p q : Rat} (ha : (a : Rat) = p * b) (hc : (c : Rat) = q * d) (hb : (b : Rat) ≠ 0) (hd : (d : Rat) ≠ 0) (e : N * (b * d) = (a * c) * D) : (N : Rat) = (p * q) * D := by
  have e' : ((N * (b * d) : Int) : Rat) = ((a * c * D : Int) : Rat) := by rw [e]
  simp only [Rat.intCast_mul] at e'
  rw [ha, hc] at e'
  have hbd : (b : Rat) * (d : Rat) ≠ 0 := fun h => (Rat.mul_eq_zero.1 h).elim hb hd
  exact ratCancel hbd (by grind)

/-- A sum that has a value is the sum of what has the values. -/
theorem cSum {a b c d N D : Int} {p q : Rat} (ha : (a : Rat) = p * b) (hc : (c : Rat) = q * d) (hN : (N : Rat) = (p + q) * D) : N * (b * d) = (a * d + c * b) * D := by
  apply Rat.intCast_inj.1
  simp only [Rat.intCast_mul, Rat.intCast_add]
  rw [ha, hc, hN]
  grind
theorem cSub {a b c d N D : Int} {p q : Rat} (ha : (a : Rat) = p * b) (hc : (c : Rat) = q * d) (hN : (N : Rat) = (p - q) * D) : N * (b * d) = (a * d - c * b) * D := by
  apply Rat.intCast_inj.1
  simp only [Rat.intCast_mul, Rat.intCast_sub]
  rw [ha, hc, hN]
  grind
theorem cMul {a b c d N D : Int} {p q : Rat} (ha : (a : Rat) = p * b) (hc : (c : Rat) = q * d) (hN : (N : Rat) = (p * q) * D) : N * (b * d) = (a * c) * D := by
  apply Rat.intCast_inj.1
  simp only [Rat.intCast_mul]
  rw [ha, hc, hN]
  grind
/-- N over D times what p has is what q has. -/
theorem cDiv {a b c d N D : Int} {p q r : Rat} (ha : (a : Rat) = p * b) (hc : (c : Rat) = q * d) (hN : (N : Rat) = r * D) (hr : r * q = p) : N * (b * c) = (a * d) * D := by
  apply Rat.intCast_inj.1
  simp only [Rat.intCast_mul]
  rw [ha, hc, hN, ← hr]
  grind
/-- Both have one sign. -/
theorem sameSign {p q r s : Int} (hq : 0 < q) (hs : 0 < s) (h : p * q = r * s) : (p < 0 ↔ r < 0) ∧ (p = 0 ↔ r = 0) := by
  have key : ∀ {p q r s : Int}, 0 < q → 0 < s → p * q = r * s → p < 0 → r < 0 := fun {p q r s} hq hs h hp => by
    have h1 : p * q < 0 := Int.mul_neg_of_neg_of_pos hp hq
    rw [h] at h1
    exact Int.lt_of_not_ge fun hr => absurd (Int.mul_nonneg hr (Int.le_of_lt hs)) (by omega)
  have kez : ∀ {p q r s : Int}, 0 < s → p * q = r * s → p = 0 → r = 0 := fun {p q r s} hs h hp => by
    rw [hp, Int.zero_mul] at h
    rcases Int.mul_eq_zero.1 h.symm with h | h
    · exact h
    · omega
  exact ⟨⟨key hq hs h, key hs hq h.symm⟩, ⟨kez hs h, kez hq h.symm⟩⟩
/-- Differences that have one value, but for what is above 0. -/
theorem signDiff {a b c d a' b' c' d' : Int} {p q p' q' : Rat} (hb : 0 < b) (hd : 0 < d) (hb' : 0 < b') (hd' : 0 < d') (ha : (a : Rat) = p * b) (hc : (c : Rat) = q * d) (ha' : (a' : Rat) = p' * b') (hc' : (c' : Rat) = q' * d') (e : p - q = p' - q') :
    (a * d - c * b < 0 ↔ a' * d' - c' * b' < 0) ∧ (a * d - c * b = 0 ↔ a' * d' - c' * b' = 0) := by
  refine sameSign (Int.mul_pos hb' hd') (Int.mul_pos hb hd) ?_
  apply Rat.intCast_inj.1
  simp only [Rat.intCast_mul, Rat.intCast_sub]
  rw [ha, hc, ha', hc']
  have : p = p' - q' + q := by grind
  rw [this]
  grind
end Go.Proofs.YtgemkfiippooeaaGreatDoor

namespace Go.Proofs.YtgemkfiippooeaaGreatDoor
open Go.RowKit Go.Lib Go.Sort
set_option linter.unusedVariables false

set_option maxHeartbeats 1600000 in
set_option maxRecDepth 1000000 in
theorem fsign_by (n d : Bool) (s t : ByteArray) (c : Int)
    (HM : Hid (∀ w, Calls Tryz.prog 15 #[frac n s d t] w fun e w' => e = .returned (.bool true) ∧ w.grownBy w' none))
    (HS : Hid (∀ w, Calls Tryz.prog 58 #[whole n s] w fun e w' => e = .returned (.int .i64 c) ∧ w.grownBy w' none)) (w : World) :
    Calls Tryz.prog 32 #[frac n s d t] w fun e w' => e = .returned (.int .i64 c) ∧ w.grownBy w' none := by
  go_enter Tryz.func32, Tryz.ntmps32
  go_wp2_with fail
  refine (HM.out _).mono ?_
  rintro e w1 ⟨rfl, g1⟩
  have hQ : QBlk w1 w.heap.size (.bool n) (.string s) (.bool d) (.string t) := QBlk.kept (w := w.alloc (qObj n s d t)) (heap_alloc_new _ _) g1 (by simp)
  have HG : Hid (w.grownBy w1 none) := grownBy_trans (grow1 _ _) g1
  have c0 := hQ.c0
  have c1 := hQ.c1
  clear g1 hQ
  go_wp2_with fail
  refine (HS.out _).mono ?_
  rintro e w2 ⟨rfl, g2⟩
  have HG2 : Hid (w.grownBy w2 none) := grownBy_trans HG.out g2
  clear g2 c0 c1
  go_wp2_with fail
  go_ret
  exact ⟨rfl, HG2.out⟩
theorem fsign_any {x y : Int} {n d : Bool} {s t : ByteArray} (h : IsQ x y n s d t) (w : World) :
    Calls Tryz.prog 32 #[frac n s d t] w fun e w' => e = .returned (.int .i64 (sgn n s)) ∧ w.grownBy w' none :=
  fsign_by n d s t _ (fun w => h.call w) (fun w => sign_yes n s (by have := may_size (h.zn.may (by decide)); unfold maxLen; omega) (h.zn.may (by decide)) w) w
set_option maxHeartbeats 1600000 in
set_option maxRecDepth 1000000 in
theorem same_any (n d : Bool) (s t : ByteArray) (w : World) :
    Calls Tryz.prog 42 #[frac n s d t, .int .i64 0, frac n s d t, .int .i64 0] w fun e w' => e = .returned (.bool true) ∧ w.grownBy w' none := by
  go_enter Tryz.func42, Tryz.ntmps42
  go_wp2_with fail
  go_ret
  exact ⟨rfl, grow2 _ _ _⟩
set_option maxHeartbeats 1600000 in
set_option maxRecDepth 1000000 in
theorem lcmp_by (n d n2 d2 : Bool) (s t s2 t2 : ByteArray) (c er : Int)
    (HC : Hid (∀ w, Calls Tryz.prog 14 #[frac n s d t, frac n2 s2 d2 t2] w fun e w' => e = .returned (.tuple #[.int .i64 c, .int .i64 er]) ∧ w.grownBy w' none)) (w : World) :
    Calls Tryz.prog 43 #[frac n s d t, frac n2 s2 d2 t2] w fun e w' => e = .returned (.int .i64 c) ∧ w.grownBy w' none := by
  go_enter Tryz.func43, Tryz.ntmps43
  go_wp2_with fail
  refine (HC.out _).mono ?_
  rintro e w1 ⟨rfl, g1⟩
  have HG : Hid (w.grownBy w1 none) := grownBy_trans (grow2 _ _ _) g1
  clear g1
  go_wp2_with fail
  go_ret
  exact ⟨rfl, HG.out⟩

/-- A fraction that may be, its value, and how long its numbers are. -/
structure IsV (k : Nat) (q : Rat) (N D : Int) (n : Bool) (s : ByteArray) (d : Bool) (t : ByteArray) : Prop where
  isq : IsQ N D n s d t
  bn : N.natAbs < 256 ^ k
  bd : D.natAbs < 256 ^ k
  v : (N : Rat) = q * (D : Rat)
theorem IsV.ne {k : Nat} {q : Rat} {N D : Int} {n d : Bool} {s t : ByteArray} (h : IsV k q N D n s d t) : (D : Rat) ≠ 0 := ratNe (Int.ne_of_gt h.isq.pos)
theorem pow_up {k l z : Nat} (h : z < 256 ^ k) (hl : k ≤ l) : z < 256 ^ l := Nat.lt_of_lt_of_le h (Nat.pow_le_pow_right (by decide) hl)
theorem sz_of {k l : Nat} {x : Int} {n : Bool} {s : ByteArray} (hz : IsZ x n s) (h : x.natAbs < 256 ^ k) (hl : k ≤ l) : Sz l x n s := ⟨hz, pow_up h hl⟩
theorem low_v {k : Nat} (hk : k ≤ 1024) {x y : Int} (hy : y ≠ 0) (hx : x.natAbs < 256 ^ k) (hyk : y.natAbs < 256 ^ k) :
    ∃ N D n s d t, IsQ N D n s d t ∧ N.natAbs < 256 ^ k ∧ D.natAbs < 256 ^ k ∧ N * y = x * D := by
  obtain ⟨n, s, d, t, L⟩ := low_ex x y
  have b1 := Nat.lt_of_le_of_lt (rn_abs x y) hx
  have b2 := Nat.lt_of_le_of_lt (rd_abs x y) hyk
  exact ⟨rn x y, rd x y, n, s, d, t, ⟨sz_of L.zn b1 hk, sz_of L.zd b2 hk, rd_pos hy, rnd_gcd hy⟩, b1, b2, rn_cross x y⟩
theorem sum_ex {k l : Nat} {p q : Rat} {a b c e : Int} {n1 d1 n2 d2 : Bool} {s1 t1 s2 t2 : ByteArray} (hk : k + l + 1 ≤ 1024) (h1 : IsV k p a b n1 s1 d1 t1) (h2 : IsV l q c e n2 s2 d2 t2) :
    ∃ N D n s d t, IsV (k + l + 1) (p + q) N D n s d t := by
  have k1 := mul_lt256 h1.bn h2.bd
  have k2 := mul_lt256 h2.bn h1.bd
  rw [Nat.add_comm l k] at k2
  have k3 := pow_up (mul_lt256 h1.bd h2.bd) (Nat.le_succ _)
  obtain ⟨N, D, n, s, d, t, hq, b1, b2, e⟩ := low_v hk (mul_ne h1.isq.pos h2.isq.pos) (sum_lt k1 k2).1 k3
  exact ⟨N, D, n, s, d, t, hq, b1, b2, vSum h1.v h2.v h1.ne h2.ne e⟩
theorem mul_ex {k l : Nat} {p q : Rat} {a b c e : Int} {n1 d1 n2 d2 : Bool} {s1 t1 s2 t2 : ByteArray} (hk : k + l ≤ 1024) (h1 : IsV k p a b n1 s1 d1 t1) (h2 : IsV l q c e n2 s2 d2 t2) :
    ∃ N D n s d t, IsV (k + l) (p * q) N D n s d t := by
  obtain ⟨N, D, n, s, d, t, hq, b1, b2, e⟩ := low_v hk (mul_ne h1.isq.pos h2.isq.pos) (mul_lt256 h1.bn h2.bn) (mul_lt256 h1.bd h2.bd)
  exact ⟨N, D, n, s, d, t, hq, b1, b2, vMul h1.v h2.v h1.ne h2.ne e⟩
theorem told_fit {N D : Int} {n d : Bool} {s t : ByteArray} (h : IsQ N D n s d t) : toldV n s d t = frac n s d t ∧ toldE s t = 0 := by
  have hm := h.may
  have hf : fitsB s t = true := by
    unfold mayQ at hm
    unfold fitsB
    exact (Bool.and_eq_true_iff.1 hm).1
  unfold toldV toldE
  rw [hf]
  exact ⟨rfl, rfl⟩
theorem low_to {x y N D : Int} {n d : Bool} {s t : ByteArray} (hy : y ≠ 0) (h : IsQ N D n s d t) (e : N * y = x * D) : Low x y n s d t := by
  obtain ⟨e1, e2⟩ := rnd_one hy h.pos h.low e
  exact ⟨e1 ▸ h.zn.1, e2 ▸ h.zd.1⟩

theorem addV {k l m : Nat} {p q r : Rat} {a b c e N D : Int} {n1 d1 n2 d2 n d : Bool} {s1 t1 s2 t2 s t : ByteArray} (h1 : IsV k p a b n1 s1 d1 t1) (h2 : IsV l q c e n2 s2 d2 t2) (h3 : IsV m r N D n s d t) (hr : r = p + q) (w : World) :
    Calls Tryz.prog 10 #[frac n1 s1 d1 t1, frac n2 s2 d2 t2] w fun e w' => e = .returned (.tuple #[frac n s d t, .int .i64 0]) ∧ w.grownBy w' none := by
  have := fadd_any h1.isq h2.isq (low_to (mul_ne h1.isq.pos h2.isq.pos) h3.isq (cSum h1.v h2.v (hr ▸ h3.v))) w
  rw [(told_fit h3.isq).1, (told_fit h3.isq).2] at this
  exact this
theorem subV {k l m : Nat} {p q r : Rat} {a b c e N D : Int} {n1 d1 n2 d2 n d : Bool} {s1 t1 s2 t2 s t : ByteArray} (h1 : IsV k p a b n1 s1 d1 t1) (h2 : IsV l q c e n2 s2 d2 t2) (h3 : IsV m r N D n s d t) (hr : r = p - q) (w : World) :
    Calls Tryz.prog 11 #[frac n1 s1 d1 t1, frac n2 s2 d2 t2] w fun e w' => e = .returned (.tuple #[frac n s d t, .int .i64 0]) ∧ w.grownBy w' none := by
  have := fsub_any h1.isq h2.isq (low_to (mul_ne h1.isq.pos h2.isq.pos) h3.isq (cSub h1.v h2.v (hr ▸ h3.v))) w
  rw [(told_fit h3.isq).1, (told_fit h3.isq).2] at this
  exact this
theorem mulV {k l m : Nat} {p q r : Rat} {a b c e N D : Int} {n1 d1 n2 d2 n d : Bool} {s1 t1 s2 t2 s t : ByteArray} (h1 : IsV k p a b n1 s1 d1 t1) (h2 : IsV l q c e n2 s2 d2 t2) (h3 : IsV m r N D n s d t) (hr : r = p * q) (w : World) :
    Calls Tryz.prog 12 #[frac n1 s1 d1 t1, frac n2 s2 d2 t2] w fun e w' => e = .returned (.tuple #[frac n s d t, .int .i64 0]) ∧ w.grownBy w' none := by
  have := fmul_any h1.isq h2.isq (low_to (mul_ne h1.isq.pos h2.isq.pos) h3.isq (cMul h1.v h2.v (hr ▸ h3.v))) w
  rw [(told_fit h3.isq).1, (told_fit h3.isq).2] at this
  exact this
theorem divV {k l m : Nat} {p q r : Rat} {a b c e N D : Int} {n1 d1 n2 d2 n d : Bool} {s1 t1 s2 t2 s t : ByteArray} (h1 : IsV k p a b n1 s1 d1 t1) (h2 : IsV l q c e n2 s2 d2 t2) (h3 : IsV m r N D n s d t) (hc : c ≠ 0) (hr : r * q = p) (w : World) :
    Calls Tryz.prog 13 #[frac n1 s1 d1 t1, frac n2 s2 d2 t2] w fun e w' => e = .returned (.tuple #[frac n s d t, .int .i64 0]) ∧ w.grownBy w' none := by
  have hne : b * c ≠ 0 := Int.mul_ne_zero (Int.ne_of_gt h1.isq.pos) hc
  have := fdiv_any h1.isq h2.isq hc (low_to hne h3.isq (cDiv h1.v h2.v h3.v hr)) w
  rw [(told_fit h3.isq).1, (told_fit h3.isq).2] at this
  exact this
theorem cmpZ_eq {x y u v : Int} (h : (x - y < 0 ↔ u - v < 0) ∧ (x - y = 0 ↔ u - v = 0)) : cmpZ x y = cmpZ u v := by
  obtain ⟨h1, h2⟩ := h
  unfold cmpZ
  have e1 : (x < y) = (u < v) := propext (by omega)
  have e2 : (x = y) = (u = v) := propext (by omega)
  simp only [e1, e2]
theorem cmpZ_neg (x y : Int) : cmpZ x y = -cmpZ y x ∧ -1 ≤ cmpZ y x ∧ cmpZ y x ≤ 1 := by
  unfold cmpZ
  by_cases a : x < y
  · rw [if_pos a, if_neg (by omega), if_neg (by omega)]; decide
  · rw [if_neg a]
    by_cases b : x = y
    · rw [if_pos b, if_neg (by omega), if_pos b.symm]; decide
    · rw [if_neg b, if_pos (by omega)]; decide
theorem sgn_cmp {n : Bool} {s : ByteArray} (h : may n s = true) : sgn n s = cmpZ (num n s) 0 := by
  unfold cmpZ
  rcases sgn_cases h with ⟨a, _, c, _⟩ | ⟨a, _, c, _⟩ | ⟨a, _, c, _⟩
  · rw [if_neg (by omega), if_pos (by omega), a]
  · rw [if_neg (by omega), if_neg (by omega), a]
  · rw [if_pos (by omega), a]
theorem dq_three {W : World} {B : Nat} {n d n2 d2 n3 d3 : Bool} {s t s2 t2 s3 t3 : ByteArray} (hB : W.heap[B]? = some (.cells #[.bool n, .string s, .bool d, .string t, .bool n2, .string s2, .bool d2, .string t2, .bool n3, .string s3, .bool d3, .string t3] 25 (0, 0))) :
    DQ W (.slice (some ⟨B, 0, none⟩) 3 3) [(n, s, d, t), (n2, s2, d2, t2), (n3, s3, d3, t3)] := by
  refine ⟨B, 0, 3, rfl, by simp, fun j p hp => ?_⟩
  simp only [World.cell?, hB]
  match j, hp with
  | 0, hp => obtain rfl := Option.some.inj hp; exact ⟨rfl, rfl, rfl, rfl⟩
  | 1, hp => obtain rfl := Option.some.inj hp; exact ⟨rfl, rfl, rfl, rfl⟩
  | 2, hp => obtain rfl := Option.some.inj hp; exact ⟨rfl, rfl, rfl, rfl⟩
end Go.Proofs.YtgemkfiippooeaaGreatDoor

namespace Go.Proofs.YtgemkfiippooeaaGreatDoor
open Go.RowKit Go.Lib Go.Sort
set_option linter.unusedVariables false

theorem maf_is {n d b : Bool} {s t : ByteArray} (z1 : s.size ≤ maxLen) (z2 : t.size ≤ maxLen) (h : mayQ n s d t = b) (w : World) :
    Calls Tryz.prog 15 #[frac n s d t] w fun e w' => e = .returned (.bool b) ∧ w.grownBy w' none := by
  have := mayq_any n d s t z1 z2 w
  rw [h] at this
  exact this
theorem val_of {n d : Bool} {s t : ByteArray} (h : mayQ n s d t = true) (l1 : s.size ≤ 150) (l2 : t.size ≤ 150) : ∃ q, IsV 150 q (num n s) (num d t) n s d t := by
  have hq := mayQ_is h
  obtain ⟨q, hv, _⟩ := ratVal (num n s) hq.pos
  exact ⟨q, hq, (may_sz (hq.zn.may (by decide)) l1).2, (may_sz (hq.zd.may (by decide)) l2).2, hv⟩
set_option maxHeartbeats 1600000 in
theorem rules_good (n1 d1 n2 d2 n3 d3 : Bool) (s1 t1 s2 t2 s3 t3 : ByteArray) (w : World) (qx qy qz : Rat) (a b c d ez f : Int)
    (hX : IsV 150 qx a b n1 s1 d1 t1) (hY : IsV 150 qy c d n2 s2 d2 t2) (hZ : IsV 150 qz ez f n3 s3 d3 t3)
    (HL : Hid (∀ (W : World) (B : Nat), W.heap[B]? = some (.cells #[.bool n1, .string s1, .bool d1, .string t1, .bool n2, .string s2, .bool d2, .string t2, .bool n3, .string s3, .bool d3, .string t3] 25 (0, 0)) → Calls Tryz.prog 7 #[.int .i64 150, .slice (some ⟨B, 0, none⟩) 3 3] W fun e w' => e = .returned (.bool false) ∧ W.grownBy w' none))
    (HK : Hid (∀ W, w.grownBy W none → Calls Tryz.prog 8 #[] W fun e w' => e = .returned (.bool true) ∧ W.grownBy w' none)) :
    Calls Tryz.prog 6 #[frac n1 s1 d1 t1, frac n2 s2 d2 t2, frac n3 s3 d3 t3] w fun e w' => e = .returned (.bool true) ∧ w.grownBy w' none := by
  obtain ⟨NA, DA, na, sa, da, ta, hA⟩ := sum_ex (by decide) hX hY
  obtain ⟨NB, DB, nb, sb, db, tb, hB⟩ := sum_ex (by decide) hY hZ
  obtain ⟨NC, DC, nc, sc, dc, tc, hC⟩ := sum_ex (by decide) hA hZ
  obtain ⟨NP, DP, np, sp, dp, tp, hP⟩ := mul_ex (by decide) hX hY
  obtain ⟨NQ, DQ', nq, sq, dq, tq, hQ⟩ := mul_ex (by decide) hX hZ
  obtain ⟨NR, DR, nr, sr, dr, tr, hR⟩ := mul_ex (by decide) hX hB
  have gx : cmpZ (NC * DB) (NB * DC) = sgn n1 s1 := by
    have hm := hX.isq.zn.may (by decide)
    rw [sgn_cmp hm, hX.isq.zn.num]
    have key := signDiff hC.isq.pos hB.isq.pos hX.isq.pos (show (0 : Int) < 1 by decide) hC.v hB.v hX.v (show ((0 : Int) : Rat) = 0 * ((1 : Int) : Rat) by rw [Rat.zero_mul]; rfl) (by grind)
    have := cmpZ_eq key
    rw [Int.mul_one, Int.zero_mul] at this
    exact this
  have gz : cmpZ (NA * DB) (NB * DA) = cmpZ (a * f) (ez * b) := cmpZ_eq (signDiff hA.isq.pos hB.isq.pos hX.isq.pos hZ.isq.pos hA.v hB.v hX.v hZ.v (by grind))
  obtain ⟨gm, m0, m1⟩ := cmpZ_neg (a * d) (c * b)
  have H13 : ∀ w, Calls Tryz.prog 14 #[frac n1 s1 d1 t1, frac n2 s2 d2 t2] w fun e w' => e = .returned (.tuple #[.int .i64 (-cmpZ (c * b) (a * d)), .int .i64 0]) ∧ w.grownBy w' none := fun w => by
    have := fcmp_any hX.isq hY.isq w
    rw [gm] at this
    exact this
  have H14 : ∀ w, Calls Tryz.prog 14 #[frac nc sc dc tc, frac nb sb db tb] w fun e w' => e = .returned (.tuple #[.int .i64 (sgn n1 s1), .int .i64 0]) ∧ w.grownBy w' none := fun w => by
    have := fcmp_any hC.isq hB.isq w
    rw [gx] at this
    exact this
  have H15 : ∀ w, Calls Tryz.prog 14 #[frac na sa da ta, frac nb sb db tb] w fun e w' => e = .returned (.tuple #[.int .i64 (cmpZ (a * f) (ez * b)), .int .i64 0]) ∧ w.grownBy w' none := fun w => by
    have := fcmp_any hA.isq hB.isq w
    rw [gz] at this
    exact this
  by_cases hc : c = 0
  · have hs0 : sgn n2 s2 = 0 := by
      rw [sgn_cmp (hY.isq.zn.may (by decide)), hY.isq.zn.num, hc]
      rfl
    have H11 : ∀ w, Calls Tryz.prog 32 #[frac n2 s2 d2 t2] w fun e w' => e = .returned (.int .i64 0) ∧ w.grownBy w' none := fun w => by
      have := fsign_any hY.isq w
      rw [hs0] at this
      exact this
    exact rules_zero n1 d1 n2 d2 n3 d3 na da nb db nc dc np dp nq dq nr dr s1 t1 s2 t2 s3 t3 sa ta sb tb sc tc sp tp sq tq sr tr (sgn n1 s1) (cmpZ (c * b) (a * d)) (cmpZ (a * f) (ez * b)) m0 m1 w HL (fun w => hX.isq.call w) (fun w => hY.isq.call w) (fun w => hZ.isq.call w)
      (fun w => addV hX hY hA rfl w) (fun w => addV hY hX hA (by grind) w) (fun w => addV hY hZ hB rfl w) (fun w => addV hA hZ hC rfl w) (fun w => addV hX hB hC (by grind) w) (fun w => mulV hX hY hP rfl w) (fun w => mulV hX hZ hQ rfl w) (fun w => mulV hX hB hR rfl w) (fun w => addV hP hQ hR (by grind) w) (fun w => same_any nr dr sr tr w) (fun w => subV hA hY hX (by grind) w) H11 H13 H14 H15 (fun w => fsign_any hX.isq w) (fun w => lcmp_by _ _ _ _ _ _ _ _ _ _ (fun w => fcmp_any hX.isq hZ.isq w) w) (fun w => lcmp_by _ _ _ _ _ _ _ _ _ _ (fun w => fcmp_any hY.isq hX.isq w) w) HK
  · have hs0 : ¬ sgn n2 s2 = 0 := sgn_ne (hY.isq.zn.may (by decide)) (by rw [hY.isq.zn.num]; exact hc)
    exact rules_yes n1 d1 n2 d2 n3 d3 na da nb db nc dc np dp nq dq nr dr s1 t1 s2 t2 s3 t3 sa ta sb tb sc tc sp tp sq tq sr tr (sgn n1 s1) (sgn n2 s2) (cmpZ (c * b) (a * d)) (cmpZ (a * f) (ez * b)) hs0 m0 m1 w HL (fun w => hX.isq.call w) (fun w => hY.isq.call w) (fun w => hZ.isq.call w)
      (fun w => addV hX hY hA rfl w) (fun w => addV hY hX hA (by grind) w) (fun w => addV hY hZ hB rfl w) (fun w => addV hA hZ hC rfl w) (fun w => addV hX hB hC (by grind) w) (fun w => mulV hX hY hP rfl w) (fun w => mulV hX hZ hQ rfl w) (fun w => mulV hX hB hR rfl w) (fun w => addV hP hQ hR (by grind) w) (fun w => same_any nr dr sr tr w) (fun w => subV hA hY hX (by grind) w) (fun w => fsign_any hY.isq w) (fun w => divV hP hY hX hc (by grind) w) H13 H14 H15 (fun w => fsign_any hX.isq w) (fun w => lcmp_by _ _ _ _ _ _ _ _ _ _ (fun w => fcmp_any hX.isq hZ.isq w) w) (fun w => lcmp_by _ _ _ _ _ _ _ _ _ _ (fun w => fcmp_any hY.isq hX.isq w) w) HK
theorem rules_any (n1 d1 n2 d2 n3 d3 : Bool) (s1 t1 s2 t2 s3 t3 : ByteArray) (z1 : s1.size ≤ maxLen) (z2 : t1.size ≤ maxLen) (z3 : s2.size ≤ maxLen) (z4 : t2.size ≤ maxLen) (z5 : s3.size ≤ maxLen) (z6 : t3.size ≤ maxLen) (w : World) (htab : Lib.TabIs Tryz.prog w "internal/strconv.uint64pow10" .u64 Lib.pow10Tab) :
    Calls Tryz.prog 6 #[frac n1 s1 d1 t1, frac n2 s2 d2 t2, frac n3 s3 d3 t3] w fun e w' => e = .returned (.bool true) ∧ w.grownBy w' none := by
  have HK := known_in htab
  by_cases hl : (s1.size ≤ 150 ∧ t1.size ≤ 150) ∧ (s2.size ≤ 150 ∧ t2.size ≤ 150) ∧ (s3.size ≤ 150 ∧ t3.size ≤ 150)
  · have HL : Hid (∀ (W : World) (B : Nat), W.heap[B]? = some (.cells #[.bool n1, .string s1, .bool d1, .string t1, .bool n2, .string s2, .bool d2, .string t2, .bool n3, .string s3, .bool d3, .string t3] 25 (0, 0)) → Calls Tryz.prog 7 #[.int .i64 150, .slice (some ⟨B, 0, none⟩) 3 3] W fun e w' => e = .returned (.bool false) ∧ W.grownBy w' none) := fun W B hB => by
      refine longq_no 150 (by decide) W _ _ (dq_three hB) (by simp) ?_
      intro p hp
      simp at hp
      rcases hp with rfl | rfl | rfl
      · exact ⟨by show (s1.size : Int) ≤ 150; omega, by show (t1.size : Int) ≤ 150; omega⟩
      · exact ⟨by show (s2.size : Int) ≤ 150; omega, by show (t2.size : Int) ≤ 150; omega⟩
      · exact ⟨by show (s3.size : Int) ≤ 150; omega, by show (t3.size : Int) ≤ 150; omega⟩
    cases hx : mayQ n1 s1 d1 t1
    · exact rules_noX n1 d1 n2 d2 n3 d3 s1 t1 s2 t2 s3 t3 w HL (fun w => maf_is z1 z2 hx w) HK
    · cases hy : mayQ n2 s2 d2 t2
      · exact rules_noY n1 d1 n2 d2 n3 d3 s1 t1 s2 t2 s3 t3 w HL (fun w => maf_is z1 z2 hx w) (fun w => maf_is z3 z4 hy w) HK
      · cases hz : mayQ n3 s3 d3 t3
        · exact rules_noZ n1 d1 n2 d2 n3 d3 s1 t1 s2 t2 s3 t3 w HL (fun w => maf_is z1 z2 hx w) (fun w => maf_is z3 z4 hy w) (fun w => maf_is z5 z6 hz w) HK
        · obtain ⟨qx, hX⟩ := val_of hx hl.1.1 hl.1.2
          obtain ⟨qy, hY⟩ := val_of hy hl.2.1.1 hl.2.1.2
          obtain ⟨qz, hZ⟩ := val_of hz hl.2.2.1 hl.2.2.2
          exact rules_good n1 d1 n2 d2 n3 d3 s1 t1 s2 t2 s3 t3 w qx qy qz _ _ _ _ _ _ hX hY hZ HL HK
  · refine rules_long n1 d1 n2 d2 n3 d3 s1 t1 s2 t2 s3 t3 w (fun W B hB => longq_yes 150 (by decide) W _ _ (dq_three hB) (by simp) ?_ ?_) HK
    · intro p hp
      simp at hp
      rcases hp with rfl | rfl | rfl
      · exact ⟨z1, z2⟩
      · exact ⟨z3, z4⟩
      · exact ⟨z5, z6⟩
    · by_cases h1 : s1.size ≤ 150 ∧ t1.size ≤ 150
      · by_cases h2 : s2.size ≤ 150 ∧ t2.size ≤ 150
        · exact ⟨(n3, s3, d3, t3), by simp, by show (150 : Int) < (s3.size : Int) ∨ (150 : Int) < (t3.size : Int); omega⟩
        · exact ⟨(n2, s2, d2, t2), by simp, by show (150 : Int) < (s2.size : Int) ∨ (150 : Int) < (t2.size : Int); omega⟩
      · exact ⟨(n1, s1, d1, t1), by simp, by show (150 : Int) < (s1.size : Int) ∨ (150 : Int) < (t1.size : Int); omega⟩
end Go.Proofs.YtgemkfiippooeaaGreatDoor
