/-
  FracOne of any fraction and any two numbers.
-/
import Derived.Test.YtdfliaogmlpefaaGreatDoorBunOpa
import Derived.Test.YtdfliaogmlpefaaGreatDoorBunOpc
import Derived.Test.YtdfliaogmlpefaaGreatDoorBunOpe
import Derived.Test.YtdfliaogmlpefaaGreatDoorOpg
import Derived.Test.YtdfliaogmlpefaaGreatDoorBunOnc
import Derived.Test.YtdfliaogmlpefaaGreatDoorBunOnh
import Derived.Test.YtdfliaogmlpefaaGreatDoorBunRfo
import Derived.Test.YtdfliaogmlpefaaGreatDoorBunFrz
import Derived.Test.YtdfliaogmlpefaaGreatDoorFrv
namespace Go.Proofs.YtdfliaogmlpefaaGreatDoor
open Go.RowKit Go.Lib Go.Sort
set_option linter.unusedVariables false
set_option maxHeartbeats 3200000
set_option maxRecDepth 1000000
theorem fsmall_by (x y : Int) (nx ny rn1 rd1 : Bool) (sx sy rs1 rt1 : ByteArray) (re1 : Int)
    (HX : Hid (∀ w, Calls Tryz.prog 52 #[.int .i64 x] w fun e w' => e = .returned (whole nx sx) ∧ w.grownBy w' none))
    (HY : Hid (∀ w, Calls Tryz.prog 52 #[.int .i64 y] w fun e w' => e = .returned (whole ny sy) ∧ w.grownBy w' none))
    (HF : Hid (∀ w, Calls Tryz.prog 41 #[whole nx sx, whole ny sy] w fun e w' => e = .returned (.tuple #[frac rn1 rs1 rd1 rt1, .int .i64 re1]) ∧ w.grownBy w' none)) (w : World) :
    Calls Tryz.prog 17 #[.int .i64 x, .int .i64 y] w fun e w' => e = .returned (.tuple #[frac rn1 rs1 rd1 rt1, .int .i64 re1]) ∧ w.grownBy w' none := by
  go_enter Tryz.func17, Tryz.ntmps17
  go_wp2_with fail
  refine (HX.out _).mono ?_
  rintro e w1 ⟨rfl, g1⟩
  go_wp2_with fail
  refine (HY.out _).mono ?_
  rintro e w2 ⟨rfl, g2⟩
  go_wp2_with fail
  refine (HF.out _).mono ?_
  rintro e w3 ⟨rfl, g3⟩
  have G3 : (w.alloc (qObj false eS false eS)).grownBy w3 none := grownBy_trans g1 (grownBy_trans g2 g3)
  have hR : QBlk w3 w.heap.size (.bool false) (.string eS) (.bool false) (.string eS) := QBlk.kept (w := w.alloc (qObj false eS false eS)) (heap_alloc_new _ _) G3 (by simp)
  have HG3 : Hid (w.grownBy w3 none) := grownBy_trans (grow1 _ _) G3
  clear g1 g2 g3 G3
  have r0 := hR.c0
  have r1 := hR.c1
  have r2 := hR.c2
  have r3 := hR.c3
  have f0 := hR.fr 0
  have f1 := hR.fr 1
  have f2 := hR.fr 2
  have f3 := hR.fr 3
  go_wp2_with fail
  refine bodyPost_ret (res_cellQ_tmp rfl _ _ w.heap.size _ _ _ _ _ _ rfl (hR.put _ _ _ _)) rfl ?_
  exact ⟨rfl, grown_put4 HG3.out (Nat.le_refl _)⟩
theorem of_is {z : Int} {n : Bool} {s : ByteArray} (h0 : -9223372036854775808 ≤ z) (h1 : z ≤ 9223372036854775807) (hz : IsZ z n s) (w : World) :
    Calls Tryz.prog 52 #[.int .i64 z] w fun e w' => e = .returned (whole n s) ∧ w.grownBy w' none := by
  refine (of_any z h0 h1 w).mono ?_
  rintro e w' ⟨s0, rfl, hs, hg⟩
  have hz0 : IsZ z (decide (z < 0)) s0 := ⟨rfl, hs⟩
  exact ⟨by rw [hz0.one hz], hg⟩
theorem rof_is {z : Int} {n : Bool} {s : ByteArray} (h0 : -9223372036854775808 ≤ z) (h1 : z ≤ 9223372036854775807) (hz : IsZ z n s) (w : World) :
    Calls Tryz.prog 47 #[.int .i64 z] w fun e w' => e = .returned (whole n s) ∧ w.grownBy w' none := by
  refine (rOf_any z h0 h1 w).mono ?_
  rintro e w' ⟨s0, rfl, hs, hg⟩
  have hz0 : IsZ z (decide (z < 0)) s0 := ⟨rfl, hs⟩
  exact ⟨by rw [hz0.one hz], hg⟩
theorem sz8 {z : Int} {n : Bool} {s : ByteArray} (h0 : -9223372036854775808 ≤ z) (h1 : z ≤ 9223372036854775807) (hz : IsZ z n s) : Sz 8 z n s := hz.sz (by
  have : (256 : Nat) ^ 8 = 18446744073709551616 := by decide
  omega)
theorem ngs_call {x y : Int} {n d : Bool} {s t : ByteArray} (h : IsQ x y n s d t) (w : World) :
    Calls Tryz.prog 12 #[frac n s d t] w fun e w' => e = .returned (.tuple #[frac (ngs n s) s d t, .int .i64 0]) ∧ w.grownBy w' none :=
  fneg_by n d (ngs n s) s t s (fun w => h.call w) (fun w => opposite_by n d (ngs n s) s t s (fun w => neg_yes n s (by have := may_size (h.zn.may (by decide)); unfold maxLen; omega) (h.zn.may (by decide)) w) w) w
theorem told_q {x y : Int} {n d : Bool} {s t : ByteArray} (h : IsQ x y n s d t) (w : World) :
    Calls Tryz.prog 21 #[frac n s d t, .int .i64 0, frac n s d t, .bool true] w fun e w' => e = .returned (.bool true) ∧ w.grownBy w' none := by
  have := told_yes n d s t (by have := may_size (h.zn.may (by decide)); unfold maxLen; omega) (by have := may_size (h.zd.may (by decide)); unfold maxLen; omega) w
  rw [(told_fit h).1, (told_fit h).2] at this
  exact this
theorem IsQ.abs {x y : Int} {n d : Bool} {s t : ByteArray} (h : IsQ x y n s d t) : IsQ (x.natAbs : Int) y false s d t := by
  refine ⟨⟨⟨by symm; exact decide_eq_false (by omega), by rw [Int.natAbs_natCast]; exact h.zn.1.2⟩, by rw [Int.natAbs_natCast]; exact h.zn.2⟩, h.zd, h.pos, ?_⟩
  have := h.low
  unfold Int.gcd at *
  rw [Int.natAbs_natCast]
  exact this
theorem fsign_bad (n d : Bool) (s t : ByteArray)
    (HM : Hid (∀ w, Calls Tryz.prog 40 #[frac n s d t] w fun e w' => e = .returned (.bool false) ∧ w.grownBy w' none)) (w : World) :
    Calls Tryz.prog 22 #[frac n s d t] w fun e w' => e = .returned (.int .i64 0) ∧ w.grownBy w' none := by
  go_enter Tryz.func22, Tryz.ntmps22
  go_wp2_with fail
  refine (HM.out _).mono ?_
  rintro e w1 ⟨rfl, g1⟩
  have HG : Hid (w.grownBy w1 none) := grownBy_trans (grow1 _ _) g1
  clear g1
  go_wp2_with fail
  go_ret
  exact ⟨rfl, HG.out⟩
theorem may_q {n d b : Bool} {s t : ByteArray} (z1 : s.size ≤ maxLen) (z2 : t.size ≤ maxLen) (h : mayQ n s d t = b) :
    (Hid (∀ w, Calls Tryz.prog 40 #[frac n s d t] w fun e w' => e = .returned (.bool b) ∧ w.grownBy w' none)) ∧
    Hid (∀ w, Calls Tryz.prog 11 #[frac n s d t] w fun e w' => e = .returned (.bool b) ∧ w.grownBy w' none) := by
  subst h
  exact ⟨fun w => mayq_any n d s t z1 z2 w, fun w => rmayq_any n d s t z1 z2 w⟩
theorem small_one {x m : Int} (x0 : -9223372036854775808 ≤ x) (x1 : x ≤ 9223372036854775807) (m0 : -9223372036854775808 ≤ m) (m1 : m ≤ 9223372036854775807) (hm : ¬ m = 0) :
    ∃ ns ss ds ts, (∀ w, Calls Tryz.prog 17 #[.int .i64 x, .int .i64 m] w fun e w' => e = .returned (.tuple #[frac ns ss ds ts, .int .i64 0]) ∧ w.grownBy w' none) ∧
      ∀ w, Calls Tryz.prog 18 #[.int .i64 x, .int .i64 m] w fun e w' => e = .returned (frac ns ss ds ts) ∧ w.grownBy w' none := by
  obtain ⟨nx, sx, zx⟩ := isz_ex x
  obtain ⟨ny, sy, zy⟩ := isz_ex m
  have kx := sz8 x0 x1 zx
  have ky := sz8 m0 m1 zy
  obtain ⟨N, D, ns, ss, ds, ts, hq, _, _, e⟩ := low_v (k := 8) (by decide) hm kx.2 ky.2
  have L := low_to hm hq e
  refine ⟨ns, ss, ds, ts, fun w => ?_, fun w => rsmallq_by x m nx ny ns ds sx sy ss ts (fun w => rof_is x0 x1 zx w) (fun w => rof_is m0 m1 zy w) (fun w => rof_any (k := 8) (by decide) kx ky hm L w) w⟩
  have := fsmall_any x m x0 x1 m0 m1 hm L w
  rw [(told_fit hq).1, (told_fit hq).2] at this
  exact this
theorem small_zero {x : Int} (x0 : -9223372036854775808 ≤ x) (x1 : x ≤ 9223372036854775807) (w : World) :
    Calls Tryz.prog 17 #[.int .i64 x, .int .i64 0] w fun e w' => e = .returned (.tuple #[frac false eS false eS, .int .i64 5]) ∧ w.grownBy w' none := by
  obtain ⟨nx, sx, zx⟩ := isz_ex x
  exact fsmall_by x 0 nx false false false sx eS eS eS 5 (fun w => of_is x0 x1 zx w) (fun w => of_is (by decide) (by decide) zero_z w) (fun w => fof_zero ((sz8 x0 x1 zx).may (by decide)) w) w
theorem one_any (n d : Bool) (s t : ByteArray) (z1 : s.size ≤ maxLen) (z2 : t.size ≤ maxLen) (x m : Int) (x0 : -9223372036854775808 ≤ x) (x1 : x ≤ 9223372036854775807) (m0 : -9223372036854775808 ≤ m) (m1 : m ≤ 9223372036854775807) (w : World) (htab : Lib.TabIs Tryz.prog w "internal/strconv.uint64pow10" .u64 Lib.pow10Tab) :
    Calls Tryz.prog 3 #[frac n s d t, .int .i64 x, .int .i64 m] w fun e w' => e = .returned (.bool true) ∧ w.grownBy w' none := by
  have HK := known_in htab
  by_cases hl : s.size ≤ 1100 ∧ t.size ≤ 1100
  · have HL : Hid (∀ (W : World) (B : Nat), W.heap[B]? = some (.cells #[.bool n, .string s, .bool d, .string t] 25 (0, 0)) → Calls Tryz.prog 9 #[.int .i64 1100, .slice (some ⟨B, 0, none⟩) 1 1] W fun e w' => e = .returned (.bool false) ∧ W.grownBy w' none) := fun W B hB => by
      refine longq_no 1100 (by decide) W _ _ (dq_one hB) (by simp) ?_
      intro p hp
      simp at hp
      subst hp
      exact ⟨by show (s.size : Int) ≤ 1100; omega, by show (t.size : Int) ≤ 1100; omega⟩
    obtain ⟨ni, si, zi⟩ := isz_ex x
    have H9 : Hid (∀ w, Calls Tryz.prog 19 #[.int .i64 x] w fun e w' => e = .returned (frac ni si false oneS) ∧ w.grownBy w' none) := fun w => fint_by x ni si (fun w => of_is x0 x1 zi w) w
    have H10 : Hid (∀ w, Calls Tryz.prog 20 #[.int .i64 x] w fun e w' => e = .returned (frac ni si false oneS) ∧ w.grownBy w' none) := fun w => rint_by x ni si (fun w => rof_is x0 x1 zi w) (fun w => rof_one w) w
    cases hq : mayQ n s d t
    · obtain ⟨HM, H1⟩ := may_q z1 z2 hq
      by_cases hm : m = 0
      · subst hm
        exact one_bad0 n d ni false s t si oneS x w HL H1 (fun w => fneg_bad n d s t HM w) (fun w => fabs_bad n d s t HM w) (fun w => floor_bad HM w) (fun w => near_bad n d s t HM w) (fun w => fsqrt_bad n d s t z1 z2 hq w) (fun w => small_zero x0 x1 w) H9 H10 (fun w => told_no n d s t w) (fun w => fsign_bad n d s t HM w) HK
      · obtain ⟨ns, ss, ds, ts, S1, S2⟩ := small_one x0 x1 m0 m1 hm
        exact one_bad1 n d ni false ns ds s t si oneS ss ts x m hm w HL H1 (fun w => fneg_bad n d s t HM w) (fun w => fabs_bad n d s t HM w) (fun w => floor_bad HM w) (fun w => near_bad n d s t HM w) (fun w => fsqrt_bad n d s t z1 z2 hq w) S1 S2 H9 H10 (fun w => told_no n d s t w) (fun w => fsign_bad n d s t HM w) HK
    · obtain ⟨HM, H1⟩ := may_q z1 z2 hq
      have h := mayQ_is hq
      obtain ⟨nc, sc, zc⟩ := isz_ex (num n s / num d t)
      obtain ⟨nd, sd, zd⟩ := isz_ex (nearZ (num n s) (num d t))
      have H2 : Hid (∀ w, Calls Tryz.prog 12 #[frac n s d t] w fun e w' => e = .returned (.tuple #[frac (ngs n s) s d t, .int .i64 0]) ∧ w.grownBy w' none) := fun w => ngs_call h w
      have H12 : Hid (∀ w, Calls Tryz.prog 24 #[frac n s d t] w fun e w' => e = .returned (frac (ngs n s) s d t) ∧ w.grownBy w' none) := fun w => rnegq_any n d (ngs n s) s t (fun w => rNeg_any n s w) w
      have H13 : Hid (∀ w, Calls Tryz.prog 25 #[frac n s d t] w fun e w' => e = .returned (frac false s d t) ∧ w.grownBy w' none) := fun w => rabsq_any n d false s t (fun w => rAbs_any n s w) w
      rcases sqrt_one h with ⟨nr, sr, dr, tr, R1, R2⟩ | ⟨R1, R2⟩
      · by_cases hm : m = 0
        · subst hm
          exact one_root0 n d ni false (ngs n s) d false d nc nd nr dr s t si oneS s t s t sc sd sr tr x (sgn n s) w HL H1 H2 (fun w => fabs_by n d s t HM w) (fun w => floor_any h zc w) (fun w => near_any h zd w) R1 (fun w => small_zero x0 x1 w) H9 H10 R2 H12 H13 (fun w => rfloor_any h zc w) (fun w => rnear_any h zd w) (fun w => told_q h.neg w) (fun w => told_q h.abs w) (fun w => fsign_any h w) (fun w => rsignq_any n d s t w) HK
        · obtain ⟨ns, ss, ds, ts, S1, S2⟩ := small_one x0 x1 m0 m1 hm
          exact one_root1 n d ni false (ngs n s) d false d nc nd nr dr ns ds s t si oneS s t s t sc sd sr tr ss ts x m (sgn n s) hm w HL H1 H2 (fun w => fabs_by n d s t HM w) (fun w => floor_any h zc w) (fun w => near_any h zd w) R1 S1 S2 H9 H10 R2 H12 H13 (fun w => rfloor_any h zc w) (fun w => rnear_any h zd w) (fun w => told_q h.neg w) (fun w => told_q h.abs w) (fun w => fsign_any h w) (fun w => rsignq_any n d s t w) HK
      · by_cases hm : m = 0
        · subst hm
          exact one_none0 n d ni false (ngs n s) d false d nc nd s t si oneS s t s t sc sd x (sgn n s) w HL H1 H2 (fun w => fabs_by n d s t HM w) (fun w => floor_any h zc w) (fun w => near_any h zd w) R1 (fun w => small_zero x0 x1 w) H9 H10 R2 H12 H13 (fun w => rfloor_any h zc w) (fun w => rnear_any h zd w) (fun w => told_q h.neg w) (fun w => told_q h.abs w) (fun w => fsign_any h w) (fun w => rsignq_any n d s t w) HK
        · obtain ⟨ns, ss, ds, ts, S1, S2⟩ := small_one x0 x1 m0 m1 hm
          exact one_none1 n d ni false (ngs n s) d false d nc nd ns ds s t si oneS s t s t sc sd ss ts x m (sgn n s) hm w HL H1 H2 (fun w => fabs_by n d s t HM w) (fun w => floor_any h zc w) (fun w => near_any h zd w) R1 S1 S2 H9 H10 R2 H12 H13 (fun w => rfloor_any h zc w) (fun w => rnear_any h zd w) (fun w => told_q h.neg w) (fun w => told_q h.abs w) (fun w => fsign_any h w) (fun w => rsignq_any n d s t w) HK
  · refine one_long n d s t x m w (fun W B hB => longq_yes 1100 (by decide) W _ _ (dq_one hB) (by simp) ?_ ⟨(n, s, d, t), by simp, by show (1100 : Int) < (s.size : Int) ∨ (1100 : Int) < (t.size : Int); omega⟩) HK
    intro p hp
    simp at hp
    subst hp
    exact ⟨z1, z2⟩
end Go.Proofs.YtdfliaogmlpefaaGreatDoor
