/-
  The simplest fraction between two, by quotients, over Int.
  frac's simplest: what its loop stands on.
  What quotients make: the fraction, or the refusal, over Int; frac's upright.
-/
import Derived.Test.YtdfliaogmlpefaaGreatDoorBunBwh
import Derived.Deep.CutBlock
import Derived.Test.YtdfliaogmlpefaaGreatDoorBunWla
import Derived.Test.YtdfliaogmlpefaaGreatDoorBunRfs
import Derived.Test.YtdfliaogmlpefaaGreatDoorBunFre
import Derived.Deep.CutRange
namespace Go.Proofs.YtdfliaogmlpefaaGreatDoor
set_option linter.unusedVariables false
set_option maxHeartbeats 1600000
set_option maxRecDepth 1000000
def sm : Nat → Int → Int → Int → Int → List Int
  | 0, _, _, _, _ => []
  | f + 1, N1, D1, N2, D2 =>
    if N1 / D1 ≤ N2 / D2 ∧ N1 % D1 = 0 then [N1 / D1]
    else if N2 / D2 ≤ N1 / D1 ∧ N2 % D2 = 0 then [N2 / D2]
    else if N1 / D1 < N2 / D2 then [N1 / D1 + 1]
    else if N2 / D2 < N1 / D1 then [N2 / D2 + 1]
    else N1 / D1 :: sm f D1 (N1 % D1) D2 (N2 % D2)
end Go.Proofs.YtdfliaogmlpefaaGreatDoor
namespace Go.Proofs.YtdfliaogmlpefaaGreatDoor
open Go.RowKit Go.Lib Go.Sort
set_option linter.unusedVariables false
set_option maxHeartbeats 1600000
set_option maxRecDepth 1000000
theorem ez_ex (q : Int) : ∃ p : Bool × ByteArray, IsZ q p.1 p.2 := let ⟨n, s, h⟩ := isz_ex q; ⟨(n, s), h⟩
noncomputable def ez (q : Int) : Bool × ByteArray := Classical.choose (ez_ex q)
theorem ez_is (q : Int) : IsZ q (ez q).1 (ez q).2 := Classical.choose_spec (ez_ex q)
theorem ez_one {q : Int} {n : Bool} {s : ByteArray} (h : IsZ q n s) : n = (ez q).1 ∧ s = (ez q).2 := whole_inj (h.one (ez_is q))
def lim : Nat := 256 ^ 1024
def upn (q a b : Int) : Int := if 0 < a then q * a + b else -(q * a + b)
def upd (a : Int) : Int := if 0 < a then a else -a
inductive Mk where
  | ok (a b : Int)
  | no (e : Int)
noncomputable def mkS : List Int → Mk
  | [] => .ok 1 0
  | q :: l => match mkS l with
    | .no e => .no e
    | .ok a b => if a = 0 then .no 5 else if (upn q a b).natAbs < lim then .ok (upn q a b) (upd a) else .no 4
theorem mkS_no {q : Int} {l : List Int} {e : Int} (h : mkS l = .no e) : mkS (q :: l) = .no e := by simp only [mkS, h]
theorem mkS_zero {q b : Int} {l : List Int} (h : mkS l = .ok 0 b) : mkS (q :: l) = .no 5 := by simp [mkS, h]
theorem mkS_big {q a b : Int} {l : List Int} (h : mkS l = .ok a b) (ha : a ≠ 0) (hb : ¬ (upn q a b).natAbs < lim) : mkS (q :: l) = .no 4 := by simp only [mkS, h, if_neg ha, if_neg hb]
theorem mkS_ok {q a b : Int} {l : List Int} (h : mkS l = .ok a b) (ha : a ≠ 0) (hb : (upn q a b).natAbs < lim) : mkS (q :: l) = .ok (upn q a b) (upd a) := by simp only [mkS, h, if_neg ha, if_pos hb]
theorem upd_pos {a : Int} (h : a ≠ 0) : 0 < upd a ∧ (upd a).natAbs = a.natAbs := by
  unfold upd
  split <;> constructor <;> omega
theorem upn_gcd {q a b : Int} (h : a ≠ 0) (hg : Int.gcd a b = 1) : Int.gcd (upn q a b) (upd a) = 1 := by
  have key : Int.gcd (q * a + b) a = 1 := by
    rw [Int.gcd_comm]
    rw [Int.add_comm, Int.gcd_add_mul_right_right]
    exact hg
  unfold upn upd
  split
  · exact key
  · rw [Int.neg_gcd, Int.gcd_neg]
    exact key
theorem mkS_inv : ∀ (l : List Int) (a b : Int), mkS l = .ok a b → a.natAbs < lim ∧ b.natAbs < lim ∧ Int.gcd a b = 1 ∧ (l ≠ [] → 0 < b)
  | [], a, b, h => by
    have : (1 : Nat) < lim := by
      obtain ⟨k, hk⟩ : ∃ k, 1024 = k + 1 := ⟨1023, rfl⟩
      unfold lim
      rw [hk]
      exact Nat.one_lt_pow (by omega) (by decide)
    simp only [mkS, Mk.ok.injEq] at h
    obtain ⟨rfl, rfl⟩ := h
    exact ⟨this, by show 0 < lim; omega, by decide, fun h => absurd rfl h⟩
  | q :: l, a, b, h => by
    cases hm : mkS l with
    | no e => rw [mkS_no hm] at h; cases h
    | ok a' b' =>
      obtain ⟨h1, h2, h3, _⟩ := mkS_inv l a' b' hm
      by_cases ha : a' = 0
      · subst ha; rw [mkS_zero hm] at h; cases h
      · by_cases hb : (upn q a' b').natAbs < lim
        · rw [mkS_ok hm ha hb] at h
          cases h
          have := upd_pos ha
          exact ⟨hb, by rw [this.2]; exact h1, upn_gcd ha h3, fun _ => this.1⟩
        · rw [mkS_big hm ha hb] at h; cases h
theorem mkS_cons (l : List Int) (j : Nat) (q : Int) (h : l[j]? = some q) : l.drop j = q :: l.drop (j + 1) := by
  obtain ⟨hlt, e⟩ := List.getElem?_eq_some_iff.1 h
  rw [List.drop_eq_getElem_cons hlt, e]
theorem mkS_err : ∀ (l : List Int) (e : Int), mkS l = .no e → ∃ j, j < l.length ∧ mkS (l.drop j) = .no e ∧ ∃ a b, mkS (l.drop (j + 1)) = .ok a b
  | [], e, h => by simp [mkS] at h
  | q :: l, e, h => by
    cases hm : mkS l with
    | no e' =>
      have h2 := mkS_no (q := q) hm
      rw [h2] at h
      cases h
      obtain ⟨j, h1, h3, h4⟩ := mkS_err l e hm
      exact ⟨j + 1, by simp; omega, by simpa using h3, by simpa using h4⟩
    | ok a b => exact ⟨0, by simp, by simpa using h, a, b, by simpa using hm⟩
theorem mkS_drop : ∀ (l : List Int) (a b : Int), mkS l = .ok a b → ∀ j, j ≤ l.length → ∃ a' b', mkS (l.drop j) = .ok a' b'
  | [], a, b, h, j, hj => ⟨a, b, by simpa using h⟩
  | q :: l, a, b, h, j, hj => by
    cases j with
    | zero => exact ⟨a, b, h⟩
    | succ j =>
      cases hm : mkS l with
      | no e => rw [mkS_no hm] at h; cases h
      | ok a' b' => rw [List.drop_succ_cons]; exact mkS_drop l a' b' hm j (by simpa using hj)
noncomputable def mkV : Mk → Value
  | .ok a b => .tuple #[frac (ez a).1 (ez a).2 (ez b).1 (ez b).2, .int .i64 0]
  | .no e => .tuple #[frac false eS false eS, .int .i64 e]
theorem ez_sz {z : Int} (h : z.natAbs < lim) : Sz 1024 z (ez z).1 (ez z).2 := by unfold lim at h; exact ⟨ez_is z, h⟩
theorem ez_0 : (ez 0).1 = false ∧ (ez 0).2 = eS := isz_zero (ez_is 0)
theorem ez_1 : (ez 1).1 = false ∧ (ez 1).2 = oneS := isz_one (ez_is 1)
theorem upright_neg (n n' m' : Bool) (s s' t t' : ByteArray)
    (HN1 : Hid (∀ w, Calls Tryz.prog 98 #[whole n s] w fun e w' => e = .returned (.tuple #[whole n' s', .int .i64 0]) ∧ w.grownBy w' none))
    (HN2 : Hid (∀ w, Calls Tryz.prog 98 #[whole true t] w fun e w' => e = .returned (.tuple #[whole m' t', .int .i64 0]) ∧ w.grownBy w' none)) (w : World) :
    Calls Tryz.prog 127 #[whole n s, whole true t] w fun e w' => e = .returned (frac n' s' m' t') ∧ w.grownBy w' none := by
  go_enter Tryz.func127, Tryz.ntmps127
  go_upto_region 2 with fail
  have HA0 : Hid (WBlk (((w.alloc (wObj n s)).alloc (wObj true t)).alloc (qObj false eS false eS)) w.heap.size (.bool n) (.string s)) := old_alloc _ _ (old_alloc _ _ (heap_alloc_new _ _))
  have HB0 : Hid (WBlk (((w.alloc (wObj n s)).alloc (wObj true t)).alloc (qObj false eS false eS)) (w.heap.size + 1) (.bool true) (.string t)) := old_alloc _ _ (heap_alloc2_new _ _ _)
  have HR0 : Hid (QBlk (((w.alloc (wObj n s)).alloc (wObj true t)).alloc (qObj false eS false eS)) (w.heap.size + 1 + 1) (.bool false) (.string eS) (.bool false) (.string eS)) := at_alloc3 _ _ _ _
  have HG0 : Hid (w.grownBy (((w.alloc (wObj n s)).alloc (wObj true t)).alloc (qObj false eS false eS)) none) := grow3 _ _ _ _
  generalize ((w.alloc (wObj n s)).alloc (wObj true t)).alloc (qObj false eS false eS) = U at *
  have a0 := HA0.out.c0
  have a1 := HA0.out.c1
  go_wp2_with fail
  refine (HN1.out _).mono ?_
  rintro e w1 ⟨rfl, g1⟩
  have hA := HA0.out.kept g1 (by simp)
  have b0 := hA.c0
  have b1 := hA.c1
  have b2 := hA.fr 0
  have b3 := hA.fr 1
  have gA : w1.grownBy ((w1.setCell ⟨w.heap.size, 0, none⟩ (.bool n')).setCell ⟨w.heap.size, 1, none⟩ (.string s')) (some w.heap.size) := grownBy_trans (grownBy_setCell _ _ _ _) (grownBy_setCell _ _ _ _)
  have HA1 : Hid (WBlk ((w1.setCell ⟨w.heap.size, 0, none⟩ (.bool n')).setCell ⟨w.heap.size, 1, none⟩ (.string s')) w.heap.size (.bool n') (.string s')) := hA.put _ _
  have HB1 : Hid (WBlk ((w1.setCell ⟨w.heap.size, 0, none⟩ (.bool n')).setCell ⟨w.heap.size, 1, none⟩ (.string s')) (w.heap.size + 1) (.bool true) (.string t)) := (HB0.out.kept g1 (by simp)).kept gA (by intro e; injection e with e; omega)
  have HR1 : Hid (QBlk ((w1.setCell ⟨w.heap.size, 0, none⟩ (.bool n')).setCell ⟨w.heap.size, 1, none⟩ (.string s')) (w.heap.size + 1 + 1) (.bool false) (.string eS) (.bool false) (.string eS)) := (HR0.out.kept g1 (by simp)).kept gA (by intro e; injection e with e; omega)
  have HG1 : Hid (w.grownBy ((w1.setCell ⟨w.heap.size, 0, none⟩ (.bool n')).setCell ⟨w.heap.size, 1, none⟩ (.string s')) none) := grown_set (grown_set (grownBy_trans HG0.out g1) (Nat.le_refl _)) (Nat.le_refl _)
  clear hA gA g1 a0 a1 HA0 HB0 HR0 HG0 HN1
  go_upto_region 3 with fail
  clear b0 b1 b2 b3
  generalize (w1.setCell ⟨w.heap.size, 0, none⟩ (.bool n')).setCell ⟨w.heap.size, 1, none⟩ (.string s') = V at *
  have a0 := HB1.out.c0
  have a1 := HB1.out.c1
  go_wp2_with fail
  refine (HN2.out _).mono ?_
  rintro e w2 ⟨rfl, g2⟩
  have hB := HB1.out.kept g2 (by simp)
  have b0 := hB.c0
  have b1 := hB.c1
  have b2 := hB.fr 0
  have b3 := hB.fr 1
  have gB : w2.grownBy ((w2.setCell ⟨w.heap.size + 1, 0, none⟩ (.bool m')).setCell ⟨w.heap.size + 1, 1, none⟩ (.string t')) (some (w.heap.size + 1)) := grownBy_trans (grownBy_setCell _ _ _ _) (grownBy_setCell _ _ _ _)
  have HB2 : Hid (WBlk ((w2.setCell ⟨w.heap.size + 1, 0, none⟩ (.bool m')).setCell ⟨w.heap.size + 1, 1, none⟩ (.string t')) (w.heap.size + 1) (.bool m') (.string t')) := hB.put _ _
  have HA2 : Hid (WBlk ((w2.setCell ⟨w.heap.size + 1, 0, none⟩ (.bool m')).setCell ⟨w.heap.size + 1, 1, none⟩ (.string t')) w.heap.size (.bool n') (.string s')) := (HA1.out.kept g2 (by simp)).kept gB (by intro e; injection e with e; omega)
  have HR2 : Hid (QBlk ((w2.setCell ⟨w.heap.size + 1, 0, none⟩ (.bool m')).setCell ⟨w.heap.size + 1, 1, none⟩ (.string t')) (w.heap.size + 1 + 1) (.bool false) (.string eS) (.bool false) (.string eS)) := (HR1.out.kept g2 (by simp)).kept gB (by intro e; injection e with e; omega)
  have HG2 : Hid (w.grownBy ((w2.setCell ⟨w.heap.size + 1, 0, none⟩ (.bool m')).setCell ⟨w.heap.size + 1, 1, none⟩ (.string t')) none) := grown_set (grown_set (grownBy_trans HG1.out g2) (by omega)) (by omega)
  clear hB gB g2 a0 a1 HA1 HB1 HR1 HG1 HN2
  go_upto_region 4 with fail
  clear b0 b1 b2 b3
  generalize (w2.setCell ⟨w.heap.size + 1, 0, none⟩ (.bool m')).setCell ⟨w.heap.size + 1, 1, none⟩ (.string t') = X at *
  have a0 := HA2.out.c0
  have a1 := HA2.out.c1
  have b0 := HB2.out.c0
  have b1 := HB2.out.c1
  have r0 := HR2.out.c0
  have r1 := HR2.out.c1
  have r2 := HR2.out.c2
  have r3 := HR2.out.c3
  have f0 := HR2.out.fr 0
  have f1 := HR2.out.fr 1
  have f2 := HR2.out.fr 2
  have f3 := HR2.out.fr 3
  go_wp2_with fail
  refine bodyPost_ret (res_cellQ rfl _ _ (w.heap.size + 1 + 1) _ _ _ _ _ _ rfl (HR2.out.put _ _ _ _)) rfl ?_
  exact ⟨rfl, grown_put4 HG2.out (by omega)⟩
theorem upright_any {A C : Int} (hA : A ≠ 0) {cn an un vn : Bool} {cS aS uS vS : ByteArray} (zC : Sz 2049 C cn cS) (zA : Sz 1024 A an aS) (zU : IsZ (if 0 < A then C else -C) un uS) (zV : IsZ (upd A) vn vS) (w : World) :
    Calls Tryz.prog 127 #[whole cn cS, whole an aS] w fun e w' => e = .returned (frac un uS vn vS) ∧ w.grownBy w' none := by
  by_cases h : 0 < A
  · rw [if_pos h] at zU
    rw [show upd A = A by unfold upd; rw [if_pos h]] at zV
    obtain ⟨rfl, rfl⟩ := whole_inj (zU.one zC.1)
    obtain ⟨rfl, rfl⟩ := whole_inj (zV.one zA.1)
    obtain rfl : vn = false := by rw [zA.1.1]; exact decide_eq_false (by omega)
    exact upright_pos _ _ _ w
  · rw [if_neg h] at zU
    rw [show upd A = -A by unfold upd; rw [if_neg h]] at zV
    obtain rfl : an = true := by rw [zA.1.1]; exact decide_eq_true (by omega)
    refine upright_neg _ _ _ _ _ _ _ (fun w => ?_) (fun w => ?_) w
    · refine (neg_sz (by decide) zC w).mono ?_
      rintro e w' ⟨n', rfl, hz, hg⟩
      obtain ⟨rfl, rfl⟩ := whole_inj (hz.1.one zU)
      exact ⟨rfl, hg⟩
    · refine (neg_sz (by decide) zA w).mono ?_
      rintro e w' ⟨n', rfl, hz, hg⟩
      obtain ⟨rfl, rfl⟩ := whole_inj (hz.1.one zV)
      exact ⟨rfl, hg⟩
end Go.Proofs.YtdfliaogmlpefaaGreatDoor
