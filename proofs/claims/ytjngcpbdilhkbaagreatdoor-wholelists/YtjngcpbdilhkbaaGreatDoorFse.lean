/-
  The program's foresee: Lehmer's steps on the heads of two numbers.
-/
import Derived.Test.YtjngcpbdilhkbaaGreatDoorWat
import Derived.Test.YtjngcpbdilhkbaaGreatDoorLhm
import Derived.Test.YtjngcpbdilhkbaaGreatDoorBunPrd
namespace Go.Proofs.YtjngcpbdilhkbaaGreatDoor
open Go.RowKit Go.Lib Go.Sort
set_option linter.unusedVariables false

theorem Tryz.sizeF : (Tryz.prog.info? 119).map (·.size) = some 4 := by kernel_rfl
abbrev fObj (a b c d : Int) : Obj := .cells #[.int .i64 a, .int .i64 b, .int .i64 c, .int .i64 d] 119
/-- Four numbers in a block. -/
def FBlk (w : World) (B : Nat) (a b c d : Value) : Prop := w.heap[B]? = some (.cells #[a, b, c, d] 119 (0, 0))
theorem FBlk.lt {w : World} {B : Nat} {a b c d : Value} (h : FBlk w B a b c d) : B < w.heap.size := (Array.getElem?_eq_some_iff.1 h).1
theorem FBlk.cc {w : World} {B : Nat} {a b c d : Value} (h : FBlk w B a b c d) : w.cell? ⟨B, 0, none⟩ = some a ∧ w.cell? ⟨B, 1, none⟩ = some b ∧ w.cell? ⟨B, 2, none⟩ = some c ∧ w.cell? ⟨B, 3, none⟩ = some d := by
  unfold FBlk at h; simp [World.cell?, h]
theorem FBlk.fr {w : World} {B : Nat} {a b c d : Value} (h : FBlk w B a b c d) (i : Nat) : w.frozen? ⟨B, i, none⟩ = false := by
  unfold FBlk at h; simp [World.frozen?, h]
theorem FBlk.put {w : World} {B : Nat} {a b c d : Value} (h : FBlk w B a b c d) (x y z t : Value) : FBlk ((((w.setCell ⟨B, 0, none⟩ x).setCell ⟨B, 1, none⟩ y).setCell ⟨B, 2, none⟩ z).setCell ⟨B, 3, none⟩ t) B x y z t := by
  unfold FBlk at *
  simp [World.setCell, Array.getElem?_modify, h]
theorem FBlk.kept {w w' : World} {row : Option Nat} {B : Nat} {a b c d : Value} (h : FBlk w B a b c d) (hg : w.grownBy w' row) (hn : row ≠ some B) : FBlk w' B a b c d :=
  (hg.block B h.lt (fun e => hn e.symm)).trans h
theorem load_rowF (w : World) (g : Nat) (t : TypeId) (a b c d : Value) (fr : Nat × Nat) (hg : w.heap[g]? = some (.cells #[a, b, c, d] t fr)) : (loadVar 119 ⟨g, 0, none⟩).run Tryz.prog w = .ok (.agg #[a, b, c, d]) w :=
  run_loadVar_row w g t 119 #[a, b, c, d] fr _ hg Tryz.underlying119 rfl Tryz.sizeF
theorem res_cellF_tmp {fn : Func} {p u : Tmp} (h : fn.results = #[.cell p 119, .tmp u]) (tmps : Array Value) (w : World) (g : Nat) (t : TypeId) (a b c d : Value) (fr : Nat × Nat)
    (hp : tmps.getD p undef = .pointer (some ⟨g, 0, none⟩)) (hg : w.heap[g]? = some (.cells #[a, b, c, d] t fr)) : (results fn tmps).run Tryz.prog w = .ok (.tuple #[.agg #[a, b, c, d], tmps.getD u undef]) w := by
  rw [results_cell_tmp h, hp]
  simp [asAddr, Result.andThen, load_rowF w g t a b c d fr hg]

/-- What foresee answers. -/
def FseQ (A B : Nat) (w : World) (e : Ending) (w' : World) : Prop :=
  ∃ (m1 m2 m3 m4 : Int) (some : Bool), e = .returned (.tuple #[.agg #[.int .i64 m1, .int .i64 m2, .int .i64 m3, .int .i64 m4], .bool some]) ∧ w.grownBy w' none ∧ (some = true → Fac A B m1 m2 m3 m4)

set_option maxHeartbeats 1600000 in
set_option maxRecDepth 1000000 in
theorem foresee_walk (w : World) (va vb : Value) (A B X Y F fr na nb : Nat) (hF : 0 < F) (hX : X < 4611686018427387904) (hX0 : 0 < X) (hBA : B ≤ A) (hYX : Y ≤ X)
    (hA0 : X * F ≤ A) (hA1 : A < (X + 1) * F) (hB0 : Y * F ≤ B) (hB1 : B < (Y + 1) * F)
    (hna : na ≤ 10000000000) (hfr : (na : Int) - 62 = (fr : Int)) (hnb : fr < nb) (hnb1 : nb ≤ 10000000000)
    (HBa : Hid (Calls Tryz.prog 62 #[va] (w.alloc (fObj 0 0 0 0)) fun e w' => e = .returned (.int .i64 (na : Int)) ∧ w' = w.alloc (fObj 0 0 0 0)))
    (HBb : Hid (Calls Tryz.prog 62 #[vb] (w.alloc (fObj 0 0 0 0)) fun e w' => e = .returned (.int .i64 (nb : Int)) ∧ w' = w.alloc (fObj 0 0 0 0)))
    (HWa : Hid (Calls Tryz.prog 103 #[va, .int .i64 (fr : Int)] (w.alloc (fObj 0 0 0 0)) fun e w' => e = .returned (.int .u64 (X : Int)) ∧ w' = w.alloc (fObj 0 0 0 0)))
    (HWb : Hid (Calls Tryz.prog 103 #[vb, .int .i64 (fr : Int)] (w.alloc (fObj 0 0 0 0)) fun e w' => e = .returned (.int .u64 (Y : Int)) ∧ w' = w.alloc (fObj 0 0 0 0))) :
    Calls Tryz.prog 96 #[va, vb] w (FseQ A B w) := by
  have HI : Hid (Lhm A B X Y (-1) X Y 0 1 0 0 0 1) := lhm_init A B X Y hYX
  have HS : Hid (0 < F ∧ X < 4611686018427387904 ∧ B ≤ A ∧ X * F ≤ A ∧ A < (X + 1) * F ∧ Y * F ≤ B ∧ B < (Y + 1) * F) := ⟨hF, hX, hBA, hA0, hA1, hB0, hB1⟩
  clear hF hBA hA0 hA1 hB0 hB1
  go_enter Tryz.func96, Tryz.ntmps96
  go_wp2_with fail
  refine HBa.out.mono ?_
  rintro e w' ⟨rfl, rfl⟩
  go_wp2_with fail
  refine HBb.out.mono ?_
  rintro e w' ⟨rfl, rfl⟩
  go_wp2_with fail
  refine HWa.out.mono ?_
  rintro e w' ⟨rfl, rfl⟩
  go_wp2_with fail
  refine HWb.out.mono ?_
  rintro e w' ⟨rfl, rfl⟩
  go_wp2_with fail
  go_loopw [7, 8, 9, 10, 11, 12, 13, 14, 15] (fun sx sy s1 s2 s3 t1 t2 t3 sg wr => ∃ (s x y a1 a2 a3 b1 b2 b3 : Int), sx = .int .u64 x ∧ sy = .int .u64 y ∧ s1 = .int .u64 a1 ∧ s2 = .int .u64 a2 ∧ s3 = .int .u64 a3 ∧ t1 = .int .u64 b1 ∧ t2 = .int .u64 b2 ∧ t3 = .int .u64 b3 ∧ sg = .int .i64 s ∧ Lhm A B X Y s x y a1 a2 a3 b1 b2 b3 ∧ FBlk wr w.heap.size (.int .i64 0) (.int .i64 0) (.int .i64 0) (.int .i64 0) ∧ w.grownBy wr none) (fun _ sy _ _ _ _ _ _ _ _ => (RowKit.intOf sy).toNat)
  case atStart =>
    refine ⟨_, _, _, _, _, _, _, _, _, rfl, rfl, rfl, rfl, rfl, rfl, rfl, rfl, rfl, HI.out, ?_, ?_⟩
    · exact heap_alloc_new _ _
    · exact grow1 _ _
  case round =>
    obtain ⟨s, x, y, a1, a2, a3, b1, b2, b3, rfl, rfl, rfl, rfl, rfl, rfl, rfl, rfl, rfl, hL, hbk, hg⟩ := hrel
    have HL : Hid (Lhm A B X Y s x y a1 a2 a3 b1 b2 b3) := hL
    have HB : Hid (FBlk wr w.heap.size (.int .i64 0) (.int .i64 0) (.int .i64 0) (.int .i64 0)) := hbk
    have HG : Hid (w.grownBy wr none) := hg
    obtain ⟨x1, xX, bX, la1, la2, lb1, lb2⟩ := hL.bd hX0
    have i1 := hL.b20; have i2 := hL.a20; have i3 := hL.a10; have i4 := hL.b10; have i5 := hL.a30; have i6 := hL.ab3; have i7 := hL.b31; have i8 := hL.y0; have i9 := hL.xy
    have isg : -1 ≤ s ∧ s ≤ 1 := by rcases hL.sg with e | e <;> rw [e] <;> decide
    have hXI : (X : Int) ≤ 4611686018427387903 := by omega
    by_cases cc : b3 ≤ y ∧ b2 + b3 ≤ x - y
    · obtain ⟨c1, c2⟩ := cc
      have hnw := hL.nw c1
      have HST : Hid (Lhm A B X Y (-s) y (x % y) a2 a3 (a2 + x / y * a3) b2 b3 (b2 + x / y * b3)) :=
        (lhm_step HS.out.1 HS.out.2.1 HS.out.2.2.1 HS.out.2.2.2.1 HS.out.2.2.2.2.1 HS.out.2.2.2.2.2.1 HS.out.2.2.2.2.2.2 hL c1 c2).1
      have hm0 := Int.emod_nonneg x (show y ≠ 0 by omega)
      have hm1 := Int.emod_lt_of_pos x (show 0 < y by omega)
      have hq0 : 0 ≤ x / y := Int.ediv_nonneg (by omega) (by omega)
      have hq1 : x / y ≤ x := Int.ediv_le_self y (by omega)
      have ek : x.tdiv y = x / y := Int.tdiv_eq_ediv_of_nonneg (by omega)
      have er : x.tmod y = x % y := Int.tmod_eq_emod_of_nonneg (by omega)
      have hne : (y == 0) = false := by rw [beq_eq_false_iff_ne]; omega
      have hnb : b2 + x / y * b3 ≤ 4611686018427387903 := by omega
      obtain ⟨hn1, hn2, _⟩ := hnw
      obtain ⟨k, hk⟩ : ∃ k, x / y = k := ⟨_, rfl⟩
      obtain ⟨r, hr⟩ : ∃ r, x % y = r := ⟨_, rfl⟩
      rw [hk] at ek HST hnb hn1 hn2 hq0 hq1
      rw [hr] at er HST hm0 hm1
      obtain ⟨p1, hp1⟩ : ∃ p1, k * a3 = p1 := ⟨_, rfl⟩
      obtain ⟨p2, hp2⟩ : ∃ p2, k * b3 = p2 := ⟨_, rfl⟩
      rw [hp1, hp2] at HST
      rw [hp1] at hn1 hn2
      rw [hp2] at hn2 hnb
      clear hL hbk hg hk hr HI HWa HWb HBa HBb
      go_wp2_with fail
      go_region
      go_wp2_with fail
      go_roundw
      case rel =>
        refine ⟨_, _, _, _, _, _, _, _, _, rfl, rfl, rfl, rfl, rfl, rfl, rfl, rfl, rfl, HST.out, ?_, ?_⟩
        · first | exact HB.out | exact HB.out.kept (grow_drew (World.grownBy.refl _ _)) (by simp) | exact HB.out.kept (grow_drew (grow_drew (World.grownBy.refl _ _))) (by simp) | exact HB.out.kept (grow_drew (grow_drew (grow_drew (World.grownBy.refl _ _)))) (by simp)
        · first | exact HG.out | exact grow_drew HG.out | exact grow_drew (grow_drew HG.out) | exact grow_drew (grow_drew (grow_drew HG.out))
      case measure =>
        simp [RowKit.intOf]
        omega
    · have HF : Hid (1 ≤ b1 → Fac A B (s * a1) (-s * b1) (-s * a2) (s * b2)) := fun h => hL.fac h
      have hsg := hL.sg
      have hmb : ∀ a : Int, 0 ≤ a → a < 2147483648 → (-2147483648 < s * a ∧ s * a < 2147483648) ∧ (-2147483648 < -s * a ∧ -s * a < 2147483648) := fun a h0 h1 => by
        rcases hsg with e | e <;> rw [e] <;> omega
      obtain ⟨n1, hn1⟩ : ∃ n1, s * a1 = n1 := ⟨_, rfl⟩
      obtain ⟨n2, hn2⟩ : ∃ n2, -s * b1 = n2 := ⟨_, rfl⟩
      obtain ⟨n3, hn3⟩ : ∃ n3, -s * a2 = n3 := ⟨_, rfl⟩
      obtain ⟨n4, hn4⟩ : ∃ n4, s * b2 = n4 := ⟨_, rfl⟩
      have l1 := (hmb a1 i3 la1).1
      have l2 := (hmb b1 i4 lb1).2
      have l3 := (hmb a2 i2 la2).2
      have l4 := (hmb b2 i1 lb2).1
      rw [hn1, hn2, hn3, hn4] at HF
      rw [hn1] at l1
      rw [hn2] at l2
      rw [hn3] at l3
      rw [hn4] at l4
      have hc := hbk.cc
      obtain ⟨q0, q1, q2, q3⟩ := hc
      have f0 := hbk.fr 0
      have f1 := hbk.fr 1
      have f2 := hbk.fr 2
      have f3 := hbk.fr 3
      have HP : Hid (FBlk ((((wr.setCell ⟨w.heap.size, 0, none⟩ (.int .i64 n1)).setCell ⟨w.heap.size, 1, none⟩ (.int .i64 n2)).setCell ⟨w.heap.size, 2, none⟩ (.int .i64 n3)).setCell ⟨w.heap.size, 3, none⟩ (.int .i64 n4)) w.heap.size (.int .i64 n1) (.int .i64 n2) (.int .i64 n3) (.int .i64 n4)) := hbk.put _ _ _ _
      clear hL hbk hg HI HWa HWb HBa HBb hmb hsg
      have cases2 : (b3 ≤ y) = False ∨ (b3 ≤ y) = True ∧ (b2 + b3 ≤ x - y) = False := by
        rcases Int.lt_or_le y b3 with h | h
        · exact .inl (by simp; omega)
        · exact .inr ⟨by simp; omega, by simp; omega⟩
      rcases cases2 with d1 | ⟨d1, d2⟩
      · go_wp2_with fail
        refine bodyPost_ret (res_cellF_tmp rfl _ _ w.heap.size _ _ _ _ _ _ rfl (HP.out.put _ _ _ _)) rfl ?_
        refine ⟨n1, n2, n3, n4, decide (0 < b1), rfl, ?_, fun h => HF.out (by have := of_decide_eq_true h; omega)⟩
        exact grown_set (grown_set (grown_set (grown_set (grown_set (grown_set (grown_set (grown_set HG.out (Nat.le_refl _)) (Nat.le_refl _)) (Nat.le_refl _)) (Nat.le_refl _)) (Nat.le_refl _)) (Nat.le_refl _)) (Nat.le_refl _)) (Nat.le_refl _)
      · go_wp2_with fail
        refine bodyPost_ret (res_cellF_tmp rfl _ _ w.heap.size _ _ _ _ _ _ rfl (HP.out.put _ _ _ _)) rfl ?_
        refine ⟨n1, n2, n3, n4, decide (0 < b1), rfl, ?_, fun h => HF.out (by have := of_decide_eq_true h; omega)⟩
        exact grown_set (grown_set (grown_set (grown_set (grown_set (grown_set (grown_set (grown_set HG.out (Nat.le_refl _)) (Nat.le_refl _)) (Nat.le_refl _)) (Nat.le_refl _)) (Nat.le_refl _)) (Nat.le_refl _)) (Nat.le_refl _)) (Nat.le_refl _)

set_option maxHeartbeats 1600000 in
set_option maxRecDepth 1000000 in
theorem foresee_none (w : World) (va vb : Value) (A B fr na nb : Nat) (hna : na ≤ 10000000000) (hfr : (na : Int) - 62 = (fr : Int)) (hnb : nb ≤ fr)
    (HBa : Hid (Calls Tryz.prog 62 #[va] (w.alloc (fObj 0 0 0 0)) fun e w' => e = .returned (.int .i64 (na : Int)) ∧ w' = w.alloc (fObj 0 0 0 0)))
    (HBb : Hid (Calls Tryz.prog 62 #[vb] (w.alloc (fObj 0 0 0 0)) fun e w' => e = .returned (.int .i64 (nb : Int)) ∧ w' = w.alloc (fObj 0 0 0 0))) :
    Calls Tryz.prog 96 #[va, vb] w (FseQ A B w) := by
  have HB : Hid (FBlk (w.alloc (fObj 0 0 0 0)) w.heap.size (.int .i64 0) (.int .i64 0) (.int .i64 0) (.int .i64 0)) := heap_alloc_new _ _
  go_enter Tryz.func96, Tryz.ntmps96
  go_wp2_with fail
  refine HBa.out.mono ?_
  rintro e w' ⟨rfl, rfl⟩
  go_wp2_with fail
  refine HBb.out.mono ?_
  rintro e w' ⟨rfl, rfl⟩
  go_wp2_with fail
  refine bodyPost_ret (res_cellF_tmp rfl _ _ w.heap.size _ _ _ _ _ _ rfl HB.out) rfl ?_
  refine ⟨_, _, _, _, _, rfl, ?_, fun h => by cases h⟩
  exact grow1 _ _

theorem bl_gt {n k : Nat} (h : 2 ^ k ≤ n) : k < bl n := by
  have h0 : 0 < n := Nat.lt_of_lt_of_le (Nat.pow_pos (by decide)) h
  obtain ⟨j, hj⟩ := bl_pos h0
  have h1 := (bl_iff.1 hj).2
  rw [hj]
  rcases Nat.lt_or_ge k (j + 1) with h2 | h2
  · exact h2
  · have := Nat.pow_le_pow_right (show 0 < 2 by decide) h2
    omega

/-- A number's head. -/
theorem head_cut (N F : Nat) (hF : 0 < F) : N / F * F ≤ N ∧ N < (N / F + 1) * F := by
  refine ⟨Nat.div_mul_le_self _ _, ?_⟩
  have h1 := Nat.div_add_mod N F
  have h2 := Nat.mod_lt N hF
  rw [Nat.add_mul, Nat.one_mul, Nat.mul_comm (N / F) F]
  omega
theorem nv_bl (L : List Nat) (hr : ∀ x ∈ L, x < B32) : bl (nv B32 L) ≤ 32 * L.length := by
  apply bl_le
  have := nv_lt B32 L hr
  rw [show B32 = 2 ^ 32 by decide, ← Nat.pow_mul] at this
  exact this

/-- foresee, of any two numbers of which the first is not less and has three digits. -/
theorem foresee_any (w : World) (va vb : Value) (LA LB : List Nat) (ha : ∀ w', w.grownBy w' none → D4 w' va LA) (hb : ∀ w', w.grownBy w' none → D4 w' vb LB) (ra : ∀ x ∈ LA, x < B32) (rb : ∀ x ∈ LB, x < B32)
    (ta : Trim LA) (tb : Trim LB) (la : LA.length ≤ 100000000) (lb : LB.length ≤ 100000000) (hBA : nv B32 LB ≤ nv B32 LA) (h3 : 2 ^ 64 ≤ nv B32 LA) :
    Calls Tryz.prog 96 #[va, vb] w (FseQ (nv B32 LA) (nv B32 LB) w) := by
  have hna := nv_bl LA ra
  have hnb := nv_bl LB rb
  have h64 := bl_gt h3
  obtain ⟨j, hj⟩ := bl_pos (n := nv B32 LA) (Nat.lt_of_lt_of_le (Nat.pow_pos (by decide)) h3)
  obtain ⟨p0, p1⟩ := bl_iff.1 hj
  obtain ⟨fr, hfr⟩ : ∃ fr, j + 1 = fr + 62 := ⟨j - 61, by omega⟩
  have gA := bitsOf_any _ va LA (ha _ (grow1 w (fObj 0 0 0 0))) ra ta la
  have gB := bitsOf_any _ vb LB (hb _ (grow1 w (fObj 0 0 0 0))) rb tb lb
  rw [hj] at gA hna
  have hX : nv B32 LA / 2 ^ fr < 4611686018427387904 := by
    rw [Nat.div_lt_iff_lt_mul (Nat.pow_pos (by decide)), show 4611686018427387904 = 2 ^ 62 by decide, ← Nat.pow_add, Nat.add_comm, ← hfr]
    exact p1
  have hX0 : 0 < nv B32 LA / 2 ^ fr := Nat.div_pos (Nat.le_trans (Nat.pow_le_pow_right (by decide) (by omega)) p0) (Nat.pow_pos (by decide))
  rcases Nat.lt_or_ge fr (bl (nv B32 LB)) with hlt | hge
  · have hYX : nv B32 LB / 2 ^ fr ≤ nv B32 LA / 2 ^ fr := Nat.div_le_div_right hBA
    have wA := wordAt_any _ va LA fr (ha _ (grow1 w (fObj 0 0 0 0))) ra (by omega) (by omega) (by omega)
    have wB := wordAt_any _ vb LB fr (hb _ (grow1 w (fObj 0 0 0 0))) rb (by omega) (by omega) (by omega)
    exact foresee_walk w va vb _ _ _ _ (2 ^ fr) fr (j + 1) _ (Nat.pow_pos (by decide)) hX hX0 hBA hYX (head_cut _ _ (Nat.pow_pos (by decide))).1 (head_cut _ _ (Nat.pow_pos (by decide))).2 (head_cut _ _ (Nat.pow_pos (by decide))).1 (head_cut _ _ (Nat.pow_pos (by decide))).2
      (by omega) (by omega) hlt (by omega) gA gB wA wB
  · exact foresee_none w va vb _ _ fr (j + 1) _ (by omega) (by omega) hge gA gB
end Go.Proofs.YtjngcpbdilhkbaaGreatDoor
