/-
  Div of -7 by 2, Gcd of 12 and -18, as the laws ask them.
-/
import Derived.Test.YtmgbkcfocbbofabGreatDoorSht
namespace Go.Proofs.YtmgbkcfocbbofabGreatDoor
open Go.RowKit Go.Lib Go.Sort

theorem magN_small (n : Nat) (h0 : 0 < n) (h : n < 256) : magN n = [n] := by
  rw [magN_pos h0, Nat.div_eq_of_lt h, magN_zero, Nat.mod_eq_of_lt h]; rfl
theorem res2_cell {fn : Func} {p q : Tmp} (h : fn.results = #[.cell p 23, .cell q 23]) (tmps : Array Value) (w : World) (g g' : Nat) (t t' : TypeId) (a b a' b' : Value) (fr fr' : Nat × Nat)
    (hp : tmps.getD p undef = .pointer (some ⟨g, 0, none⟩)) (hg : w.heap[g]? = some (.cells #[a, b] t fr))
    (hq : tmps.getD q undef = .pointer (some ⟨g', 0, none⟩)) (hg' : w.heap[g']? = some (.cells #[a', b'] t' fr')) : (results fn tmps).run Tryz.prog w = .ok (.tuple #[.agg #[a, b], .agg #[a', b']]) w := by
  have hp' : tmps[p]?.getD undef = .pointer (some ⟨g, 0, none⟩) := by simpa using hp
  have hq' : tmps[q]?.getD undef = .pointer (some ⟨g', 0, none⟩) := by simpa using hq
  simp [results, h, hp', hq', asAddr, load_row w g t a b fr hg, load_row w g' t' a' b' fr' hg', Sem.run_bind, Result.andThen]
theorem WBlk.other {w : World} {B B' i : Nat} {a b v : Value} (h : WBlk w B a b) (hne : B' ≠ B) : WBlk (w.setCell ⟨B', i, none⟩ v) B a b :=
  h.kept (grownBy_setCell _ _ _ _) (by intro e; cases e; exact hne rfl)
/-- Of a number below 256, known. -/
theorem of_known (n : Int) (m : Nat) (neg : Bool) (hn : n = if neg then -(m : Int) else m) (h0 : 0 < m) (h : m < 256) (w : World) :
    Calls Tryz.prog 28 #[.int .i64 n] w fun e w' => e = .returned (whole neg ⟨#[UInt8.ofNat m]⟩) ∧ w.grownBy w' none := by
  refine (of_any n (by subst hn; cases neg <;> simp <;> omega) (by subst hn; cases neg <;> simp <;> omega) w).mono ?_
  rintro e w' ⟨s, rfl, hs, hg⟩
  have h1 : n.natAbs = m := by subst hn; cases neg <;> simp
  rw [h1, magN_small m h0 h] at hs
  have h2 : s = ⟨#[UInt8.ofNat m]⟩ := by
    apply bN_inj
    rw [hs]
    have : (UInt8.ofNat m).toNat = m := by simp [UInt8.toNat_ofNat']; omega
    simp [bN, this]
  have h3 : decide (n < 0) = neg := by
    subst hn
    cases neg
    · exact decide_eq_false (by simp)
    · exact decide_eq_true (by simp; omega)
  exact ⟨by rw [h2, h3], hg⟩

set_option maxHeartbeats 1600000 in
set_option maxRecDepth 1000000 in
theorem divShort_known (w : World) :
    Calls Tryz.prog 49 #[.int .i64 (-7), .int .i64 2] w fun e w' => e = .returned (.tuple #[whole true ⟨#[4]⟩, whole false ⟨#[1]⟩]) ∧ w.grownBy w' none := by
  go_enter Tryz.func49, Tryz.ntmps49
  go_wp2
  go_region
  go_wp2_with fail
  refine (of_known (-4) 4 true rfl (by decide) (by decide) _).mono ?_
  rintro e w1 ⟨rfl, hg1⟩
  go_wp2_with fail
  refine (of_known 1 1 false rfl (by decide) (by decide) _).mono ?_
  rintro e w2 ⟨rfl, hg2⟩
  have hg := grownBy_undrew (grownBy_trans hg1 hg2)
  have hA : WBlk w2 w.heap.size (.bool false) (.string eS) := WBlk.kept (w := (w.alloc (wObj false eS)).alloc (wObj false eS)) (old_alloc _ _ (heap_alloc_new _ _)) hg (by simp)
  have hB : WBlk w2 (w.heap.size + 1) (.bool false) (.string eS) := WBlk.kept (w := (w.alloc (wObj false eS)).alloc (wObj false eS)) (heap_alloc2_new _ _ _) hg (by simp)
  have a0 := hA.c0
  have a1 := hA.c1
  have a2 := hA.fr 0
  have a3 := hA.fr 1
  have b0 := hB.c0
  have b1 := hB.c1
  have b2 := hB.fr 0
  have b3 := hB.fr 1
  have HG : Hid (w.grownBy w2 none) := grownBy_trans (grow2 _ _ _) hg
  clear hg hg1 hg2
  go_wp2_with fail
  refine bodyPost_ret (res2_cell rfl _ _ w.heap.size (w.heap.size + 1) _ _ _ _ _ _ _ _ rfl (((hA.put _ _).other (by omega)).other (by omega)) rfl (((hB.other (by omega)).other (by omega)).put _ _)) rfl ?_
  exact ⟨rfl, grown_set (grown_set (grown_set (grown_set HG.out (Nat.le_refl _)) (Nat.le_refl _)) (by omega)) (by omega)⟩

theorem dw_two (w : World) (a b : Bool) (x y : ByteArray) : DW (w.alloc (.cells #[.bool a, .string x, .bool b, .string y] 23)) (.slice (some ⟨w.heap.size, 0, none⟩) 2 2) [(a, x), (b, y)] := by
  refine ⟨w.heap.size, 0, 2, rfl, by simp, fun j p hj => ?_⟩
  match j, hj with
  | 0, hj => simp at hj; subst hj; simp
  | 1, hj => simp at hj; subst hj; simp
  | j + 2, hj => simp at hj
theorem may7 : may true ⟨#[7]⟩ = true := by decide
theorem may2 : may false ⟨#[2]⟩ = true := by decide
theorem num7 : num true ⟨#[7]⟩ = -7 := by decide
theorem num2 : num false ⟨#[2]⟩ = 2 := by decide

set_option maxHeartbeats 1600000 in
set_option maxRecDepth 1000000 in
theorem div_known (w : World) :
    Calls Tryz.prog 14 #[whole true ⟨#[7]⟩, whole false ⟨#[2]⟩] w fun e w' => e = .returned (.tuple #[whole true ⟨#[4]⟩, whole false ⟨#[1]⟩, .int .i64 0]) ∧ w.grownBy w' none := by
  go_enter Tryz.func14, Tryz.ntmps14
  go_wp2_with fail
  have hdw := dw_two ((((w.alloc (wObj true ⟨#[7]⟩)).alloc (wObj false ⟨#[2]⟩)).alloc (wObj false eS)).alloc (wObj false eS)) true false ⟨#[7]⟩ ⟨#[2]⟩
  simp only [World.size_alloc] at hdw
  refine (checkAll_any _ _ _ hdw (by simp) (by intro p hp; simp at hp; rcases hp with rfl | rfl <;> (unfold maxLen; decide))).mono ?_
  rintro e w1 ⟨rfl, hg1⟩
  have hg1 := grownBy_trans (grow1 _ _) hg1
  have hma : mayAll [(true, (⟨#[7]⟩ : ByteArray)), (false, ⟨#[2]⟩)] = true := by decide
  rw [hma, if_pos rfl]
  have hA : WBlk w1 w.heap.size (.bool true) (.string ⟨#[7]⟩) := WBlk.kept (old_alloc _ _ (old_alloc _ _ (old_alloc _ _ (heap_alloc_new _ _)))) hg1 (by simp)
  have hB : WBlk w1 (w.heap.size + 1) (.bool false) (.string ⟨#[2]⟩) := WBlk.kept (old_alloc _ _ (old_alloc _ _ (heap_alloc2_new _ _ _))) hg1 (by simp)
  have hC : WBlk w1 (w.heap.size + 1 + 1) (.bool false) (.string eS) := WBlk.kept (old_alloc _ _ (at_alloc3 _ _ _ _)) hg1 (by simp)
  have hD : WBlk w1 (w.heap.size + 1 + 1 + 1) (.bool false) (.string eS) := WBlk.kept (by have := heap_alloc_new (((w.alloc (wObj true ⟨#[7]⟩)).alloc (wObj false ⟨#[2]⟩)).alloc (wObj false eS)) (wObj false eS); simp only [World.size_alloc] at this; exact this) hg1 (by simp)
  have HG1 : Hid (w.grownBy w1 none) := grownBy_trans (grow4 _ _ _ _ _) hg1
  clear hg1 hdw hma
  have b0 := hB.c0
  have b1 := hB.c1
  go_wp2_with fail
  go_region_held3 (fun w' => w'.cell? ⟨w.heap.size + 1, 0, none⟩ = some (Value.bool false) ∧ w'.cell? ⟨w.heap.size + 1, 1, none⟩ = some (Value.string ⟨#[2]⟩)) (first | (go_keep; done) | exact ⟨(hB.kept (grow1 _ (wObj false eS)) (by simp)).c0, (hB.kept (grow1 _ (wObj false eS)) (by simp)).c1⟩ | fail) (first | (go_at_call 29; refine (zero_any _).mono ?_; rintro e w' ⟨rfl, rfl⟩) | fail)
  have hA2 := hA.kept (grow1 w1 (wObj false eS)) (by simp)
  have hB2 := hB.kept (grow1 w1 (wObj false eS)) (by simp)
  have x0 := hA2.c0
  have x1 := hA2.c1
  have y0 := hB2.c0
  have y1 := hB2.c1
  go_wp2_with fail
  have hsh := short_yes true false ⟨#[7]⟩ ⟨#[2]⟩ may7 may2 (by decide) (w1.alloc (wObj false eS)).drew
  rw [num7, num2] at hsh
  refine hsh.mono ?_
  rintro e w2 ⟨rfl, hg2⟩
  have hg2 := grownBy_trans (grow1 w1 (wObj false eS)) (grownBy_undrew hg2)
  clear hsh x0 x1 y0 y1 b0 b1 hA2 hB2
  go_wp2_with fail
  refine (divShort_known _).mono ?_
  rintro e w3 ⟨rfl, hg3⟩
  have hg3 := grownBy_trans hg2 hg3
  have hC3 := hC.kept hg3 (by simp)
  have hD3 := hD.kept hg3 (by simp)
  have HG3 : Hid (w.grownBy w3 none) := grownBy_trans HG1.out hg3
  clear hg2 hg3 hA hB hC hD HG1
  have c0 := hC3.c0
  have c1 := hC3.c1
  have c2 := hC3.fr 0
  have c3 := hC3.fr 1
  have d0 := hD3.c0
  have d1 := hD3.c1
  have d2 := hD3.fr 0
  have d3 := hD3.fr 1
  go_wp2_with fail
  have hC4 := ((hC3.put (.bool true) (.string ⟨#[4]⟩)).other (B' := w.heap.size + 1 + 1 + 1) (i := 0) (v := .bool false) (by omega)).other (B' := w.heap.size + 1 + 1 + 1) (i := 1) (v := .string ⟨#[1]⟩) (by omega)
  have hD4 := ((hD3.other (B' := w.heap.size + 1 + 1) (i := 0) (v := .bool true) (by omega)).other (B' := w.heap.size + 1 + 1) (i := 1) (v := .string ⟨#[4]⟩) (by omega)).put (.bool false) (.string ⟨#[1]⟩)
  have HG4 : Hid (w.grownBy ((((w3.setCell ⟨w.heap.size + 1 + 1, 0, none⟩ (.bool true)).setCell ⟨w.heap.size + 1 + 1, 1, none⟩ (.string ⟨#[4]⟩)).setCell ⟨w.heap.size + 1 + 1 + 1, 0, none⟩ (.bool false)).setCell ⟨w.heap.size + 1 + 1 + 1, 1, none⟩ (.string ⟨#[1]⟩)) none) :=
    grown_set (grown_set (grown_set (grown_set HG3.out (by omega)) (by omega)) (by omega)) (by omega)
  clear hC3 hD3 c0 c1 c2 c3 d0 d1 d2 d3 HG3
  generalize ((((w3.setCell ⟨w.heap.size + 1 + 1, 0, none⟩ (.bool true)).setCell ⟨w.heap.size + 1 + 1, 1, none⟩ (.string ⟨#[4]⟩)).setCell ⟨w.heap.size + 1 + 1 + 1, 0, none⟩ (.bool false)).setCell ⟨w.heap.size + 1 + 1 + 1, 1, none⟩ (.string ⟨#[1]⟩)) = w4 at *
  have c0 := hC4.c0
  have c1 := hC4.c1
  have c2 := hC4.fr 0
  have c3 := hC4.fr 1
  have d0 := hD4.c0
  have d1 := hD4.c1
  have d2 := hD4.fr 0
  have d3 := hD4.fr 1
  go_region
  all_goals go_wp2_with fail
  all_goals refine bodyPost_ret (res_cell2_tmp rfl _ _ (w.heap.size + 1 + 1) (w.heap.size + 1 + 1 + 1) _ _ _ _ _ _ _ _ rfl (((hC4.put _ _).other (by omega)).other (by omega)) rfl (((hD4.other (by omega)).other (by omega)).put _ _)) rfl ?_
  all_goals exact ⟨rfl, grow_drew (grown_set (grown_set (grown_set (grown_set HG4.out (by omega)) (by omega)) (by omega)) (by omega))⟩

/-- What Gcd has come to behind k of the two. -/
def g12 : Nat → ByteArray
  | 0 => eS
  | 1 => ⟨#[12]⟩
  | _ => ⟨#[6]⟩
theorem str_of_one {s : ByteArray} {m : Nat} {b : UInt8} (h : bN s = magN m) (h0 : 0 < m) (h1 : m < 256) (hb : b.toNat = m) : s = ⟨#[b]⟩ := by
  apply bN_inj
  rw [h, magN_small m h0 h1]
  simp [bN, hb]

theorem gv1 : Nat.gcd (val (bN eS)) (val (bN ⟨#[12]⟩)) = 12 := by decide
theorem gv2 : Nat.gcd (val (bN ⟨#[12]⟩)) (val (bN ⟨#[18]⟩)) = 6 := by decide

set_option maxHeartbeats 1600000 in
set_option maxRecDepth 1000000 in
theorem gcd_known (w : World) (v : Value) (h : DW w v [(false, ⟨#[12]⟩), (true, ⟨#[18]⟩)]) :
    Calls Tryz.prog 20 #[v] w fun e w' => e = .returned (.tuple #[whole false ⟨#[6]⟩, .int .i64 0]) ∧ w.grownBy w' none := by
  have hck := fun w' (hg : w.grownBy w' none) => checkAll_any w' v _ (h.kept hg) (by simp) (by intro p hp; simp at hp; rcases hp with rfl | rfl <;> (unfold maxLen; decide))
  rw [show mayAll [(false, (⟨#[12]⟩ : ByteArray)), (true, ⟨#[18]⟩)] = true by decide, if_pos rfl] at hck
  obtain ⟨B, off, c, rfl, hc, hcell⟩ := h
  have e0 := hcell 0 _ rfl
  have e1 := hcell 1 _ rfl
  simp only [Nat.zero_mul, Nat.one_mul, Nat.add_zero] at e0 e1
  have E0 : Hid (w.cell? ⟨B, off, none⟩ = some (.bool false) ∧ w.cell? ⟨B, off + 1, none⟩ = some (.string ⟨#[12]⟩)) := e0
  have E1 : Hid (w.cell? ⟨B, off + 2, none⟩ = some (.bool true) ∧ w.cell? ⟨B, off + 2 + 1, none⟩ = some (.string ⟨#[18]⟩)) := e1
  have HCK : Hid (∀ w', w.grownBy w' none → Calls Tryz.prog 47 #[.slice (some ⟨B, off, none⟩) 2 c] w' fun e w'' => e = .returned (.int .i64 0) ∧ w'.grownBy w'' none) := hck
  clear hck hcell e0 e1
  simp only [List.length_cons, List.length_nil, Nat.zero_add, Nat.reduceAdd] at hc ⊢
  go_enter Tryz.func20, Tryz.ntmps20
  go_wp2_with fail
  refine (HCK.out _ (grow1 _ _)).mono ?_
  rintro e w1 ⟨rfl, hg1⟩
  go_wp2_with (go_at_call 29; refine (zero_any _).mono ?_; rintro e w' ⟨rfl, rfl⟩)
  have hR0 : WBlk w1 w.heap.size (.bool false) (.string eS) := WBlk.kept (w := w.alloc (wObj false eS)) (heap_alloc_new _ _) hg1 (by simp)
  have hgw := grownBy_trans (grow1 w (wObj false eS)) hg1
  have hsz : w.heap.size < w1.heap.size := hR0.lt
  go_loopw [14] (fun s wr => ∃ k : Nat, k ≤ 2 ∧ s = .int .i64 k ∧ WBlk wr (w1.heap.size + 1) (.bool false) (.string (g12 k)) ∧ WBlk wr w.heap.size (.bool false) (.string eS) ∧ w.grownBy wr none) (fun s _ => 2 - (RowKit.intOf s).toNat)
  case atStart => exact ⟨0, by omega, rfl, heap_alloc2_new _ _ _, hR0.kept (grow2 _ _ _) (by simp), grownBy_trans hgw (grow2 _ _ _)⟩
  case round =>
    obtain ⟨k, hk, rfl, hP, hR, hgr⟩ := hrel
    clear hR0 hgw hg1
    have HGr : Hid (w.grownBy wr none) := hgr
    have hks : k = 0 ∨ k = 1 ∨ k = 2 := by omega
    rcases hks with rfl | rfl | rfl
    · have f0 := grownBy_cell hgr E0.out.1 (by simp)
      have f1 := grownBy_cell hgr E0.out.2 (by simp)
      have p0 := hP.c0
      have p1 := hP.c1
      have q0 := (hP.kept (grow1 wr (wObj false ⟨#[12]⟩)) (by simp)).c0
      have q1 := (hP.kept (grow1 wr (wObj false ⟨#[12]⟩)) (by simp)).c1
      clear hgr
      simp only [g12] at p1 q1
      go_wp2_with fail
      refine (gcd_small false false eS ⟨#[12]⟩ (by decide) (by decide) _).mono ?_
      rintro e w2 ⟨s, rfl, hs, hg2⟩
      have hs12 : s = ⟨#[12]⟩ := str_of_one (m := 12) (by rw [hs, gv1]) (by decide) (by decide) rfl
      subst hs12
      have hg2 := grownBy_trans (grow1 wr (wObj false ⟨#[12]⟩)) hg2
      have hP2 := hP.kept hg2 (by simp)
      have hR2 := hR.kept hg2 (by simp)
      have HG2 : Hid (w.grownBy w2 none) := grownBy_trans HGr.out hg2
      clear hg2 hs p0 p1 q0 q1 f0 f1
      have p0 := hP2.c0
      have p1 := hP2.c1
      have p2 := hP2.fr 0
      have p3 := hP2.fr 1
      go_wp2_with fail
      go_roundw
      case rel => exact ⟨1, by omega, rfl, hP2.put _ _, (hR2.other (by omega)).other (by omega), grown_set (grown_set HG2.out (by omega)) (by omega)⟩
      case measure => simp [RowKit.intOf]
    · have f0 := grownBy_cell hgr E1.out.1 (by simp)
      have f1 := grownBy_cell hgr E1.out.2 (by simp)
      have p0 := hP.c0
      have p1 := hP.c1
      have q0 := (hP.kept (grow1 wr (wObj true ⟨#[18]⟩)) (by simp)).c0
      have q1 := (hP.kept (grow1 wr (wObj true ⟨#[18]⟩)) (by simp)).c1
      clear hgr
      simp only [g12] at p1 q1
      go_wp2_with fail
      refine (gcd_small false true ⟨#[12]⟩ ⟨#[18]⟩ (by decide) (by decide) _).mono ?_
      rintro e w2 ⟨s, rfl, hs, hg2⟩
      have hs12 : s = ⟨#[6]⟩ := str_of_one (m := 6) (by rw [hs, gv2]) (by decide) (by decide) rfl
      subst hs12
      have hg2 := grownBy_trans (grow1 wr (wObj true ⟨#[18]⟩)) hg2
      have hP2 := hP.kept hg2 (by simp)
      have hR2 := hR.kept hg2 (by simp)
      have HG2 : Hid (w.grownBy w2 none) := grownBy_trans HGr.out hg2
      clear hg2 hs p0 p1 q0 q1 f0 f1
      have p0 := hP2.c0
      have p1 := hP2.c1
      have p2 := hP2.fr 0
      have p3 := hP2.fr 1
      go_wp2_with fail
      go_roundw
      case rel => exact ⟨2, by omega, rfl, hP2.put _ _, (hR2.other (by omega)).other (by omega), grown_set (grown_set HG2.out (by omega)) (by omega)⟩
      case measure => simp [RowKit.intOf]
    · have p0 := hP.c0
      have p1 := hP.c1
      have r0 := hR.c0
      have r1 := hR.c1
      have r2 := hR.fr 0
      have r3 := hR.fr 1
      clear hgr
      simp only [g12] at p1
      go_wp2_with fail
      refine bodyPost_ret (res_cell_tmp rfl _ _ w.heap.size _ _ _ _ rfl (hR.put _ _)) rfl ?_
      exact ⟨rfl, grown_set (grown_set HGr.out (Nat.le_refl _)) (Nat.le_refl _)⟩
end Go.Proofs.YtmgbkcfocbbofabGreatDoor
