/-
  frac's folded, in all its ways.
  frac's Make, in all its ways.
-/
import Derived.Test.YtdfliaogmlpefaaGreatDoorBunSmp
import Derived.Test.YtdfliaogmlpefaaGreatDoorBunRfl
import Derived.Deep.CutBlock
namespace Go.Proofs.YtdfliaogmlpefaaGreatDoor
open Go.RowKit Go.Lib Go.Sort Go.Shelf
set_option linter.unusedVariables false
attribute [local go_sem] Oper.semAt_some
set_option maxHeartbeats 8000000
set_option maxRecDepth 1000000
noncomputable def exM : Mk → E4
  | .ok a b => (ez a, ez b)
  | .no _ => ((false, eS), (false, eS))
structure FoldG (l : List Int) (Z : Nat → Bool × ByteArray) (K N9 : Nat) (bl : Bool) (er : Int) : Prop where
  len : l.length = K
  le : N9 ≤ K
  one : 1 ≤ N9
  all : bl = true → N9 = K
  z : ∀ i q, l[i]? = some q → Sz 200 q (Z i).1 (Z i).2
  ok : ∀ j, j ≤ K → (bl = true ∨ K - N9 < j) → ∃ a b, mkS (l.drop j) = .ok a b
  no : bl = false → mkS (l.drop (K - N9)) = .no er
def erAt (bl : Bool) (N9 : Nat) (er : Int) (t : Nat) : Int := if (bl || decide (t < N9)) = true then 0 else er
def fgI (w : World) (RB EB XB Bs : Nat) (ab : Option Addr) (K cp : Nat) (l : List Int) (N9 : Nat) (bl : Bool) (er : Int) (p : Nat × Option Nat) (W : World) : Prop :=
  p.2 = some XB ∧ p.1 ≤ N9 ∧ QBlk W RB (.bool false) (.string eS) (.bool false) (.string eS) ∧ W.heap[EB]? = some (.cells #[.int .i64 (erAt bl N9 er p.1)] 29 (0, 0)) ∧ ((bl || decide (p.1 < N9)) = true → QBlk W XB (.bool (exM (mkS (l.drop (K - p.1)))).1.1) (.string (exM (mkS (l.drop (K - p.1)))).1.2) (.bool (exM (mkS (l.drop (K - p.1)))).2.1) (.string (exM (mkS (l.drop (K - p.1)))).2.2)) ∧ W.cell? ⟨Bs, 0, none⟩ = some (.slice ab K cp) ∧ w.grownBy W none
theorem fgI_own (w : World) (RB EB XB Bs B : Nat) (ab : Option Addr) (K cp : Nat) (l : List Int) (N9 : Nat) (bl : Bool) (er : Int) (h1 : RB < B) (h2 : EB < B) (h3 : XB < B) (h4 : Bs < B) (h5 : w.heap.size ≤ B) (p : Nat × Option Nat) (W W' : World) (row : Option Nat) (h : fgI w RB EB XB Bs ab K cp l N9 bl er p W) (hg : W.grownBy W' row) (hr : ∀ r, row = some r → B ≤ r) : fgI w RB EB XB Bs ab K cp l N9 bl er p W' := by
  obtain ⟨a, b, c, d, e, f, g⟩ := h
  have nb : ∀ i o, i < B → W.heap[i]? = some o → W'.heap[i]? = some o := fun i o hi h => (hg.block i (Array.getElem?_eq_some_iff.1 h).1 (fun e => by have := hr i e.symm; omega)).trans h
  refine ⟨a, b, nb _ _ h1 c, nb _ _ h2 d, fun hh => nb _ _ h3 (e hh), grownBy_cell hg f (fun e => by have := hr Bs e; omega), ?_⟩
  exact ⟨hg.os.trans g.os, hg.tape.trans g.tape, hg.output.trans g.output, Nat.le_trans g.size hg.size, fun i hi hn => (hg.block i (Nat.lt_of_lt_of_le hi g.size) (fun e => by have := hr i e.symm; omega)).trans (g.block i hi hn)⟩
def fgA (w : World) (XB : Nat) (ab : Option Addr) (K cp : Nat) (Z : Nat → Bool × ByteArray) (l : List Int) (N9 : Nat) (bl : Bool) (er : Int) (p : Nat × Option Nat) (x : Act × World) : Prop :=
  ∃ QB, x.1 = { tmps := #[.slice ab K cp, undef, .pointer (some ⟨w.heap.size, 0, none⟩), .pointer (some ⟨w.heap.size + 1, 0, none⟩), .pointer (some ⟨XB, 0, none⟩), undef, .pointer (some ⟨QB, 0, none⟩), undef, undef, whole false oneS, .agg #[.bool false, .string oneS, .bool false, .string ⟨#[]⟩], .slice ab K cp, .func (.func 159) #[] #[.pointer (some ⟨XB + 1, 0, none⟩)], .int .i64 ((K - 1 - p.1 : Nat) : Int), whole (Z (K - 1 - p.1)).1 (Z (K - 1 - p.1)).2, undef, undef, undef, undef, undef, undef, undef, undef, undef, undef, undef, undef, undef, undef, undef, undef, undef, undef, undef, undef, undef, undef, undef, undef, undef, undef, undef, undef, undef, undef, undef, undef, undef, undef, undef, undef], defers := [] } ∧ WBlk x.2 QB (.bool (Z (K - 1 - p.1)).1) (.string (Z (K - 1 - p.1)).2) ∧ XB + 1 < QB ∧ fgI w w.heap.size (w.heap.size + 1) XB (XB + 1) ab K cp l N9 bl er p x.2
theorem fitting_big {n d : Bool} {s t : ByteArray} (h1 : s.size ≤ maxLen) (h2 : t.size ≤ maxLen) (hb : ¬ (s.size ≤ 1024 ∧ t.size ≤ 1024)) (w : World) :
    Calls Tryz.prog 126 #[frac n s d t] w fun e w' => e = .returned (.tuple #[frac false eS false eS, .int .i64 4]) ∧ w.grownBy w' none := by
  have h := fitting_any n d s t h1 h2 w
  have hf : fitsB s t = false := decide_eq_false hb
  unfold toldE at h
  rw [if_neg (by rw [hf]; simp)] at h
  have e : toldV n s d t = frac false eS false eS := by
    unfold toldV
    simp [hf, tB, tS]
  rw [e] at h
  exact h
theorem ez_sz2 {z : Int} {n : Bool} {s : ByteArray} (h1 : IsZ z n s) (h : z.natAbs < lim) : Sz 1024 z n s := by unfold lim at h; exact ⟨h1, h⟩
structure StepG (q a b : Int) (zn an bn mn cn un vn : Bool) (zS aS bS mS cS uS vS : ByteArray) : Prop where
  mul : ∀ w, Calls Tryz.prog 102 #[whole zn zS, whole an aS] w fun e w' => e = .returned (.tuple #[whole mn mS, .int .i64 0]) ∧ w.grownBy w' none
  add : ∀ w, Calls Tryz.prog 53 #[whole mn mS, whole bn bS] w fun e w' => e = .returned (.tuple #[whole cn cS, .int .i64 0]) ∧ w.grownBy w' none
  upr : ∀ w, Calls Tryz.prog 127 #[whole cn cS, whole an aS] w fun e w' => e = .returned (frac un uS vn vS) ∧ w.grownBy w' none
  ne : (aS.toList == []) = false
  u : Sz 2049 (upn q a b) un uS
  v : Sz 1024 (upd a) vn vS
theorem stepG {q a b : Int} {zn : Bool} {zS : ByteArray} (hz : Sz 200 q zn zS) (ha : a ≠ 0) (h1 : a.natAbs < lim) (h2 : b.natAbs < lim) : ∃ mn cn un vn mS cS uS vS, StepG q a b zn (ez a).1 (ez b).1 mn cn un vn zS (ez a).2 (ez b).2 mS cS uS vS := by
  have zA : Sz 1024 a (ez a).1 (ez a).2 := ez_sz h1
  have zB : Sz 1024 b (ez b).1 (ez b).2 := ez_sz h2
  obtain ⟨mn, mS, zm⟩ := isz_ex (q * a)
  obtain ⟨cn, cS, zc⟩ := isz_ex (q * a + b)
  obtain ⟨un, uS, zu⟩ := isz_ex (upn q a b)
  obtain ⟨vn, vS, zv⟩ := isz_ex (upd a)
  have zq : Sz 1024 q zn zS := hz.up (by decide)
  have zm2 : Sz 2048 (q * a) mn mS := by
    refine ⟨zm, ?_⟩
    rw [Int.natAbs_mul]
    generalize hk : 1024 = k at zq zA
    have h1 := Nat.mul_lt_mul_of_lt_of_lt zq.2 zA.2
    rw [← Nat.pow_add] at h1
    rw [show 2048 = k + k by omega]
    exact h1
  have zc2 : Sz 2049 (q * a + b) cn cS := by
    refine ⟨zc, ?_⟩
    have h3 := (zB.up (show 1024 ≤ 2048 by decide)).2
    have h4 := zm2.2
    have h5 := Int.natAbs_add_le (q * a) b
    have h6 : 2 * 256 ^ 2048 ≤ 256 ^ 2049 := by
      generalize hk : 2048 = k
      rw [show 2049 = k + 1 by omega, Nat.pow_succ, Nat.mul_comm]
      exact Nat.mul_le_mul_left _ (by decide)
    generalize 256 ^ 2048 = X at *
    generalize 256 ^ 2049 = Y at *
    omega
  have eu : (upn q a b).natAbs = (q * a + b).natAbs := by unfold upn; split <;> omega
  have hup := upd_pos ha
  have hv : Sz 1024 (upd a) vn vS := ez_sz2 zv (by rw [hup.2]; exact h1)
  refine ⟨mn, cn, un, vn, mS, cS, uS, vS, fun w => mul_is (by decide) zq zA zm w, fun w => add_is (by decide) zm2 (zB.up (by decide)) zc w, fun w => ?_, nonempty_q (zA.size0 (by decide) ha), ⟨zu, by rw [eu]; exact zc2.2⟩, hv⟩
  exact upright_any ha zc2 zA (by unfold upn at zu; exact zu) zv w
theorem folded_by (l : List Int) (Z : Nat → Bool × ByteArray) (K N9 : Nat) (bl : Bool) (er : Int) (hF : FoldG l Z K N9 bl er) (hK9 : K ≤ 100000) (hend : bl = false → mkS l = .no er) (ab : Option Addr) (cp : Nat) (w : World)
    (hsrc : ∀ q, q < K → ∃ B off, ab = some ⟨B, off, none⟩ ∧ w.cell? ⟨B, off + q * 2, none⟩ = some (.bool (Z q).1) ∧ w.cell? ⟨B, off + q * 2 + 1, none⟩ = some (.string (Z q).2) ∧ K ≤ cp) :
    Calls Tryz.prog 82 #[.slice ab K cp] w fun e w' => e = .returned (mkV (mkS l)) ∧ w.grownBy w' none := by
  have HS : Hid (∀ q, q < K → ∃ B off, ab = some ⟨B, off, none⟩ ∧ w.cell? ⟨B, off + q * 2, none⟩ = some (.bool (Z q).1) ∧ w.cell? ⟨B, off + q * 2 + 1, none⟩ = some (.string (Z q).2) ∧ K ≤ cp) := hsrc
  clear hsrc
  refine (callsIn_wide (n := 5)).1 ?_
  refine callsIn_of_wp_marks Tryz.func82 rfl trivial ?_ rfl
  simp only [Tryz.ntmps82, List.size_toArray, List.length_cons, List.length_nil, Nat.reduceAdd, Nat.reduceSub, Array.replicate_succ, Array.replicate_zero, List.push_toArray, List.append_toArray, List.nil_append, List.cons_append]
  gi_wp2
  refine ⟨trivial, ?_⟩
  refine (callsIn_wide.2 (fone_any _)).mono ?_
  rintro e w1 ⟨rfl, g1⟩
  gi_wp2
  refine ⟨trivial, ?_⟩
  refine (callsIn_wide.2 (bwd_any _ _ _ _)).mono ?_
  rintro e w2 ⟨rfl, rfl⟩
  gi_wp2
  have HG0 : Hid (w.grownBy w1 none ∧ w.heap.size + 1 < w1.heap.size) := (by
    refine ⟨grownBy_trans (grow2 _ _ _) g1, ?_⟩
    have := g1.size
    simp at this
    omega)
  have HI0 : Hid (fgI w w.heap.size (w.heap.size + 1) w1.heap.size (w1.heap.size + 1) ab K cp l N9 bl er (0, some w1.heap.size) ((w1.alloc (qObj false oneS false eS)).alloc (.cells #[.slice ab K cp] 48))) := (by
    have b1 : QBlk w1 w.heap.size (.bool false) (.string eS) (.bool false) (.string eS) := QBlk.kept (w := (w.alloc (qObj false eS false eS)).alloc (.cells #[.int .i64 0] 29)) (old_alloc _ _ (heap_alloc_new _ _)) g1 (by simp)
    have b2 : w1.heap[w.heap.size + 1]? = some (.cells #[.int .i64 0] 29 (0, 0)) := (g1.block (w.heap.size + 1) (by simp) (by simp)).trans (heap_alloc2_new _ _ _)
    have hd : mkS (l.drop K) = .ok 1 0 := by rw [← hF.len, List.drop_length]; rfl
    have h0 : (bl || decide (0 < N9)) = true := by have := hF.one; simp; omega
    refine ⟨rfl, Nat.zero_le _, old_alloc _ _ (old_alloc _ _ b1), ?_, fun _ => ?_, ?_, grownBy_trans HG0.out.1 (grow2 _ _ _)⟩
    · unfold erAt
      rw [if_pos h0]
      exact old_alloc _ _ (old_alloc _ _ b2)
    · show QBlk _ _ (.bool (exM (mkS (l.drop (K - 0)))).1.1) (.string (exM (mkS (l.drop (K - 0)))).1.2) (.bool (exM (mkS (l.drop (K - 0)))).2.1) (.string (exM (mkS (l.drop (K - 0)))).2.2)
      rw [Nat.sub_zero, hd]
      simp only [exM, ez_0.1, ez_0.2, ez_1.1, ez_1.2]
      exact old_alloc _ _ (heap_alloc_new _ _)
    · have h := heap_alloc2_new w1 (qObj false oneS false eS) (.cells #[.slice ab K cp] 48)
      simp only [World.cell?, h]
      rfl)
  have hsz : ((w1.alloc (qObj false oneS false eS)).alloc (.cells #[.slice ab K cp] 48)).heap.size = w1.heap.size + 2 := by simp
  clear g1
  generalize (w1.alloc (qObj false oneS false eS)).alloc (.cells #[.slice ab K cp] 48) = W0 at *
  generalize w1.heap.size = XB at *
  have own := fun p W W' row => fgI_own w w.heap.size (w.heap.size + 1) XB (XB + 1) W0.heap.size ab K cp l N9 bl er (by have := HG0.out.2; omega) (by have := HG0.out.2; omega) (by omega) (by omega) (by have := HG0.out.2; omega) p W W' row
  refine wpIn_countedG rfl (by omega) (gf := 159) (lb := #[.pointer (some ⟨XB + 1, 0, none⟩)]) rfl trivial (enters_of Tryz.func159 (by kernel_rfl) rfl) (encW Z K) N9 bl none (fun _ => hF.one) (fun t => rfl)
    (fgI w w.heap.size (w.heap.size + 1) XB (XB + 1) ab K cp l N9 bl er) (fun p W W' row h hg hr => own p W W' row h hg (fun r e => (hr r e).1)) (some XB) (.inr ⟨XB, rfl, by omega⟩) HI0.out ?hit (fun p W W' r h hg hB _ => own p W W' (some r) h hg (fun r' e => by injection e with e; omega))
    (fgA w XB ab K cp Z l N9 bl er) ?ownA ?assign ?body ?done
  case hit =>
    refine bwh_handsG Fence.wide _ trivial rfl (by omega) (XB + 1) Z K cp ab (by omega) N9 bl hF.le hF.one hF.all _ _ ?_
    rintro ⟨t, o⟩ W hp hb ⟨h1, h2, h3, h4, h5, h6, h7⟩
    refine ⟨h6, fun q hq => ?_⟩
    obtain ⟨B, off, hb, c0, c1, hc⟩ := HS.out q (by omega)
    exact ⟨B, off, hb, grownBy_cell h7 c0 (by simp), grownBy_cell h7 c1 (by simp), hc⟩
  case ownA =>
    rintro a1 p W W' row ⟨QB, h1, h2, h3, h4⟩ hg hr
    refine ⟨QB, h1, ?_, h3, own p W W' row h4 hg (fun r e => (hr r e).1)⟩
    refine (hg.block QB h2.lt (fun e => ?_)).trans h2
    obtain ⟨_, o, ho, hc⟩ := hr QB e.symm
    have e2 : some o = some (Obj.cells #[.bool (Z (K - 1 - p.1)).1, .string (Z (K - 1 - p.1)).2] 23 (0, 0)) := ho.symm.trans h2
    obtain rfl := Option.some.inj e2
    cases hc
  case assign =>
    intro lo t o W ht hI
    have hW : XB + 1 < W.heap.size := World.block_lt_of_cell? W _ hI.2.2.2.2.2.1
    simp only [encW]
    gi_wp2
    exact ⟨⟨W.heap.size, rfl, heap_alloc_new _ _, by omega, own (t, o) _ _ none hI (grow1 _ _) (fun r e => by cases e)⟩, grow1 _ _⟩
  case body =>
    rintro lo t o a' W ht ⟨QB, rfl, hq, hQB, hI⟩
    obtain ⟨ho, hle, hR, hEr, hX, hBs, hgw⟩ := hI
    dsimp only at ho hle hX hq hEr
    subst ho
    dsimp only
    have hK := hF.len
    have hNK := hF.le
    obtain ⟨j, hj⟩ : ∃ j, K = t + 1 + j := ⟨K - 1 - t, by omega⟩
    have ej : K - 1 - t = j := by omega
    have ej1 : K - t = j + 1 := by omega
    have ej2 : K - (t + 1) = j := by omega
    have hgo0 : (bl || decide (t < N9)) = true := by simp [ht]
    have hX := hX hgo0
    unfold erAt at hEr
    rw [if_pos hgo0] at hEr
    rw [ej1] at hX
    rw [ej] at hq ⊢
    obtain ⟨q, hq0⟩ : ∃ q, l[j]? = some q := ⟨l[j]'(by omega), List.getElem?_eq_getElem _⟩
    have hcons := mkS_cons l j q hq0
    have zq := hF.z j q hq0
    obtain ⟨a, b, hab⟩ := hF.ok (j + 1) (by omega) (by
      cases bl
      · right; omega
      · exact .inl rfl)
    obtain ⟨ha1, hb1, hg1, _⟩ := mkS_inv _ a b hab
    rw [hab] at hX
    dsimp only [exM] at hX
    have hI2 : ∀ W' ern, QBlk W' w.heap.size (.bool false) (.string eS) (.bool false) (.string eS) → W'.heap[w.heap.size + 1]? = some (.cells #[.int .i64 ern] 29 (0, 0)) → ern = erAt bl N9 er (t + 1) → ((bl || decide (t + 1 < N9)) = true → QBlk W' XB (.bool (exM (mkS (l.drop j))).1.1) (.string (exM (mkS (l.drop j))).1.2) (.bool (exM (mkS (l.drop j))).2.1) (.string (exM (mkS (l.drop j))).2.2)) → W'.cell? ⟨XB + 1, 0, none⟩ = some (.slice ab K cp) → w.grownBy W' none → fgI w w.heap.size (w.heap.size + 1) XB (XB + 1) ab K cp l N9 bl er (t + 1, some XB) W' := fun W' ern a b b2 c d e => ⟨rfl, by show t + 1 ≤ N9; omega, a, by rw [← b2]; exact b, fun hh => by show QBlk W' XB (.bool (exM (mkS (l.drop (K - (t + 1))))).1.1) (.string (exM (mkS (l.drop (K - (t + 1))))).1.2) (.bool (exM (mkS (l.drop (K - (t + 1))))).2.1) (.string (exM (mkS (l.drop (K - (t + 1))))).2.2); rw [ej2]; exact c hh, d, e⟩
    have HI2 : Hid _ := hI2
    have HB0 : Hid (QBlk W w.heap.size (.bool false) (.string eS) (.bool false) (.string eS) ∧ W.heap[w.heap.size + 1]? = some (.cells #[.int .i64 0] 29 (0, 0)) ∧ W.cell? ⟨XB + 1, 0, none⟩ = some (.slice ab K cp) ∧ w.grownBy W none) := ⟨hR, hEr, hBs, hgw⟩
    have HLT : Hid (w.heap.size + 1 < XB ∧ XB + 1 < QB ∧ W0.heap.size = XB + 2) := ⟨HG0.out.2, hQB, hsz⟩
    obtain ⟨go, hgo⟩ : ∃ go, (bl || decide (t + 1 < N9)) = go := ⟨_, rfl⟩
    have hnx : go = false → mkS (l.drop j) = .no er := by
      intro e
      rw [e, Bool.or_eq_false_iff, decide_eq_false_iff_not] at hgo
      have := hF.no hgo.1
      rw [show K - N9 = j by omega] at this
      exact this
    have hnx2 : go = true → ∃ a b, mkS (l.drop j) = .ok a b := by
      intro e
      rw [e, Bool.or_eq_true, decide_eq_true_eq] at hgo
      exact hF.ok j (by omega) (hgo.imp id (by omega))
    have hera : erAt bl N9 er (t + 1) = if go = true then 0 else er := by unfold erAt; rw [hgo]
    rw [hgo]
    rw [hgo] at HI2
    rw [hera] at HI2
    rw [hcons] at hnx hnx2 HI2
    clear hI2 hR hEr hBs hgw hQB own hF HS HI0 hj hle hK hK9 ht hsz ej ej1 ej2 hgo0 hNK hgo hera
    generalize (Z j).1 = zn at *
    generalize (Z j).2 = zS at *
    by_cases ha : a = 0
    · subst ha
      have hno := mkS_zero (q := q) hab
      cases go with
      | true => obtain ⟨x, y, h⟩ := hnx2 rfl; rw [hno] at h; cases h
      | false =>
        have her := hnx rfl
        rw [hno] at her
        injection her with her
        subst her
        rw [ez_0.1, ez_0.2] at hX
        have HX0 : Hid (QBlk W XB (.bool false) (.string eS) (.bool (ez b).1) (.string (ez b).2)) := hX
        have x0 := hX.c0
        have x1 := hX.c1
        clear hX hq hnx hnx2 zq
        gi_wp2
        gi_region_with (first | (refine ⟨trivial, ?_⟩; refine (callsIn_round (fzero_gr _)).mono ?_; rintro e w3 ⟨rfl, g3⟩; have G3 : W.grownBy w3 none := (by first | exact g3 | exact grownBy_undrew g3); have y := HX0.out.kept G3 (by simp); have y0 := y.c0; have y1 := y.c1) | fail)
        all_goals (
          have hR3 := HB0.out.1.kept G3 (by simp)
          have r0 := hR3.c0
          have r1 := hR3.c1
          have r2 := hR3.c2
          have r3 := hR3.c3
          have f0 := hR3.fr 0
          have f1 := hR3.fr 1
          have f2 := hR3.fr 2
          have f3 := hR3.fr 3
          have hE3 := (G3.block _ (Array.getElem?_eq_some_iff.1 HB0.out.2.1).1 (by simp)).trans HB0.out.2.1
          have c4 : w3.cell? ⟨w.heap.size + 1, 0, none⟩ = some (.int .i64 0) := by simp [World.cell?, hE3]
          have f4 : w3.frozen? ⟨w.heap.size + 1, 0, none⟩ = false := by simp [World.frozen?, hE3]
          gi_wp2
          have hlt := HLT.out
          have u1 : QBlk (((((w3.setCell ⟨w.heap.size, 0, none⟩ (.bool false)).setCell ⟨w.heap.size, 1, none⟩ (.string eS)).setCell ⟨w.heap.size, 2, none⟩ (.bool false)).setCell ⟨w.heap.size, 3, none⟩ (.string eS)).setCell ⟨w.heap.size + 1, 0, none⟩ (.int .i64 5)) w.heap.size (.bool false) (.string eS) (.bool false) (.string eS) := (hR3.put _ _ _ _).kept (grownBy_setCell _ (w.heap.size + 1) 0 _) (by intro e; injection e with e; omega)
          have u2 : (((((w3.setCell ⟨w.heap.size, 0, none⟩ (.bool false)).setCell ⟨w.heap.size, 1, none⟩ (.string eS)).setCell ⟨w.heap.size, 2, none⟩ (.bool false)).setCell ⟨w.heap.size, 3, none⟩ (.string eS)).setCell ⟨w.heap.size + 1, 0, none⟩ (.int .i64 5)).heap[w.heap.size + 1]? = some (.cells #[.int .i64 5] 29 (0, 0)) := by simp [World.setCell, Array.getElem?_modify, hE3]
          have gP : w3.grownBy ((((w3.setCell ⟨w.heap.size, 0, none⟩ (.bool false)).setCell ⟨w.heap.size, 1, none⟩ (.string eS)).setCell ⟨w.heap.size, 2, none⟩ (.bool false)).setCell ⟨w.heap.size, 3, none⟩ (.string eS)) (some w.heap.size) := grownBy_trans (grownBy_trans (grownBy_setCell _ _ _ _) (grownBy_setCell _ _ _ _)) (grownBy_trans (grownBy_setCell _ _ _ _) (grownBy_setCell _ _ _ _))
          have gE := grownBy_setCell ((((w3.setCell ⟨w.heap.size, 0, none⟩ (.bool false)).setCell ⟨w.heap.size, 1, none⟩ (.string eS)).setCell ⟨w.heap.size, 2, none⟩ (.bool false)).setCell ⟨w.heap.size, 3, none⟩ (.string eS)) (w.heap.size + 1) 0 (.int .i64 5)
          have u5 := grownBy_cell gE (grownBy_cell gP (grownBy_cell G3 HB0.out.2.2.1 (by simp)) (by intro e; injection e with e; omega)) (by intro e; injection e with e; omega)
          have u4 : w.grownBy (((((w3.setCell ⟨w.heap.size, 0, none⟩ (.bool false)).setCell ⟨w.heap.size, 1, none⟩ (.string eS)).setCell ⟨w.heap.size, 2, none⟩ (.bool false)).setCell ⟨w.heap.size, 3, none⟩ (.string eS)).setCell ⟨w.heap.size + 1, 0, none⟩ (.int .i64 5)) none := grown_set (grown_put4 (grownBy_trans HB0.out.2.2.2 G3) (Nat.le_refl _)) (by omega)
          refine ⟨rfl, ?_, some XB, HI2.out _ _ u1 u2 (by simp) (by intro h; cases h) u5 u4, ?_, .inl rfl⟩
          · exact ((keeps_of_grown (grown_some G3 XB) HX0.out).trans (((KeepsOthers.setCell _ _ _).trans (KeepsOthers.setCell _ _ _)).trans ((KeepsOthers.setCell _ _ _).trans (KeepsOthers.setCell _ _ _)))).trans (KeepsOthers.setCell _ _ _)
          · refine ⟨Nat.le_trans G3.size (Nat.le_trans gP.size gE.size), fun i hB hi hn => ?_⟩
            have hi3 := Nat.lt_of_lt_of_le hi G3.size
            rw [gE.block i (Nat.lt_of_lt_of_le hi3 gP.size) (by intro e; injection e with e; omega), gP.block i hi3 (by intro e; injection e with e; omega), G3.block i hi (by simp)])
    · obtain ⟨mn, cn, un, vn, mS, cS, uS, vS, hSt⟩ := stepG zq ha ha1 hb1
      obtain ⟨xn, xS, yn, yS, e9, hFt, hcase⟩ : ∃ xn xS yn yS e9, (∀ w, Calls Tryz.prog 126 #[frac un uS vn vS] w fun e w' => e = .returned (.tuple #[frac xn xS yn yS, .int .i64 e9]) ∧ w.grownBy w' none) ∧ ((go = true ∧ e9 = 0 ∧ exM (mkS (q :: l.drop (j + 1))) = ((xn, xS), (yn, yS))) ∨ (go = false ∧ e9 = 4 ∧ er = 4)) := by
        by_cases hb : (upn q a b).natAbs < lim
        · have hok := mkS_ok (q := q) hab ha hb
          have zu : Sz 1024 (upn q a b) un uS := ez_sz2 hSt.u.1 hb
          have h1 : uS.size ≤ 1024 := by have h1 := isZ_size zu.1; have h2 := zu.bl; omega
          have h2 : vS.size ≤ 1024 := by have h1 := isZ_size hSt.v.1; have h2 := hSt.v.bl; omega
          refine ⟨un, uS, vn, vS, 0, fun w => fitting_ok h1 h2 w, .inl ⟨?_, rfl, ?_⟩⟩
          · cases go with
            | true => rfl
            | false => have := hnx rfl; rw [hok] at this; cases this
          · rw [hok]
            obtain ⟨a1, a2⟩ := ez_one zu.1
            obtain ⟨a3, a4⟩ := ez_one hSt.v.1
            simp only [exM, a1, a2, a3, a4]
        · have hno := mkS_big (q := q) hab ha hb
          have h1 : ¬ (uS.size ≤ 1024 ∧ vS.size ≤ 1024) := fun h => hb (by have h4 := may_sz (hSt.u.may (by decide)) h.1; rw [hSt.u.num] at h4; unfold lim; exact h4.2)
          have h2 := may_size (hSt.u.may (by decide))
          have h3 := may_size (hSt.v.may (by decide))
          refine ⟨false, eS, false, eS, 4, fun w => fitting_big (by unfold maxLen; omega) (by unfold maxLen; omega) h1 w, .inr ⟨?_, rfl, ?_⟩⟩
          · cases go with
            | true => obtain ⟨x, y, h⟩ := hnx2 rfl; rw [hno] at h; cases h
            | false => rfl
          · cases go with
            | true => obtain ⟨x, y, h⟩ := hnx2 rfl; rw [hno] at h; cases h
            | false => have := hnx rfl; rw [hno] at this; injection this with this; exact this.symm
      have HMl : Hid _ := hSt.mul
      have HAd : Hid _ := hSt.add
      have HUp : Hid _ := hSt.upr
      have HFt : Hid _ := hFt
      have hne := hSt.ne
      clear hSt hFt hnx hnx2 hab zq
      generalize (ez a).1 = an at *
      generalize (ez a).2 = aS at *
      generalize (ez b).1 = bn at *
      generalize (ez b).2 = bS at *
      have HX0 : Hid (QBlk W XB (.bool an) (.string aS) (.bool bn) (.string bS)) := hX
      have HQ0 : Hid (WBlk W QB (.bool zn) (.string zS)) := hq
      have x0 := hX.c0
      have x1 := hX.c1
      clear hX hq
      have HCs : Hid ((go = true ∧ e9 = 0 ∧ exM (mkS (q :: l.drop (j + 1))) = ((xn, xS), (yn, yS))) ∨ (go = false ∧ e9 = 4 ∧ er = 4)) := hcase
      clear hcase
      gi_wp2
      gi_region_with (first | (refine ⟨trivial, ?_⟩; refine (callsIn_round (fzero_gr _)).mono ?_; rintro e w3 ⟨rfl, g3⟩; have G3 : W.grownBy w3 none := (by first | exact g3 | exact grownBy_undrew g3); have y := HX0.out.kept G3 (by simp); have y0 := y.c0; have y1 := y.c1) | fail)
      all_goals (
        have HX3 : Hid (QBlk w3 XB (.bool an) (.string aS) (.bool bn) (.string bS)) := HX0.out.kept G3 (by simp)
        have q3 := HQ0.out.kept G3 (by simp)
        have q0 := q3.c0
        have q1 := q3.c1
        have HG3 : Hid (W.grownBy w3 none) := G3
        clear q3 G3 g3 x0 x1 y
        gi_wp2
        refine ⟨trivial, ?_⟩
        refine (callsIn_round (HMl.out _)).mono ?_
        rintro e w4 ⟨rfl, g4⟩
        have HX4 : Hid (QBlk (w4.alloc (wObj mn mS)) XB (.bool an) (.string aS) (.bool bn) (.string bS)) := old_alloc _ _ (HX3.out.kept g4 (by simp))
        have HS4 : Hid (WBlk (w4.alloc (wObj mn mS)) w4.heap.size (.bool mn) (.string mS)) := heap_alloc_new _ _
        have HG4 : Hid (W.grownBy (w4.alloc (wObj mn mS)) none ∧ XB < w4.heap.size ∧ W.heap.size ≤ w4.heap.size) := (by
          have h1 := grownBy_trans HG3.out g4
          exact ⟨grownBy_trans h1 (grow1 _ _), Nat.lt_of_lt_of_le HX0.out.lt h1.size, h1.size⟩)
        clear g4 HX3 HG3 y0 y1 q0 q1
        gi_upto_region 8 with fail
        generalize w4.alloc (wObj mn mS) = V at *
        generalize w4.heap.size = SB at *
        have s0 := HS4.out.c0
        have s1 := HS4.out.c1
        have x2 := HX4.out.c2
        have x3 := HX4.out.c3
        gi_wp2
        refine ⟨trivial, ?_⟩
        refine (callsIn_round (HAd.out _)).mono ?_
        rintro e w5 ⟨rfl, g5⟩
        have hS5 := HS4.out.kept g5 (by simp)
        have k0 := hS5.c0
        have k1 := hS5.c1
        have k2 := hS5.fr 0
        have k3 := hS5.fr 1
        have ne1 : ¬ SB = XB := by have := HG4.out.2.1; omega
        have HX5 : Hid (QBlk ((w5.setCell ⟨SB, 0, none⟩ (.bool cn)).setCell ⟨SB, 1, none⟩ (.string cS)) XB (.bool an) (.string aS) (.bool bn) (.string bS)) := (by
          have hg : w5.grownBy ((w5.setCell ⟨SB, 0, none⟩ (.bool cn)).setCell ⟨SB, 1, none⟩ (.string cS)) (some SB) := grownBy_trans (grownBy_setCell _ _ _ _) (grownBy_setCell _ _ _ _)
          exact (HX4.out.kept g5 (by simp)).kept hg (by intro e; injection e with e; omega))
        have HS5 : Hid (WBlk ((w5.setCell ⟨SB, 0, none⟩ (.bool cn)).setCell ⟨SB, 1, none⟩ (.string cS)) SB (.bool cn) (.string cS)) := hS5.put _ _
        have HG5 : Hid (W.grownBy ((w5.setCell ⟨SB, 0, none⟩ (.bool cn)).setCell ⟨SB, 1, none⟩ (.string cS)) none) := grown_set (grown_set (grownBy_trans HG4.out.1 g5) HG4.out.2.2) HG4.out.2.2
        clear hS5 g5 s0 s1 x2 x3 HS4 HX4 ne1
        gi_upto_region 9 with fail
        clear k0 k1 k2 k3
        generalize (w5.setCell ⟨SB, 0, none⟩ (.bool cn)).setCell ⟨SB, 1, none⟩ (.string cS) = V5 at *
        have s0 := HS5.out.c0
        have s1 := HS5.out.c1
        have x0 := HX5.out.c0
        have x1 := HX5.out.c1
        gi_wp2
        refine ⟨trivial, ?_⟩
        refine (callsIn_round (HUp.out _)).mono ?_
        rintro e w6 ⟨rfl, g6⟩
        gi_wp2
        refine ⟨trivial, ?_⟩
        refine (callsIn_round (HFt.out _)).mono ?_
        rintro e w7 ⟨rfl, g7⟩
        have hX7 := HX5.out.kept (grownBy_trans g6 g7) (by simp)
        have HG7 : Hid (W.grownBy w7 none) := grownBy_trans HG5.out (grownBy_trans g6 g7)
        have x0 := hX7.c0
        have x1 := hX7.c1
        have x2 := hX7.c2
        have x3 := hX7.c3
        have f0 := hX7.fr 0
        have f1 := hX7.fr 1
        have f2 := hX7.fr 2
        have f3 := hX7.fr 3
        have HX8 : Hid (QBlk ((((w7.setCell ⟨XB, 0, none⟩ (.bool xn)).setCell ⟨XB, 1, none⟩ (.string xS)).setCell ⟨XB, 2, none⟩ (.bool yn)).setCell ⟨XB, 3, none⟩ (.string yS)) XB (.bool xn) (.string xS) (.bool yn) (.string yS)) := hX7.put _ _ _ _
        have HG8 : Hid (W.grownBy ((((w7.setCell ⟨XB, 0, none⟩ (.bool xn)).setCell ⟨XB, 1, none⟩ (.string xS)).setCell ⟨XB, 2, none⟩ (.bool yn)).setCell ⟨XB, 3, none⟩ (.string yS)) (some XB)) := grownBy_trans (grown_some HG7.out XB) (grownBy_trans (grownBy_trans (grownBy_setCell _ _ _ _) (grownBy_setCell _ _ _ _)) (grownBy_trans (grownBy_setCell _ _ _ _) (grownBy_setCell _ _ _ _)))
        have HW8 : Hid (w.grownBy ((((w7.setCell ⟨XB, 0, none⟩ (.bool xn)).setCell ⟨XB, 1, none⟩ (.string xS)).setCell ⟨XB, 2, none⟩ (.bool yn)).setCell ⟨XB, 3, none⟩ (.string yS)) none) := grown_put4 (grownBy_trans HB0.out.2.2.2 HG7.out) (by have := HLT.out; omega)
        clear hX7 g6 g7 HX5 HS5 HG5 s0 s1
        gi_upto_region 11 with fail
        clear x0 x1 x2 x3 f0 f1 f2 f3 HG7
        generalize (((w7.setCell ⟨XB, 0, none⟩ (.bool xn)).setCell ⟨XB, 1, none⟩ (.string xS)).setCell ⟨XB, 2, none⟩ (.bool yn)).setCell ⟨XB, 3, none⟩ (.string yS) = V8 at *
        have hlt := HLT.out
        have hR3 := HB0.out.1.kept HG8.out (by intro e; injection e with e; omega)
        have hE3 := (HG8.out.block _ (Array.getElem?_eq_some_iff.1 HB0.out.2.1).1 (by intro e; injection e with e; omega)).trans HB0.out.2.1
        have hB3 := grownBy_cell HG8.out HB0.out.2.2.1 (by intro e; injection e with e; omega)
        rcases HCs.out with ⟨rfl, rfl, hex⟩ | ⟨rfl, rfl, rfl⟩
        · have HR3 : Hid _ := hR3
          have HE3 : Hid _ := hE3
          have HB3 : Hid _ := hB3
          have HEx : Hid _ := hex
          clear hR3 hE3 hB3 hlt hex HCs
          gi_wp2
          refine ⟨rfl, keeps_of_grown HG8.out HX0.out, some XB, HI2.out _ _ HR3.out HE3.out (by simp) (fun _ => ?_) HB3.out HW8.out, .of HG8.out, .inl rfl⟩
          rw [HEx.out]
          exact HX8.out
        · have r0 := hR3.c0
          have r1 := hR3.c1
          have r2 := hR3.c2
          have r3 := hR3.c3
          have f0 := hR3.fr 0
          have f1 := hR3.fr 1
          have f2 := hR3.fr 2
          have f3 := hR3.fr 3
          have c4 : V8.cell? ⟨w.heap.size + 1, 0, none⟩ = some (.int .i64 0) := by simp [World.cell?, hE3]
          have f4 : V8.frozen? ⟨w.heap.size + 1, 0, none⟩ = false := by simp [World.frozen?, hE3]
          have u1 : QBlk (((((V8.setCell ⟨w.heap.size, 0, none⟩ (.bool false)).setCell ⟨w.heap.size, 1, none⟩ (.string eS)).setCell ⟨w.heap.size, 2, none⟩ (.bool false)).setCell ⟨w.heap.size, 3, none⟩ (.string eS)).setCell ⟨w.heap.size + 1, 0, none⟩ (.int .i64 4)) w.heap.size (.bool false) (.string eS) (.bool false) (.string eS) := (hR3.put _ _ _ _).kept (grownBy_setCell _ (w.heap.size + 1) 0 _) (by intro e; injection e with e; omega)
          have u2 : (((((V8.setCell ⟨w.heap.size, 0, none⟩ (.bool false)).setCell ⟨w.heap.size, 1, none⟩ (.string eS)).setCell ⟨w.heap.size, 2, none⟩ (.bool false)).setCell ⟨w.heap.size, 3, none⟩ (.string eS)).setCell ⟨w.heap.size + 1, 0, none⟩ (.int .i64 4)).heap[w.heap.size + 1]? = some (.cells #[.int .i64 4] 29 (0, 0)) := by simp [World.setCell, Array.getElem?_modify, hE3]
          have gP : V8.grownBy ((((V8.setCell ⟨w.heap.size, 0, none⟩ (.bool false)).setCell ⟨w.heap.size, 1, none⟩ (.string eS)).setCell ⟨w.heap.size, 2, none⟩ (.bool false)).setCell ⟨w.heap.size, 3, none⟩ (.string eS)) (some w.heap.size) := grownBy_trans (grownBy_trans (grownBy_setCell _ _ _ _) (grownBy_setCell _ _ _ _)) (grownBy_trans (grownBy_setCell _ _ _ _) (grownBy_setCell _ _ _ _))
          have gE := grownBy_setCell ((((V8.setCell ⟨w.heap.size, 0, none⟩ (.bool false)).setCell ⟨w.heap.size, 1, none⟩ (.string eS)).setCell ⟨w.heap.size, 2, none⟩ (.bool false)).setCell ⟨w.heap.size, 3, none⟩ (.string eS)) (w.heap.size + 1) 0 (.int .i64 4)
          have u5 := grownBy_cell gE (grownBy_cell gP hB3 (by intro e; injection e with e; omega)) (by intro e; injection e with e; omega)
          have u4 : w.grownBy (((((V8.setCell ⟨w.heap.size, 0, none⟩ (.bool false)).setCell ⟨w.heap.size, 1, none⟩ (.string eS)).setCell ⟨w.heap.size, 2, none⟩ (.bool false)).setCell ⟨w.heap.size, 3, none⟩ (.string eS)).setCell ⟨w.heap.size + 1, 0, none⟩ (.int .i64 4)) none := grown_set (grown_put4 HW8.out (Nat.le_refl _)) (by omega)
          have HF : Hid _ := (And.intro u1 (And.intro u2 (And.intro gP (And.intro gE (And.intro u5 u4)))))
          clear hR3 hE3 hB3 hlt u1 u2 gP gE u5 u4 HCs
          gi_wp2
          obtain ⟨u1, u2, gP, gE, u5, u4⟩ := HF.out
          have hlt := HLT.out
          refine ⟨rfl, ?_, some XB, HI2.out _ _ u1 u2 (by simp) (by intro h; cases h) u5 u4, ?_, .inl rfl⟩
          · exact ((keeps_of_grown HG8.out HX0.out).trans (((KeepsOthers.setCell _ _ _).trans (KeepsOthers.setCell _ _ _)).trans ((KeepsOthers.setCell _ _ _).trans (KeepsOthers.setCell _ _ _)))).trans (KeepsOthers.setCell _ _ _)
          · refine ⟨Nat.le_trans HG8.out.size (Nat.le_trans gP.size gE.size), fun i hB hi hn => ?_⟩
            have hi3 := Nat.lt_of_lt_of_le hi HG8.out.size
            rw [gE.block i (Nat.lt_of_lt_of_le hi3 gP.size) (by intro e; injection e with e; omega), gP.block i hi3 (by intro e; injection e with e; omega), HG8.out.block i hi hn])
  case done =>
    rintro D o W hD hI hK'
    obtain ⟨h1, h2, h3, h4, h5, h6, h7⟩ := hI
    dsimp only at h4 h5
    have hlt := HG0.out.2
    have hDs : XB + 2 ≤ D := by omega
    cases bl with
    | false =>
      rw [if_neg (by simp)]
      have hno := hF.no rfl
      have hall : mkS l = .no er := hend rfl
      have he4 : erAt false N9 er N9 = er := by unfold erAt; rw [if_neg (by simp)]
      rw [he4] at h4
      have HAl : Hid (mkS l = .no er) := hall
      clear h5 hno hall hF own
      show (Code.ret).wpIn _ _ _ _ _ _
      gi_wp2
      refine ⟨by simp, .inl ⟨_, _, rfl, run_takeDeferred hK', ?_⟩⟩
      have kD := grownBy_putObj' W D (.deferred none)
      have nb : ∀ i o, i < XB + 2 → W.heap[i]? = some o → (W.putObj D (.deferred none)).heap[i]? = some o := fun i o hi hh => (kD.block i (Array.getElem?_eq_some_iff.1 hh).1 (by intro e; injection e with e; omega)).trans hh
      refine ⟨_, res_folded _ _ w.heap.size (w.heap.size + 1) _ _ _ _ (.int .i64 er) rfl (nb _ _ (by omega) h3) rfl (load_errno _ _ _ (nb _ _ (by omega) h4)), (by first | rfl | (rw [HAl.out]; rfl)), ?_⟩
      exact ⟨kD.os.trans h7.os, kD.tape.trans h7.tape, kD.output.trans h7.output, Nat.le_trans h7.size kD.size, fun i hi hn => (kD.block i (Nat.lt_of_lt_of_le hi h7.size) (by intro e; injection e with e; omega)).trans (h7.block i hi hn)⟩
    | true =>
      rw [if_pos rfl]
      have hNK := hF.all rfl
      have h5 := h5 rfl
      rw [hNK, Nat.sub_self, List.drop_zero] at h5
      have he4 : erAt true N9 er N9 = 0 := by unfold erAt; rw [if_pos (by simp)]
      rw [he4] at h4
      obtain ⟨a, b, hab⟩ := hF.ok 0 (Nat.zero_le _) (.inl rfl)
      rw [List.drop_zero] at hab
      rw [hab] at h5
      dsimp only [exM] at h5
      have HAl : Hid (mkV (mkS l) = .tuple #[frac (ez a).1 (ez a).2 (ez b).1 (ez b).2, .int .i64 0]) := (by rw [hab]; rfl)
      generalize (ez a).1 = an at *
      generalize (ez a).2 = aS at *
      generalize (ez b).1 = bn at *
      generalize (ez b).2 = bS at *
      clear hab hF own
      have a0 := h5.c0
      have a1 := h5.c1
      have a2 := h5.c2
      have a3 := h5.c3
      have r0 := h3.c0
      have r1 := h3.c1
      have r2 := h3.c2
      have r3 := h3.c3
      have f0 := h3.fr 0
      have f1 := h3.fr 1
      have f2 := h3.fr 2
      have f3 := h3.fr 3
      have c4 : W.cell? ⟨w.heap.size + 1, 0, none⟩ = some (.int .i64 0) := by simp [World.cell?, h4]
      have f4 : W.frozen? ⟨w.heap.size + 1, 0, none⟩ = false := by simp [World.frozen?, h4]
      gi_wp2
      have u1 : QBlk (((((W.setCell ⟨w.heap.size, 0, none⟩ (.bool an)).setCell ⟨w.heap.size, 1, none⟩ (.string aS)).setCell ⟨w.heap.size, 2, none⟩ (.bool bn)).setCell ⟨w.heap.size, 3, none⟩ (.string bS)).setCell ⟨w.heap.size + 1, 0, none⟩ (.int .i64 0)) w.heap.size (.bool an) (.string aS) (.bool bn) (.string bS) := (h3.put _ _ _ _).kept (grownBy_setCell _ (w.heap.size + 1) 0 _) (by intro e; injection e with e; omega)
      have u2 : (((((W.setCell ⟨w.heap.size, 0, none⟩ (.bool an)).setCell ⟨w.heap.size, 1, none⟩ (.string aS)).setCell ⟨w.heap.size, 2, none⟩ (.bool bn)).setCell ⟨w.heap.size, 3, none⟩ (.string bS)).setCell ⟨w.heap.size + 1, 0, none⟩ (.int .i64 0)).heap[w.heap.size + 1]? = some (.cells #[.int .i64 0] 29 (0, 0)) := by simp [World.setCell, Array.getElem?_modify, h4]
      have u3 : (((((W.setCell ⟨w.heap.size, 0, none⟩ (.bool an)).setCell ⟨w.heap.size, 1, none⟩ (.string aS)).setCell ⟨w.heap.size, 2, none⟩ (.bool bn)).setCell ⟨w.heap.size, 3, none⟩ (.string bS)).setCell ⟨w.heap.size + 1, 0, none⟩ (.int .i64 0)).heap[D]? = some (.deferred (some [])) := (((((KeepsOthers.setCell _ _ _).trans (KeepsOthers.setCell _ _ _)).trans (KeepsOthers.setCell _ _ _)).trans (KeepsOthers.setCell _ _ _)).trans (KeepsOthers.setCell _ _ _)).same D _ hK' rfl
      have u4 : w.grownBy (((((W.setCell ⟨w.heap.size, 0, none⟩ (.bool an)).setCell ⟨w.heap.size, 1, none⟩ (.string aS)).setCell ⟨w.heap.size, 2, none⟩ (.bool bn)).setCell ⟨w.heap.size, 3, none⟩ (.string bS)).setCell ⟨w.heap.size + 1, 0, none⟩ (.int .i64 0)) none := grown_set (grown_put4 h7 (Nat.le_refl _)) (by omega)
      clear a0 a1 a2 a3 r0 r1 r2 r3 f0 f1 f2 f3 c4 f4 h1 h2 h3 h4 h5 h6 h7 hK'
      generalize ((((W.setCell ⟨w.heap.size, 0, none⟩ (.bool an)).setCell ⟨w.heap.size, 1, none⟩ (.string aS)).setCell ⟨w.heap.size, 2, none⟩ (.bool bn)).setCell ⟨w.heap.size, 3, none⟩ (.string bS)).setCell ⟨w.heap.size + 1, 0, none⟩ (.int .i64 0) = X at *
      refine ⟨by simp, .inl ⟨_, _, rfl, run_takeDeferred u3, ?_⟩⟩
      have kD := grownBy_putObj' X D (.deferred none)
      have nb : ∀ i o, i < XB + 2 → X.heap[i]? = some o → (X.putObj D (.deferred none)).heap[i]? = some o := fun i o hi hh => (kD.block i (Array.getElem?_eq_some_iff.1 hh).1 (by intro e; injection e with e; omega)).trans hh
      refine ⟨_, res_folded _ _ w.heap.size (w.heap.size + 1) _ _ _ _ (.int .i64 0) rfl (nb _ _ (by omega) u1) rfl (load_errno _ _ _ (nb _ _ (by omega) u2)), (by first | rfl | rw [HAl.out]), ?_⟩
      exact ⟨kD.os.trans u4.os, kD.tape.trans u4.tape, kD.output.trans u4.output, Nat.le_trans u4.size kD.size, fun i hi hn => (kD.block i (Nat.lt_of_lt_of_le hi u4.size) (by intro e; injection e with e; omega)).trans (u4.block i hi hn)⟩
end Go.Proofs.YtdfliaogmlpefaaGreatDoor
namespace Go.Proofs.YtdfliaogmlpefaaGreatDoor
open Go.RowKit Go.Lib Go.Sort
set_option linter.unusedVariables false
set_option maxHeartbeats 8000000
set_option maxRecDepth 1000000
abbrev noV (e : Int) : Value := .tuple #[frac false eS false eS, .int .i64 e]
inductive MkA (Z : Nat → Bool × ByteArray) (K : Nat) : Value → Prop
  | nil : K = 0 → MkA Z K (noV 2)
  | bad (i : Nat) : i < K → may (Z i).1 (Z i).2 = false → MkA Z K (noV 2)
  | long : (∀ i, i < K → may (Z i).1 (Z i).2 = true) → 4096 < K → MkA Z K (noV 3)
  | made (l : List Int) : l.length = K → 1 ≤ K → K ≤ 4096 → (∀ i q, l[i]? = some q → Sz 200 q (Z i).1 (Z i).2) → MkA Z K (mkV (mkS l))
theorem MkA.at {Z : Nat → Bool × ByteArray} {K : Nat} {rv : Value} (h : MkA Z K rv) {i : Nat} (hi : i < K) (hb : may (Z i).1 (Z i).2 = false) : rv = noV 2 := by
  cases h with
  | nil h0 => rfl
  | bad j hj hb' => rfl
  | long ha hk => rw [ha i hi] at hb; cases hb
  | made l hl h1 h2 hz =>
    have := (hz i (l[i]'(by omega)) (List.getElem?_eq_getElem (by omega))).may (by decide)
    rw [this] at hb; cases hb
theorem MkA.end {Z : Nat → Bool × ByteArray} {K : Nat} {rv : Value} (h : MkA Z K rv) (ha : ∀ i, i < K → may (Z i).1 (Z i).2 = true) : (K = 0 ∧ rv = noV 2) ∨ (4096 < K ∧ rv = noV 3) ∨ (1 ≤ K ∧ K ≤ 4096 ∧ ∃ l : List Int, l.length = K ∧ (∀ i q, l[i]? = some q → Sz 200 q (Z i).1 (Z i).2) ∧ rv = mkV (mkS l)) := by
  cases h with
  | nil h0 => exact .inl ⟨h0, rfl⟩
  | bad j hj hb' => rw [ha j hj] at hb'; cases hb'
  | long ha hk => exact .inr (.inl ⟨hk, rfl⟩)
  | made l hl h1 h2 hz => exact .inr (.inr ⟨h1, h2, l, hl, hz, rfl⟩)
theorem mkS_up (l : List Int) (j : Nat) (e : Int) (h : mkS (l.drop j) = .no e) : mkS l = .no e := by
  induction l generalizing j with
  | nil => simpa using h
  | cons q l ih =>
    cases j with
    | zero => simpa using h
    | succ j => rw [List.drop_succ_cons] at h; exact mkS_no (ih j h)
theorem folded_any (l : List Int) (Z : Nat → Bool × ByteArray) (K : Nat) (hl : l.length = K) (h1 : 1 ≤ K) (hK9 : K ≤ 100000) (hz : ∀ i q, l[i]? = some q → Sz 200 q (Z i).1 (Z i).2) (ab : Option Addr) (cp : Nat) (w : World)
    (hsrc : ∀ q, q < K → ∃ B off, ab = some ⟨B, off, none⟩ ∧ w.cell? ⟨B, off + q * 2, none⟩ = some (.bool (Z q).1) ∧ w.cell? ⟨B, off + q * 2 + 1, none⟩ = some (.string (Z q).2) ∧ K ≤ cp) :
    Calls Tryz.prog 82 #[.slice ab K cp] w fun e w' => e = .returned (mkV (mkS l)) ∧ w.grownBy w' none := by
  cases hm : mkS l with
  | ok a b =>
    rw [← hm]
    exact folded_by l Z K K true 0 ⟨hl, Nat.le_refl _, h1, fun _ => rfl, hz, fun j hj _ => mkS_drop l a b hm j (by omega), fun h => by cases h⟩ hK9 (fun h => by cases h) ab cp w hsrc
  | no e =>
    rw [← hm]
    obtain ⟨j, hj, h2, a, b, h3⟩ := mkS_err l e hm
    refine folded_by l Z K (K - j) false e ⟨hl, by omega, by omega, (fun h => by cases h), hz, fun i hi hb => ?_, fun _ => ?_⟩ hK9 (fun _ => hm) ab cp w hsrc
    · rcases hb with hb | hb
      · cases hb
      · have := mkS_drop (l.drop (j + 1)) a b h3 (i - (j + 1)) (by rw [List.length_drop]; omega)
        rw [List.drop_drop, show j + 1 + (i - (j + 1)) = i by omega] at this
        exact this
    · rw [show K - (K - j) = j by omega]
      exact h2
theorem make_any (Z : Nat → Bool × ByteArray) (K : Nat) (rv : Value) (hA : MkA Z K rv) (hK9 : K ≤ 10000000000000) (hs : ∀ q, q < K → (Z q).2.size ≤ maxLen) (ab : Option Addr) (cp : Nat) (w : World)
    (hsrc : ∀ q, q < K → ∃ B off, ab = some ⟨B, off, none⟩ ∧ w.cell? ⟨B, off + q * 2, none⟩ = some (.bool (Z q).1) ∧ w.cell? ⟨B, off + q * 2 + 1, none⟩ = some (.string (Z q).2) ∧ K ≤ cp) :
    Calls Tryz.prog 34 #[.slice ab K cp] w fun e w' => e = .returned rv ∧ w.grownBy w' none := by
  have HS : Hid (∀ q, q < K → ∃ B off, ab = some ⟨B, off, none⟩ ∧ w.cell? ⟨B, off + q * 2, none⟩ = some (.bool (Z q).1) ∧ w.cell? ⟨B, off + q * 2 + 1, none⟩ = some (.string (Z q).2) ∧ K ≤ cp) := hsrc
  have HCk : Hid (∀ q, q < K → ∀ w, Calls Tryz.prog 81 #[whole (Z q).1 (Z q).2] w fun e w' => e = .returned (.int .i64 (if may (Z q).1 (Z q).2 = true then 0 else 2)) ∧ w.grownBy w' none) := fun q hq w => (by
    refine (check_any (Z q).1 (Z q).2 (hs q hq) w).mono ?_
    rintro e w' ⟨rfl, rfl⟩
    cases hm : may (Z q).1 (Z q).2
    · rw [chk_no hm]; exact ⟨rfl, grow1 _ _⟩
    · rw [chk_yes hm]; exact ⟨rfl, grow1 _ _⟩)
  have HA : Hid (MkA Z K rv) := hA
  have hK9I : (K : Int) ≤ 10000000000000 := by omega
  clear hsrc hA hs
  go_enter Tryz.func34, Tryz.ntmps34
  go_wp2_with fail
  go_loopg [8] K (fun g s8 wx => ∃ i : Nat, s8 = .int .i64 (i : Int) ∧ i + g = K ∧ QBlk wx w.heap.size (.bool false) (.string eS) (.bool false) (.string eS) ∧ w.grownBy wx none ∧ ∀ j, j < i → may (Z j).1 (Z j).2 = true)
  case atStart => exact ⟨0, rfl, by omega, heap_alloc_new _ _, grow1 _ _, fun j hj => by omega⟩
  case round =>
    obtain ⟨i, rfl, hig, hQ, hg, hal⟩ := hrel
    have HQ : Hid (QBlk wr w.heap.size (.bool false) (.string eS) (.bool false) (.string eS)) := hQ
    have HG : Hid (w.grownBy wr none) := hg
    have HAl : Hid (∀ j, j < i → may (Z j).1 (Z j).2 = true) := hal
    clear hQ hg hal
    cases gk with
    | zero =>
      obtain rfl : i = K := by omega
      clear hig
      rcases HA.out.end HAl.out with ⟨h0, hrv⟩ | ⟨h0, hrv⟩ | ⟨h1, h4, l, hl, hz, hrv⟩
      · subst hrv
        subst h0
        have hR := HQ.out
        have r0 := hR.c0
        have r1 := hR.c1
        have r2 := hR.c2
        have r3 := hR.c3
        have f0 := hR.fr 0
        have f1 := hR.fr 1
        have f2 := hR.fr 2
        have f3 := hR.fr 3
        go_wp2_with fail
        refine bodyPost_ret (res_cellQ_tmp rfl _ _ w.heap.size _ _ _ _ _ _ rfl (hR.put _ _ _ _)) rfl ?_
        exact ⟨rfl, grown_put4 HG.out (Nat.le_refl _)⟩
      · subst hrv
        have hz : ((i : Int) == 0) = false := by rw [beq_eq_false_iff_ne]; omega
        have h4 : (4097 : Int) ≤ i := by omega
        have hR := HQ.out
        have r0 := hR.c0
        have r1 := hR.c1
        have r2 := hR.c2
        have r3 := hR.c3
        have f0 := hR.fr 0
        have f1 := hR.fr 1
        have f2 := hR.fr 2
        have f3 := hR.fr 3
        clear h0
        go_wp2_with fail
        refine bodyPost_ret (res_cellQ_tmp rfl _ _ w.heap.size _ _ _ _ _ _ rfl (hR.put _ _ _ _)) rfl ?_
        exact ⟨rfl, grown_put4 HG.out (Nat.le_refl _)⟩
      · have hz0 : ((i : Int) == 0) = false := by rw [beq_eq_false_iff_ne]; omega
        have h4I : (i : Int) ≤ 4096 := by omega
        obtain ⟨v0, v1, v2, v3, ev, hv⟩ : ∃ v0 v1 v2 v3 ev, mkV (mkS l) = .tuple #[frac v0 v1 v2 v3, .int .i64 ev] := by
          cases mkS l with
          | ok a b => exact ⟨_, _, _, _, _, rfl⟩
          | no e => exact ⟨_, _, _, _, _, rfl⟩
        have HFd : Hid (∀ W, w.grownBy W none → Calls Tryz.prog 82 #[.slice ab i cp] W fun e w' => e = .returned (.tuple #[frac v0 v1 v2 v3, .int .i64 ev]) ∧ W.grownBy w' none) := fun W hg => by
          rw [← hv]
          exact folded_any l Z i hl h1 (by omega) hz ab cp W (fun q hq => by
            obtain ⟨B, off, e, c0, c1, hc⟩ := HS.out q hq
            exact ⟨B, off, e, grownBy_cell hg c0 (by simp), grownBy_cell hg c1 (by simp), hc⟩)
        rw [hv] at hrv
        subst hrv
        clear hv hz hl h1 h4
        go_wp2_with fail
        refine (HFd.out _ HG.out).mono ?_
        rintro e w2 ⟨rfl, g2⟩
        have hR := HQ.out.kept g2 (by simp)
        have HG2 : Hid (w.grownBy w2 none) := grownBy_trans HG.out g2
        have r0 := hR.c0
        have r1 := hR.c1
        have r2 := hR.c2
        have r3 := hR.c3
        have f0 := hR.fr 0
        have f1 := hR.fr 1
        have f2 := hR.fr 2
        have f3 := hR.fr 3
        clear g2
        go_wp2_with fail
        refine bodyPost_ret (res_cellQ_tmp rfl _ _ w.heap.size _ _ _ _ _ _ rfl (hR.put _ _ _ _)) rfl ?_
        exact ⟨rfl, grown_put4 HG2.out (Nat.le_refl _)⟩
    | succ g =>
      have hiN : i < K := by omega
      have hiI : (i : Int) < (K : Int) := by omega
      obtain ⟨B, off, rfl, c0', c1', hcp⟩ := HS.out i hiN
      have hcpI : (K : Int) ≤ cp := by omega
      have c0 := grownBy_cell HG.out c0' (by simp)
      have c1 := grownBy_cell HG.out c1' (by simp)
      have HCi := HCk.out i hiN
      have HIg : Hid (i + (g + 1) = K) := hig
      cases hm : may (Z i).1 (Z i).2
      · have hrv := HA.out.at hiN hm
        subst hrv
        rw [hm, if_neg (by simp)] at HCi
        have HCj : Hid (∀ w, Calls Tryz.prog 81 #[whole (Z i).1 (Z i).2] w fun e w' => e = .returned (.int .i64 2) ∧ w.grownBy w' none) := HCi
        generalize (Z i).1 = zn at *
        generalize (Z i).2 = zS at *
        clear c0' c1' HCi hm
        go_wp2_with fail
        refine (HCj.out _).mono ?_
        rintro e w2 ⟨rfl, g2⟩
        have hR := HQ.out.kept (grownBy_trans (grow1 _ _) g2) (by simp)
        have HG2 : Hid (w.grownBy w2 none) := grownBy_trans HG.out (grownBy_trans (grow1 _ _) g2)
        have r0 := hR.c0
        have r1 := hR.c1
        have r2 := hR.c2
        have r3 := hR.c3
        have f0 := hR.fr 0
        have f1 := hR.fr 1
        have f2 := hR.fr 2
        have f3 := hR.fr 3
        clear g2 c0 c1
        go_wp2_with fail
        refine bodyPost_ret (res_cellQ_tmp rfl _ _ w.heap.size _ _ _ _ _ _ rfl (hR.put _ _ _ _)) rfl ?_
        exact ⟨rfl, grown_put4 HG2.out (Nat.le_refl _)⟩
      · rw [hm, if_pos rfl] at HCi
        have HCj : Hid (∀ w, Calls Tryz.prog 81 #[whole (Z i).1 (Z i).2] w fun e w' => e = .returned (.int .i64 0) ∧ w.grownBy w' none) := HCi
        have HAl2 : Hid (∀ j, j < i + 1 → may (Z j).1 (Z j).2 = true) := fun j hj => by
          rcases Nat.lt_or_eq_of_le (Nat.le_of_lt_succ hj) with h | h
          · exact HAl.out j h
          · rw [h]; exact hm
        generalize (Z i).1 = zn at *
        generalize (Z i).2 = zS at *
        clear c0' c1' HCi hm HAl
        go_wp2_with fail
        refine (HCj.out _).mono ?_
        rintro e w2 ⟨rfl, g2⟩
        have HQ2 : Hid (QBlk w2 w.heap.size (.bool false) (.string eS) (.bool false) (.string eS)) := HQ.out.kept (grownBy_trans (grow1 _ _) g2) (by simp)
        have HG2 : Hid (w.grownBy w2 none) := grownBy_trans HG.out (grownBy_trans (grow1 _ _) g2)
        clear g2 c0 c1
        go_wp2_with fail
        go_roundg g
        case measure => omega
        case rel => exact ⟨i + 1, rfl, by have := HIg.out; omega, HQ2.out, HG2.out, HAl2.out⟩
end Go.Proofs.YtdfliaogmlpefaaGreatDoor
