/-
  The law WordsShort of a word.
-/
import Derived.Test.YtndadkfekngheaaDoorWsb
namespace Go.Proofs.YtndadkfekngheaaDoor
open Go.RowKit Go.Lib Go.Sort
set_option linter.unusedVariables false
set_option linter.unusedSimpArgs false

/-- What is asked of Root's answer. -/
def RtA (w : World) (lo : Nat) (S : List Int) (m : Nat) (u : Value) (n e2 : Int) : Prop :=
  ((sh S).length = 0 ∧ u = .slice none 0 0 ∧ n = 0 ∧ e2 = 7) ∨
  ∃ p : Nat, 0 < (sh S).length ∧ Rt (coreOf (sh S) m) p ∧ n = (((coreOf (sh S) m).length / p : Nat) : Int) ∧ e2 = 0 ∧ Fr w lo u (inv (byOf (sh S) m) ++ (coreOf (sh S) m).take p ++ byOf (sh S) m)
set_option maxHeartbeats 12800000 in
set_option maxRecDepth 1000000 in
theorem wshort_good (w : World) (v : Value) (L : List Int) (h : Ints w v L) (ht : Tab w) (hr : chk [L] = 0) :
    Calls Tryd.prog 3 #[v] w fun e w' => e = .returned (.bool true) ∧ w.grownBy w' none := by
  have hok := chk_ok hr L (by simp)
  have hl := hok.2
  have hLn : ∀ x ∈ L, noL x = false := fun x hx => by simpa using List.any_eq_false.1 hok.1 x hx
  have HMu := much_any _ _ [L] (intsL1 h) (by simp) (by simp; omega)
  rw [show muchN [L] = min L.length 10000 by simp [muchN], decide_eq_false (by omega)] at HMu
  have HT : Hid (Tab w) := ht
  have HIv0 : Hid (At 0 w.heap.size w v L) := h.at
  have HLeft : Hid (∀ w1 m base, w.grownBy w1 none → Lent w1 base m L → Calls Tryd.prog 20 #[m, v] w1 fun e w' => e = .returned (.bool true) ∧ w1.grownBy w' none) := fun w1 m base hg hm => left_any w1 m v L base hm (h.kept hg) (by omega)
  have HLent : Hid (∀ w1, w.grownBy w1 none → Calls Tryd.prog 11 #[v] w1 fun e w' => ∃ v', e = .returned v' ∧ Lent w' w1.heap.size v' L ∧ w1.grownBy w' none) := fun w1 hg => lent_any w1 v L (h.kept hg) (by omega)
  have HChk : Hid (∀ w1, w.grownBy w1 none → Calls Tryd.prog 12 #[v] w1 fun e w' => e = .returned (.int .i64 0) ∧ w' = w1) := fun w1 hg => by
    have := rCheck_any w1 v L (h.kept hg) (by omega)
    rw [hr] at this
    exact this
  have hlo : L.length ≤ 1000000000000 := by omega
  have HS : Hid (∀ w1 m, Ints w1 m L → Calls Tryd.prog 13 #[m] w1 fun e w' => ∃ v', e = .returned (.tuple #[v', .int .i64 0]) ∧ Fr w' w1.heap.size v' (sh L) ∧ w1.grownBy w' none) := fun w1 m hm => (short_top w1 m L hm hlo).mono (by
    rintro e w' ⟨hg, v', rfl, hf⟩
    rw [hr, if_pos rfl] at hf
    exact ⟨v', by rw [hr], hf, hg⟩)
  have HIv : Hid (∀ w1 m, Ints w1 m L → Calls Tryd.prog 14 #[m] w1 fun e w' => ∃ v', e = .returned (.tuple #[v', .int .i64 0]) ∧ Fr w' w1.heap.size v' (inv L) ∧ w1.grownBy w' none) := fun w1 m hm => (inverse_top w1 m L hm hlo).mono (by
    rintro e w' ⟨hg, v', rfl, hf⟩
    rw [hr, if_pos rfl] at hf
    exact ⟨v', by rw [hr], hf, hg⟩)
  have HCo : Hid (∀ w1 m, Ints w1 m L → Calls Tryd.prog 15 #[m] w1 fun e w' => ∃ k u v', e = .returned (.tuple #[u, v', .int .i64 0]) ∧ Cut (sh L) k ∧ Fr w' w1.heap.size u (coreOf (sh L) k) ∧ Fr w' w1.heap.size v' (byOf (sh L) k) ∧ w1.grownBy w' none) := fun w1 m hm => (core_top w1 m L hm hlo).mono (by
    rintro e w' ⟨hg, u, v', rfl, hf⟩
    rw [hr] at hf ⊢
    rcases hf with ⟨e, _⟩ | ⟨k, _, h1, h2, h3⟩
    · exact absurd rfl e
    · exact ⟨k, u, v', rfl, h1, h2, h3, hg⟩)
  have HRo : Hid (∀ w1 m k, Cut (sh L) k → Ints w1 m L → Calls Tryd.prog 16 #[m] w1 fun e w' => ∃ u n e2, e = .returned (.tuple #[u, .int .i64 n, .int .i64 e2]) ∧ RtA w' w1.heap.size L k u n e2 ∧ w1.grownBy w' none) := fun w1 m k hk hm => (root_top w1 m L hm hlo).mono (by
    rintro e w' ⟨hg, u, n, e2, rfl, hf⟩
    rw [hr] at hf
    rcases hf with ⟨e, _⟩ | ⟨k2, _, h1, h2, rfl, rfl, rfl⟩ | ⟨k2, p, _, h1, h2, h3, h4, rfl, h5⟩
    · exact absurd rfl e
    · refine ⟨_, _, _, rfl, .inl ⟨?_, rfl, rfl, rfl⟩, hg⟩
      rcases Nat.eq_zero_or_pos (sh L).length with e | e
      · exact e
      · have := core_pos h1 (red_sh L) e
        rw [h2] at this
        simp at this
    · obtain rfl := h1.uniq hk
      refine ⟨_, _, _, rfl, .inr ⟨p, ?_, h3, h4, rfl, h5⟩, hg⟩
      rcases Nat.eq_zero_or_pos (sh L).length with e | e
      · rw [coreOf_len _ _ h1.le] at h2
        omega
      · exact e)
  have HTe : Hid (∀ w1 m, Ints w1 m L → Tab w1 → Calls Tryd.prog 17 #[m] w1 fun e w' => e = .returned (.tuple #[.string (txB L), .int .i64 0]) ∧ w1.grownBy w' none) := fun w1 m hm ht => (text_top w1 m L hm hlo ht).mono (by
    rintro e w' ⟨hg, rfl⟩
    rw [hr, if_pos rfl]
    exact ⟨rfl, hg⟩)
  have HCh : Hid (∀ w1 m, Ints w1 m L → Calls Tryd.prog 19 #[m] w1 fun e w' => e = .returned (.int .i64 0) ∧ w1.grownBy w' none) := fun w1 m hm => (check_any w1 m L hm hlo).mono (by
    rintro e w' ⟨rfl, hg⟩
    rw [hr]
    exact ⟨rfl, hg⟩)
  have HrS : Hid (∀ w1, Ints w1 v L → Calls Tryd.prog 22 #[v] w1 fun e w' => ∃ v', e = .returned v' ∧ Own w' w1.heap.size v' (sh L) ∧ w1.grownBy w' none) := fun w1 hi => rShort_any w1 v L hi (by omega) hok.1
  have HrI : Hid (∀ w1, Ints w1 v L → Calls Tryd.prog 24 #[v] w1 fun e w' => ∃ v', e = .returned v' ∧ Own w' w1.heap.size v' (inv L) ∧ w1.grownBy w' none) := fun w1 hi => rInverse_any w1 v L hi (by omega) hok.1
  have HrT : Hid (∀ w1, Ints w1 v L → Calls Tryd.prog 26 #[v] w1 fun e w' => e = .returned (.string (txB L)) ∧ w1.grownBy w' none) := fun w1 hi => rText_any w1 v L hi hl hLn
  have hsl := sh_len L
  have HrC : Hid (∀ w1 s, Ints w1 s (sh L) → Calls Tryd.prog 23 #[s] w1 fun e w' => RcQ w1 s (sh L) e w') := fun w1 s hs => rCore_any w1 s (sh L) hs (by omega) (sh_letters hok.1)
  have HrR : Hid (∀ w1 s, 0 < (sh L).length → Ints w1 s (sh L) → Calls Tryd.prog 27 #[s] w1 fun e w' => RrQ w1 (sh L) e w') := fun w1 s h0 hs => rRoot_any w1 s (sh L) hs (by omega) (sh_letters hok.1) h0 (red_sh L)
  have HSz : Hid ((sh L).length ≤ 4096 ∧ (inv L).length ≤ 4096) := by
    refine ⟨by omega, ?_⟩
    rw [inv_len]
    omega
  obtain ⟨va, vc, rfl, _⟩ := h.reads
  clear h hl hlo hr ht hok hLn hsl
  generalize L.length = n at *
  go_enter Tryd.func3, Tryd.ntmps3
  go_wp2_with fail
  refine HMu.mono ?_
  rintro e w1 ⟨rfl, rfl⟩
  have G1 : Hid (w.grownBy (w.alloc (.cells #[.slice va n vc] 22)) none) := grow1 _ _
  generalize w.alloc (.cells #[.slice va n vc] 22) = w1 at *
  go_wp2_with fail
  refine (HLent.out w1 G1.out).mono ?_
  rintro e w2 ⟨m, rfl, hm, g2⟩
  have G2 : Hid (w.grownBy w2 none) := grownBy_trans G1.out g2
  have HM2 : Hid (Lent w2 w1.heap.size m L) := hm
  clear hm g2
  go_wp2_with fail
  refine (HChk.out w2 G2.out).mono ?_
  rintro e nw ⟨rfl, hw⟩
  obtain rfl := hw.symm
  clear hw
  go_wp2_with fail
  refine (HS.out w2 m HM2.out.ints).mono ?_
  rintro e w3 ⟨a, rfl, ha, g3⟩
  have G23 : Hid (w2.grownBy w3 none) := g3
  have HA3 : Hid (Fr w3 w2.heap.size a (sh L)) := ha
  clear ha g3
  go_wp2_with fail
  refine (HS.out w3 m (HM2.out.ints.kept G23.out)).mono ?_
  rintro e w4 ⟨b, rfl, hb, g4⟩
  have G34 : Hid (w3.grownBy w4 none) := g4
  have G24 : Hid (w2.grownBy w4 none) := grownBy_trans G23.out g4
  have HB4 : Hid (At w3.heap.size w4.heap.size w4 b (sh L)) := hb.at
  clear hb g4
  go_wp2_with fail
  refine (HIv.out w4 m (HM2.out.ints.kept G24.out)).mono ?_
  rintro e w5 ⟨c, rfl, hc, g5⟩
  have G45 : Hid (w4.grownBy w5 none) := g5
  have G25 : Hid (w2.grownBy w5 none) := grownBy_trans G24.out g5
  have HC5 : Hid (Fr w5 w4.heap.size c (inv L)) := hc
  clear hc g5
  go_wp2_with fail
  refine (HIv.out w5 m (HM2.out.ints.kept G25.out)).mono ?_
  rintro e w6 ⟨d, rfl, hd, g6⟩
  have G56 : Hid (w5.grownBy w6 none) := g6
  have G26 : Hid (w2.grownBy w6 none) := grownBy_trans G25.out g6
  have HD6 : Hid (At w5.heap.size w6.heap.size w6 d (inv L)) := hd.at
  clear hd g6
  go_wp2_with fail
  refine (HCo.out w6 m (HM2.out.ints.kept G26.out)).mono ?_
  rintro e w7 ⟨k, cu, cv, rfl, hcut, hcu, hcv, g7⟩
  have G67 : Hid (w6.grownBy w7 none) := g7
  have G27 : Hid (w2.grownBy w7 none) := grownBy_trans G26.out g7
  have HCut : Hid (Cut (sh L) k) := hcut
  have HU7 : Hid (At w6.heap.size w7.heap.size w7 cu (coreOf (sh L) k)) := hcu.at
  have HV7 : Hid (At w6.heap.size w7.heap.size w7 cv (byOf (sh L) k)) := hcv.at
  clear g7 hcut hcu hcv
  go_wp2_with fail
  refine (HRo.out w7 m k HCut.out (HM2.out.ints.kept G27.out)).mono ?_
  rintro e w8 ⟨ru, rn, re, rfl, hrt, g8⟩
  have G78 : Hid (w7.grownBy w8 none) := g8
  have G28 : Hid (w2.grownBy w8 none) := grownBy_trans G27.out g8
  have HRt8 : Hid (RtA w8 w7.heap.size L k ru rn re) := hrt
  clear g8 hrt
  go_wp2_with fail
  refine (HTe.out w8 m (HM2.out.ints.kept G28.out) (HT.out.kept (grownBy_trans G2.out G28.out))).mono ?_
  rintro e w9 ⟨rfl, g9⟩
  have G89 : Hid (w8.grownBy w9 none) := g9
  have G29 : Hid (w2.grownBy w9 none) := grownBy_trans G28.out g9
  clear g9
  go_wp2_with fail
  refine (HCh.out w9 m (HM2.out.ints.kept G29.out)).mono ?_
  rintro e w10 ⟨rfl, g10⟩
  have G810 : Hid (w8.grownBy w10 none) := grownBy_trans G89.out g10
  have G210 : Hid (w2.grownBy w10 none) := grownBy_trans G29.out g10
  clear g10
  go_wp2_with fail
  refine (num_any 0 _).mono ?_
  rintro e nw ⟨rfl, hw⟩
  obtain rfl := hw.symm
  clear hw
  go_wp2_with fail
  refine (HLeft.out w10 m w1.heap.size (grownBy_trans G2.out G210.out) (HM2.out.kept0 G210.out)).mono ?_
  rintro e w11 ⟨rfl, g11⟩
  have G811 : Hid (w8.grownBy w11 none) := grownBy_trans G810.out g11
  have G211 : Hid (w2.grownBy w11 none) := grownBy_trans G210.out g11
  clear g11
  go_wp2_with fail
  refine (HrS.out w11 (HIv0.out.kept0 (grownBy_trans G2.out G211.out)).ints).mono ?_
  rintro e w12 ⟨sv, rfl, hs, g12⟩
  have G1112 : Hid (w11.grownBy w12 none) := g12
  have HSv12 : Hid (At w11.heap.size w12.heap.size w12 sv (sh L)) := hs.fr.at
  have HSb : Hid (∀ g, sv.ownBlock = some g → w11.heap.size ≤ g ∧ g < w12.heap.size) := fun g hg => hs.fr.blk g hg
  obtain ⟨sa, sc, rfl⟩ := hs.form
  clear hs g12
  go_wp2_with fail
  refine (HrC.out w12 _ HSv12.out.ints).mono ?_
  rintro e w13 ⟨k2, x, y, hk2, rfl, hx, hy, g13, hxb, hyb⟩
  obtain rfl := hk2.uniq HCut.out
  rw [cut_inv hk2] at hy
  have G1213 : Hid (w12.grownBy w13 none) := g13
  have G813 : Hid (w8.grownBy w13 none) := grownBy_trans G811.out (grownBy_trans G1112.out g13)
  have HSv13 : Hid (At w11.heap.size w12.heap.size w13 (.slice sa (sh L).length sc) (sh L)) := HSv12.out.kept0 g13
  have HX13 : Hid (At w11.heap.size w12.heap.size w13 x (coreOf (sh L) k2)) := ⟨hx, .inr fun g hg => HSb.out g (by rw [← hxb]; exact hg)⟩
  have HY13 : Hid (At w12.heap.size w13.heap.size w13 y (byOf (sh L) k2)) := ⟨hy, by
    rcases hy.at.2 with e | e
    · exact .inl e
    · exact .inr fun g hg => ⟨hyb g hg, (e g hg).2⟩⟩
  clear hk2 hx hy g13 hxb hyb
  have hz12 := G2.out.size
  have hz23 := G23.out.size
  have hz34 := G34.out.size
  have hz45 := G45.out.size
  have hz56 := G56.out.size
  have hz67 := G67.out.size
  have hz78 := G78.out.size
  have hz811 := G811.out.size
  have hz1112 := G1112.out.size
  have hz1213 := G1213.out.size
  have HZ : Hid (w.heap.size ≤ w2.heap.size ∧ w2.heap.size ≤ w3.heap.size ∧ w3.heap.size ≤ w4.heap.size ∧ w4.heap.size ≤ w5.heap.size ∧ w5.heap.size ≤ w6.heap.size ∧ w6.heap.size ≤ w7.heap.size ∧ w7.heap.size ≤ w8.heap.size ∧ w8.heap.size ≤ w11.heap.size ∧ w11.heap.size ≤ w12.heap.size ∧ w12.heap.size ≤ w13.heap.size) := ⟨hz12, hz23, hz34, hz45, hz56, hz67, hz78, hz811, hz1112, hz1213⟩
  clear hz12 hz23 hz34 hz45 hz56 hz67 hz78 hz811 hz1112 hz1213
  have G713 : Hid (w7.grownBy w13 none) := grownBy_trans G78.out G813.out
  have G613 : Hid (w6.grownBy w13 none) := grownBy_trans G67.out G713.out
  have G513 : Hid (w5.grownBy w13 none) := grownBy_trans G56.out G613.out
  have G413 : Hid (w4.grownBy w13 none) := grownBy_trans G45.out G513.out
  have G313 : Hid (w3.grownBy w13 none) := grownBy_trans G34.out G413.out
  have G213 : Hid (w2.grownBy w13 none) := grownBy_trans G23.out G313.out
  have HAb : Hid (∀ g, a.ownBlock = some g → w2.heap.size ≤ g ∧ g < w3.heap.size) := fun g hg => HA3.out.blk g hg
  have HCb : Hid (∀ g, c.ownBlock = some g → w4.heap.size ≤ g ∧ g < w5.heap.size) := fun g hg => HC5.out.blk g hg
  go_wp2_with fail
  refine (told_at w13 a b _ 0 (sh L) w2.heap.size w3.heap.size w3.heap.size w4.heap.size w11.heap.size w12.heap.size (HA3.out.kept0 G313.out) (fun g hg => (HAb.out g hg).2) (HB4.out.kept0 G413.out) HSv13.out (by have := HSz.out; omega) (.inl (Nat.le_refl _)) (.inl (by have := HZ.out; omega))).mono ?_
  rintro e w14 ⟨rfl, g14⟩
  have G14 : Hid (w.grownBy w14 none) := grown_fr (grownBy_trans G2.out G213.out) (HA3.out.kept0 G313.out) HZ.out.1 g14
  have HM14 : Hid (Lent w14 w1.heap.size m L) := (HM2.out.kept0 G213.out).kept g14 (by
    intro e2
    obtain ⟨gm, cm, rfl, _⟩ := HM2.out
    have e3 := HAb.out gm e2.symm
    have e4 := HM2.out.at gm rfl
    omega)
  have HC14 : Hid (Fr w14 w4.heap.size c (inv L)) := (HC5.out.kept0 G513.out).kept g14 (by
    cases hv : c.ownBlock with
    | none => exact .inl rfl
    | some g =>
      right
      intro e2
      have e3 := HAb.out g e2.symm
      have e4 := HCb.out g hv
      have e5 := HZ.out
      omega)
  have rowA : ∀ lo hi : Nat, (w3.heap.size ≤ lo ∨ hi ≤ w2.heap.size) → ∀ g, a.ownBlock = some g → g < lo ∨ hi ≤ g := fun lo hi hd g hg => by
    have := HAb.out g hg
    omega
  have HD14 : Hid (At w5.heap.size w6.heap.size w14 d (inv L)) := (HD6.out.kept0 G613.out).kept g14 (rowA _ _ (by have := HZ.out; omega))
  have HU14 : Hid (At w6.heap.size w7.heap.size w14 cu (coreOf (sh L) k2)) := (HU7.out.kept0 G713.out).kept g14 (rowA _ _ (by have := HZ.out; omega))
  have HV14 : Hid (At w6.heap.size w7.heap.size w14 cv (byOf (sh L) k2)) := (HV7.out.kept0 G713.out).kept g14 (rowA _ _ (by have := HZ.out; omega))
  have HX14 : Hid (At w11.heap.size w12.heap.size w14 x (coreOf (sh L) k2)) := HX13.out.kept g14 (rowA _ _ (by have := HZ.out; omega))
  have HY14 : Hid (At w12.heap.size w13.heap.size w14 y (byOf (sh L) k2)) := HY13.out.kept g14 (rowA _ _ (by have := HZ.out; omega))
  have HSv14 : Hid (At w11.heap.size w12.heap.size w14 (.slice sa (sh L).length sc) (sh L)) := HSv13.out.kept g14 (rowA _ _ (by have := HZ.out; omega))
  have HZ14 : Hid (w13.heap.size ≤ w14.heap.size) := g14.size
  have HRt14 : Hid (∀ A, Fr w8 w7.heap.size ru A → At w7.heap.size w8.heap.size w14 ru A) := fun A hf => (hf.at.kept0 G813.out).kept g14 (rowA _ _ (by have := HZ.out; omega))
  clear g14 rowA
  go_wp2_with fail
  refine (HrI.out w14 (HIv0.out.kept0 G14.out).ints).mono ?_
  rintro e w15 ⟨z, rfl, hz, g15⟩
  have G1415 : Hid (w14.grownBy w15 none) := g15
  have HZ15 : Hid (At w14.heap.size w15.heap.size w15 z (inv L)) := hz.fr.at
  clear hz g15
  go_wp2_with fail
  refine (told_at w15 c d z 0 (inv L) w4.heap.size w5.heap.size w5.heap.size w6.heap.size w14.heap.size w15.heap.size (HC14.out.kept0 G1415.out) (fun g hg => (HCb.out g hg).2) (HD14.out.kept0 G1415.out) HZ15.out (by have := HSz.out; omega) (.inl (Nat.le_refl _)) (.inl (by have := HZ.out; have := HZ14.out; omega))).mono ?_
  rintro e w16 ⟨rfl, g16⟩
  have G16 : Hid (w.grownBy w16 none) := grown_fr (grownBy_trans G14.out G1415.out) (HC14.out.kept0 G1415.out) (by have := HZ.out; omega) g16
  have rowC : ∀ lo hi : Nat, (w5.heap.size ≤ lo ∨ hi ≤ w4.heap.size) → ∀ g, c.ownBlock = some g → g < lo ∨ hi ≤ g := fun lo hi hd g hg => by
    have := HCb.out g hg
    omega
  have HM16 : Hid (Lent w16 w1.heap.size m L) := (HM14.out.kept0 G1415.out).kept g16 (by
    intro e2
    obtain ⟨gm, cm, rfl, _⟩ := HM2.out
    have e3 := HCb.out gm e2.symm
    have e4 := HM2.out.at gm rfl
    have e5 := HZ.out
    omega)
  have HU16 : Hid (Ints w16 cu (coreOf (sh L) k2)) := ((HU14.out.kept0 G1415.out).kept g16 (rowC _ _ (by have := HZ.out; omega))).ints
  have HV16 : Hid (Ints w16 cv (byOf (sh L) k2)) := ((HV14.out.kept0 G1415.out).kept g16 (rowC _ _ (by have := HZ.out; omega))).ints
  have HX16 : Hid (Ints w16 x (coreOf (sh L) k2)) := ((HX14.out.kept0 G1415.out).kept g16 (rowC _ _ (by have := HZ.out; omega))).ints
  have HY16 : Hid (Ints w16 y (byOf (sh L) k2)) := ((HY14.out.kept0 G1415.out).kept g16 (rowC _ _ (by have := HZ.out; omega))).ints
  have HSv16 : Hid (Ints w16 (.slice sa (sh L).length sc) (sh L)) := ((HSv14.out.kept0 G1415.out).kept g16 (rowC _ _ (by have := HZ.out; omega))).ints
  have HRt16 : Hid (∀ A, Fr w8 w7.heap.size ru A → Ints w16 ru A) := fun A hf => (((HRt14.out A hf).kept0 G1415.out).kept g16 (rowC _ _ (by have := HZ.out; omega))).ints
  have HCl : Hid ((coreOf (sh L) k2).length ≤ 4096 ∧ (byOf (sh L) k2).length ≤ 4096) := by
    have h1 := HSz.out.1
    have h2 := HCut.out.le
    refine ⟨?_, ?_⟩
    · rw [coreOf_len _ _ h2]; omega
    · rw [byOf_len _ _ h2]; omega
  clear g16 rowC
  go_wp2_with fail
  have HSame1 := rSame_any w16 cu x _ _ HU16.out HX16.out (by have := HCl.out; omega) (by have := HCl.out; omega)
  rw [decide_eq_true rfl] at HSame1
  refine HSame1.mono ?_
  rintro e w17 ⟨rfl, g17⟩
  have G1617 : Hid (w16.grownBy w17 none) := g17
  clear g17 HSame1
  go_wp2_with fail
  have HSame2 := rSame_any w17 cv y _ _ (HV16.out.kept G1617.out) (HY16.out.kept G1617.out) (by have := HCl.out; omega) (by have := HCl.out; omega)
  rw [decide_eq_true rfl] at HSame2
  refine HSame2.mono ?_
  rintro e w18 ⟨rfl, g18⟩
  have G1618 : Hid (w16.grownBy w18 none) := grownBy_trans G1617.out g18
  clear g18 HSame2
  go_wp2_with fail
  refine (num_any 0 _).mono ?_
  rintro e nw ⟨rfl, hw⟩
  obtain rfl := hw.symm
  clear hw
  go_wp2_with fail
  refine (HrT.out w18 (HIv0.out.kept0 (grownBy_trans G16.out G1618.out)).ints).mono ?_
  rintro e w19 ⟨rfl, g19⟩
  have G1619 : Hid (w16.grownBy w19 none) := grownBy_trans G1618.out g19
  clear g19
  go_wp2_with fail
  refine (num_any 0 _).mono ?_
  rintro e nw ⟨rfl, hw⟩
  obtain rfl := hw.symm
  clear hw
  have HRoot : Hid (RtA w8 w7.heap.size L k2 ru rn re) := HRt8.out
  have HGA : Hid (w.grownBy w19 none) := grownBy_trans G16.out G1619.out
  clear HMu HS HIv HCo HRo HTe HCh HrS HrI HrT HrC HLent HChk
  rcases HRt8.out with ⟨hS0, rfl, rfl, rfl⟩ | ⟨p, hS0, hRp, rfl, rfl, hf⟩
  · rw [hS0]
    clear hS0
    go_wp2_with fail
    refine (num_any 7 _).mono ?_
    rintro e nw ⟨rfl, hw⟩
    obtain rfl := hw.symm
    clear hw
    go_wp2_with fail
    refine (HLeft.out w19 m w1.heap.size HGA.out (HM16.out.kept0 G1619.out)).mono ?_
    rintro e w20 ⟨rfl, g20⟩
    have G20 : Hid (w.grownBy w20 none) := grownBy_trans HGA.out g20
    clear g20
    go_wp2_with fail
    refine (known_any w20 (HT.out.kept G20.out)).mono ?_
    rintro e w21 ⟨rfl, g21⟩
    have G21 : Hid (w.grownBy w21 none) := grownBy_trans G20.out g21
    clear g21
    go_wp2_with fail
    go_ret
    exact ⟨rfl, G21.out⟩
  · have HSv19 : Hid (Ints w19 (.slice sa (sh L).length sc) (sh L)) := HSv16.out.kept G1619.out
    have HRc := HrR.out w19 _ hS0 HSv19.out
    have HRoot16 : Hid (Ints w16 ru (inv (byOf (sh L) k2) ++ (coreOf (sh L) k2).take p ++ byOf (sh L) k2)) := HRt16.out _ hf
    have HRp : Hid (Rt (coreOf (sh L) k2) p) := hRp
    have HAl : Hid ((inv (byOf (sh L) k2) ++ (coreOf (sh L) k2).take p ++ byOf (sh L) k2).length ≤ 20000) := by
      have := HCl.out
      show _ ≤ _
      rw [List.length_append, List.length_append, inv_len, List.length_take]
      omega
    generalize hrn : (((coreOf (sh L) k2).length / p : Nat) : Int) = rn at *
    have HRn : Hid ((((coreOf (sh L) k2).length / p : Nat) : Int) = rn) := hrn
    obtain ⟨q, hq⟩ : ∃ q, (sh L).length = q := ⟨_, rfl⟩
    rw [hq] at hS0 HRc ⊢
    have hqb : ((q : Int) == 0) = false := by simpa using (show (q : Int) ≠ 0 by omega)
    have hSz := HSz.out.1
    rw [hq] at hSz
    clear hq hf hRp hrn HRoot
    go_wp2_with fail
    refine HRc.mono ?_
    rintro e w20 ⟨m', u, nn, hcut', rfl, g20, hp⟩
    obtain rfl := hcut'.uniq HCut.out
    obtain ⟨hnn, hu⟩ := hp p HRp.out
    rw [HRn.out] at hnn
    subst hnn
    have G20 : Hid (w.grownBy w20 none) := grownBy_trans HGA.out g20
    have G1620 : Hid (w16.grownBy w20 none) := grownBy_trans G1619.out g20
    have HSame3 := rSame_any w20 ru u _ _ (HRoot16.out.kept G1620.out) hu (by have := HAl.out; omega) (by have := HAl.out; omega)
    rw [decide_eq_true rfl] at HSame3
    clear hp hu g20 hcut'
    go_wp2_with fail
    refine HSame3.mono ?_
    rintro e w21 ⟨rfl, g21⟩
    have G21 : Hid (w.grownBy w21 none) := grownBy_trans G20.out g21
    have G1621 : Hid (w16.grownBy w21 none) := grownBy_trans G1620.out g21
    clear g21
    go_wp2_with fail
    refine (num_any 0 _).mono ?_
    rintro e nw ⟨rfl, hw⟩
    obtain rfl := hw.symm
    clear hw
    go_wp2_with fail
    refine (HLeft.out w21 m w1.heap.size G21.out (HM16.out.kept0 G1621.out)).mono ?_
    rintro e w22 ⟨rfl, g22⟩
    have G22 : Hid (w.grownBy w22 none) := grownBy_trans G21.out g22
    clear g22
    go_wp2_with fail
    refine (known_any w22 (HT.out.kept G22.out)).mono ?_
    rintro e w23 ⟨rfl, g23⟩
    have G23' : Hid (w.grownBy w23 none) := grownBy_trans G22.out g23
    clear g23
    go_wp2_with fail
    go_ret
    exact ⟨rfl, G23'.out⟩
theorem wshort_any (w : World) (v : Value) (L : List Int) (h : Ints w v L) (hl : L.length ≤ 1000000000000000) (ht : Tab w) :
    Calls Tryd.prog 3 #[v] w fun e w' => e = .returned (.bool true) ∧ w.grownBy w' none := by
  by_cases hm : 9000 < min L.length 10000
  · exact wshort_much w v L h hl ht hm
  · by_cases hr : chk [L] = 0
    · exact wshort_good w v L h ht hr
    · exact wshort_bad w v L h (by omega) ht _ rfl hr
end Go.Proofs.YtndadkfekngheaaDoor
