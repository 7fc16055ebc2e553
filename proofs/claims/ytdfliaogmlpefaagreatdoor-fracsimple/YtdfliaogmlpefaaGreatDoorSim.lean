/-
  frac's simplest.
-/
import Derived.Test.YtdfliaogmlpefaaGreatDoorBunSmp
import Derived.Deep.LoopGhost
import Derived.Deep.CutRange
namespace Go.Proofs.YtdfliaogmlpefaaGreatDoor
open Go.RowKit Go.Lib Go.Sort
set_option linter.unusedVariables false
set_option maxHeartbeats 6400000
set_option maxRecDepth 1000000
noncomputable def zOf (l : List Int) (i : Nat) : Bool × ByteArray := ez (l[i]?.getD 0)
noncomputable def eOf (l : List Int) (j : Nat) : E4 := (ez (fo (l.drop j)).1, ez (fo (l.drop j)).2)
theorem sm_folds {B : Int} {N1 D1 N2 D2 : Int} {l : List Int} (h : SmB B N1 D1 N2 D2 l) (b1 : N1 < B) (b2 : D1 < B) (b3 : N2 < B) (b4 : D2 < B) (hB : ∀ z, 0 ≤ z → z < B → Sz 1024 z (ez z).1 (ez z).2) : Folds l (zOf l) (eOf l) := by
  refine ⟨fun i q hi => ?_, fun j hj => ?_, fun j j1 j2 => (h.tails j j1 j2).1⟩
  · unfold zOf
    rw [hi]
    exact hB q (h.q i q hi).1 (h.q i q hi).2
  · unfold eOf
    rcases Nat.eq_zero_or_pos j with rfl | hp
    · rw [List.drop_zero]
      obtain ⟨p1, p2⟩ := h.p
      rcases h.le with ⟨u, v⟩ | ⟨u, v⟩
      · exact ⟨hB _ (by omega) (by omega), hB _ (by omega) (by omega)⟩
      · exact ⟨hB _ (by omega) (by omega), hB _ (by omega) (by omega)⟩
    · obtain ⟨a, b, c, d⟩ := h.tails j hp hj
      exact ⟨hB _ (by omega) b, hB _ c d⟩
theorem cmpZ_lt {a b : Int} (h : a < b) : cmpZ a b = -1 := by simp [cmpZ, h]
theorem cmpZ_same (a : Int) : cmpZ a a = 0 := by simp [cmpZ]
theorem one_k (k : Nat) (hk : 1 ≤ k) : Sz k 1 false oneS := ⟨one_isz, Nat.lt_of_lt_of_le (show (1 : Int).natAbs < 256 ^ 1 by decide) (Nat.pow_le_pow_right (by decide) hk)⟩
theorem one_1024 : Sz 1024 1 false oneS := one_k 1024 (by decide)
theorem cmpZ_gt {a b : Int} (h : b < a) : cmpZ a b = 1 := by
  unfold cmpZ
  rw [if_neg (by omega), if_neg (by omega)]
theorem SmS.app {w W W' : World} {X1 Y1 X2 Y2 : Int} {P1 Q1 P2 Q2 base : Nat} {v v' : Value} {A A' : List Int} {N1 D1 N2 D2 : Int} (h : SmS w W X1 Y1 X2 Y2 P1 Q1 P2 Q2 base v A N1 D1 N2 D2) (hp : SmP (w.heap.size + 1 + 1) P1 Q1 P2 Q2 base) (hg : W.grownBy W' v.ownBlock) (hR : RowW W' base v' (A'.map ez)) : SmS w W' X1 Y1 X2 Y2 P1 Q1 P2 Q2 base v' A' N1 D1 N2 D2 := by
  have ne : ∀ i, i < base → some i ≠ v.ownBlock := fun i hi e => by have := (h.row.own i e.symm).1; omega
  have nb : ∀ i o, i < base → W.heap[i]? = some o → W'.heap[i]? = some o := fun i o hi h => (hg.block i (Array.getElem?_eq_some_iff.1 h).1 (ne i hi)).trans h
  have l1 := hp.l1
  have u1 := hp.u1
  refine ⟨nb _ _ (by omega) h.x, nb _ _ (by omega) h.y, nb _ _ (by omega) h.r, nb _ _ hp.u1 h.p1, nb _ _ hp.u2 h.q1, nb _ _ hp.u3 h.p2, nb _ _ hp.u4 h.q2, hR, ?_⟩
  have g := h.g
  exact ⟨hg.os.trans g.os, hg.tape.trans g.tape, hg.output.trans g.output, Nat.le_trans g.size hg.size, fun i hi hn => (hg.block i (Nat.lt_of_lt_of_le hi g.size) (ne i (by omega))).trans (g.block i hi hn)⟩
theorem fold_ready {W : World} {base : Nat} {v : Value} {L : List Int} (h : RowW W base v (L.map ez)) (hL : L ≠ []) : ∃ g cp, v = .slice (some ⟨g, 0, none⟩) L.length cp ∧ L.length ≤ cp ∧ ∀ q, q < L.length → W.cell? ⟨g, q * 2, none⟩ = some (.bool (zOf L q).1) ∧ W.cell? ⟨g, q * 2 + 1, none⟩ = some (.string (zOf L q).2) := by
  have hl : (L.map ez).length = L.length := List.length_map _
  obtain ⟨g, cp, e, _, _, hc, _⟩ := own_form h (by rw [hl]; exact List.length_pos_iff.2 hL)
  rw [hl] at e hc
  subst e
  refine ⟨g, cp, rfl, hc, fun q hq => ?_⟩
  unfold RowW at h
  rw [hl] at h
  refine own_wholes h q (zOf L q) ?_
  unfold zOf
  rw [List.getElem?_map, List.getElem?_eq_getElem hq]
  rfl
theorem simplest_ok (X1 Y1 X2 Y2 B : Int) (F : Nat) (hB : ∀ z, 0 ≤ z → z < B → Sz 1024 z (ez z).1 (ez z).2) (x1 : 0 < X1 ∧ X1 < B) (y1 : 0 < Y1 ∧ Y1 < B) (x2 : 0 < X2 ∧ X2 < B) (y2 : 0 < Y2 ∧ Y2 < B) (g1 : Int.gcd X1 Y1 = 1) (g2 : Int.gcd X2 Y2 = 1) (hY : Y1.natAbs < 256 ^ 100) (hF : Y1.toNat ≤ F) (w : World) :
    Calls Tryz.prog 74 #[frac (ez X1).1 (ez X1).2 (ez Y1).1 (ez Y1).2, frac (ez X2).1 (ez X2).2 (ez Y2).1 (ez Y2).2] w fun e w' => e = .returned (.tuple #[frac (ez (fo (sm F X1 Y1 X2 Y2)).1).1 (ez (fo (sm F X1 Y1 X2 Y2)).1).2 (ez (fo (sm F X1 Y1 X2 Y2)).2).1 (ez (fo (sm F X1 Y1 X2 Y2)).2).2, .int .i64 0]) ∧ w.grownBy w' none := by
  have HFo := sm_folds (sm_bounds F X1 Y1 X2 Y2 B x1.1 y1.1 x2.1 y2.1 hF x1.2 y1.2 x2.2 y2.2) x1.2 y1.2 x2.2 y2.2 hB
  have HN0 : Hid (SmN B F X1 Y1 X2 Y2 F [] X1 Y1 X2 Y2) := ⟨x1, y1, x2, y2, Pre.nil _ _, Pre.nil _ _, by simp, hF⟩
  have HFd : Hid (∀ g cp W, (sm F X1 Y1 X2 Y2).length ≤ cp → (sm F X1 Y1 X2 Y2).length ≤ 100000 → (∀ q, q < (sm F X1 Y1 X2 Y2).length → W.cell? ⟨g, q * 2, none⟩ = some (.bool (zOf (sm F X1 Y1 X2 Y2) q).1) ∧ W.cell? ⟨g, q * 2 + 1, none⟩ = some (.string (zOf (sm F X1 Y1 X2 Y2) q).2)) → Calls Tryz.prog 82 #[.slice (some ⟨g, 0, none⟩) (sm F X1 Y1 X2 Y2).length cp] W fun e w' => e = .returned (.tuple #[frac (ez (fo (sm F X1 Y1 X2 Y2)).1).1 (ez (fo (sm F X1 Y1 X2 Y2)).1).2 (ez (fo (sm F X1 Y1 X2 Y2)).2).1 (ez (fo (sm F X1 Y1 X2 Y2)).2).2, .int .i64 0]) ∧ W.grownBy w' none) := fun g cp W hcp h9 hcs => folded_ok _ _ _ HFo _ rfl h9 _ cp W (fun q hq => ⟨g, 0, rfl, by rw [Nat.zero_add]; exact (hcs q hq).1, by rw [Nat.zero_add]; exact (hcs q hq).2, hcp⟩)
  have HG12 : Hid (Int.gcd X1 Y1 = 1 ∧ Int.gcd X2 Y2 = 1 ∧ Y1.natAbs < 256 ^ 100) := ⟨g1, g2, hY⟩
  have HBz : Hid (∀ z, 0 ≤ z → z < B → Sz 1024 z (ez z).1 (ez z).2) := hB
  clear HFo x1 y1 x2 y2 g1 g2 hY hF hB
  generalize hx1 : ez X1 = ex1 at *
  generalize hy1 : ez Y1 = ey1 at *
  generalize hx2 : ez X2 = ex2 at *
  generalize hy2 : ez Y2 = ey2 at *
  obtain ⟨x1n, x1s⟩ := ex1
  obtain ⟨y1n, y1s⟩ := ey1
  obtain ⟨x2n, x2s⟩ := ex2
  obtain ⟨y2n, y2s⟩ := ey2
  have HEZ : Hid (ez X1 = (x1n, x1s) ∧ ez Y1 = (y1n, y1s) ∧ ez X2 = (x2n, x2s) ∧ ez Y2 = (y2n, y2s)) := ⟨hx1, hy1, hx2, hy2⟩
  clear hx1 hy1 hx2 hy2
  dsimp only
  have HK : Hid (∀ w', (((w.alloc (qObj x1n x1s y1n y1s)).alloc (qObj x2n x2s y2n y2s)).alloc (qObj false eS false eS)).grownBy w' none → w'.cell? ⟨w.heap.size, 0, none⟩ = some (.bool x1n) ∧ w'.cell? ⟨w.heap.size, 1, none⟩ = some (.string x1s) ∧ w'.cell? ⟨w.heap.size, 2, none⟩ = some (.bool y1n) ∧ w'.cell? ⟨w.heap.size, 3, none⟩ = some (.string y1s) ∧ w'.cell? ⟨w.heap.size + 1, 0, none⟩ = some (.bool x2n) ∧ w'.cell? ⟨w.heap.size + 1, 1, none⟩ = some (.string x2s) ∧ w'.cell? ⟨w.heap.size + 1, 2, none⟩ = some (.bool y2n) ∧ w'.cell? ⟨w.heap.size + 1, 3, none⟩ = some (.string y2s)) := fun w' hg => by
    have h1 : QBlk w' w.heap.size (.bool x1n) (.string x1s) (.bool y1n) (.string y1s) := QBlk.kept (w := ((w.alloc (qObj x1n x1s y1n y1s)).alloc (qObj x2n x2s y2n y2s)).alloc (qObj false eS false eS)) (old_alloc _ _ (old_alloc _ _ (heap_alloc_new _ _))) hg (by simp)
    have h2 : QBlk w' (w.heap.size + 1) (.bool x2n) (.string x2s) (.bool y2n) (.string y2s) := QBlk.kept (w := ((w.alloc (qObj x1n x1s y1n y1s)).alloc (qObj x2n x2s y2n y2s)).alloc (qObj false eS false eS)) (old_alloc _ _ (heap_alloc2_new _ _ _)) hg (by simp)
    exact ⟨h1.c0, h1.c1, h1.c2, h1.c3, h2.c0, h2.c1, h2.c2, h2.c3⟩
  go_enter Tryz.func74, Tryz.ntmps74
  go_upto_region 2 with fail
  have HU0 : Hid (QBlk (((w.alloc (qObj x1n x1s y1n y1s)).alloc (qObj x2n x2s y2n y2s)).alloc (qObj false eS false eS)) w.heap.size (.bool x1n) (.string x1s) (.bool y1n) (.string y1s) ∧ QBlk (((w.alloc (qObj x1n x1s y1n y1s)).alloc (qObj x2n x2s y2n y2s)).alloc (qObj false eS false eS)) (w.heap.size + 1) (.bool x2n) (.string x2s) (.bool y2n) (.string y2s) ∧ QBlk (((w.alloc (qObj x1n x1s y1n y1s)).alloc (qObj x2n x2s y2n y2s)).alloc (qObj false eS false eS)) (w.heap.size + 1 + 1) (.bool false) (.string eS) (.bool false) (.string eS) ∧ w.grownBy (((w.alloc (qObj x1n x1s y1n y1s)).alloc (qObj x2n x2s y2n y2s)).alloc (qObj false eS false eS)) none ∧ (((w.alloc (qObj x1n x1s y1n y1s)).alloc (qObj x2n x2s y2n y2s)).alloc (qObj false eS false eS)).heap.size = w.heap.size + 3) := ⟨old_alloc _ _ (old_alloc _ _ (heap_alloc_new _ _)), old_alloc _ _ (heap_alloc2_new _ _ _), at_alloc3 _ _ _ _, grow3 _ _ _ _, by simp⟩
  generalize ((w.alloc (qObj x1n x1s y1n y1s)).alloc (qObj x2n x2s y2n y2s)).alloc (qObj false eS false eS) = U at *
  obtain ⟨k0, k1, k2, k3, k4, k5, k6, k7⟩ := HK.out _ (World.grownBy.refl _ _)
  go_region_held3 (fun w' => w'.cell? ⟨w.heap.size, 0, none⟩ = some (.bool x1n) ∧ w'.cell? ⟨w.heap.size, 1, none⟩ = some (.string x1s) ∧ w'.cell? ⟨w.heap.size, 2, none⟩ = some (.bool y1n) ∧ w'.cell? ⟨w.heap.size, 3, none⟩ = some (.string y1s) ∧ w'.cell? ⟨w.heap.size + 1, 0, none⟩ = some (.bool x2n) ∧ w'.cell? ⟨w.heap.size + 1, 1, none⟩ = some (.string x2s) ∧ w'.cell? ⟨w.heap.size + 1, 2, none⟩ = some (.bool y2n) ∧ w'.cell? ⟨w.heap.size + 1, 3, none⟩ = some (.string y2s))
    (first | (go_keep; done) | with_reducible exact HK.out _ (by assumption) | with_reducible exact HK.out _ (grow_drew (World.grownBy.refl _ _)) | fail)
    (first
      | (go_at_call 80; refine (steps_any _ _ _ _ _).mono ?_; first | (have _q := GA; rintro e w2 ⟨P2, Q2, rfl, hP2, hQ2, lP2, lQ2, ne2, gB⟩; have GB : U.grownBy w2 none := grownBy_trans GA gB) | (rintro e w1 ⟨P1, Q1, rfl, hP1, hQ1, lP1, lQ1, ne1, gA⟩; have GA : U.grownBy w1 none := (by first | exact gA | exact grownBy_undrew gA)))
      | fail)
  have HPP : Hid (SmP (w.heap.size + 1 + 1) P1 Q1 P2 Q2 w2.heap.size) := (by
    have e1 := HU0.out.2.2.2.2
    have e2 := hP1.lt
    have e3 := hQ1.lt
    have e4 := hP2.lt
    have e5 := hQ2.lt
    have e6 := gB.size
    have e7 : U.heap.size ≤ P1 ∧ U.heap.size ≤ Q1 := ⟨by simpa using lP1, by simpa using lQ1⟩
    exact ⟨by omega, by omega, by omega, by omega, by omega, by omega, by omega, by omega, ne1, by omega, by omega, by omega, by omega, ne2⟩)
  have HS0 : Hid (SmS w w2 X1 Y1 X2 Y2 P1 Q1 P2 Q2 w2.heap.size (.slice none 0 0) [] X1 Y1 X2 Y2) := (by
    obtain ⟨u1, u2, u3, u4, _⟩ := HU0.out
    obtain ⟨z1, z2, z3, z4⟩ := HEZ.out
    refine ⟨?_, ?_, u3.kept GB (by simp), ?_, ?_, ?_, ?_, RowW.nil _ _, grownBy_trans u4 GB⟩
    · rw [z1, z2]; exact u1.kept GB (by simp)
    · rw [z3, z4]; exact u2.kept GB (by simp)
    · rw [z1]; exact hP1.kept gB (by simp)
    · rw [z2]; exact hQ1.kept gB (by simp)
    · rw [z3]; exact hP2
    · rw [z4]; exact hQ2)
  have eg := eg_steps2
  clear hP1 hQ1 lP1 lQ1 ne1 gA GA hP2 hQ2 lP2 lQ2 ne2 gB GB HU0 k0 k1 k2 k3 k4 k5 k6 k7 HK
  obtain ⟨base, hbase⟩ : ∃ base, w2.heap.size = base := ⟨_, rfl⟩
  have HBs : Hid (w2.heap.size = base) := hbase
  rw [hbase] at HPP HS0
  clear hbase
  go_wp2_with fail
  generalize w2 = wz at *
  go_loopg [6] F (fun f s6 wr => ∃ A N1 D1 N2 D2, SmN B F X1 Y1 X2 Y2 f A N1 D1 N2 D2 ∧ SmS w wr X1 Y1 X2 Y2 P1 Q1 P2 Q2 base s6 A N1 D1 N2 D2 ∧ base ≤ wr.heap.size)
  case atStart => exact ⟨[], X1, Y1, X2, Y2, HN0.out, HS0.out, by have := HBs.out; omega⟩
  case round =>
    obtain ⟨A, N1, D1, N2, D2, hN, hS, hbs⟩ := hrel
    obtain ⟨f, rfl⟩ : ∃ f, gk = f + 1 := ⟨gk - 1, by have := hN.fuel; have := hN.d1.1; omega⟩
    obtain ⟨ao, cp, rfl⟩ := hS.row.form
    rw [List.length_map] at hS ⊢
    obtain ⟨ln, hln⟩ : ∃ ln, A.length = ln := ⟨_, rfl⟩
    have HLn : Unit → A.length = ln := fun _ => hln
    rw [hln] at hS ⊢
    have HN : Hid (SmN B F X1 Y1 X2 Y2 (f + 1) A N1 D1 N2 D2) := hN
    have HS : Hid (SmS w wr X1 Y1 X2 Y2 P1 Q1 P2 Q2 base (.slice ao ln cp) A N1 D1 N2 D2) := hS
    have HLen : Hid (A.length ≤ 1300) := hN.len HG12.out.2.2
    have HBw : Hid (base ≤ wr.heap.size) := hbs
    obtain ⟨a0, a1, a2, a3, a4⟩ := div_le_self N1 D1 (Int.le_of_lt hN.n1.1) hN.d1.1
    obtain ⟨c0, c1, c2, c3, c4⟩ := div_le_self N2 D2 (Int.le_of_lt hN.n2.1) hN.d2.1
    have sN1 := HBz.out N1 (by have := hN.n1; omega) hN.n1.2
    have sD1 := HBz.out D1 (by have := hN.d1; omega) hN.d1.2
    have sN2 := HBz.out N2 (by have := hN.n2; omega) hN.n2.2
    have sD2 := HBz.out D2 (by have := hN.d2; omega) hN.d2.2
    have SA : Hid (Sz 1024 (N1 / D1) (ez (N1 / D1)).1 (ez (N1 / D1)).2) := HBz.out _ a0 (by have := hN.n1; omega)
    have SB : Hid (Sz 1024 (N2 / D2) (ez (N2 / D2)).1 (ez (N2 / D2)).2) := HBz.out _ c0 (by have := hN.n2; omega)
    have sr1 := HBz.out (N1 % D1) a3 (by have := hN.d1; omega)
    have sr2 := HBz.out (N2 % D2) c3 (by have := hN.d2; omega)
    have hne1 : D1 ≠ 0 := by have := hN.d1; omega
    have hne2 : D2 ≠ 0 := by have := hN.d2; omega
    have HD1 : Hid (∀ w, Calls Tryz.prog 55 #[whole (ez N1).1 (ez N1).2, whole (ez D1).1 (ez D1).2] w fun e w' => e = .returned (.tuple #[whole (ez (N1 / D1)).1 (ez (N1 / D1)).2, whole (ez (N1 % D1)).1 (ez (N1 % D1)).2, .int .i64 0]) ∧ w.grownBy w' none) := fun w => divr_is (by decide) (by decide) hne1 sN1 sD1 (ez_is _) (ez_is _) w
    have HD2 : Hid (∀ w, Calls Tryz.prog 55 #[whole (ez N2).1 (ez N2).2, whole (ez D2).1 (ez D2).2] w fun e w' => e = .returned (.tuple #[whole (ez (N2 / D2)).1 (ez (N2 / D2)).2, whole (ez (N2 % D2)).1 (ez (N2 % D2)).2, .int .i64 0]) ∧ w.grownBy w' none) := fun w => divr_is (by decide) (by decide) hne2 sN2 sD2 (ez_is _) (ez_is _) w
    obtain ⟨b1, hb1⟩ : ∃ b1, decide (N1 % D1 = 0) = b1 := ⟨_, rfl⟩
    obtain ⟨b2, hb2⟩ : ∃ b2, decide (N2 % D2 = 0) = b2 := ⟨_, rfl⟩
    have hz1 := rest_b (by decide) sr1
    have hz2 := rest_b (by decide) sr2
    rw [hb1] at hz1
    rw [hb2] at hz2
    have HS1 : Hid (Calls Tryz.prog 124 #[.pointer (some ⟨P1, 0, none⟩), .pointer (some ⟨Q1, 0, none⟩)] wr (StepX wr P1 Q1 (ez D1).1 (ez D1).2 (ez (N1 / D1)).1 (ez (N1 / D1)).2 (ez (N1 % D1)).1 (ez (N1 % D1)).2 b1)) := steps1_x wr P1 Q1 _ _ _ _ _ _ _ _ HD1 hS.p1 hS.q1 HPP.out.a _ hz1
    have HS2 : Hid (∀ W, WBlk W P2 (.bool (ez N2).1) (.string (ez N2).2) → WBlk W Q2 (.bool (ez D2).1) (.string (ez D2).2) → Calls Tryz.prog 124 #[.pointer (some ⟨P2, 0, none⟩), .pointer (some ⟨Q2, 0, none⟩)] W (StepX W P2 Q2 (ez D2).1 (ez D2).2 (ez (N2 / D2)).1 (ez (N2 / D2)).2 (ez (N2 % D2)).1 (ez (N2 % D2)).2 b2)) := fun W h1 h2 => steps1_x W P2 Q2 _ _ _ _ _ _ _ _ HD2 h1 h2 HPP.out.f _ hz2
    have HCm : Hid (∀ w, Calls Tryz.prog 122 #[whole (ez (N1 / D1)).1 (ez (N1 / D1)).2, whole (ez (N2 / D2)).1 (ez (N2 / D2)).2] w fun e w' => e = .returned (.tuple #[.int .i64 (cmpZ (N1 / D1) (N2 / D2)), .int .i64 0]) ∧ w.grownBy w' none) := fun w => by
      have := cmp_yes (ez (N1 / D1)).1 (ez (N2 / D2)).1 (ez (N1 / D1)).2 (ez (N2 / D2)).2 (SA.out.may (by decide)) (SB.out.may (by decide)) w
      rw [SA.out.num, SB.out.num] at this
      exact this
    have HB1 : Unit → decide (N1 % D1 = 0) = b1 := fun _ => hb1
    have HB2 : Unit → decide (N2 % D2 = 0) = b2 := fun _ => hb2
    clear hN hS hbs hln a0 a1 a2 a3 a4 c0 c1 c2 c3 c4 sN1 sD1 sN2 sD2 sr1 sr2 hne1 hne2 HD1 HD2 hb1 hb2 hz1 hz2 HN0 HS0
    go_wp2_with fail
    refine HS1.out.mono ?_
    rintro e w3 ⟨rfl, hP3, hQ3, hb3⟩
    have HS3 : Hid (SmS w (w3.alloc (wObj (ez (N1 / D1)).1 (ez (N1 / D1)).2)) X1 Y1 X2 Y2 P1 Q1 P2 Q2 base (.slice ao ln cp) A D1 (N1 % D1) N2 D2) := (HS.out.b1 HPP.out hb3 hP3 hQ3).kept (grow1 _ _)
    have HA3 : Hid (WBlk (w3.alloc (wObj (ez (N1 / D1)).1 (ez (N1 / D1)).2)) w3.heap.size (.bool (ez (N1 / D1)).1) (.string (ez (N1 / D1)).2) ∧ base ≤ w3.heap.size) := ⟨heap_alloc_new _ _, by have := HBw.out; have := hb3.size; omega⟩
    clear hP3 hQ3 hb3 HS1 HS HBw
    go_upto_region 4 with fail
    generalize w3.alloc (wObj (ez (N1 / D1)).1 (ez (N1 / D1)).2) = V3 at *
    generalize w3.heap.size = AB at *
    go_wp2_with fail
    refine (HS2.out _ HS3.out.p2 HS3.out.q2).mono ?_
    rintro e w4 ⟨rfl, hP4, hQ4, hb4⟩
    have HS4 : Hid (SmS w (w4.alloc (wObj (ez (N2 / D2)).1 (ez (N2 / D2)).2)) X1 Y1 X2 Y2 P1 Q1 P2 Q2 base (.slice ao ln cp) A D1 (N1 % D1) D2 (N2 % D2)) := (HS3.out.b2 HPP.out hb4 hP4 hQ4).kept (grow1 _ _)
    have HA4 : Hid (WBlk (w4.alloc (wObj (ez (N2 / D2)).1 (ez (N2 / D2)).2)) AB (.bool (ez (N1 / D1)).1) (.string (ez (N1 / D1)).2) ∧ WBlk (w4.alloc (wObj (ez (N2 / D2)).1 (ez (N2 / D2)).2)) w4.heap.size (.bool (ez (N2 / D2)).1) (.string (ez (N2 / D2)).2) ∧ base ≤ w4.heap.size) := (by
      have u3 := HPP.out.u3
      have u4 := HPP.out.u4
      have hb := HA3.out.2
      refine ⟨old_alloc _ _ ((hb4.block AB HA3.out.1.lt (by omega) (by omega)).trans HA3.out.1), heap_alloc_new _ _, ?_⟩
      have := HA3.out.1.lt
      have := hb4.size
      omega)
    clear hP4 hQ4 hb4 HS2 HS3 HA3
    go_upto_region 5 with fail
    generalize w4.alloc (wObj (ez (N2 / D2)).1 (ez (N2 / D2)).2) = V4 at *
    generalize w4.heap.size = BB at *
    have d0 := HA4.out.1.c0
    have d1 := HA4.out.1.c1
    have d2 := HA4.out.2.1.c0
    have d3 := HA4.out.2.1.c1
    go_wp2_with fail
    refine (HCm.out _).mono ?_
    rintro e w5 ⟨rfl, g5⟩
    have HS5 : Hid (SmS w w5 X1 Y1 X2 Y2 P1 Q1 P2 Q2 base (.slice ao ln cp) A D1 (N1 % D1) D2 (N2 % D2)) := HS4.out.kept g5
    have HA5 : Hid (WBlk w5 AB (.bool (ez (N1 / D1)).1) (.string (ez (N1 / D1)).2)) := HA4.out.1.kept g5 (by simp)
    have HB5 : Hid (WBlk w5 BB (.bool (ez (N2 / D2)).1) (.string (ez (N2 / D2)).2)) := HA4.out.2.1.kept g5 (by simp)
    have HW5 : Hid (base ≤ w5.heap.size) := (by have := HA4.out.2.2; have := HA4.out.2.1.lt; have := g5.size; omega : base ≤ w5.heap.size)
    clear d0 d1 d2 d3 g5 HCm HA4 HS4
    rcases Int.lt_trichotomy (N1 / D1) (N2 / D2) with hlt | heq | hgt
    · rw [cmpZ_lt hlt]
      cases b1
      · have HLe : Hid (sm F X1 Y1 X2 Y2 = A ++ [N1 / D1 + 1]) := HN.out.lt hlt (by have := HB1 (); simpa using this)
        have HAf : Hid (∀ w, Calls Tryz.prog 123 #[whole (ez (N1 / D1)).1 (ez (N1 / D1)).2] w fun e w' => e = .returned (whole (ez (N1 / D1 + 1)).1 (ez (N1 / D1 + 1)).2) ∧ w.grownBy w' none) := fun w => after_by _ _ _ _ (fun w => add_is (k := 1024) (by decide) SA.out one_1024 (ez_is _) w) w
        have d0 := HA5.out.c0
        have d1 := HA5.out.c1
        go_wp2_with fail
        refine (HAf.out _).mono ?_
        rintro e w6 ⟨rfl, g6⟩
        have HS6 : Hid (∀ o', SmS w (w6.alloc o') X1 Y1 X2 Y2 P1 Q1 P2 Q2 base (.slice ao ln cp) A D1 (N1 % D1) D2 (N2 % D2)) := fun o' => (HS5.out.kept g6).kept (grow1 _ o')
        have HW6 : Hid (base ≤ w6.heap.size) := (by have := HW5.out; have := g6.size; omega : base ≤ w6.heap.size)
        clear g6 d0 d1
        go_wp2_with (at_builtin; refine wpList_append_whole rfl _ _ rfl base (.slice ao ln cp) (A.map ez) (ez (N1 / D1 + 1)) rfl (HS6.out _).row (by have := HLen.out; simp; omega) (by have := HW6.out; simp; omega) w6.heap.size rfl (show WBlk _ w6.heap.size (.bool (ez (N1 / D1 + 1)).1) (.string (ez (N1 / D1 + 1)).2) from heap_alloc_new _ _).c0 (show WBlk _ w6.heap.size (.bool (ez (N1 / D1 + 1)).1) (.string (ez (N1 / D1 + 1)).2) from heap_alloc_new _ _).c1 ?_)
        intro v' w7 hR7 hg7 hfr
        have hR8 : RowW w7 base v' ((sm F X1 Y1 X2 Y2).map ez) := by rw [HLe.out, List.map_append]; exact hR7
        have HS7 : Hid (SmS w w7 X1 Y1 X2 Y2 P1 Q1 P2 Q2 base v' (sm F X1 Y1 X2 Y2) D1 (N1 % D1) D2 (N2 % D2)) := (HS6.out _).app HPP.out hg7 hR8
        obtain ⟨g, cp', rfl, hcp', hcs⟩ := fold_ready hR8 (by rw [HLe.out]; simp)
        have HFq : Hid (Calls Tryz.prog 82 #[.slice (some ⟨g, 0, none⟩) (sm F X1 Y1 X2 Y2).length cp'] w7 fun e w' => e = .returned (.tuple #[frac (ez (fo (sm F X1 Y1 X2 Y2)).1).1 (ez (fo (sm F X1 Y1 X2 Y2)).1).2 (ez (fo (sm F X1 Y1 X2 Y2)).2).1 (ez (fo (sm F X1 Y1 X2 Y2)).2).2, .int .i64 0]) ∧ w7.grownBy w' none) := HFd.out g cp' w7 hcp' (by have := HLen.out; rw [HLe.out]; simp; omega) hcs
        clear hR7 hg7 hfr hR8 hcp' hcs HFd HLe
        go_wp2_with fail
        refine HFq.out.mono ?_
        rintro e w8 ⟨rfl, g8⟩
        have HS8 := HS7.out.kept g8
        have r0 := HS8.r.c0
        have r1 := HS8.r.c1
        have r2 := HS8.r.c2
        have r3 := HS8.r.c3
        have f0 := HS8.r.fr 0
        have f1 := HS8.r.fr 1
        have f2 := HS8.r.fr 2
        have f3 := HS8.r.fr 3
        have HR9 : Hid (QBlk w8 (w.heap.size + 1 + 1) (.bool false) (.string eS) (.bool false) (.string eS) ∧ w.grownBy w8 none) := ⟨HS8.r, HS8.g⟩
        clear g8 HS8
        go_wp2_with fail
        refine bodyPost_ret (res_cellQ_tmp rfl _ _ (w.heap.size + 1 + 1) _ _ _ _ _ _ rfl (HR9.out.1.put _ _ _ _)) rfl ?_
        exact ⟨rfl, grown_put4 HR9.out.2 (by omega)⟩
      · have HE : Hid (fo (sm F X1 Y1 X2 Y2) = (X1, Y1)) := HN.out.endX HG12.out.1 (Int.le_of_lt hlt) (by have := HB1 (); simpa using this)
        have hS := HS5.out
        have a0 := hS.x.c0
        have a1 := hS.x.c1
        have a2 := hS.x.c2
        have a3 := hS.x.c3
        have r0 := hS.r.c0
        have r1 := hS.r.c1
        have r2 := hS.r.c2
        have r3 := hS.r.c3
        have f0 := hS.r.fr 0
        have f1 := hS.r.fr 1
        have f2 := hS.r.fr 2
        have f3 := hS.r.fr 3
        clear hS
        go_wp2_with fail
        refine bodyPost_ret (res_cellQ_tmp rfl _ _ (w.heap.size + 1 + 1) _ _ _ _ _ _ rfl (HS5.out.r.put _ _ _ _)) rfl ?_
        refine ⟨?_, grown_put4 HS5.out.g (by omega)⟩
        rw [HE.out]
        rfl
    · rw [show cmpZ (N1 / D1) (N2 / D2) = 0 by rw [heq]; exact cmpZ_same _]
      cases b1
      · cases b2
        · have HNn : Hid (SmN B F X1 Y1 X2 Y2 f (A ++ [N1 / D1]) D1 (N1 % D1) D2 (N2 % D2)) := HN.out.next heq (by have := HB1 (); simpa using this) (by have := HB2 (); simpa using this)
          have d0 := HA5.out.c0
          have d1 := HA5.out.c1
          have HS6 : Hid (∀ o', SmS w (w5.alloc o') X1 Y1 X2 Y2 P1 Q1 P2 Q2 base (.slice ao ln cp) A D1 (N1 % D1) D2 (N2 % D2)) := fun o' => HS5.out.kept (grow1 _ o')
          clear heq
          go_wp2_with (at_builtin; refine wpList_append_whole rfl _ _ rfl base (.slice ao ln cp) (A.map ez) (ez (N1 / D1)) rfl (HS6.out _).row (by have := HLen.out; simp; omega) (by have := HW5.out; simp; omega) w5.heap.size rfl (show WBlk _ w5.heap.size (.bool (ez (N1 / D1)).1) (.string (ez (N1 / D1)).2) from heap_alloc_new _ _).c0 (show WBlk _ w5.heap.size (.bool (ez (N1 / D1)).1) (.string (ez (N1 / D1)).2) from heap_alloc_new _ _).c1 ?_)
          intro v' w7 hR7 hg7 hfr
          have hR8 : RowW w7 base v' ((A ++ [N1 / D1]).map ez) := by rw [List.map_append]; exact hR7
          have HS7 : Hid (SmS w w7 X1 Y1 X2 Y2 P1 Q1 P2 Q2 base v' (A ++ [N1 / D1]) D1 (N1 % D1) D2 (N2 % D2)) := (HS6.out _).app HPP.out hg7 hR8
          have HW7 : Hid (base ≤ w7.heap.size) := (by have h1 := HW5.out; have h2 := hg7.size; simp at h2; omega : base ≤ w7.heap.size)
          clear hR7 hg7 hfr hR8 d0 d1
          go_wp2_with fail
          go_roundg f
          case measure => omega
          case rel => exact ⟨_, _, _, _, _, HNn.out, HS7.out, HW7.out⟩
        · have HE : Hid (fo (sm F X1 Y1 X2 Y2) = (X2, Y2)) := HN.out.endY HG12.out.2.1 (fun h => by have h1 := HB1 (); simp at h1; exact h1 h.2) (by omega) (by have := HB2 (); simpa using this)
          clear heq
          have hS := HS5.out
          have a0 := hS.y.c0
          have a1 := hS.y.c1
          have a2 := hS.y.c2
          have a3 := hS.y.c3
          have r0 := hS.r.c0
          have r1 := hS.r.c1
          have r2 := hS.r.c2
          have r3 := hS.r.c3
          have f0 := hS.r.fr 0
          have f1 := hS.r.fr 1
          have f2 := hS.r.fr 2
          have f3 := hS.r.fr 3
          clear hS
          go_wp2_with fail
          refine bodyPost_ret (res_cellQ_tmp rfl _ _ (w.heap.size + 1 + 1) _ _ _ _ _ _ rfl (HS5.out.r.put _ _ _ _)) rfl ?_
          refine ⟨?_, grown_put4 HS5.out.g (by omega)⟩
          rw [HE.out]
          rfl
      · have HE : Hid (fo (sm F X1 Y1 X2 Y2) = (X1, Y1)) := HN.out.endX HG12.out.1 (by omega) (by have := HB1 (); simpa using this)
        clear heq
        have hS := HS5.out
        have a0 := hS.x.c0
        have a1 := hS.x.c1
        have a2 := hS.x.c2
        have a3 := hS.x.c3
        have r0 := hS.r.c0
        have r1 := hS.r.c1
        have r2 := hS.r.c2
        have r3 := hS.r.c3
        have f0 := hS.r.fr 0
        have f1 := hS.r.fr 1
        have f2 := hS.r.fr 2
        have f3 := hS.r.fr 3
        clear hS
        go_wp2_with fail
        refine bodyPost_ret (res_cellQ_tmp rfl _ _ (w.heap.size + 1 + 1) _ _ _ _ _ _ rfl (HS5.out.r.put _ _ _ _)) rfl ?_
        refine ⟨?_, grown_put4 HS5.out.g (by omega)⟩
        rw [HE.out]
        rfl
    · rw [cmpZ_gt hgt]
      cases b2
      · have HLe : Hid (sm F X1 Y1 X2 Y2 = A ++ [N2 / D2 + 1]) := HN.out.gt hgt (by have := HB2 (); simpa using this)
        have HAf : Hid (∀ w, Calls Tryz.prog 123 #[whole (ez (N2 / D2)).1 (ez (N2 / D2)).2] w fun e w' => e = .returned (whole (ez (N2 / D2 + 1)).1 (ez (N2 / D2 + 1)).2) ∧ w.grownBy w' none) := fun w => after_by _ _ _ _ (fun w => add_is (k := 1024) (by decide) SB.out one_1024 (ez_is _) w) w
        have d0 := HB5.out.c0
        have d1 := HB5.out.c1
        go_wp2_with fail
        refine (HAf.out _).mono ?_
        rintro e w6 ⟨rfl, g6⟩
        have HS6 : Hid (∀ o', SmS w (w6.alloc o') X1 Y1 X2 Y2 P1 Q1 P2 Q2 base (.slice ao ln cp) A D1 (N1 % D1) D2 (N2 % D2)) := fun o' => (HS5.out.kept g6).kept (grow1 _ o')
        have HW6 : Hid (base ≤ w6.heap.size) := (by have := HW5.out; have := g6.size; omega : base ≤ w6.heap.size)
        clear g6 d0 d1
        go_wp2_with (at_builtin; refine wpList_append_whole rfl _ _ rfl base (.slice ao ln cp) (A.map ez) (ez (N2 / D2 + 1)) rfl (HS6.out _).row (by have := HLen.out; simp; omega) (by have := HW6.out; simp; omega) w6.heap.size rfl (show WBlk _ w6.heap.size (.bool (ez (N2 / D2 + 1)).1) (.string (ez (N2 / D2 + 1)).2) from heap_alloc_new _ _).c0 (show WBlk _ w6.heap.size (.bool (ez (N2 / D2 + 1)).1) (.string (ez (N2 / D2 + 1)).2) from heap_alloc_new _ _).c1 ?_)
        intro v' w7 hR7 hg7 hfr
        have hR8 : RowW w7 base v' ((sm F X1 Y1 X2 Y2).map ez) := by rw [HLe.out, List.map_append]; exact hR7
        have HS7 : Hid (SmS w w7 X1 Y1 X2 Y2 P1 Q1 P2 Q2 base v' (sm F X1 Y1 X2 Y2) D1 (N1 % D1) D2 (N2 % D2)) := (HS6.out _).app HPP.out hg7 hR8
        obtain ⟨g, cp', rfl, hcp', hcs⟩ := fold_ready hR8 (by rw [HLe.out]; simp)
        have HFq : Hid (Calls Tryz.prog 82 #[.slice (some ⟨g, 0, none⟩) (sm F X1 Y1 X2 Y2).length cp'] w7 fun e w' => e = .returned (.tuple #[frac (ez (fo (sm F X1 Y1 X2 Y2)).1).1 (ez (fo (sm F X1 Y1 X2 Y2)).1).2 (ez (fo (sm F X1 Y1 X2 Y2)).2).1 (ez (fo (sm F X1 Y1 X2 Y2)).2).2, .int .i64 0]) ∧ w7.grownBy w' none) := HFd.out g cp' w7 hcp' (by have := HLen.out; rw [HLe.out]; simp; omega) hcs
        clear hR7 hg7 hfr hR8 hcp' hcs HFd HLe
        go_wp2_with fail
        refine HFq.out.mono ?_
        rintro e w8 ⟨rfl, g8⟩
        have HS8 := HS7.out.kept g8
        have r0 := HS8.r.c0
        have r1 := HS8.r.c1
        have r2 := HS8.r.c2
        have r3 := HS8.r.c3
        have f0 := HS8.r.fr 0
        have f1 := HS8.r.fr 1
        have f2 := HS8.r.fr 2
        have f3 := HS8.r.fr 3
        have HR9 : Hid (QBlk w8 (w.heap.size + 1 + 1) (.bool false) (.string eS) (.bool false) (.string eS) ∧ w.grownBy w8 none) := ⟨HS8.r, HS8.g⟩
        clear g8 HS8
        go_wp2_with fail
        refine bodyPost_ret (res_cellQ_tmp rfl _ _ (w.heap.size + 1 + 1) _ _ _ _ _ _ rfl (HR9.out.1.put _ _ _ _)) rfl ?_
        exact ⟨rfl, grown_put4 HR9.out.2 (by omega)⟩
      · have HE : Hid (fo (sm F X1 Y1 X2 Y2) = (X2, Y2)) := HN.out.endY HG12.out.2.1 (by omega) (Int.le_of_lt hgt) (by have := HB2 (); simpa using this)
        have hS := HS5.out
        have a0 := hS.y.c0
        have a1 := hS.y.c1
        have a2 := hS.y.c2
        have a3 := hS.y.c3
        have r0 := hS.r.c0
        have r1 := hS.r.c1
        have r2 := hS.r.c2
        have r3 := hS.r.c3
        have f0 := hS.r.fr 0
        have f1 := hS.r.fr 1
        have f2 := hS.r.fr 2
        have f3 := hS.r.fr 3
        clear hS
        go_wp2_with fail
        refine bodyPost_ret (res_cellQ_tmp rfl _ _ (w.heap.size + 1 + 1) _ _ _ _ _ _ rfl (HS5.out.r.put _ _ _ _)) rfl ?_
        refine ⟨?_, grown_put4 HS5.out.g (by omega)⟩
        rw [HE.out]
        rfl
end Go.Proofs.YtdfliaogmlpefaaGreatDoor
