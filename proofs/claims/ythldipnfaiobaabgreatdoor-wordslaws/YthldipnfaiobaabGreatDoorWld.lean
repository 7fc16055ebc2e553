/-
  The law WordsLaws of words.
-/
import Derived.Test.YthldipnfaiobaabGreatDoorWlc
namespace Go.Proofs.YthldipnfaiobaabGreatDoor
open Go.RowKit Go.Lib Go.Sort
set_option linter.unusedVariables false
set_option linter.unusedSimpArgs false
set_option maxHeartbeats 12800000
set_option maxRecDepth 1000000
theorem wlaws_good (w : World) (u v x : Value) (U V X : List Int) (hu : Ints w u U) (hv : Ints w v V) (hx : Ints w x X) (hl : U.length + V.length + X.length ≤ 600) (hU : chk [U] = 0) (hV : chk [V] = 0) (hX : chk [X] = 0) (he : Errs w) (ht : Tab w) :
    Calls Tryz.prog 3 #[u, v, x] w fun e w' => e = .returned (.bool true) ∧ w.grownBy w' none := by
  have wU : Wd 600 U := ⟨(chk_word.1 hU).1, by omega⟩
  have wV : Wd 600 V := ⟨(chk_word.1 hV).1, by omega⟩
  have wX : Wd 600 X := ⟨(chk_word.1 hX).1, by omega⟩
  have up : ∀ {a b : Nat} {L : List Int}, Wd a L → a ≤ b → Wd b L := fun h hab => ⟨h.1, Nat.le_trans h.2 hab⟩
  have wUV : Wd 1200 (sh (U ++ V)) := (wU.app wV).sh
  have wVX : Wd 600 (sh (V ++ X)) := by
    refine ⟨(wV.app wX).sh.1, ?_⟩
    have := sh_len (V ++ X)
    simp at this
    omega
  have HE : Hid (Errs w) := he
  have HT : Hid (Tab w) := ht
  have HK := known_any w ht
  have HU : Hid (∀ w1, w.grownBy w1 none → Ints w1 u U) := fun w1 hg => hu.kept hg
  have HV : Hid (∀ w1, w.grownBy w1 none → Ints w1 v V) := fun w1 hg => hv.kept hg
  have HX : Hid (∀ w1, w.grownBy w1 none → Ints w1 x X) := fun w1 hg => hx.kept hg
  have HC1 : Hid (∀ w1, w.grownBy w1 none → Calls Tryz.prog 5 #[u] w1 fun e w' => e = .returned (.int .i64 0) ∧ w' = w1) := fun w1 hg => by
    have := rCheck_any w1 u U (hu.kept hg) (by omega)
    rw [hU] at this
    exact this
  have HC2 : Hid (∀ w1, w.grownBy w1 none → Calls Tryz.prog 5 #[v] w1 fun e w' => e = .returned (.int .i64 0) ∧ w' = w1) := fun w1 hg => by
    have := rCheck_any w1 v V (hv.kept hg) (by omega)
    rw [hV] at this
    exact this
  have HC3 : Hid (∀ w1, w.grownBy w1 none → Calls Tryz.prog 5 #[x] w1 fun e w' => e = .returned (.int .i64 0) ∧ w' = w1) := fun w1 hg => by
    have := rCheck_any w1 x X (hx.kept hg) (by omega)
    rw [hX] at this
    exact this
  have HMa : Hid (∀ w1, w.grownBy w1 none → Calls Tryz.prog 6 #[.slice (some ⟨w1.heap.size, 0, none⟩) 2 2] (w1.alloc (.cells #[u, v] 22)) fun e w' => ∃ r, e = .returned (.tuple #[r, .int .i64 0]) ∧ Ints w' r (sh (U ++ V)) ∧ w1.grownBy w' none) := fun w1 hg => mul_ok w1 u v U V (HU.out w1 hg) (HV.out w1 hg) (up wU (by omega)) (up wV (by omega))
  have HMb : Hid (∀ w1, w.grownBy w1 none → Calls Tryz.prog 6 #[.slice (some ⟨w1.heap.size, 0, none⟩) 2 2] (w1.alloc (.cells #[v, x] 22)) fun e w' => ∃ r, e = .returned (.tuple #[r, .int .i64 0]) ∧ Ints w' r (sh (V ++ X)) ∧ w1.grownBy w' none) := fun w1 hg => mul_ok w1 v x V X (HV.out w1 hg) (HX.out w1 hg) (up wV (by omega)) (up wX (by omega))
  have HMc : Hid (∀ w1 a, w.grownBy w1 none → Ints w1 a (sh (U ++ V)) → Calls Tryz.prog 6 #[.slice (some ⟨w1.heap.size, 0, none⟩) 2 2] (w1.alloc (.cells #[a, x] 22)) fun e w' => ∃ r, e = .returned (.tuple #[r, .int .i64 0]) ∧ Ints w' r (sh (U ++ V ++ X)) ∧ w1.grownBy w' none) := fun w1 a hg ha => by
    have := mul_ok w1 a x _ X ha (HX.out w1 hg) (up wUV (by omega)) (up wX (by omega))
    rw [sh_left] at this
    exact this
  have HMd : Hid (∀ w1 b, w.grownBy w1 none → Ints w1 b (sh (V ++ X)) → Calls Tryz.prog 6 #[.slice (some ⟨w1.heap.size, 0, none⟩) 2 2] (w1.alloc (.cells #[u, b] 22)) fun e w' => ∃ r, e = .returned (.tuple #[r, .int .i64 0]) ∧ Ints w' r (sh (U ++ V ++ X)) ∧ w1.grownBy w' none) := fun w1 b hg hb => by
    have := mul_ok w1 u b U _ (HU.out w1 hg) hb (up wU (by omega)) (up wVX (by omega))
    rw [sh_right, ← List.append_assoc] at this
    exact this
  have HIn : Hid (∀ w1, w.grownBy w1 none → Calls Tryz.prog 7 #[u] w1 fun e w' => ∃ r, e = .returned (.tuple #[r, .int .i64 0]) ∧ Ints w' r (inv U) ∧ w1.grownBy w' none) := fun w1 hg => (inverse_top w1 u U (HU.out w1 hg) (by omega)).mono (by
    rintro e w' ⟨g, r, rfl, hF⟩
    rw [hU, if_pos rfl] at hF
    rw [hU]
    exact ⟨r, rfl, hF.ints, g⟩)
  have HMn : Hid (∀ w1 b, w.grownBy w1 none → Ints w1 b (inv U) → Calls Tryz.prog 6 #[.slice (some ⟨w1.heap.size, 0, none⟩) 2 2] (w1.alloc (.cells #[u, b] 22)) fun e w' => ∃ r, e = .returned (.tuple #[r, .int .i64 0]) ∧ Ints w' r [] ∧ w1.grownBy w' none) := fun w1 b hg hb => by
    have := mul_ok w1 u b U _ (HU.out w1 hg) hb (up wU (by omega)) (up wU.inv (by omega))
    rw [sh_inv_right] at this
    exact this
  have HSh : Hid (∀ w1, w.grownBy w1 none → Calls Tryz.prog 8 #[u] w1 fun e w' => ∃ r, e = .returned (.tuple #[r, .int .i64 0]) ∧ Ints w' r (sh U) ∧ w1.grownBy w' none) := fun w1 hg => (short_top w1 u U (HU.out w1 hg) (by omega)).mono (by
    rintro e w' ⟨g, r, rfl, hF⟩
    rw [hU, if_pos rfl] at hF
    rw [hU]
    exact ⟨r, rfl, hF.ints, g⟩)
  obtain ⟨m, hm⟩ := cut_ex (sh U)
  have hml := hm.le
  have wSU := wU.sh
  have HCo : Hid (∀ w1, w.grownBy w1 none → Calls Tryz.prog 11 #[u] w1 fun e w' => ∃ c b, e = .returned (.tuple #[c, b, .int .i64 0]) ∧ Ints w' c (coreOf (sh U) m) ∧ Ints w' b (byOf (sh U) m) ∧ w1.grownBy w' none) := fun w1 hg => (core_top w1 u U (HU.out w1 hg) (by omega)).mono (by
    rintro e w' ⟨g, c, b, rfl, hh⟩
    rcases hh with ⟨h1, _⟩ | ⟨m', _, hm', h1, h2⟩
    · exact absurd hU h1
    · obtain rfl := hm'.uniq hm
      exact ⟨c, b, by rw [hU], h1.ints, h2.ints, g⟩)
  have wCo : Wd 1000 (coreOf (sh U) m) := ⟨fun y hy => wSU.1 y (core_mem hy), by rw [coreOf_len _ _ hml]; have := wSU.2; omega⟩
  have wBy : Wd 1000 (byOf (sh U) m) := ⟨fun y hy => wSU.1 y (by_mem hy), by rw [byOf_len _ _ hml]; have := wSU.2; omega⟩
  have HCj : Hid (∀ w1 c b, Ints w1 c (coreOf (sh U) m) → Ints w1 b (byOf (sh U) m) → Calls Tryz.prog 12 #[c, b] w1 fun e w' => ∃ r, e = .returned (.tuple #[r, .int .i64 0]) ∧ Ints w' r (sh U) ∧ w1.grownBy w' none) := fun w1 c b hc hb => by
    have := conj_ok w1 c b _ _ hc hb wCo wBy
    rw [cut_parts hm, sh_sh] at this
    exact this
  have HLens : Hid ((coreOf (sh U) m).length + 2 * (byOf (sh U) m).length = (sh U).length) := by
    show _ = _
    rw [coreOf_len _ _ hml, byOf_len _ _ hml]
    omega
  have HCj2 : Hid (∀ w1, w.grownBy w1 none → Calls Tryz.prog 12 #[u, x] w1 fun e w' => ∃ r, e = .returned (.tuple #[r, .int .i64 0]) ∧ Ints w' r (sh (inv X ++ U ++ X)) ∧ w1.grownBy w' none) := fun w1 hg => conj_ok w1 u x U X (HU.out w1 hg) (HX.out w1 hg) (up wU (by omega)) (up wX (by omega))
  obtain ⟨q, hq⟩ := cut_ex (sh (sh (V ++ X)))
  obtain ⟨al, hal⟩ : ∃ al, decide (Turn (coreOf (sh U) m) (coreOf (sh (sh (V ++ X))) q)) = al := ⟨_, rfl⟩
  have HAl : Hid (∀ w1 b, w.grownBy w1 none → Ints w1 b (sh (V ++ X)) → Calls Tryz.prog 13 #[u, b] w1 fun e w' => e = .returned (.tuple #[.bool al, .int .i64 0]) ∧ w1.grownBy w' none) := fun w1 b hg hb => by
    have := alike_ok w1 u b U _ (HU.out w1 hg) hb (up wU (by omega)) (up wVX (by omega)) m q hm hq
    rw [hal] at this
    exact this
  have HAlN : Hid (al = true → (sh U).length = 0 → (sh (V ++ X)).length = 0) := by
    intro e1 e2
    rw [← hal] at e1
    have ht := of_decide_eq_true e1
    have h1 := ht.1
    rw [coreOf_len _ _ hml] at h1
    rcases Nat.eq_zero_or_pos (sh (V ++ X)).length with e | e
    · exact e
    · rw [sh_sh] at hq h1
      have := core_pos hq (red_sh _) e
      omega
  have HAg : Hid (∀ w1 t s, Ints w1 t (sh (inv X ++ U ++ X)) → Ints w1 s (sh U) → Calls Tryz.prog 13 #[t, s] w1 fun e w' => e = .returned (.tuple #[.bool true, .int .i64 0]) ∧ w1.grownBy w' none) := fun w1 t s h1 h2 => by
    obtain ⟨q2, hq2⟩ := cut_ex (sh (sh (inv X ++ U ++ X)))
    have hms : Cut (sh (sh U)) m := by rw [sh_sh]; exact hm
    have wTu : Wd 4000 (sh (inv X ++ U ++ X)) := up ((wX.inv.app wU).app wX).sh (by omega)
    have := alike_ok w1 t s _ _ h1 h2 wTu (up wSU (by omega)) q2 m hq2 hms
    have hrot : Turn (coreOf (sh (sh (inv X ++ U ++ X))) q2) (coreOf (sh (sh U)) m) := by
      rw [sh_sh] at hq2 ⊢
      rw [sh_sh]
      have e1 : sh (inv X ++ sh U ++ X) = sh (inv X ++ U ++ X) := sh_mid _ _ _
      have := conj_rot (red_sh U) hm X q2 (by rw [e1]; exact hq2)
      rw [e1] at this
      exact this.symm.turn
    rw [decide_eq_true hrot] at this
    exact this
  have HRo : Hid (∀ w1 s, w.grownBy w1 none → Ints w1 s (sh U) → Calls Tryz.prog 14 #[u, v, s] w1 fun e w' => e = .returned (.bool true) ∧ w1.grownBy w' none) := fun w1 s hg hs => rooted_any w1 u v s U V (HU.out w1 hg) (HV.out w1 hg) hs hU hV (by omega) (by omega) (HE.out.kept hg) (HT.out.kept hg)
  have HCl : Hid ((sh (U ++ V ++ X)).length ≤ 100000 ∧ (sh U).length ≤ 600) := ⟨by have := ((wU.app wV).app wX).sh.2; omega, wSU.2⟩
  obtain ⟨ua, uc, rfl, _⟩ := hu.reads
  obtain ⟨va, vc, rfl, _⟩ := hv.reads
  obtain ⟨xa, xc, rfl, _⟩ := hx.reads
  clear hu hv hx hU hV hX ht he wU wV wX wUV wVX wSU wCo wBy hm hml hq hal up
  generalize U.length = n1 at *
  generalize V.length = n2 at *
  generalize X.length = n3 at *
  have hlI : (n1 : Int) + n2 + n3 ≤ 600 := by omega
  clear hl
  generalize sh (U ++ V ++ X) = CC at *
  generalize sh (U ++ V) = AA at *
  generalize sh (V ++ X) = BB at *
  generalize sh (inv X ++ U ++ X) = TT at *
  go_enter Tryz.func3, Tryz.ntmps3
  go_wp2_with fail
  refine HK.mono ?_
  rintro e w0 ⟨rfl, g0⟩
  have G0 : Hid (w.grownBy w0 none) := g0
  clear g0 HK
  go_wp2_with fail
  refine (HC1.out w0 G0.out).mono ?_
  rintro e nw ⟨rfl, hw⟩
  obtain rfl := hw.symm
  clear hw
  go_wp2_with fail
  refine (HC2.out w0 G0.out).mono ?_
  rintro e nw ⟨rfl, hw⟩
  obtain rfl := hw.symm
  clear hw
  go_wp2_with fail
  refine (HC3.out w0 G0.out).mono ?_
  rintro e nw ⟨rfl, hw⟩
  obtain rfl := hw.symm
  clear hw HC1 HC2 HC3
  go_wp2_with fail
  refine (HMa.out w0 G0.out).mono ?_
  rintro e w1 ⟨a, rfl, ha, g1⟩
  have G1 : Hid (w.grownBy w1 none) := grownBy_trans G0.out g1
  have HA1 : Hid (Ints w1 a AA) := ha
  obtain ⟨aa, al', ac, rfl⟩ : ∃ aa al' ac, a = .slice aa al' ac := by
    obtain ⟨aa, ac, e, _⟩ := ha.reads
    exact ⟨aa, _, ac, e⟩
  clear ha g1 HMa
  go_wp2_with fail
  refine (HMb.out w1 G1.out).mono ?_
  rintro e w2 ⟨b, rfl, hb, g2⟩
  have G2 : Hid (w.grownBy w2 none) := grownBy_trans G1.out g2
  have HA2 : Hid (Ints w2 (.slice aa al' ac) AA) := HA1.out.kept g2
  have HB2 : Hid (Ints w2 b BB) := hb
  obtain ⟨ba, bc, rfl, _⟩ := hb.reads
  obtain ⟨bl, hbl⟩ : ∃ bl, BB.length = bl := ⟨_, rfl⟩
  rw [hbl] at HB2 HAlN ⊢
  clear hb g2 HMb HA1 hbl
  go_wp2_with fail
  refine (HMc.out w2 _ G2.out HA2.out).mono ?_
  rintro e w3 ⟨c, rfl, hc, g3⟩
  have G3 : Hid (w.grownBy w3 none) := grownBy_trans G2.out g3
  have HC3 : Hid (Ints w3 c CC) := hc
  have HB3 : Hid (Ints w3 (.slice ba bl bc) BB) := HB2.out.kept g3
  clear hc g3 HMc HA2 HB2
  go_wp2_with fail
  refine (HMd.out w3 _ G3.out HB3.out).mono ?_
  rintro e w4 ⟨d, rfl, hd, g4⟩
  have G4 : Hid (w.grownBy w4 none) := grownBy_trans G3.out g4
  have HC4 : Hid (Ints w4 c CC) := HC3.out.kept g4
  have HD4 : Hid (Ints w4 d CC) := hd
  have HB4 : Hid (Ints w4 (.slice ba bl bc) BB) := HB3.out.kept g4
  clear hd g4 HMd HC3 HB3
  go_wp2_with fail
  refine (HIn.out w4 G4.out).mono ?_
  rintro e w5 ⟨iv, rfl, hiv, g5⟩
  have G45 : Hid (w4.grownBy w5 none) := g5
  have G5 : Hid (w.grownBy w5 none) := grownBy_trans G4.out g5
  have HI5 : Hid (Ints w5 iv (inv U)) := hiv
  obtain ⟨ia, il, ic, rfl⟩ : ∃ ia il ic, iv = .slice ia il ic := by
    obtain ⟨ia, ic, e, _⟩ := hiv.reads
    exact ⟨ia, _, ic, e⟩
  clear hiv g5 HIn
  go_wp2_with fail
  refine (HMn.out w5 _ G5.out HI5.out).mono ?_
  rintro e w6 ⟨nn, rfl, hnn, g6⟩
  have G46 : Hid (w4.grownBy w6 none) := grownBy_trans G45.out g6
  have G6 : Hid (w.grownBy w6 none) := grownBy_trans G5.out g6
  obtain ⟨na, nc, rfl, _⟩ := hnn.reads
  rw [List.length_nil]
  clear hnn g6 HMn HI5
  go_wp2_with fail
  refine (HSh.out w6 G6.out).mono ?_
  rintro e w7 ⟨s, rfl, hs, g7⟩
  have G47 : Hid (w4.grownBy w7 none) := grownBy_trans G46.out g7
  have G7 : Hid (w.grownBy w7 none) := grownBy_trans G6.out g7
  have HS7 : Hid (Ints w7 s (sh U)) := hs
  obtain ⟨sa, sc, rfl, _⟩ := hs.reads
  obtain ⟨sl, hsl⟩ : ∃ sl, (sh U).length = sl := ⟨_, rfl⟩
  rw [hsl] at HS7 HAlN HLens HCl ⊢
  have HSl : Unit → (sh U).length = sl := fun _ => hsl
  have hslI : (sl : Int) ≤ 600 := by have := HCl.out.2; omega
  clear hs g7 HSh hsl
  have HSmA := rSame_any w7 c d CC CC (HC4.out.kept G47.out) (HD4.out.kept G47.out) (by have := HCl.out.1; omega) (by have := HCl.out.1; omega)
  rw [decide_eq_true rfl] at HSmA
  go_wp2_with fail
  refine (num_any _ _).mono ?_
  rintro e nw ⟨rfl, hw⟩
  obtain rfl := hw.symm
  clear hw
  go_wp2_with fail
  refine (num_any _ _).mono ?_
  rintro e nw ⟨rfl, hw⟩
  obtain rfl := hw.symm
  clear hw
  go_wp2_with fail
  refine (num_any _ _).mono ?_
  rintro e nw ⟨rfl, hw⟩
  obtain rfl := hw.symm
  clear hw
  go_wp2_with fail
  refine (num_any _ _).mono ?_
  rintro e nw ⟨rfl, hw⟩
  obtain rfl := hw.symm
  clear hw
  go_wp2_with fail
  refine (num_any _ _).mono ?_
  rintro e nw ⟨rfl, hw⟩
  obtain rfl := hw.symm
  clear hw
  go_wp2_with fail
  refine (num_any _ _).mono ?_
  rintro e nw ⟨rfl, hw⟩
  obtain rfl := hw.symm
  clear hw
  go_wp2_with fail
  refine (num_any _ _).mono ?_
  rintro e nw ⟨rfl, hw⟩
  obtain rfl := hw.symm
  clear hw
  go_wp2_with fail
  refine HSmA.mono ?_
  rintro e w8 ⟨rfl, g8⟩
  have G78 : Hid (w7.grownBy w8 none) := g8
  have G8 : Hid (w.grownBy w8 none) := grownBy_trans G7.out g8
  clear g8 HSmA
  go_wp2_with fail
  refine (HCo.out w8 G8.out).mono ?_
  rintro e w9 ⟨co, by', rfl, hco, hby, g9⟩
  have G79 : Hid (w7.grownBy w9 none) := grownBy_trans G78.out g9
  have G9 : Hid (w.grownBy w9 none) := grownBy_trans G8.out g9
  have HCo9 : Hid (Ints w9 co (coreOf (sh U) m)) := hco
  have HBy9 : Hid (Ints w9 by' (byOf (sh U) m)) := hby
  obtain ⟨ca, cc, rfl, _⟩ := hco.reads
  obtain ⟨da, dc, rfl, _⟩ := hby.reads
  obtain ⟨cl, hcl⟩ : ∃ cl, (coreOf (sh U) m).length = cl := ⟨_, rfl⟩
  obtain ⟨dl, hdl⟩ : ∃ dl, (byOf (sh U) m).length = dl := ⟨_, rfl⟩
  rw [hcl] at HCo9 HLens ⊢
  rw [hdl] at HBy9 HLens ⊢
  have hlens := HLens.out
  have hlensI : (cl : Int) + 2 * dl = sl := by omega
  have hclI : (cl : Int) ≤ 600 := by omega
  have hdlI : (dl : Int) ≤ 600 := by omega
  clear hco hby g9 HCo hcl hdl hlens
  go_wp2_with fail
  refine (HCj.out w9 _ _ HCo9.out HBy9.out).mono ?_
  rintro e w10 ⟨bk, rfl, hbk, g10⟩
  have G710 : Hid (w7.grownBy w10 none) := grownBy_trans G79.out g10
  have G10 : Hid (w.grownBy w10 none) := grownBy_trans G9.out g10
  have HSmB := rSame_any w10 bk _ (sh U) (sh U) hbk (HS7.out.kept G710.out) (by have := HSl (); omega) (by have := HSl (); omega)
  rw [decide_eq_true rfl] at HSmB
  clear hbk g10 HCj
  go_wp2_with fail
  refine (num_any _ _).mono ?_
  rintro e nw ⟨rfl, hw⟩
  obtain rfl := hw.symm
  clear hw
  go_wp2_with fail
  refine (num_any _ _).mono ?_
  rintro e nw ⟨rfl, hw⟩
  obtain rfl := hw.symm
  clear hw
  go_wp2_with fail
  refine HSmB.mono ?_
  rintro e w11 ⟨rfl, g11⟩
  have G711 : Hid (w7.grownBy w11 none) := grownBy_trans G710.out g11
  have G11 : Hid (w.grownBy w11 none) := grownBy_trans G10.out g11
  clear g11 HSmB
  go_wp2_with fail
  refine (HAl.out w11 _ G11.out ((HB4.out.kept G47.out).kept G711.out)).mono ?_
  rintro e w12 ⟨rfl, g12⟩
  have G712 : Hid (w7.grownBy w12 none) := grownBy_trans G711.out g12
  have G12 : Hid (w.grownBy w12 none) := grownBy_trans G11.out g12
  clear g12 HAl
  go_wp2_with fail
  refine (HCj2.out w12 G12.out).mono ?_
  rintro e w13 ⟨tu, rfl, htu, g13⟩
  have G713 : Hid (w7.grownBy w13 none) := grownBy_trans G712.out g13
  have G13 : Hid (w.grownBy w13 none) := grownBy_trans G12.out g13
  have HTu : Hid (Ints w13 tu TT) := htu
  clear htu g13 HCj2
  go_wp2_with fail
  refine (HAg.out w13 _ _ HTu.out (HS7.out.kept G713.out)).mono ?_
  rintro e w14 ⟨rfl, g14⟩
  have G714 : Hid (w7.grownBy w14 none) := grownBy_trans G713.out g14
  have G14 : Hid (w.grownBy w14 none) := grownBy_trans G13.out g14
  clear g14 HAg
  go_wp2_with fail
  refine (num_any _ _).mono ?_
  rintro e nw ⟨rfl, hw⟩
  obtain rfl := hw.symm
  clear hw
  go_wp2_with fail
  refine (num_any _ _).mono ?_
  rintro e nw ⟨rfl, hw⟩
  obtain rfl := hw.symm
  clear hw
  go_wp2_with fail
  refine (num_any _ _).mono ?_
  rintro e nw ⟨rfl, hw⟩
  obtain rfl := hw.symm
  clear hw
  have HRo2 := HRo.out w14 _ G14.out (HS7.out.kept G714.out)
  have hblI : (bl : Int) ≥ 0 := by omega
  cases al with
  | false =>
    go_wp2_with fail
    refine HRo2.mono ?_
    rintro e w15 ⟨rfl, g15⟩
    have G15 : Hid (w.grownBy w15 none) := grownBy_trans G14.out g15
    clear g15
    go_wp2_with fail
    go_ret
    exact ⟨rfl, G15.out⟩
  | true =>
    by_cases hs0 : sl = 0
    · have hb0 : bl = 0 := HAlN.out rfl hs0
      subst hs0 hb0
      go_wp2_with fail
      refine HRo2.mono ?_
      rintro e w15 ⟨rfl, g15⟩
      have G15 : Hid (w.grownBy w15 none) := grownBy_trans G14.out g15
      clear g15
      go_wp2_with fail
      go_ret
      exact ⟨rfl, G15.out⟩
    · have hsb : ((sl : Int) == 0) = false := by simpa using (show (sl : Int) ≠ 0 by omega)
      go_wp2_with fail
      refine HRo2.mono ?_
      rintro e w15 ⟨rfl, g15⟩
      have G15 : Hid (w.grownBy w15 none) := grownBy_trans G14.out g15
      clear g15
      go_wp2_with fail
      go_ret
      exact ⟨rfl, G15.out⟩
theorem wlaws_any (w : World) (u v x : Value) (U V X : List Int) (hu : Ints w u U) (hv : Ints w v V) (hx : Ints w x X) (hl1 : U.length ≤ 1000000000000000) (hl2 : V.length ≤ 1000000000000000) (hl3 : X.length ≤ 1000000000000000) (he : Errs w) (ht : Tab w) :
    Calls Tryz.prog 3 #[u, v, x] w fun e w' => e = .returned (.bool true) ∧ w.grownBy w' none := by
  by_cases h : 600 < U.length + V.length + X.length ∨ chk [U] + chk [V] + chk [X] ≠ 0
  · exact wlaws_none w u v x U V X hu hv hx hl1 hl2 hl3 ht h
  · have b1 := chk_vals U
    have b2 := chk_vals V
    have b3 := chk_vals X
    exact wlaws_good w u v x U V X hu hv hx (by omega) (by omega) (by omega) (by omega) he ht
end Go.Proofs.YthldipnfaiobaabGreatDoor
