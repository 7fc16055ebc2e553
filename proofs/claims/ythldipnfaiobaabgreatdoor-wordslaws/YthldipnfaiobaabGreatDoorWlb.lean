/-
  The law WordsLaws: the walk of rooted.
-/
import Derived.Test.YthldipnfaiobaabGreatDoorWla
namespace Go.Proofs.YthldipnfaiobaabGreatDoor
open Go.RowKit Go.Lib Go.Sort
set_option linter.unusedVariables false
set_option linter.unusedSimpArgs false
set_option maxHeartbeats 6400000
set_option maxRecDepth 1000000
theorem rooted_any (w : World) (u v s : Value) (U V : List Int) (hu : Ints w u U) (hv : Ints w v V) (hs : Ints w s (sh U)) (hU : chk [U] = 0) (hV : chk [V] = 0) (hUl : U.length ≤ 600) (hVl : V.length ≤ 600) (he : Errs w) (ht : Tab w) :
    Calls Tryz.prog 14 #[u, v, s] w fun e w' => e = .returned (.bool true) ∧ w.grownBy w' none := by
  have hUo := word_ok hU
  have hVo := word_ok hV
  have hUn : ∀ x ∈ U, noL x = false := fun x hx => by simpa using List.any_eq_false.1 hUo.1 x hx
  have hUV : chk [U, V] = 0 := chk_which2 U V hU hV
  have HE : Hid (Errs w) := he
  have HT : Hid (Tab w) := ht
  have HU : Hid (∀ w1, w.grownBy w1 none → Ints w1 u U) := fun w1 hg => hu.kept hg
  have HV : Hid (∀ w1, w.grownBy w1 none → Ints w1 v V) := fun w1 hg => hv.kept hg
  have HS : Hid (∀ w1, w.grownBy w1 none → Ints w1 s (sh U)) := fun w1 hg => hs.kept hg
  have HTx := text_top w u U hu (by omega) ht
  rw [hU, if_pos rfl] at HTx
  have HRd : Hid (∀ w1, w.grownBy w1 none → Calls Tryz.prog 28 #[.string (txB U)] w1 fun e w' => ∃ r, e = .returned (.tuple #[r, .int .i64 0]) ∧ Ints w' r U ∧ w1.grownBy w' none) := by
    intro w1 hg
    obtain ⟨h1, h2⟩ := text_back U hU
    refine (read_top (txB U) (txB_size U hUn hUl) w1 (HE.out.kept hg) (HT.out.kept hg)).mono ?_
    rintro e w' ⟨g, r, rfl, hF⟩
    rw [h1]
    rw [h2] at hF
    exact ⟨r, rfl, hF.ints, g⟩
  obtain ⟨cm, hcm⟩ : ∃ cm, decide (sh (U ++ V) = sh (V ++ U)) = cm := ⟨_, rfl⟩
  have HCm : Hid (∀ w1, w.grownBy w1 none → Calls Tryz.prog 29 #[u, v] w1 fun e w' => e = .returned (.tuple #[.bool cm, .int .i64 0]) ∧ w1.grownBy w' none) := by
    intro w1 hg
    have := commute_top w1 u v U V (HU.out w1 hg) (HV.out w1 hg) (by omega) (by omega)
    rw [hUV, show cmB U V = cm by unfold cmB; rw [hUV, hcm]; rfl] at this
    exact this
  have HCE : Hid (decide (sh (sh U ++ sh V) = sh (sh V ++ sh U)) = cm) := by
    show _ = _
    rw [sh_left, sh_right, sh_left, sh_right]
    exact hcm
  have HRu : Hid (∀ w1, w.grownBy w1 none → Calls Tryz.prog 16 #[u] w1 fun e w' => w1.grownBy w' none ∧ ((sh U = [] ∧ e = .returned (.tuple #[.slice none 0 0, .int .i64 0, .int .i64 7])) ∨ ∃ u B P n, e = .returned (.tuple #[u, .int .i64 ((n : Nat) : Int), .int .i64 0]) ∧ RD (sh U) B P n ∧ Ints w' u (inv B ++ P ++ B))) := fun w1 hg => root_ok w1 u U (HU.out w1 hg) hU
  have HRv : Hid (∀ w1, w.grownBy w1 none → Calls Tryz.prog 16 #[v] w1 fun e w' => w1.grownBy w' none ∧ ((sh V = [] ∧ e = .returned (.tuple #[.slice none 0 0, .int .i64 0, .int .i64 7])) ∨ ∃ u B P n, e = .returned (.tuple #[u, .int .i64 ((n : Nat) : Int), .int .i64 0]) ∧ RD (sh V) B P n ∧ Ints w' u (inv B ++ P ++ B))) := fun w1 hg => root_ok w1 v V (HV.out w1 hg) hV
  have HLU : Hid ((∀ x ∈ sh U, noL x = false) ∧ (sh U).length ≤ 600) := ⟨sh_letters hUo.1, Nat.le_trans (sh_len U) hUl⟩
  have HLV : Hid ((∀ x ∈ sh V, noL x = false) ∧ (sh V).length ≤ 600) := ⟨sh_letters hVo.1, Nat.le_trans (sh_len V) hVl⟩
  have HUl : Hid (∀ M, M = U → M.length ≤ 600) := fun M e => by rw [e]; exact hUl
  obtain ⟨ua, uc, rfl, _⟩ := hu.reads
  obtain ⟨va, vc, rfl, _⟩ := hv.reads
  obtain ⟨sa, sc, rfl, _⟩ := hs.reads
  clear hu hv hs hU hV hUV hcm ht he hUo hVo hUn
  obtain ⟨sl, hsl⟩ : ∃ sl, (sh U).length = sl := ⟨_, rfl⟩
  have HSl : Unit → (sh U).length = sl := fun _ => hsl
  rw [hsl] at HS ⊢
  have hslI : (sl : Int) ≤ 600 := by have := HLU.out.2; omega
  clear hsl
  generalize U.length = un at *
  generalize V.length = vn at *
  go_enter Tryz.func14, Tryz.ntmps14
  go_wp2_with fail
  refine HTx.mono ?_
  rintro e w1 ⟨g1, rfl⟩
  have G1 : Hid (w.grownBy w1 none) := g1
  clear g1 HTx
  go_wp2_with fail
  refine (HRd.out w1 G1.out).mono ?_
  rintro e w2 ⟨r, rfl, hr, g2⟩
  have G2 : Hid (w.grownBy w2 none) := grownBy_trans G1.out g2
  have HSm := rSame_any w2 r _ U U hr (HU.out w2 G2.out) (by have := HUl.out U rfl; omega) (by have := HUl.out U rfl; omega)
  rw [decide_eq_true rfl] at HSm
  clear hr g2 HRd
  go_wp2_with fail
  refine (num_any _ _).mono ?_
  rintro e nw ⟨rfl, hw⟩
  obtain rfl := hw.symm
  clear hw
  go_wp2_with fail
  refine (num_any _ _).mono ?_
  rintro e nw ⟨rfl, hw⟩
  obtain rfl := hw.symm
  clear hw
  go_wp2_with fail
  refine HSm.mono ?_
  rintro e w3 ⟨rfl, g3⟩
  have G3 : Hid (w.grownBy w3 none) := grownBy_trans G2.out g3
  clear g3 HSm
  go_wp2_with fail
  refine (HCm.out w3 G3.out).mono ?_
  rintro e w4 ⟨rfl, g4⟩
  have G4 : Hid (w.grownBy w4 none) := grownBy_trans G3.out g4
  clear g4 HCm
  go_wp2_with fail
  refine (HRu.out w4 G4.out).mono ?_
  rintro e w5 ⟨g5, hx⟩
  have G5 : Hid (w.grownBy w5 none) := grownBy_trans G4.out g5
  clear g5 HRu
  rcases hx with ⟨hU0, rfl⟩ | ⟨x, B, P, n, rfl, hRD, hxI⟩
  · have hcmT : cm = true := by
      rw [← HCE.out, hU0]
      simp
    subst hcmT
    have hsl0 : sl = 0 := by rw [← HSl (), hU0]; rfl
    subst hsl0
    clear hU0
    go_wp2_with fail
    refine (HRv.out w5 G5.out).mono ?_
    rintro e w6 ⟨g6, hy⟩
    have G6 : Hid (w.grownBy w6 none) := grownBy_trans G5.out g6
    clear g6 HRv
    rcases hy with ⟨hV0, rfl⟩ | ⟨y, D, Q, k, rfl, hRDv, hyI⟩
    all_goals (
      go_wp2_with fail
      refine (num_any _ _).mono ?_
      rintro e nw ⟨rfl, hw⟩
      obtain rfl := hw.symm
      clear hw
      go_wp2_with fail
      refine (num_any _ _).mono ?_
      rintro e nw ⟨rfl, hw⟩
      obtain rfl := hw.symm
      clear hw
      go_wp2_with fail
      refine (num_any _ _).mono ?_
      rintro e nw ⟨rfl, hw⟩
      obtain rfl := hw.symm
      clear hw
      go_wp2_with fail
      go_ret
      exact ⟨rfl, G6.out⟩)
  · have HRD : Hid (RD (sh U) B P n) := hRD
    have HX : Hid (Ints w5 x (inv B ++ P ++ B)) := hxI
    have hs0 : sl ≠ 0 := by
      rw [← HSl ()]
      have := congrArg List.length hRD.eq
      have h1 : 0 < (rp P n).length := by rw [rp_len]; exact Nat.mul_pos hRD.prim.1 hRD.pos
      simp at this
      omega
    have hslb : ((sl : Int) == 0) = false := by simpa using (show (sl : Int) ≠ 0 by omega)
    obtain ⟨_, _, hxl, hxn⟩ := hRD.root HLU.out.1 (by have := HLU.out.2; omega)
    have hn1 : 1 ≤ n := hRD.pos
    have hnP : n ≤ n * P.length := Nat.le_mul_of_pos_right _ hRD.prim.1
    have hnI : (n : Int) ≤ 600 := by have := HLU.out.2; omega
    have hn1I : (1 : Int) ≤ n := by omega
    have HXl : Hid ((inv B ++ P ++ B).length ≤ 600) := by have := HLU.out.2; show _ ≤ _; omega
    clear hRD hxI hs0 hxl hxn hn1 hnP
    go_wp2_with fail
    refine (HRv.out w5 G5.out).mono ?_
    rintro e w6 ⟨g6, hy⟩
    have G56 : Hid (w5.grownBy w6 none) := g6
    have G6 : Hid (w.grownBy w6 none) := grownBy_trans G5.out g6
    clear g6 HRv
    rcases hy with ⟨hV0, rfl⟩ | ⟨y, D, Q, k, rfl, hRDv, hyI⟩
    · have hcmT : cm = true := by
        rw [← HCE.out, hV0]
        simp
      subst hcmT
      clear hV0
      go_wp2_with fail
      refine (num_any _ _).mono ?_
      rintro e nw ⟨rfl, hw⟩
      obtain rfl := hw.symm
      clear hw
      go_wp2_with fail
      refine (num_any _ _).mono ?_
      rintro e nw ⟨rfl, hw⟩
      obtain rfl := hw.symm
      clear hw
      go_wp2_with fail
      refine (num_any _ _).mono ?_
      rintro e nw ⟨rfl, hw⟩
      obtain rfl := hw.symm
      clear hw
      go_wp2_with fail
      refine (num_any _ _).mono ?_
      rintro e nw ⟨rfl, hw⟩
      obtain rfl := hw.symm
      clear hw
      go_wp2_with fail
      go_ret
      exact ⟨rfl, G6.out⟩
    · have HRV : Hid (RD (sh V) D Q k) := hRDv
      have HY : Hid (Ints w6 y (inv D ++ Q ++ D)) := hyI
      have HYr := hRDv.root HLV.out.1 (by have := HLV.out.2; omega)
      have HYc : Hid (chk [inv D ++ Q ++ D] = 0 ∧ (inv D ++ Q ++ D).length ≤ 600) := ⟨HYr.1, by have := HYr.2.2.1; have := HLV.out.2; omega⟩
      have HCR : Hid (cm = (decide (inv B ++ P ++ B = inv D ++ Q ++ D) || decide (inv B ++ P ++ B = inv (inv D ++ Q ++ D)))) := by
        show _ = _
        rw [← HCE.out, ← Bool.decide_or, decide_eq_decide]
        exact comm_root HRD.out hRDv
      clear hRDv hyI HYr HCE
      have HPw : Hid (∀ w1, w5.grownBy w1 none → Calls Tryz.prog 15 #[x, .int .i64 (n : Int)] w1 fun e w' => w1.grownBy w' none ∧ ∃ u, e = .returned (.tuple #[u, .int .i64 0]) ∧ Ints w' u (sh U)) := fun w1 hg => pow_ok w1 x HRD.out HLU.out.1 (by have := HLU.out.2; omega) (HX.out.kept hg)
      have HRx : Hid (∀ w1, w5.grownBy w1 none → Calls Tryz.prog 16 #[x] w1 fun e w' => w1.grownBy w' none ∧ ∃ u, e = .returned (.tuple #[u, .int .i64 1, .int .i64 0]) ∧ Ints w' u (inv B ++ P ++ B)) := fun w1 hg => root_again w1 x HRD.out HLU.out.1 (by have := HLU.out.2; omega) (HX.out.kept hg)
      have HIy : Hid (∀ w1, w6.grownBy w1 none → Calls Tryz.prog 7 #[y] w1 fun e w' => ∃ u, e = .returned (.tuple #[u, .int .i64 0]) ∧ Ints w' u (inv (inv D ++ Q ++ D)) ∧ w1.grownBy w' none) := by
        intro w1 hg
        refine (inverse_top w1 y _ (HY.out.kept hg) (by have := HYc.out.2; omega)).mono ?_
        rintro e w' ⟨g, u, rfl, hF⟩
        rw [HYc.out.1, if_pos rfl] at hF
        rw [HYc.out.1]
        exact ⟨u, rfl, hF.ints, g⟩
      generalize inv B ++ P ++ B = X at *
      generalize inv D ++ Q ++ D = Y at *
      clear HRD HRV
      go_wp2_with fail
      refine (num_any _ _).mono ?_
      rintro e nw ⟨rfl, hw⟩
      obtain rfl := hw.symm
      clear hw
      go_wp2_with fail
      refine (num_any _ _).mono ?_
      rintro e nw ⟨rfl, hw⟩
      obtain rfl := hw.symm
      clear hw
      go_wp2_with fail
      refine (num_any _ _).mono ?_
      rintro e nw ⟨rfl, hw⟩
      obtain rfl := hw.symm
      clear hw
      go_wp2_with fail
      refine (num_any _ _).mono ?_
      rintro e nw ⟨rfl, hw⟩
      obtain rfl := hw.symm
      clear hw
      go_wp2_with fail
      refine (HPw.out w6 G56.out).mono ?_
      rintro e w7 ⟨g7, p, rfl, hp⟩
      have G67 : Hid (w6.grownBy w7 none) := g7
      have HP7 : Hid (Ints w7 p (sh U)) := hp
      clear g7 hp
      go_wp2_with fail
      refine (HRx.out w7 (grownBy_trans G56.out G67.out)).mono ?_
      rintro e w8 ⟨g8, z, rfl, hz⟩
      have G78 : Hid (w7.grownBy w8 none) := g8
      have HZ8 : Hid (Ints w8 z X) := hz
      clear g8 hz
      go_wp2_with fail
      refine (HIy.out w8 (grownBy_trans G67.out G78.out)).mono ?_
      rintro e w9 ⟨bk, rfl, hbk, g9⟩
      have G89 : Hid (w8.grownBy w9 none) := g9
      have HBk : Hid (Ints w9 bk (inv Y)) := hbk
      clear g9 hbk
      have G69 : Hid (w6.grownBy w9 none) := grownBy_trans G67.out (grownBy_trans G78.out G89.out)
      have GW9 : Hid (w.grownBy w9 none) := grownBy_trans G6.out G69.out
      have HSmA := rSame_any w9 p _ (sh U) (sh U) (HP7.out.kept (grownBy_trans G78.out G89.out)) (HS.out w9 GW9.out) (by have := HLU.out.2; omega) (by have := HLU.out.2; omega)
      rw [decide_eq_true rfl] at HSmA
      have HSmB : Hid (∀ w1, w9.grownBy w1 none → Calls Tryz.prog 10 #[z, x] w1 fun e w' => e = .returned (.bool true) ∧ w1.grownBy w' none) := fun w1 hg => by
        have := rSame_any w1 z x X X ((HZ8.out.kept G89.out).kept hg) (HX.out.kept (grownBy_trans G56.out (grownBy_trans G69.out hg))) (by have := HXl.out; omega) (by have := HXl.out; omega)
        rw [decide_eq_true rfl] at this
        exact this
      obtain ⟨b1, hb1⟩ : ∃ b1, decide (X = Y) = b1 := ⟨_, rfl⟩
      obtain ⟨b2, hb2⟩ : ∃ b2, decide (X = inv Y) = b2 := ⟨_, rfl⟩
      have HSmC : Hid (∀ w1, w9.grownBy w1 none → Calls Tryz.prog 10 #[x, y] w1 fun e w' => e = .returned (.bool b1) ∧ w1.grownBy w' none) := fun w1 hg => by
        have := rSame_any w1 x y X Y (HX.out.kept (grownBy_trans G56.out (grownBy_trans G69.out hg))) (HY.out.kept (grownBy_trans G69.out hg)) (by have := HXl.out; omega) (by have := HYc.out.2; omega)
        rw [hb1] at this
        exact this
      have HSmD : Hid (∀ w1, w9.grownBy w1 none → Calls Tryz.prog 10 #[x, bk] w1 fun e w' => e = .returned (.bool b2) ∧ w1.grownBy w' none) := fun w1 hg => by
        have := rSame_any w1 x bk X (inv Y) (HX.out.kept (grownBy_trans G56.out (grownBy_trans G69.out hg))) (HBk.out.kept hg) (by have := HXl.out; omega) (by rw [inv_len]; have := HYc.out.2; omega)
        rw [hb2] at this
        exact this
      have hcme : cm = (b1 || b2) := by rw [HCR.out, hb1, hb2]
      clear hb1 hb2 HCR
      go_wp2_with fail
      refine (num_any _ _).mono ?_
      rintro e nw ⟨rfl, hw⟩
      obtain rfl := hw.symm
      clear hw
      go_wp2_with fail
      refine (num_any _ _).mono ?_
      rintro e nw ⟨rfl, hw⟩
      obtain rfl := hw.symm
      clear hw
      go_wp2_with fail
      refine (num_any _ _).mono ?_
      rintro e nw ⟨rfl, hw⟩
      obtain rfl := hw.symm
      clear hw
      go_wp2_with fail
      refine HSmA.mono ?_
      rintro e w10 ⟨rfl, g10⟩
      have G10 : Hid (w9.grownBy w10 none) := g10
      clear g10 HSmA
      go_wp2_with fail
      refine (HSmB.out w10 G10.out).mono ?_
      rintro e w11 ⟨rfl, g11⟩
      have G11 : Hid (w9.grownBy w11 none) := grownBy_trans G10.out g11
      clear g11 HSmB
      go_wp2_with fail
      refine (HSmC.out w11 G11.out).mono ?_
      rintro e w12 ⟨rfl, g12⟩
      have G12 : Hid (w9.grownBy w12 none) := grownBy_trans G11.out g12
      clear g12 HSmC
      cases b1 with
      | true =>
        have hc2 : cm = true := by rw [hcme]; rfl
        clear hcme
        subst hc2
        go_wp2_with fail
        go_ret
        exact ⟨rfl, grownBy_trans GW9.out G12.out⟩
      | false =>
        have hc2 : cm = b2 := by rw [hcme]; rfl
        subst hc2
        have hbb : (cm == cm) = true := by simp
        clear hcme
        go_wp2_with fail
        refine (HSmD.out w12 G12.out).mono ?_
        rintro e w13 ⟨rfl, g13⟩
        have G13 : Hid (w9.grownBy w13 none) := grownBy_trans G12.out g13
        clear g13
        go_wp2_with fail
        go_ret
        exact ⟨rfl, grownBy_trans GW9.out G13.out⟩
end Go.Proofs.YthldipnfaiobaabGreatDoor
