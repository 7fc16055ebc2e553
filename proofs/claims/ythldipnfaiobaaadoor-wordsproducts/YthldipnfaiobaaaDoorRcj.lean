/-
  The document's Conj.
-/
import Derived.Test.YthldipnfaiobaaaDoorRmu
import Derived.Test.YthldipnfaiobaaaDoorCnj
namespace Go.Proofs.YthldipnfaiobaaaDoor
open Go.RowKit Go.Lib Go.Sort
set_option linter.unusedVariables false
set_option linter.unusedSimpArgs false
set_option maxHeartbeats 1600000
set_option maxRecDepth 1000000
theorem rAll_two (w : World) (v u : Value) (L B : List Int) (h : Ints w v L) (hu : Ints w u B) (hl : L.length ≤ 1000000000000) (hl2 : B.length ≤ 1000000000000) :
    Calls Tryd.prog 63 #[.slice (some ⟨w.heap.size, 0, none⟩) 2 2] (w.alloc (.cells #[v, u] 22)) fun e w' => e = .returned (.int .i64 (chk [L, B])) ∧ w.grownBy w' none := by
  refine (rAll_any _ _ [L, B] (intsL2 h hu) (by simp) (by intro M hM; simp at hM; rcases hM with rfl | rfl <;> assumption)).mono ?_
  rintro e w' ⟨rfl, rfl⟩
  exact ⟨rfl, grow1 _ _⟩
theorem rJoined_three (w : World) (x v u : Value) (A L B : List Int) (hx : Ints w x A) (hv : Ints w v L) (hu : Ints w u B) (hl : (A ++ L ++ B).length ≤ 1000000000) :
    Calls Tryd.prog 59 #[.slice (some ⟨w.heap.size, 0, none⟩) 3 3] (w.alloc (.cells #[x, v, u] 22)) fun e w' => ∃ v', e = .returned v' ∧ Own w' w.heap.size v' (A ++ L ++ B) ∧ w.grownBy w' none := by
  have ef : [A, L, B].flatten = A ++ L ++ B := by simp
  refine (rJoined_any _ _ [A, L, B] (intsL3 hx hv hu) (by simp) (by rw [ef]; exact hl)).mono ?_
  rintro e w' ⟨v', rfl, hO, hG⟩
  rw [ef] at hO
  exact ⟨v', rfl, hO.mono (grow1 w _).size, grownBy_trans (grow1 _ _) hG⟩
theorem rConj_any (w : World) (v u : Value) (L B : List Int) (h : Ints w v L) (hu : Ints w u B) (hl : L.length ≤ 1000000000000) (hl2 : B.length ≤ 1000000000000) :
    Calls Tryd.prog 33 #[v, u] w fun e w' => Told1 w e w' (cjE L B) (cjL L B) := by
  have HC := rAll_two w v u L B h hu hl hl2
  have HI : Hid (∀ w1, w.grownBy w1 none → Ints w1 v L ∧ Ints w1 u B) := fun w1 hg => ⟨h.kept hg, hu.kept hg⟩
  have HOk : Hid (chk [L, B] = 0 → (L.any noL = false ∧ L.length ≤ 4096) ∧ (B.any noL = false ∧ B.length ≤ 4096)) := fun h0 => ⟨chk_ok h0 L (by simp), chk_ok h0 B (by simp)⟩
  obtain ⟨ab, c, rfl, _⟩ := h.reads
  obtain ⟨ub, uc, rfl, _⟩ := hu.reads
  clear h hu hl hl2
  obtain ⟨n, hn⟩ : ∃ n, L.length = n := ⟨_, rfl⟩
  obtain ⟨k, hk⟩ : ∃ k, B.length = k := ⟨_, rfl⟩
  rw [hn, hk] at HC HI ⊢
  clear hn hk
  obtain ⟨r, hr⟩ : ∃ r, chk [L, B] = r := ⟨_, rfl⟩
  have HE : Hid (chk [L, B] = r) := hr
  rw [hr] at HC HOk
  clear hr
  by_cases h0 : r = 0
  · subst h0
    have HO2 : Hid ((L.any noL = false ∧ L.length ≤ 4096) ∧ (B.any noL = false ∧ B.length ≤ 4096)) := HOk.out rfl
    clear HOk
    obtain ⟨M, hM⟩ : ∃ M, inv B ++ L ++ B = M := ⟨_, rfl⟩
    have HMl : Hid (M.length ≤ 1000000 ∧ M.any noL = false) := by
      have hi : (inv B).length = B.length := by rw [← inv_eq]; simp
      have h1 := HO2.out.1.2
      have h2 := HO2.out.2.2
      rw [← hM]
      refine ⟨by rw [List.length_append, List.length_append, hi]; omega, ?_⟩
      rw [List.any_append, List.any_append, inv_any HO2.out.2.1, HO2.out.1.1, HO2.out.2.1]
      rfl
    have HME : Hid (inv B ++ L ++ B = M) := hM
    clear hM
    go_enter Tryd.func33, Tryd.ntmps33
    go_wp2_with fail
    refine HC.mono ?_
    rintro e w1 ⟨rfl, hg1⟩
    have HG1 : Hid (w.grownBy w1 none) := hg1
    clear hg1 HC
    go_wp2_with fail
    refine (rInverse_any w1 _ B (HI.out w1 HG1.out).2 (by have := HO2.out.2.2; omega) HO2.out.2.1).mono ?_
    rintro e w2 ⟨v2, rfl, hO2, hg2⟩
    have HG2 : Hid (w.grownBy w2 none) := grownBy_trans HG1.out hg2
    have HJ0 := rJoined_three w2 v2 (.slice ab n c) (.slice ub k uc) (inv B) L B hO2.ints (HI.out w2 HG2.out).1 (HI.out w2 HG2.out).2 (by rw [HME.out]; have := HMl.out.1; omega)
    rw [HME.out] at HJ0
    have HJ : Hid (Calls Tryd.prog 59 #[.slice (some ⟨w2.heap.size, 0, none⟩) 3 3] (w2.alloc (.cells #[v2, .slice ab n c, .slice ub k uc] 22)) fun e w' => ∃ v', e = .returned v' ∧ Own w' w2.heap.size v' M ∧ w2.grownBy w' none) := HJ0
    obtain ⟨xb, xc, rfl⟩ := hO2.form
    clear hO2 hg2 HJ0
    obtain ⟨xk, hxk⟩ : ∃ xk, (inv B).length = xk := ⟨_, rfl⟩
    rw [hxk] at HJ ⊢
    clear hxk
    go_wp2_with fail
    refine HJ.out.mono ?_
    rintro e w3 ⟨v3, rfl, hO3, hG3⟩
    have HG3 : Hid (w.grownBy w3 none) := grownBy_trans HG2.out hG3
    have HS : Hid (Calls Tryd.prog 22 #[v3] w3 fun e w' => ∃ v', e = .returned v' ∧ Own w' w3.heap.size v' (sh M) ∧ w3.grownBy w' none) := rShort_any w3 v3 _ hO3.ints HMl.out.1 HMl.out.2
    obtain ⟨vb, vc, rfl⟩ := hO3.form
    clear hO3 hG3 HJ
    obtain ⟨k3, hk3⟩ : ∃ k3, M.length = k3 := ⟨_, rfl⟩
    rw [hk3] at HS ⊢
    have HK3 : Unit → M.length = k3 := fun _ => hk3
    clear hk3
    go_wp2_with fail
    refine HS.out.mono ?_
    rintro e w4 ⟨v4, rfl, hO4, hG4⟩
    have HG4 : Hid (w.grownBy w4 none) := grownBy_trans HG3.out hG4
    have HEn : Hid (Calls Tryd.prog 64 #[v4] w4 fun e w' => ∃ v', e = .returned (.tuple #[v', .int .i64 (tldE (sh M))]) ∧ Fr w4 w.heap.size v' (tldL (sh M)) ∧ w' = w4) := rEnded_any w4 w.heap.size v4 _ (hO4.fr.mono HG3.out.size) (by have h1 := sh_len M; have h2 := HMl.out.1; omega)
    obtain ⟨yb, yc, rfl⟩ := hO4.form
    clear hO4 hG4 HS
    obtain ⟨k4, hk4⟩ : ∃ k4, (sh M).length = k4 := ⟨_, rfl⟩
    rw [hk4] at HEn ⊢
    clear hk4
    go_wp2_with fail
    refine HEn.out.mono ?_
    rintro e w5 ⟨v5, rfl, hF5, hw5⟩
    obtain rfl := hw5.symm
    have HF : Hid (Told1 w (.returned (.tuple #[v5, .int .i64 (tldE (sh M))])) w4 (cjE L B) (cjL L B)) := by
      refine ⟨HG4.out, v5, ?_, ?_⟩
      · unfold cjE
        rw [if_pos HE.out, HME.out]
      · unfold cjL
        rw [if_pos HE.out, HME.out]
        exact hF5
    clear hF5 HEn
    generalize tldE (sh M) = y at *
    go_wp2_with fail
    go_ret2
    exact HF.out
  · have hb : (r != 0) = true := by simpa using h0
    have HR : Hid (r ≠ 0) := h0
    clear h0
    go_enter Tryd.func33, Tryd.ntmps33
    go_wp2_with fail
    refine HC.mono ?_
    rintro e w1 ⟨rfl, hg1⟩
    have HG1 : Hid (w.grownBy w1 none) := hg1
    clear hg1
    go_wp2_with fail
    go_ret2
    unfold cjE cjL
    rw [HE.out, if_neg HR.out, if_neg HR.out]
    exact ⟨HG1.out, _, rfl, Fr.nil _ _⟩
end Go.Proofs.YthldipnfaiobaaaDoor
