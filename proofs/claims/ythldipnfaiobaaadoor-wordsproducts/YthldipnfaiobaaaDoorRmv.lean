/-
  The document's Mul.
-/
import Derived.Test.YthldipnfaiobaaaDoorRmu
namespace Go.Proofs.YthldipnfaiobaaaDoor
open Go.RowKit Go.Lib Go.Sort
set_option linter.unusedVariables false
set_option linter.unusedSimpArgs false
set_option maxHeartbeats 1600000
set_option maxRecDepth 1000000
theorem rMul_any (w : World) (v : Value) (Ls : List (List Int)) (h : IntsL w v Ls) (hl : Ls.length ≤ 200) (hl2 : ∀ L ∈ Ls, L.length ≤ 1000000000000) :
    Calls Tryd.prog 29 #[v] w fun e w' => Told1 w e w' (mulE Ls) (mulL Ls) := by
  have HC := rAll_any w v Ls h (by omega) hl2
  have HI : Hid (IntsL w v Ls) := h
  have HOk : Hid (chk Ls = 0 → ∀ L ∈ Ls, L.any noL = false ∧ L.length ≤ 4096) := fun h0 => chk_ok h0
  have HLn : Hid (Ls.length ≤ 200) := hl
  obtain ⟨ab, c, rfl, _⟩ := h.reads
  clear h hl hl2
  obtain ⟨n, hn⟩ : ∃ n, Ls.length = n := ⟨_, rfl⟩
  have HN : Unit → Ls.length = n := fun _ => hn
  rw [hn] at HC HI ⊢
  clear hn
  obtain ⟨r, hr⟩ : ∃ r, chk Ls = r := ⟨_, rfl⟩
  have HE : Hid (chk Ls = r) := hr
  rw [hr] at HC HOk
  clear hr
  by_cases h0 : r = 0
  · subst h0
    have HO2 : Hid (∀ L ∈ Ls, L.any noL = false ∧ L.length ≤ 4096) := HOk.out rfl
    clear HOk
    have HFl : Hid (Ls.flatten.length ≤ 1000000) := by
      have h2 := flat_len fun L hL => (HO2.out L hL).2
      have := HLn.out
      show _ ≤ _
      omega
    have HAn : Hid (Ls.flatten.any noL = false) := by
      show _ = _
      rw [List.any_eq_false]
      intro x hx
      obtain ⟨l, hl, hxl⟩ := List.mem_flatten.1 hx
      exact List.any_eq_false.1 (HO2.out l hl).1 x hxl
    have HJ := rJoined_any w _ Ls HI.out (by have := HLn.out; omega) (by have := HFl.out; omega)
    have HJ1 : Hid (Calls Tryd.prog 59 #[.slice ab n c] w fun e w' => ∃ v', e = .returned v' ∧ Own w' w.heap.size v' Ls.flatten ∧ w.grownBy w' none) := HJ
    clear HJ
    go_enter Tryd.func29, Tryd.ntmps29
    go_wp2_with fail
    refine HC.mono ?_
    rintro e w1 ⟨rfl, hw⟩
    obtain rfl := hw.symm
    go_wp2_with fail
    refine HJ1.out.mono ?_
    rintro e w2 ⟨v2, rfl, hO2, hG2⟩
    have HG2 : Hid (w.grownBy w2 none) := hG2
    have HS : Hid (Calls Tryd.prog 22 #[v2] w2 fun e w' => ∃ v', e = .returned v' ∧ Own w' w2.heap.size v' (sh Ls.flatten) ∧ w2.grownBy w' none) := rShort_any w2 v2 _ hO2.ints HFl.out HAn.out
    obtain ⟨vb, vc, rfl⟩ := hO2.form
    clear hO2 hG2 HJ1 HC
    obtain ⟨k, hk⟩ : ∃ k, Ls.flatten.length = k := ⟨_, rfl⟩
    rw [hk] at HS ⊢
    clear hk
    go_wp2_with fail
    refine HS.out.mono ?_
    rintro e w3 ⟨v3, rfl, hO3, hG3⟩
    have HG3 : Hid (w.grownBy w3 none) := grownBy_trans HG2.out hG3
    have HEn : Hid (Calls Tryd.prog 64 #[v3] w3 fun e w' => ∃ v', e = .returned (.tuple #[v', .int .i64 (tldE (sh Ls.flatten))]) ∧ Fr w3 w.heap.size v' (tldL (sh Ls.flatten)) ∧ w' = w3) := rEnded_any w3 w.heap.size v3 _ (hO3.fr.mono HG2.out.size) (by have h1 := sh_len Ls.flatten; have h2 := HFl.out; omega)
    obtain ⟨xb, xc, rfl⟩ := hO3.form
    clear hO3 hG3 HS
    obtain ⟨k3, hk3⟩ : ∃ k3, (sh Ls.flatten).length = k3 := ⟨_, rfl⟩
    rw [hk3] at HEn ⊢
    clear hk3
    go_wp2_with fail
    refine HEn.out.mono ?_
    rintro e w4 ⟨v4, rfl, hF4, hw4⟩
    obtain rfl := hw4.symm
    have HF : Hid (Told1 w (.returned (.tuple #[v4, .int .i64 (tldE (sh Ls.flatten))])) w3 (mulE Ls) (mulL Ls)) := by
      refine ⟨HG3.out, v4, ?_, ?_⟩
      · unfold mulE
        rw [if_pos HE.out]
      · unfold mulL
        rw [if_pos HE.out]
        exact hF4
    clear hF4 HEn
    generalize tldE (sh Ls.flatten) = y at *
    go_wp2_with fail
    go_ret2
    exact HF.out
  · have hb : (r != 0) = true := by simpa using h0
    have HR : Hid (r ≠ 0) := h0
    clear h0
    go_enter Tryd.func29, Tryd.ntmps29
    go_wp2_with fail
    refine HC.mono ?_
    rintro e w1 ⟨rfl, hw⟩
    obtain rfl := hw.symm
    go_wp2_with fail
    go_ret2
    unfold mulE mulL
    rw [HE.out, if_neg HR.out, if_neg HR.out]
    exact ⟨grow0 _, _, rfl, Fr.nil _ _⟩
end Go.Proofs.YthldipnfaiobaaaDoor
