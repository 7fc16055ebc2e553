/-
  The law WordsPairs: its walk.
-/
import Derived.Test.YthldipnfaiobaaaDoorRal
import Derived.Test.YthldipnfaiobaaaDoorRcm
import Derived.Test.YthldipnfaiobaaaDoorCom
import Derived.Test.YthldipnfaiobaaaDoorLwc
import Derived.Test.YthldipnfaiobaaaDoorLwd
import Derived.Test.YthldipnfaiobaaaDoorKno
import Derived.Test.YthldipnfaiobaaaDoorTxt
import Derived.Laws.IdiomStrings
import Derived.Test.YthldipnfaiobaaaDoorRma
namespace Go.Proofs.YthldipnfaiobaaaDoor
open Go.RowKit Go.Lib Go.Sort
set_option linter.unusedVariables false
set_option linter.unusedSimpArgs false
set_option maxHeartbeats 6400000
set_option maxRecDepth 1000000
theorem wpairs_much (w : World) (v u : Value) (L B : List Int) (h : Ints w v L) (hu : Ints w u B) (hl : L.length ≤ 1000000000000000) (hl2 : B.length ≤ 1000000000000000) (ht : Tab w) (hm : 9000 < min L.length 10000 + min B.length 10000) :
    Calls Tryd.prog 5 #[v, u] w fun e w' => e = .returned (.bool true) ∧ w.grownBy w' none := by
  have HMu := much_any _ _ [L, B] (intsL2 h hu) (by simp) (by simpa using ⟨hl, hl2⟩)
  rw [show muchN [L, B] = min L.length 10000 + min B.length 10000 by simp [muchN], decide_eq_true hm] at HMu
  have HK := fun w' (hg : w.grownBy w' none) => known_any w' (ht.kept hg)
  obtain ⟨va, vc, rfl, _⟩ := h.reads
  obtain ⟨ua, uc, rfl, _⟩ := hu.reads
  clear h hl hm hu hl2
  generalize L.length = n at *
  generalize B.length = k at *
  go_enter Tryd.func5, Tryd.ntmps5
  go_wp2_with fail
  refine HMu.mono ?_
  rintro e w1 ⟨rfl, rfl⟩
  go_wp2_with fail
  refine (HK _ (grow1 _ _)).mono ?_
  rintro e w2 ⟨rfl, g2⟩
  have G2 : Hid (w.grownBy w2 none) := grownBy_trans (grow1 _ _) g2
  clear g2
  go_wp2_with fail
  go_ret
  exact ⟨rfl, G2.out⟩
theorem chk_which (L B : List Int) : (L.any noL = true ∧ chk [L, B] = 2) ∨ (L.any noL = false ∧ B.any noL = true ∧ chk [L, B] = 2) ∨ (L.any noL = false ∧ B.any noL = false ∧ 4096 < L.length ∧ chk [L, B] = 3) ∨ (L.any noL = false ∧ B.any noL = false ∧ L.length ≤ 4096 ∧ 4096 < B.length ∧ chk [L, B] = 3) ∨ (L.any noL = false ∧ B.any noL = false ∧ L.length ≤ 4096 ∧ B.length ≤ 4096 ∧ chk [L, B] = 0) := by
  unfold chk
  simp only [List.any_cons, List.any_nil, Bool.or_false]
  cases h1 : L.any noL <;> cases h2 : B.any noL <;> simp
  by_cases h3 : 4096 < L.length
  · simp [h3]
    exact .inl fun h => by omega
  · by_cases h4 : 4096 < B.length
    · simp [h3, h4]; omega
    · simp [h3, h4]; omega
theorem wpairs_bad (w : World) (v u : Value) (L B : List Int) (h : Ints w v L) (hu : Ints w u B) (hm : min L.length 10000 + min B.length 10000 ≤ 9000) (ht : Tab w) (r : Int) (hr : chk [L, B] = r) (hr0 : r ≠ 0) :
    Calls Tryd.prog 5 #[v, u] w fun e w' => e = .returned (.bool true) ∧ w.grownBy w' none := by
  have hl : L.length ≤ 9000 := by omega
  have hl2 : B.length ≤ 9000 := by omega
  have HMu := much_any _ _ [L, B] (intsL2 h hu) (by simp) (by simp; omega)
  rw [show muchN [L, B] = min L.length 10000 + min B.length 10000 by simp [muchN], decide_eq_false (by omega)] at HMu
  have HT : Hid (Tab w) := ht
  have HLe1 : Hid (∀ w1, w.grownBy w1 none → Calls Tryd.prog 11 #[v] w1 fun e w' => ∃ v', e = .returned v' ∧ Lent w' w1.heap.size v' L ∧ w1.grownBy w' none) := fun w1 hg => lent_any w1 v L (h.kept hg) (by omega)
  have HLe2 : Hid (∀ w1, w.grownBy w1 none → Calls Tryd.prog 11 #[u] w1 fun e w' => ∃ v', e = .returned v' ∧ Lent w' w1.heap.size v' B ∧ w1.grownBy w' none) := fun w1 hg => lent_any w1 u B (hu.kept hg) (by omega)
  have HLf1 : Hid (∀ w1 m base, w.grownBy w1 none → Lent w1 base m L → Calls Tryd.prog 20 #[m, v] w1 fun e w' => e = .returned (.bool true) ∧ w1.grownBy w' none) := fun w1 m base hg hm => left_any w1 m v L base hm (h.kept hg) (by omega)
  have HLf2 : Hid (∀ w1 m base, w.grownBy w1 none → Lent w1 base m B → Calls Tryd.prog 20 #[m, u] w1 fun e w' => e = .returned (.bool true) ∧ w1.grownBy w' none) := fun w1 m base hg hm => left_any w1 m u B base hm (hu.kept hg) (by omega)
  have HAl : Hid (∀ w1 x y, Ints w1 x L → Ints w1 y B → Calls Tryd.prog 34 #[x, y] w1 fun e w' => e = .returned (.tuple #[.bool false, .int .i64 r]) ∧ w1.grownBy w' none) := by
    intro w1 x y hx hy
    obtain ⟨m, hm⟩ := cut_ex (sh L)
    obtain ⟨q, hq⟩ := cut_ex (sh B)
    have := alike_top w1 x y L B m q hm hq hx hy (by omega) (by omega)
    rw [hr, show alB L B m q = false by unfold alB; rw [hr, decide_eq_false hr0]; rfl] at this
    exact this
  have HCm : Hid (∀ w1 x y, Ints w1 x L → Ints w1 y B → Calls Tryd.prog 35 #[x, y] w1 fun e w' => e = .returned (.tuple #[.bool false, .int .i64 r]) ∧ w1.grownBy w' none) := by
    intro w1 x y hx hy
    have := commute_top w1 x y L B hx hy (by omega) (by omega)
    rw [hr, show cmB L B = false by unfold cmB; rw [hr, decide_eq_false hr0]; rfl] at this
    exact this
  have HCp : Hid (∀ w1 x y, Ints w1 x L → Ints w1 y B → Calls Tryd.prog 36 #[x, y] w1 fun e w' => e = .returned (.tuple #[.int .i64 0, .int .i64 r]) ∧ w1.grownBy w' none) := by
    intro w1 x y hx hy
    have := cmp_top w1 x y L B hx hy (by omega) (by omega)
    rw [hr, if_neg hr0] at this
    exact this
  have HLt1 : Hid (∀ w1, w.grownBy w1 none → Calls Tryd.prog 37 #[v] w1 fun e w' => e = .returned (.bool (!L.any noL)) ∧ w' = w1) := fun w1 hg => rLetters_any w1 v L (h.kept hg) (by omega)
  have HLt2 : Hid (∀ w1, w.grownBy w1 none → Calls Tryd.prog 37 #[u] w1 fun e w' => e = .returned (.bool (!B.any noL)) ∧ w' = w1) := fun w1 hg => rLetters_any w1 u B (hu.kept hg) (by omega)
  have HW := chk_which L B
  rw [hr] at HW
  have hrb : (r != 0) = true := by simpa using hr0
  obtain ⟨va, vc, rfl, _⟩ := h.reads
  obtain ⟨ua, uc, rfl, _⟩ := hu.reads
  clear h hu hm hr ht
  have HWh : Hid ((L.any noL = true ∧ r = 2) ∨ (L.any noL = false ∧ B.any noL = true ∧ r = 2) ∨ (L.any noL = false ∧ B.any noL = false ∧ 4096 < L.length ∧ r = 3) ∨ (L.any noL = false ∧ B.any noL = false ∧ L.length ≤ 4096 ∧ 4096 < B.length ∧ r = 3) ∨ (L.any noL = false ∧ B.any noL = false ∧ L.length ≤ 4096 ∧ B.length ≤ 4096 ∧ r = 0)) := HW
  have HR0 : Hid (r ≠ 0) := hr0
  clear HW hr0
  generalize L.length = n at *
  generalize B.length = k at *
  have hnI : (n : Int) ≤ 9000 := by omega
  have hkI : (k : Int) ≤ 9000 := by omega
  clear hl hl2
  go_enter Tryd.func5, Tryd.ntmps5
  go_wp2_with fail
  refine HMu.mono ?_
  rintro e w1 ⟨rfl, rfl⟩
  have G1 : Hid (w.grownBy (w.alloc (.cells #[.slice va n vc, .slice ua k uc] 22)) none) := grow1 _ _
  generalize w.alloc (.cells #[.slice va n vc, .slice ua k uc] 22) = w1 at *
  go_wp2_with fail
  refine (HLe1.out w1 G1.out).mono ?_
  rintro e w2 ⟨m, rfl, hm, g2⟩
  have G2 : Hid (w.grownBy w2 none) := grownBy_trans G1.out g2
  have HM2 : Hid (Lent w2 w1.heap.size m L) := hm
  clear hm g2
  go_wp2_with fail
  refine (HLe2.out w2 G2.out).mono ?_
  rintro e w3 ⟨q, rfl, hq, g3⟩
  have G3 : Hid (w.grownBy w3 none) := grownBy_trans G2.out g3
  have HM3 : Hid (Lent w3 w1.heap.size m L) := HM2.out.kept0 g3
  have HQ3 : Hid (Lent w3 w2.heap.size q B) := hq
  clear hq g3 HM2
  go_wp2_with fail
  refine (HAl.out w3 m q HM3.out.ints HQ3.out.ints).mono ?_
  rintro e w4 ⟨rfl, g4⟩
  have G4 : Hid (w3.grownBy w4 none) := g4
  clear g4
  go_wp2_with fail
  refine (HCm.out w4 m q (HM3.out.ints.kept G4.out) (HQ3.out.ints.kept G4.out)).mono ?_
  rintro e w5 ⟨rfl, g5⟩
  have G5 : Hid (w3.grownBy w5 none) := grownBy_trans G4.out g5
  clear g5
  go_wp2_with fail
  refine (HCp.out w5 m q (HM3.out.ints.kept G5.out) (HQ3.out.ints.kept G5.out)).mono ?_
  rintro e w6 ⟨rfl, g6⟩
  have G6 : Hid (w3.grownBy w6 none) := grownBy_trans G5.out g6
  have GW6 : Hid (w.grownBy w6 none) := grownBy_trans G3.out G6.out
  clear g6 HAl HCm HCp HLe1 HLe2
  go_wp2_with fail
  refine (HLt1.out w6 GW6.out).mono ?_
  rintro e nw ⟨rfl, hw⟩
  obtain rfl := hw.symm
  clear hw
  have HEnd : Hid True := trivial
  rcases HWh.out with ⟨h1, hr2⟩ | ⟨h1, h2, hr2⟩ | ⟨h1, h2, h3, hr2⟩ | ⟨h1, h2, h3, h4, hr2⟩ | ⟨_, _, _, _, e⟩
  rotate_left 4
  · exact absurd e HR0.out
  all_goals (rw [h1]; clear HWh h1 HMu)
  case' inl => go_wp2_with fail
  case' inr.inl =>
    go_wp2_with fail
    refine (HLt2.out w6 GW6.out).mono ?_
    rintro e nw ⟨rfl, hw⟩
    obtain rfl := hw.symm
    clear hw
    rw [h2]
    clear h2
    go_wp2_with fail
  case' inr.inr.inl =>
    go_wp2_with fail
    refine (HLt2.out w6 GW6.out).mono ?_
    rintro e nw ⟨rfl, hw⟩
    obtain rfl := hw.symm
    clear hw
    rw [h2]
    clear h2
    have h3I : (4096 : Int) < n := by omega
    go_wp2_with fail
  case' inr.inr.inr.inl =>
    go_wp2_with fail
    refine (HLt2.out w6 GW6.out).mono ?_
    rintro e nw ⟨rfl, hw⟩
    obtain rfl := hw.symm
    clear hw
    rw [h2]
    clear h2
    have h3I : (n : Int) ≤ 4096 := by omega
    have h4I : (4096 : Int) < k := by omega
    go_wp2_with fail
  all_goals (
    subst hr2
    refine (num_any _ _).mono ?_
    rintro e nw ⟨rfl, hw⟩
    obtain rfl := hw.symm
    clear hw
    go_wp2_with fail
    refine (num_any _ _).mono ?_
    rintro e nw ⟨rfl, hw⟩
    obtain rfl := hw.symm
    clear hw
    go_wp2_with fail
    refine (num_any _ _).mono ?_
    rintro e nw ⟨rfl, hw⟩
    obtain rfl := hw.symm
    clear hw
    go_wp2_with fail
    refine (HLf1.out w6 m w1.heap.size GW6.out (HM3.out.kept0 G6.out)).mono ?_
    rintro e w7 ⟨rfl, g7⟩
    have G67 : Hid (w3.grownBy w7 none) := grownBy_trans G6.out g7
    have GW7 : Hid (w.grownBy w7 none) := grownBy_trans GW6.out g7
    clear g7
    go_wp2_with fail
    refine (HLf2.out w7 q w2.heap.size GW7.out (HQ3.out.kept0 G67.out)).mono ?_
    rintro e w8 ⟨rfl, g8⟩
    have GW8 : Hid (w.grownBy w8 none) := grownBy_trans GW7.out g8
    clear g8
    go_wp2_with fail
    refine (known_any w8 (HT.out.kept GW8.out)).mono ?_
    rintro e w9 ⟨rfl, g9⟩
    have GW9 : Hid (w.grownBy w9 none) := grownBy_trans GW8.out g9
    clear g9
    go_wp2_with fail
    go_ret
    exact ⟨rfl, GW9.out⟩)
theorem wpairs_good (w : World) (v u : Value) (L B : List Int) (h : Ints w v L) (hu : Ints w u B) (hm : min L.length 10000 + min B.length 10000 ≤ 9000) (ht : Tab w) (hr : chk [L, B] = 0) :
    Calls Tryd.prog 5 #[v, u] w fun e w' => e = .returned (.bool true) ∧ w.grownBy w' none := by
  obtain ⟨hL1, hL2⟩ := chk_ok hr L (by simp)
  obtain ⟨hB1, hB2⟩ := chk_ok hr B (by simp)
  have HMu := much_any _ _ [L, B] (intsL2 h hu) (by simp) (by simp; omega)
  rw [show muchN [L, B] = min L.length 10000 + min B.length 10000 by simp [muchN], decide_eq_false (by omega)] at HMu
  have HT : Hid (Tab w) := ht
  have HLe1 : Hid (∀ w1, w.grownBy w1 none → Calls Tryd.prog 11 #[v] w1 fun e w' => ∃ v', e = .returned v' ∧ Lent w' w1.heap.size v' L ∧ w1.grownBy w' none) := fun w1 hg => lent_any w1 v L (h.kept hg) (by omega)
  have HLe2 : Hid (∀ w1, w.grownBy w1 none → Calls Tryd.prog 11 #[u] w1 fun e w' => ∃ v', e = .returned v' ∧ Lent w' w1.heap.size v' B ∧ w1.grownBy w' none) := fun w1 hg => lent_any w1 u B (hu.kept hg) (by omega)
  have HLf1 : Hid (∀ w1 m base, w.grownBy w1 none → Lent w1 base m L → Calls Tryd.prog 20 #[m, v] w1 fun e w' => e = .returned (.bool true) ∧ w1.grownBy w' none) := fun w1 m base hg hm => left_any w1 m v L base hm (h.kept hg) (by omega)
  have HLf2 : Hid (∀ w1 m base, w.grownBy w1 none → Lent w1 base m B → Calls Tryd.prog 20 #[m, u] w1 fun e w' => e = .returned (.bool true) ∧ w1.grownBy w' none) := fun w1 m base hg hm => left_any w1 m u B base hm (hu.kept hg) (by omega)
  have HLt1 : Hid (∀ w1, w.grownBy w1 none → Calls Tryd.prog 37 #[v] w1 fun e w' => e = .returned (.bool true) ∧ w' = w1) := fun w1 hg => by
    have := rLetters_any w1 v L (h.kept hg) (by omega)
    rw [hL1] at this
    exact this
  have HLt2 : Hid (∀ w1, w.grownBy w1 none → Calls Tryd.prog 37 #[u] w1 fun e w' => e = .returned (.bool true) ∧ w' = w1) := fun w1 hg => by
    have := rLetters_any w1 u B (hu.kept hg) (by omega)
    rw [hB1] at this
    exact this
  obtain ⟨m0, hm0⟩ := cut_ex (sh L)
  obtain ⟨q0, hq0⟩ := cut_ex (sh B)
  have hSl : (sh L).length ≤ 4096 := Nat.le_trans (sh_len L) hL2
  have hRl : (sh B).length ≤ 4096 := Nat.le_trans (sh_len B) hB2
  have hSn := sh_letters hL1
  have hRn := sh_letters hB1
  obtain ⟨al, hal⟩ : ∃ al, decide (Turn (coreOf (sh L) m0) (coreOf (sh B) q0)) = al := ⟨_, rfl⟩
  obtain ⟨cm, hcm⟩ : ∃ cm, decide (sh (L ++ B) = sh (B ++ L)) = cm := ⟨_, rfl⟩
  obtain ⟨cp, hcp⟩ : ∃ cp, cpL L B = cp := ⟨_, rfl⟩
  have HAl : Hid (∀ w1 x y, Ints w1 x L → Ints w1 y B → Calls Tryd.prog 34 #[x, y] w1 fun e w' => e = .returned (.tuple #[.bool al, .int .i64 0]) ∧ w1.grownBy w' none) := by
    intro w1 x y hx hy
    have := alike_top w1 x y L B m0 q0 hm0 hq0 hx hy (by omega) (by omega)
    rw [hr, show alB L B m0 q0 = al by unfold alB; rw [hr, hal]; rfl] at this
    exact this
  have HCm : Hid (∀ w1 x y, Ints w1 x L → Ints w1 y B → Calls Tryd.prog 35 #[x, y] w1 fun e w' => e = .returned (.tuple #[.bool cm, .int .i64 0]) ∧ w1.grownBy w' none) := by
    intro w1 x y hx hy
    have := commute_top w1 x y L B hx hy (by omega) (by omega)
    rw [hr, show cmB L B = cm by unfold cmB; rw [hr, hcm]; rfl] at this
    exact this
  have HCp : Hid (∀ w1 x y, Ints w1 x L → Ints w1 y B → Calls Tryd.prog 36 #[x, y] w1 fun e w' => e = .returned (.tuple #[.int .i64 cp, .int .i64 0]) ∧ w1.grownBy w' none) := by
    intro w1 x y hx hy
    have := cmp_top w1 x y L B hx hy (by omega) (by omega)
    rw [hr, if_pos rfl, hcp] at this
    exact this
  have HS1 : Hid (∀ w1, w.grownBy w1 none → Calls Tryd.prog 22 #[v] w1 fun e w' => ∃ v', e = .returned v' ∧ Ints w' v' (sh L) ∧ w1.grownBy w' none) := fun w1 hg => (rShort_any w1 v L (h.kept hg) (by omega) hL1).mono (by
    rintro e w' ⟨v', rfl, hO, hG⟩
    exact ⟨v', rfl, hO.ints, hG⟩)
  have HS2 : Hid (∀ w1, w.grownBy w1 none → Calls Tryd.prog 22 #[u] w1 fun e w' => ∃ v', e = .returned v' ∧ Ints w' v' (sh B) ∧ w1.grownBy w' none) := fun w1 hg => (rShort_any w1 u B (hu.kept hg) (by omega) hB1).mono (by
    rintro e w' ⟨v', rfl, hO, hG⟩
    exact ⟨v', rfl, hO.ints, hG⟩)
  have HrA : Hid (∀ w1 x y, Ints w1 x (sh L) → Ints w1 y (sh B) → Calls Tryd.prog 38 #[x, y] w1 fun e w' => e = .returned (.bool al) ∧ w1.grownBy w' none) := by
    intro w1 x y hx hy
    have := rAlike_any w1 x y _ _ m0 q0 hm0 hq0 hx hy hSl hRl hSn hRn
    rw [hal] at this
    exact this
  have HrC : Hid (∀ w1 x y, Ints w1 x (sh L) → Ints w1 y (sh B) → Calls Tryd.prog 39 #[x, y] w1 fun e w' => e = .returned (.bool cm) ∧ w1.grownBy w' none) := by
    intro w1 x y hx hy
    have := rCommute_any w1 x y _ _ hx hy hSl hRl (any_no hSn) (any_no hRn)
    rw [sh_left, sh_right, sh_left, sh_right, hcm] at this
    exact this
  have HrP : Hid (∀ w1, w.grownBy w1 none → Calls Tryd.prog 40 #[v, u] w1 fun e w' => e = .returned (.int .i64 cp) ∧ w1.grownBy w' none) := by
    intro w1 hg
    have := rCmp_any w1 v u L B (h.kept hg) (hu.kept hg) (by omega) (by omega) (fun x hx => by simpa using List.any_eq_false.1 hL1 x hx) (fun x hx => by simpa using List.any_eq_false.1 hB1 x hx)
    rw [hcp] at this
    exact this
  obtain ⟨va, vc, rfl, _⟩ := h.reads
  obtain ⟨ua, uc, rfl, _⟩ := hu.reads
  have HSl : Hid ((sh L).length ≤ 4096 ∧ (sh B).length ≤ 4096) := ⟨hSl, hRl⟩
  clear h hu hm hr ht hL1 hB1 hSn hRn hm0 hq0 hal hcm hcp hSl hRl
  generalize L.length = n at *
  generalize B.length = k at *
  have hnI : (n : Int) ≤ 4096 := by omega
  have hkI : (k : Int) ≤ 4096 := by omega
  clear hL2 hB2
  have hcpb : (cp == cp) = true := by simp
  have halb : (al == al) = true := by simp
  have hcmb : (cm == cm) = true := by simp
  go_enter Tryd.func5, Tryd.ntmps5
  go_wp2_with fail
  refine HMu.mono ?_
  rintro e w1 ⟨rfl, rfl⟩
  have G1 : Hid (w.grownBy (w.alloc (.cells #[.slice va n vc, .slice ua k uc] 22)) none) := grow1 _ _
  generalize w.alloc (.cells #[.slice va n vc, .slice ua k uc] 22) = w1 at *
  go_wp2_with fail
  refine (HLe1.out w1 G1.out).mono ?_
  rintro e w2 ⟨m, rfl, hm, g2⟩
  have G2 : Hid (w.grownBy w2 none) := grownBy_trans G1.out g2
  have HM2 : Hid (Lent w2 w1.heap.size m L) := hm
  clear hm g2
  go_wp2_with fail
  refine (HLe2.out w2 G2.out).mono ?_
  rintro e w3 ⟨q, rfl, hq, g3⟩
  have G3 : Hid (w.grownBy w3 none) := grownBy_trans G2.out g3
  have HM3 : Hid (Lent w3 w1.heap.size m L) := HM2.out.kept0 g3
  have HQ3 : Hid (Lent w3 w2.heap.size q B) := hq
  clear hq g3 HM2
  go_wp2_with fail
  refine (HAl.out w3 m q HM3.out.ints HQ3.out.ints).mono ?_
  rintro e w4 ⟨rfl, g4⟩
  have G4 : Hid (w3.grownBy w4 none) := g4
  clear g4
  go_wp2_with fail
  refine (HCm.out w4 m q (HM3.out.ints.kept G4.out) (HQ3.out.ints.kept G4.out)).mono ?_
  rintro e w5 ⟨rfl, g5⟩
  have G5 : Hid (w3.grownBy w5 none) := grownBy_trans G4.out g5
  clear g5
  go_wp2_with fail
  refine (HCp.out w5 m q (HM3.out.ints.kept G5.out) (HQ3.out.ints.kept G5.out)).mono ?_
  rintro e w6 ⟨rfl, g6⟩
  have G6 : Hid (w3.grownBy w6 none) := grownBy_trans G5.out g6
  have GW6 : Hid (w.grownBy w6 none) := grownBy_trans G3.out G6.out
  clear g6 HAl HCm HCp HLe1 HLe2 HMu
  go_wp2_with fail
  refine (HLt1.out w6 GW6.out).mono ?_
  rintro e nw ⟨rfl, hw⟩
  obtain rfl := hw.symm
  clear hw
  go_wp2_with fail
  refine (HLt2.out w6 GW6.out).mono ?_
  rintro e nw ⟨rfl, hw⟩
  obtain rfl := hw.symm
  clear hw
  go_wp2_with fail
  refine (num_any _ _).mono ?_
  rintro e nw ⟨rfl, hw⟩
  obtain rfl := hw.symm
  clear hw
  go_wp2_with fail
  refine (num_any _ _).mono ?_
  rintro e nw ⟨rfl, hw⟩
  obtain rfl := hw.symm
  clear hw
  go_wp2_with fail
  refine (num_any _ _).mono ?_
  rintro e nw ⟨rfl, hw⟩
  obtain rfl := hw.symm
  clear hw
  go_wp2_with fail
  refine (HLf1.out w6 m w1.heap.size GW6.out (HM3.out.kept0 G6.out)).mono ?_
  rintro e w7 ⟨rfl, g7⟩
  have G67 : Hid (w3.grownBy w7 none) := grownBy_trans G6.out g7
  have GW7 : Hid (w.grownBy w7 none) := grownBy_trans GW6.out g7
  clear g7
  go_wp2_with fail
  refine (HLf2.out w7 q w2.heap.size GW7.out (HQ3.out.kept0 G67.out)).mono ?_
  rintro e w8 ⟨rfl, g8⟩
  have GW8 : Hid (w.grownBy w8 none) := grownBy_trans GW7.out g8
  clear g8
  go_wp2_with fail
  refine (HS1.out w8 GW8.out).mono ?_
  rintro e w9 ⟨x, rfl, hx, g9⟩
  have GW9 : Hid (w.grownBy w9 none) := grownBy_trans GW8.out g9
  have HX9 : Hid (Ints w9 x (sh L)) := hx
  clear hx g9
  go_wp2_with fail
  refine (HS2.out w9 GW9.out).mono ?_
  rintro e w10 ⟨y, rfl, hy, g10⟩
  have GW10 : Hid (w.grownBy w10 none) := grownBy_trans GW9.out g10
  have HX10 : Hid (Ints w10 x (sh L)) := HX9.out.kept g10
  have HY10 : Hid (Ints w10 y (sh B)) := hy
  obtain ⟨xa, xc, rfl, _⟩ := HX9.out.reads
  obtain ⟨ya, yc, rfl, _⟩ := hy.reads
  clear hy g10 HX9 HS1 HS2 HLt1 HLt2 HLf1 HLf2 G67 G6 G5 G4 G3 G2 HM3 HQ3
  obtain ⟨sx, hsx⟩ : ∃ sx, (sh L).length = sx := ⟨_, rfl⟩
  obtain ⟨sy, hsy⟩ : ∃ sy, (sh B).length = sy := ⟨_, rfl⟩
  rw [hsx] at HX10 HSl ⊢
  rw [hsy] at HY10 HSl ⊢
  have hsxI : (sx : Int) ≤ 4096 := by have := HSl.out.1; omega
  have hsyI : (sy : Int) ≤ 4096 := by have := HSl.out.2; omega
  clear hsx hsy
  by_cases hbig : 1500 < sx + sy
  case' pos =>
    have hbI : (1500 : Int) < (sx : Int) + sy := by omega
    have GW11 : Hid (w.grownBy w10 none) := GW10.out
    have HX11 : Hid (Ints w10 (.slice xa sx xc) (sh L)) := HX10.out
    have HY11 : Hid (Ints w10 (.slice ya sy yc) (sh B)) := HY10.out
    generalize w10 = w11 at *
    go_wp2_with fail
  case' neg =>
    have hbI : (sx : Int) + sy ≤ 1500 := by omega
    go_wp2_with fail
    refine (HrA.out w10 _ _ HX10.out HY10.out).mono ?_
    rintro e w11 ⟨rfl, g11⟩
    have GW11 : Hid (w.grownBy w11 none) := grownBy_trans GW10.out g11
    have HX11 : Hid (Ints w11 (.slice xa sx xc) (sh L)) := HX10.out.kept g11
    have HY11 : Hid (Ints w11 (.slice ya sy yc) (sh B)) := HY10.out.kept g11
    clear g11
    go_wp2_with fail
  all_goals (
    refine (HrC.out w11 _ _ HX11.out HY11.out).mono ?_
    rintro e w12 ⟨rfl, g12⟩
    have GW12 : Hid (w.grownBy w12 none) := grownBy_trans GW11.out g12
    clear g12
    go_wp2_with fail
    refine (HrP.out w12 GW12.out).mono ?_
    rintro e w13 ⟨rfl, g13⟩
    have GW13 : Hid (w.grownBy w13 none) := grownBy_trans GW12.out g13
    clear g13
    go_wp2_with fail
    refine (known_any w13 (HT.out.kept GW13.out)).mono ?_
    rintro e w14 ⟨rfl, g14⟩
    have GW14 : Hid (w.grownBy w14 none) := grownBy_trans GW13.out g14
    clear g14
    go_wp2_with fail
    go_ret
    exact ⟨rfl, GW14.out⟩)
theorem wpairs_any (w : World) (v u : Value) (L B : List Int) (h : Ints w v L) (hu : Ints w u B) (hl : L.length ≤ 1000000000000000) (hl2 : B.length ≤ 1000000000000000) (ht : Tab w) :
    Calls Tryd.prog 5 #[v, u] w fun e w' => e = .returned (.bool true) ∧ w.grownBy w' none := by
  by_cases hm : 9000 < min L.length 10000 + min B.length 10000
  · exact wpairs_much w v u L B h hu hl hl2 ht hm
  · by_cases hr : chk [L, B] = 0
    · exact wpairs_good w v u L B h hu (by omega) ht hr
    · exact wpairs_bad w v u L B h hu (by omega) ht _ rfl hr
end Go.Proofs.YthldipnfaiobaaaDoor
