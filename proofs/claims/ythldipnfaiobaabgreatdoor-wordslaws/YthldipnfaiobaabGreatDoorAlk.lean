/-
  Alike: the program's; the document's Commute and Alike.
-/
import Derived.Test.YthldipnfaiobaabGreatDoorTrn
import Derived.Test.YthldipnfaiobaabGreatDoorCnj
import Derived.Test.YthldipnfaiobaabGreatDoorRpm
import Derived.Test.YthldipnfaiobaabGreatDoorTld
import Derived.Test.YthldipnfaiobaabGreatDoorRoo
namespace Go.Proofs.YthldipnfaiobaabGreatDoor
open Go.RowKit Go.Lib Go.Sort
set_option linter.unusedVariables false
set_option linter.unusedSimpArgs false
set_option maxHeartbeats 1600000
set_option maxRecDepth 1000000
def alB (L B : List Int) (m q : Nat) : Bool := decide (chk [L, B] = 0) && decide (Turn (coreOf (sh L) m) (coreOf (sh B) q))
theorem alike_top (w : World) (v u : Value) (L B : List Int) (m q : Nat) (hm : Cut (sh L) m) (hq : Cut (sh B) q) (h : Ints w v L) (hu : Ints w u B) (hl : L.length ≤ 1000000000000) (hl2 : B.length ≤ 1000000000000) :
    Calls Tryz.prog 13 #[v, u] w fun e w' => e = .returned (.tuple #[.bool (alB L B m q), .int .i64 (chk [L, B])]) ∧ w.grownBy w' none := by
  have HC := checked_two w v u L B h hu hl hl2
  have HI : Hid (∀ w1, w.grownBy w1 none → Ints w1 v L ∧ Ints w1 u B) := fun w1 hg => ⟨h.kept hg, hu.kept hg⟩
  have HOk : Hid (chk [L, B] = 0 → (L.any noL = false ∧ L.length ≤ 4096) ∧ (B.any noL = false ∧ B.length ≤ 4096)) := fun h0 => ⟨chk_ok h0 L (by simp), chk_ok h0 B (by simp)⟩
  obtain ⟨ab, c, rfl, _⟩ := h.reads
  obtain ⟨ub, uc, rfl, _⟩ := hu.reads
  clear h hu hl hl2
  obtain ⟨n, hn⟩ : ∃ n, L.length = n := ⟨_, rfl⟩
  obtain ⟨k, hk⟩ : ∃ k, B.length = k := ⟨_, rfl⟩
  rw [hn, hk] at HC HI ⊢
  clear hn hk
  have HA : Hid (alB L B m q = (decide (chk [L, B] = 0) && decide (Turn (coreOf (sh L) m) (coreOf (sh B) q)))) := rfl
  generalize alB L B m q = a at *
  obtain ⟨r, hr⟩ : ∃ r, chk [L, B] = r := ⟨_, rfl⟩
  rw [hr] at HC HOk HA ⊢
  clear hr
  by_cases h0 : r = 0
  · subst h0
    have HO2 : Hid ((L.any noL = false ∧ L.length ≤ 4096) ∧ (B.any noL = false ∧ B.length ≤ 4096)) := HOk.out rfl
    have HAt : Hid (decide (Turn (coreOf (sh L) m) (coreOf (sh B) q)) = a) := by
      show _ = _
      rw [HA.out]
      simp
    clear HOk HA
    have HS1 : Hid (∀ w1, w.grownBy w1 none → Calls Tryz.prog 24 #[.slice ab n c] w1 fun e w' => e = .returned (.slice (some ⟨w1.heap.size, 0, none⟩) (sh L).length (sh L).length) ∧ Fr w' w1.heap.size (.slice (some ⟨w1.heap.size, 0, none⟩) (sh L).length (sh L).length) (sh L) ∧ w1.grownBy w' none) := fun w1 hg => short_fr w1 _ L (HI.out w1 hg).1 (by have := HO2.out.1.2; omega) HO2.out.1.1
    have HS2 : Hid (∀ w1, w.grownBy w1 none → Calls Tryz.prog 24 #[.slice ub k uc] w1 fun e w' => e = .returned (.slice (some ⟨w1.heap.size, 0, none⟩) (sh B).length (sh B).length) ∧ Fr w' w1.heap.size (.slice (some ⟨w1.heap.size, 0, none⟩) (sh B).length (sh B).length) (sh B) ∧ w1.grownBy w' none) := fun w1 hg => short_fr w1 _ B (HI.out w1 hg).2 (by have := HO2.out.2.2; omega) HO2.out.2.1
    have HSl : Hid ((sh L).length ≤ 4096 ∧ (sh B).length ≤ 4096) := ⟨Nat.le_trans (sh_len L) HO2.out.1.2, Nat.le_trans (sh_len B) HO2.out.2.2⟩
    have HSn : Hid ((∀ x ∈ sh L, noL x = false) ∧ ∀ x ∈ sh B, noL x = false) := ⟨sh_letters HO2.out.1.1, sh_letters HO2.out.2.1⟩
    have HCm : Hid (Cut (sh L) m ∧ Cut (sh B) q) := ⟨hm, hq⟩
    clear HO2 hm hq HI
    generalize sh L = S at *
    generalize sh B = R at *
    go_enter Tryz.func13, Tryz.ntmps13
    go_wp2_with fail
    refine HC.mono ?_
    rintro e w1 ⟨rfl, hg1⟩
    have HG1 : Hid (w.grownBy w1 none) := hg1
    clear hg1 HC
    go_wp2_with fail
    refine (HS1.out w1 HG1.out).mono ?_
    rintro e w2 ⟨rfl, hF, hg2⟩
    have HG2 : Hid (w.grownBy w2 none) := grownBy_trans HG1.out hg2
    have HP := parted_any w2 _ _ S rfl hF.ints (by have := HSl.out.1; omega) HSn.out.1
    clear hF hg2
    go_wp2_with fail
    refine HP.mono ?_
    rintro e w3 ⟨m', x1, y1, hcut, rfl, hx, _, hg3⟩
    obtain rfl := hcut.uniq HCm.out.1
    have HG3 : Hid (w.grownBy w3 none) := grownBy_trans HG2.out hg3
    have HX : Hid (Ints w3 x1 (coreOf S m')) := hx
    clear hcut hx hg3 HP
    go_wp2_with fail
    refine (HS2.out w3 HG3.out).mono ?_
    rintro e w4 ⟨rfl, hF, hg4⟩
    have HG4 : Hid (w.grownBy w4 none) := grownBy_trans HG3.out hg4
    have HX4 : Hid (Ints w4 x1 (coreOf S m')) := HX.out.kept hg4
    have HP := parted_any w4 _ _ R rfl hF.ints (by have := HSl.out.2; omega) HSn.out.2
    clear hF hg4
    go_wp2_with fail
    refine HP.mono ?_
    rintro e w5 ⟨q', x2, y2, hcut, rfl, hx, _, hg5⟩
    obtain rfl := hcut.uniq HCm.out.2
    have HG5 : Hid (w.grownBy w5 none) := grownBy_trans HG4.out hg5
    have HT : Hid (Calls Tryz.prog 27 #[x1, x2] w5 fun e w' => e = .returned (.bool a) ∧ w5.grownBy w' none) := by
      have := turned_any w5 x1 x2 _ _ (HX4.out.kept hg5) hx (by rw [coreOf_len _ _ HCm.out.1.le]; have := HSl.out.1; omega) (by rw [coreOf_len _ _ HCm.out.2.le]; have := HSl.out.2; omega)
      rw [HAt.out] at this
      exact this
    clear hcut hx hg5 HP
    go_wp2_with fail
    refine HT.out.mono ?_
    rintro e w6 ⟨rfl, hg6⟩
    have HG6 : Hid (w.grownBy w6 none) := grownBy_trans HG5.out hg6
    clear hg6
    go_wp2_with fail
    go_ret2
    exact ⟨rfl, HG6.out⟩
  · have hb : (r != 0) = true := by simpa using h0
    have HAt : Hid (a = false) := by
      show _ = _
      rw [HA.out, decide_eq_false h0]
      rfl
    have ha := HAt.out
    subst ha
    clear h0 HOk HA HAt
    go_enter Tryz.func13, Tryz.ntmps13
    go_wp2_with fail
    refine HC.mono ?_
    rintro e w1 ⟨rfl, hg1⟩
    have HG1 : Hid (w.grownBy w1 none) := hg1
    clear hg1 HC
    go_wp2_with fail
    go_ret2
    exact ⟨rfl, HG1.out⟩
end Go.Proofs.YthldipnfaiobaabGreatDoor
