/-
  The program's Check, Short, Inverse, Core, Root, Pow.
-/
import Derived.Test.YtkimgmgafkihaaaDoorRep
namespace Go.Proofs.YtkimgmgafkihaaaDoor
open Go.RowKit Go.Lib Go.Sort
set_option linter.unusedVariables false
set_option linter.unusedSimpArgs false
set_option maxHeartbeats 1600000
set_option maxRecDepth 1000000
theorem checked_one (w : World) (v : Value) (L : List Int) (h : Ints w v L) (hl : L.length ≤ 1000000000000) :
    Calls Tryd.prog 25 #[.slice (some ⟨w.heap.size, 0, none⟩) 1 1] (w.alloc (.cells #[v] 34)) fun e w' => e = .returned (.int .i64 (chk [L])) ∧ w.grownBy w' none := by
  refine (checked_any _ _ [L] (intsL1 h) (by simp) (by simpa using hl)).mono ?_
  rintro e w' ⟨rfl, rfl⟩
  exact ⟨rfl, grow1 _ _⟩
def Told1 (w : World) (e : Ending) (w' : World) (r : Int) (L : List Int) : Prop :=
  w.grownBy w' none ∧ ∃ v', e = .returned (.tuple #[v', .int .i64 r]) ∧ Fr w' w.heap.size v' L
theorem short_top (w : World) (v : Value) (L : List Int) (h : Ints w v L) (hl : L.length ≤ 1000000000000) :
    Calls Tryd.prog 15 #[v] w fun e w' => Told1 w e w' (chk [L]) (if chk [L] = 0 then sh L else []) := by
  have HC := checked_one w v L h hl
  have HI : Hid (∀ w1, w.grownBy w1 none → Ints w1 v L) := fun w1 hg => h.kept hg
  have HOk : Hid (chk [L] = 0 → L.any noL = false ∧ L.length ≤ 4096) := fun h0 => chk_ok h0 L (by simp)
  obtain ⟨ab, c, rfl, _⟩ := h.reads
  clear h
  obtain ⟨r, hr⟩ : ∃ r, chk [L] = r := ⟨_, rfl⟩
  rw [hr] at HC HOk ⊢
  clear hr
  by_cases h0 : r = 0
  · subst h0
    have HS := fun w1 hg => short_fr w1 _ L (HI.out w1 hg) (by have := (HOk.out rfl).2; omega) (HOk.out rfl).1
    go_enter Tryd.func15, Tryd.ntmps15
    go_wp2_with fail
    refine HC.mono ?_
    rintro e w1 ⟨rfl, hg1⟩
    have HG1 : Hid (w.grownBy w1 none) := hg1
    clear hg1
    go_wp2_with fail
    refine (HS w1 HG1.out).mono ?_
    rintro e w2 ⟨rfl, hF, hG⟩
    have HF : Hid (Fr w2 w.heap.size (.slice (some ⟨w1.heap.size, 0, none⟩) (sh L).length (sh L).length) (sh L)) := hF.mono HG1.out.size
    have HG : Hid (w.grownBy w2 none) := grownBy_trans HG1.out hG
    clear hF hG
    go_wp2_with fail
    go_ret2
    exact ⟨HG.out, _, rfl, HF.out⟩
  · have hb : (r != 0) = true := by simpa using h0
    have HR : Hid (r ≠ 0) := h0
    clear h0
    go_enter Tryd.func15, Tryd.ntmps15
    go_wp2_with fail
    refine HC.mono ?_
    rintro e w' ⟨rfl, hg1⟩
    have HG1 : Hid (w.grownBy w' none) := hg1
    clear hg1
    go_wp2_with fail
    go_ret2
    exact ⟨HG1.out, _, rfl, Fr.nil _ _⟩
theorem sh_letters {L : List Int} (h : L.any noL = false) : ∀ x ∈ sh L, noL x = false := fun x hx => by
  simpa using List.any_eq_false.1 h x (sh_mem hx)
theorem core_mem {L : List Int} {m : Nat} {x : Int} (h : x ∈ coreOf L m) : x ∈ L := List.mem_of_mem_drop (List.mem_of_mem_take h)
theorem by_mem {L : List Int} {m : Nat} {x : Int} (h : x ∈ byOf L m) : x ∈ L := List.mem_of_mem_drop h
theorem any_no {L : List Int} (h : ∀ x ∈ L, noL x = false) : L.any noL = false := by
  rw [List.any_eq_false]
  intro x hx
  simp [h x hx]
def CoreQ (w : World) (L : List Int) (r : Int) (e : Ending) (w' : World) : Prop :=
  w.grownBy w' none ∧ ∃ u v, e = .returned (.tuple #[u, v, .int .i64 r]) ∧ ((r ≠ 0 ∧ u = .slice none 0 0 ∧ v = .slice none 0 0) ∨ ∃ m, r = 0 ∧ Cut (sh L) m ∧ Fr w' w.heap.size u (coreOf (sh L) m) ∧ Fr w' w.heap.size v (byOf (sh L) m))
theorem core_top (w : World) (v : Value) (L : List Int) (h : Ints w v L) (hl : L.length ≤ 1000000000000) :
    Calls Tryd.prog 17 #[v] w fun e w' => CoreQ w L (chk [L]) e w' := by
  have HC := checked_one w v L h hl
  have HI : Hid (∀ w1, w.grownBy w1 none → Ints w1 v L) := fun w1 hg => h.kept hg
  have HOk : Hid (chk [L] = 0 → L.any noL = false ∧ L.length ≤ 4096) := fun h0 => chk_ok h0 L (by simp)
  obtain ⟨ab, c, rfl, _⟩ := h.reads
  clear h
  obtain ⟨r, hr⟩ : ∃ r, chk [L] = r := ⟨_, rfl⟩
  rw [hr] at HC HOk ⊢
  clear hr
  by_cases h0 : r = 0
  · subst h0
    have HS := fun w1 hg => short_fr w1 _ L (HI.out w1 hg) (by have := (HOk.out rfl).2; omega) (HOk.out rfl).1
    have HSl : Hid ((sh L).length ≤ 4096) := Nat.le_trans (sh_len L) (HOk.out rfl).2
    have HSn : Hid (∀ x ∈ sh L, noL x = false) := sh_letters (HOk.out rfl).1
    go_enter Tryd.func17, Tryd.ntmps17
    go_wp2_with fail
    refine HC.mono ?_
    rintro e w1 ⟨rfl, hg1⟩
    have HG1 : Hid (w.grownBy w1 none) := hg1
    clear hg1
    go_wp2_with fail
    refine (HS w1 HG1.out).mono ?_
    rintro e w2 ⟨rfl, hF, hG⟩
    have HG : Hid (w.grownBy w2 none) := grownBy_trans HG1.out hG
    have HP := parted_any w2 _ _ (sh L) rfl hF.ints (by have := HSl.out; omega) HSn.out
    clear hF hG
    go_wp2_with fail
    refine HP.mono ?_
    rintro e w3 ⟨m, u, v, hcut, rfl, hu, hv, hG3⟩
    have HCut : Hid (Cut (sh L) m) := hcut
    have HG3 : Hid (w.grownBy w3 none) := grownBy_trans HG.out hG3
    have HU : Hid (Ints w3 u (coreOf (sh L) m)) := hu
    have HV : Hid (Ints w3 v (byOf (sh L) m)) := hv
    have hcl := coreOf_len (sh L) m hcut.le
    have hbl := byOf_len (sh L) m hcut.le
    have hle := hcut.le
    have hsl := HSl.out
    have HK := clone_any w3 u _ HU.out (by omega)
    have HK2 : Hid (∀ w4, w3.grownBy w4 none → Calls Tryd.prog 31 #[v] w4 fun e w' => ∃ v', e = .returned v' ∧ Own w' w4.heap.size v' (byOf (sh L) m) ∧ w4.grownBy w' none) := fun w4 hg => clone_any w4 v _ (HV.out.kept hg) (by omega)
    obtain ⟨ua, uc, rfl, _⟩ := hu.reads
    obtain ⟨va, vc, rfl, _⟩ := hv.reads
    clear hu hv hG3 hcut hcl hbl hle hsl
    go_wp2_with fail
    refine HK.mono ?_
    rintro e w4 ⟨u', rfl, hO4, hG4⟩
    have HO4 : Hid (Own w4 w3.heap.size u' (coreOf (sh L) m)) := hO4
    have HG4 : Hid (w3.grownBy w4 none) := hG4
    clear hO4 hG4
    go_wp2_with fail
    refine (HK2.out w4 HG4.out).mono ?_
    rintro e w5 ⟨v', rfl, hO5, hG5⟩
    have HO5 : Hid (Own w5 w4.heap.size v' (byOf (sh L) m)) := hO5
    have HG5 : Hid (w4.grownBy w5 none) := hG5
    clear hO5 hG5
    go_wp2_with fail
    refine bodyPost_ret (results_tmp3 rfl _ _ _) rfl ?_
    exact ⟨grownBy_trans HG3.out (grownBy_trans HG4.out HG5.out), _, _, rfl, .inr ⟨m, rfl, HCut.out, (HO4.out.fr.kept0 HG5.out).mono HG3.out.size, HO5.out.fr.mono (Nat.le_trans HG3.out.size HG4.out.size)⟩⟩
  · have hb : (r != 0) = true := by simpa using h0
    have HR : Hid (r ≠ 0) := h0
    clear h0
    go_enter Tryd.func17, Tryd.ntmps17
    go_wp2_with fail
    refine HC.mono ?_
    rintro e w' ⟨rfl, hg1⟩
    have HG1 : Hid (w.grownBy w' none) := hg1
    clear hg1
    go_wp2_with fail
    refine bodyPost_ret (results_tmp3 rfl _ _ _) rfl ?_
    exact ⟨HG1.out, _, _, rfl, .inl ⟨HR.out, rfl, rfl⟩⟩
end Go.Proofs.YtkimgmgafkihaaaDoor
