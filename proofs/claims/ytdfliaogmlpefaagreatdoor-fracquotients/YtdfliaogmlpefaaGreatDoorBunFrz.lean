/-
  frac's Nearest of a half; the laws' known.
  FracOf of any two.
-/
import Derived.Test.YtdfliaogmlpefaaGreatDoorFrj
import Derived.Test.YtdfliaogmlpefaaGreatDoorFrn
import Derived.Test.YtdfliaogmlpefaaGreatDoorFru
import Derived.Test.YtdfliaogmlpefaaGreatDoorFrk
import Derived.Test.YtdfliaogmlpefaaGreatDoorBunFrl
namespace Go.Proofs.YtdfliaogmlpefaaGreatDoor
open Go.RowKit Go.Lib Go.Sort
set_option linter.unusedVariables false
theorem byte_z (b : UInt8) (hb : b ≠ 0) : Sz 1 ((b.toNat : Nat) : Int) false ⟨#[b]⟩ := byte_sz b 1 (by decide) hb
theorem zero_z : IsZ 0 false eS := ⟨rfl, by rw [show Int.natAbs 0 = 0 from rfl, magN_zero]; rfl⟩
theorem div44 (w : World) : Calls Tryz.prog 55 #[whole false ⟨#[4]⟩, whole false ⟨#[4]⟩] w fun e w' => e = .returned (.tuple #[whole false b1, whole false eS, .int .i64 0]) ∧ w.grownBy w' none := by
  refine (div_sz (k := 1) (l := 1) (x := 4) (y := 4) (by decide) (by decide) (by decide) (byte_z 4 (by decide)) (byte_z 4 (by decide)) w).mono ?_
  rintro e w' ⟨n, s, n', s', rfl, hq, hr, hg⟩
  obtain ⟨rfl, rfl⟩ := whole_inj (hq.1.one (byte_z 1 (by decide)).1)
  obtain ⟨rfl, rfl⟩ := whole_inj (hr.1.one zero_z)
  exact ⟨rfl, hg⟩
theorem bit1 (w : World) : Calls Tryz.prog 56 #[whole false b1, .int .i64 0] w fun e w' => e = .returned (.tuple #[.int .i64 1, .int .i64 0]) ∧ w.grownBy w' none := by
  have h := bit_yes false b1 ((byte_z 1 (by decide)).may (by decide)) 0 (by decide) w
  have e : bitOf (val (bN b1)) 0 = 1 := by decide
  rw [e] at h
  exact h
theorem near_half (w : World) : Calls Tryz.prog 15 #[frac false b1 false b2] w fun e w' => e = .returned (.tuple #[whole false eS, .int .i64 0]) ∧ w.grownBy w' none := by
  refine near_by false false false false false false false false false b1 b2 b2 b2 ⟨#[4]⟩ ⟨#[4]⟩ b1 eS eS 1 (fun w => q_half.call w) (fun w => of_known 2 2 false rfl (by decide) (by decide) w) ?_ ?_ ?_ (fun w => div44 w) (fun w => bit1 w) ?_ w
  · exact fun w => times_is (k := 1) (l := 1) (x := 1) (y := 2) (by decide) (byte_z 1 (by decide)) (byte_z 2 (by decide)) (byte_z 2 (by decide)).1 w
  · exact fun w => add_is (k := 1) (x := 2) (y := 2) (by decide) (byte_z 2 (by decide)) (byte_z 2 (by decide)) (byte_z 4 (by decide)).1 w
  · exact fun w => times_is (k := 1) (l := 1) (x := 2) (y := 2) (by decide) (byte_z 2 (by decide)) (byte_z 2 (by decide)) (byte_z 4 (by decide)).1 w
  · exact .inl ⟨rfl, rfl, rfl, fun w => sub_is (k := 1) (x := 1) (y := 1) (by decide) (byte_z 1 (by decide)) (byte_z 1 (by decide)) zero_z w⟩
theorem fitsOne (b c : UInt8) : fitsB ⟨#[b]⟩ ⟨#[c]⟩ = true := by
  unfold fitsB
  exact decide_eq_true ⟨by show (1 : Nat) ≤ 1024; decide, by show (1 : Nat) ≤ 1024; decide⟩
theorem toldOne (n d : Bool) (b c : UInt8) : toldV n ⟨#[b]⟩ d ⟨#[c]⟩ = frac n ⟨#[b]⟩ d ⟨#[c]⟩ ∧ toldE ⟨#[b]⟩ ⟨#[c]⟩ = 0 := by
  unfold toldV toldE
  rw [fitsOne]
  exact ⟨rfl, rfl⟩
theorem known_any (w : World) (htab : Lib.TabIs Tryz.prog w "internal/strconv.uint64pow10" .u64 Lib.pow10Tab) :
    Calls Tryz.prog 10 #[] w fun e w' => e = .returned (.bool true) ∧ w.grownBy w' none := by
  obtain ⟨gp, hgp⟩ := pow10_g
  refine known_by w (fun w => ?_) (fun w => ?_) (fun w => ?_) (fun W hg => ftext_sixth W (tab_kept hgp htab hg)) (fun w => near_half w) (fun w => rof_zero w)
  · have h := fsmall_any 1 2 (by decide) (by decide) (by decide) (by decide) (by decide) (n' := false) (s' := b1) (d' := false) (t' := b2) ⟨by rw [show rn 1 2 = 1 by decide]; exact q_half.zn.1, by rw [show rd 1 2 = 2 by decide]; exact q_half.zd.1⟩ w
    rw [(toldOne _ _ _ _).1, (toldOne false false _ _).2] at h
    exact h
  · have h := fsmall_any 2 (-6) (by decide) (by decide) (by decide) (by decide) (by decide) (n' := true) (s' := b1) (d' := false) (t' := b3) ⟨by rw [show rn 2 (-6) = -1 by decide]; exact q_third.zn.1, by rw [show rd 2 (-6) = 3 by decide]; exact q_third.zd.1⟩ w
    rw [(toldOne _ _ _ _).1, (toldOne true false _ _).2] at h
    exact h
  · have h := fadd_any q_half q_third (n' := false) (s' := b1) (d' := false) (t' := b6) ⟨by rw [show rn (1 * 3 + -1 * 2) (2 * 3) = 1 by decide]; exact q_sixth.zn.1, by rw [show rd (1 * 3 + -1 * 2) (2 * 3) = 6 by decide]; exact q_sixth.zd.1⟩ w
    rw [(toldOne _ _ _ _).1, (toldOne false false _ _).2] at h
    exact h
theorem known_in {w : World} (htab : Lib.TabIs Tryz.prog w "internal/strconv.uint64pow10" .u64 Lib.pow10Tab) :
    Hid (∀ W, w.grownBy W none → Calls Tryz.prog 10 #[] W fun e w' => e = .returned (.bool true) ∧ W.grownBy w' none) := by
  obtain ⟨gp, hgp⟩ := pow10_g
  exact fun W hg => known_any W (tab_kept hgp htab hg)
end Go.Proofs.YtdfliaogmlpefaaGreatDoor
