/-
  frac's Nearest of a half; the laws' known.
  FracOf of any two.
-/
import Derived.Test.YtgemkfiippooeaaGreatDoorFrj
import Derived.Test.YtgemkfiippooeaaGreatDoorBunFrn
import Derived.Test.YtgemkfiippooeaaGreatDoorBunFrs
namespace Go.Proofs.YtgemkfiippooeaaGreatDoor
open Go.RowKit Go.Lib Go.Sort
set_option linter.unusedVariables false

theorem byte_z (b : UInt8) (hb : b ≠ 0) : Sz 1 ((b.toNat : Nat) : Int) false ⟨#[b]⟩ := byte_sz b 1 (by decide) hb
theorem zero_z : IsZ 0 false eS := ⟨rfl, by rw [show Int.natAbs 0 = 0 from rfl, magN_zero]; rfl⟩
theorem div44 (w : World) : Calls Tryz.prog 69 #[whole false ⟨#[4]⟩, whole false ⟨#[4]⟩] w fun e w' => e = .returned (.tuple #[whole false b1, whole false eS, .int .i64 0]) ∧ w.grownBy w' none := by
  refine (div_sz (k := 1) (l := 1) (x := 4) (y := 4) (by decide) (by decide) (by decide) (byte_z 4 (by decide)) (byte_z 4 (by decide)) w).mono ?_
  rintro e w' ⟨n, s, n', s', rfl, hq, hr, hg⟩
  obtain ⟨rfl, rfl⟩ := whole_inj (hq.1.one (byte_z 1 (by decide)).1)
  obtain ⟨rfl, rfl⟩ := whole_inj (hr.1.one zero_z)
  exact ⟨rfl, hg⟩
theorem bit1 (w : World) : Calls Tryz.prog 70 #[whole false b1, .int .i64 0] w fun e w' => e = .returned (.tuple #[.int .i64 1, .int .i64 0]) ∧ w.grownBy w' none := by
  have h := bit_yes false b1 ((byte_z 1 (by decide)).may (by decide)) 0 (by decide) w
  have e : bitOf (val (bN b1)) 0 = 1 := by decide
  rw [e] at h
  exact h
theorem near_half (w : World) : Calls Tryz.prog 26 #[frac false b1 false b2] w fun e w' => e = .returned (.tuple #[whole false eS, .int .i64 0]) ∧ w.grownBy w' none := by
  refine near_by false false false false false false false false false b1 b2 b2 b2 ⟨#[4]⟩ ⟨#[4]⟩ b1 eS eS 1 (fun w => q_half.call w) (fun w => of_known 2 2 false rfl (by decide) (by decide) w) ?_ ?_ ?_ (fun w => div44 w) (fun w => bit1 w) ?_ w
  · exact fun w => times_is (k := 1) (l := 1) (x := 1) (y := 2) (by decide) (byte_z 1 (by decide)) (byte_z 2 (by decide)) (byte_z 2 (by decide)).1 w
  · exact fun w => add_is (k := 1) (x := 2) (y := 2) (by decide) (byte_z 2 (by decide)) (byte_z 2 (by decide)) (byte_z 4 (by decide)).1 w
  · exact fun w => times_is (k := 1) (l := 1) (x := 2) (y := 2) (by decide) (byte_z 2 (by decide)) (byte_z 2 (by decide)) (byte_z 4 (by decide)).1 w
  · exact .inl ⟨rfl, rfl, rfl, fun w => sub_is (k := 1) (x := 1) (y := 1) (by decide) (byte_z 1 (by decide)) (byte_z 1 (by decide)) zero_z w⟩
theorem fitsOne (b c : UInt8) : fitsB ⟨#[b]⟩ ⟨#[c]⟩ = true := by
  unfold fitsB
  exact decide_eq_true ⟨by show (1 : Nat) ≤ 1024; decide, by show (1 : Nat) ≤ 1024; decide⟩
theorem toldOne (n d : Bool) (b c : UInt8) : toldV n ⟨#[b]⟩ d ⟨#[c]⟩ = frac n ⟨#[b]⟩ d ⟨#[c]⟩ ∧ toldE ⟨#[b]⟩ ⟨#[c]⟩ = 0 := by
  unfold toldV toldE
  rw [fitsOne]
  exact ⟨rfl, rfl⟩
theorem known_any (w : World) (htab : Lib.TabIs Tryz.prog w "internal/strconv.uint64pow10" .u64 Lib.pow10Tab) :
    Calls Tryz.prog 8 #[] w fun e w' => e = .returned (.bool true) ∧ w.grownBy w' none := by
  obtain ⟨gp, hgp⟩ := pow10_g
  refine known_by w (fun w => ?_) (fun w => ?_) (fun w => ?_) (fun W hg => ftext_sixth W (tab_kept hgp htab hg)) (fun w => near_half w) (fun w => rof_zero w)
  · have h := fsmall_any 1 2 (by decide) (by decide) (by decide) (by decide) (by decide) (n' := false) (s' := b1) (d' := false) (t' := b2) ⟨by rw [show rn 1 2 = 1 by decide]; exact q_half.zn.1, by rw [show rd 1 2 = 2 by decide]; exact q_half.zd.1⟩ w
    rw [(toldOne _ _ _ _).1, (toldOne false false _ _).2] at h
    exact h
  · have h := fsmall_any 2 (-6) (by decide) (by decide) (by decide) (by decide) (by decide) (n' := true) (s' := b1) (d' := false) (t' := b3) ⟨by rw [show rn 2 (-6) = -1 by decide]; exact q_third.zn.1, by rw [show rd 2 (-6) = 3 by decide]; exact q_third.zd.1⟩ w
    rw [(toldOne _ _ _ _).1, (toldOne true false _ _).2] at h
    exact h
  · have h := fadd_any q_half q_third (n' := false) (s' := b1) (d' := false) (t' := b6) ⟨by rw [show rn (1 * 3 + -1 * 2) (2 * 3) = 1 by decide]; exact q_sixth.zn.1, by rw [show rd (1 * 3 + -1 * 2) (2 * 3) = 6 by decide]; exact q_sixth.zd.1⟩ w
    rw [(toldOne _ _ _ _).1, (toldOne false false _ _).2] at h
    exact h
end Go.Proofs.YtgemkfiippooeaaGreatDoor

namespace Go.Proofs.YtgemkfiippooeaaGreatDoor
open Go.RowKit Go.Lib Go.Sort
set_option linter.unusedVariables false

theorem known_in {w : World} (htab : Lib.TabIs Tryz.prog w "internal/strconv.uint64pow10" .u64 Lib.pow10Tab) :
    Hid (∀ W, w.grownBy W none → Calls Tryz.prog 8 #[] W fun e w' => e = .returned (.bool true) ∧ W.grownBy w' none) := by
  obtain ⟨gp, hgp⟩ := pow10_g
  exact fun W hg => known_any W (tab_kept hgp htab hg)
theorem sgn_ne {d : Bool} {t : ByteArray} (hd : may d t = true) (h : num d t ≠ 0) : ¬ sgn d t = 0 := by
  rcases sgn_cases hd with ⟨a, _, c, _⟩ | ⟨a, _, c, _⟩ | ⟨a, _, c, _⟩ <;> omega
theorem zero_of {d : Bool} {t : ByteArray} (hd : may d t = true) (h : num d t = 0) : d = false ∧ t = eS := by
  have h1 := may_isz hd
  rw [h] at h1
  exact whole_inj (h1.one zero_z)
theorem may_is {n : Bool} {s : ByteArray} {b : Bool} (z : s.size ≤ maxLen) (h : may n s = b) (w : World) :
    Calls Tryz.prog 39 #[whole n s] w fun e w' => e = .returned (.bool b) ∧ w.grownBy w' none := by
  have := may_any n s z w
  rw [h] at this
  exact this
theorem fracof_any (n d : Bool) (s t : ByteArray) (z1 : s.size ≤ maxLen) (z2 : t.size ≤ maxLen) (w : World) (htab : Lib.TabIs Tryz.prog w "internal/strconv.uint64pow10" .u64 Lib.pow10Tab) :
    Calls Tryz.prog 5 #[whole n s, whole d t] w fun e w' => e = .returned (.bool true) ∧ w.grownBy w' none := by
  have HK := known_in htab
  by_cases hl : s.size ≤ 3000 ∧ t.size ≤ 3000
  · cases hm : may n s && may d t
    · exact fracof_bad n d (may n s) (may d t) s t hl.1 hl.2 hm (fun w => fof_bad n d s t z1 z2 hm w) (fun w => may_is z1 rfl w) (fun w => may_is z2 rfl w) w HK
    · obtain ⟨m1, m2⟩ : may n s = true ∧ may d t = true := by simpa using hm
      by_cases h0 : num d t = 0
      · obtain ⟨rfl, rfl⟩ := zero_of m2 h0
        exact fracof_zero n false s eS hl.1 hl.2 (fun w => fof_zero m1 w) (fun w => may_is z1 m1 w) (fun w => may_is z2 m2 w) (fun w => rSign_any false eS w) w HK
      · obtain ⟨n', s', d', t', L⟩ := low_ex (num n s) (num d t)
        have k1 := may_sz m1 hl.1
        have k2 := may_sz m2 hl.2
        have hsz := L.size k1 k2
        exact fracof_yes n d _ _ n' d' s t _ _ s' t' _ (sgn d t) (sgn_ne m2 h0) hl.1 hl.2 (fun w => fof_any (k := 3000) (by decide) k1 k2 h0 L w) (fun w => may_is z1 m1 w) (fun w => may_is z2 m2 w) (fun w => rSign_any d t w) (fun w => rof_any (k := 3000) (by decide) k1 k2 h0 L w) (fun w => told_yes n' d' s' t' (by unfold maxLen; omega) (by unfold maxLen; omega) w) w HK
  · exact fracof_long n d s t z1 z2 hl w HK
end Go.Proofs.YtgemkfiippooeaaGreatDoor
