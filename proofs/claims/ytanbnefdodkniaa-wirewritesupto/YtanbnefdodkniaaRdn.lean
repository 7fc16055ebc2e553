/-
  What wire.Open makes, and what a reader's Number answers and where it stands then.
-/
import Derived.Test.YtanbnefdodkniaaRdr
namespace Go.Proofs.Ytanbnefdodkniaa
open Go.RowKit Go.Lib Go.Sort

theorem rdN_count : ∀ (l : List Int) (n i : Nat), (rdN n i l).2.1 ≤ i + l.length
  | [], _, _ => by simp [rdN]
  | b :: bs, n, i => by
    simp only [rdN]
    split
    · simp
    · split
      · simp
      · have := rdN_count bs (n * 128 + (b % 128).toNat) (i + 1)
        simp; omega
theorem rdN_code : ∀ (l : List Int) (n i : Nat), (rdN n i l).2.2 = 0 ∧ 0 < (rdN n i l).2.1 ∨ ((rdN n i l).2.2 = 110 ∨ (rdN n i l).2.2 = 111) ∧ (rdN n i l).2.1 = 0
  | [], _, _ => by simp [rdN]
  | b :: bs, n, i => by
    simp only [rdN]
    split
    · simp
    · split
      · simp
      · exact rdN_code bs _ _
theorem rdN_val : ∀ (l : List Int) (n i : Nat), n < 18446744073709551616 → (rdN n i l).1 < 18446744073709551616
  | [], _, _, h => by simpa [rdN] using h
  | b :: bs, n, i, h => by
    simp only [rdN]
    split
    · simpa using h
    · rename_i hb
      split
      · simp; omega
      · exact rdN_val bs _ _ (by omega)

/-- A method of a reader (function f): it answers x and the error e, and goes from k to j; all else stays. -/
def Reads (f : Nat) (w : World) (rb : Nat) (v : Value) (L : List Int) (j : Nat) (x : Value) (e : Nat) : Prop :=
  Calls Try.prog f #[rp rb] w fun en w' => en = .returned (.tuple #[x, .int .i64 e]) ∧ Rdr w' rb v L j ∧ w.grownBy w' (some rb)
theorem Reads.out {f : Nat} {w : World} {rb : Nat} {v : Value} {L : List Int} {j : Nat} {x : Value} {e : Nat} (h : Reads f w rb v L j x e) :
  Calls Try.prog f #[rp rb] w fun en w' => en = .returned (.tuple #[x, .int .i64 e]) ∧ Rdr w' rb v L j ∧ w.grownBy w' (some rb) := h

/-- The unexported method. -/
theorem rd_number (w : World) (rb : Nat) (v : Value) (L : List Int) (k : Nat) (h : Rdr w rb v L k) :
    Reads 75 w rb v L (k + (rdN 0 0 (L.drop k)).2.1) (.int .u64 (rdN 0 0 (L.drop k)).1) (rdN 0 0 (L.drop k)).2.2 := by
  have hg0 := World.grownBy.refl w (some rb)
  by_cases hk : k < L.length
  · refine (number_more w rb v L k h hk).mono ?_
    rintro e w' ⟨rfl, n, hw⟩
    refine ⟨rfl, ?_⟩
    have hc := rdN_count (L.drop k) 0 0
    rw [List.length_drop] at hc
    rcases hw with ⟨rfl, h0⟩ | rfl
    · rw [h0]; exact ⟨h.drewN n, grownBy_drewN hg0 n⟩
    · exact ⟨(h.drewN n).put _ (by omega), grownBy_trans (grownBy_drewN hg0 n) (grownBy_setCell _ _ _ _)⟩
  · have e0 : k = L.length := by have := h.le; omega
    have e1 : rdN 0 0 (L.drop k) = (0, 0, 110) := by rw [List.drop_eq_nil_of_le (by omega)]; rfl
    refine (number_end w rb v L k h e0).mono ?_
    rintro e w' ⟨rfl, n, rfl⟩
    rw [e1]
    exact ⟨rfl, h.drewN n, grownBy_drewN hg0 n⟩

theorem Rdr.back {w w' : World} {rb : Nat} {v : Value} {L : List Int} {j k : Nat} (h : Rdr w' rb v L j) (hg : w.grownBy w' (some rb)) (hk : k ≤ L.length) :
    Rdr (w'.setCell ⟨rb, 1, none⟩ (.int .i64 k)) rb v L k ∧ w.grownBy (w'.setCell ⟨rb, 1, none⟩ (.int .i64 k)) (some rb) :=
  ⟨h.put k hk, grownBy_trans hg (grownBy_setCell _ _ _ _)⟩

set_option maxHeartbeats 1600000 in
set_option maxRecDepth 1000000 in
theorem Number_ok (w : World) (rb : Nat) (v : Value) (L : List Int) (k j n : Nat) (h : Rdr w rb v L k) (H : Reads 75 w rb v L j (.int .u64 n) 0) : Reads 36 w rb v L j (.int .u64 n) 0 := by
  have h1 := h.c1
  have h2 := h.c2
  go_enter Try.func36, Try.ntmps36
  go_wp2_with (first | (go_at_call 75; refine H.out.mono ?_; rintro e w' ⟨rfl, hr, hg⟩) | go_in)
  go_ret2
  exact ⟨rfl, hr, hg⟩
set_option maxHeartbeats 1600000 in
set_option maxRecDepth 1000000 in
theorem Number_no (w : World) (rb : Nat) (v : Value) (L : List Int) (k j n e : Nat) (h : Rdr w rb v L k) (he : e ≠ 0) (H : Reads 75 w rb v L j (.int .u64 n) e) : Reads 36 w rb v L k (.int .u64 0) e := by
  have h1 := h.c1
  have h2 := h.c2
  have hne : ((e : Int) == 0) = false := by simpa using he
  go_enter Try.func36, Try.ntmps36
  go_wp2_with (first | (go_at_call 75; refine H.out.mono ?_; rintro e w' ⟨rfl, hr, hg⟩; have hr1 := hr.fr 1; have hr0 := hr.c1) | go_in)
  go_ret2
  exact ⟨rfl, hr.back hg h.le⟩
/-- The exported one. -/
theorem Number_any (w : World) (rb : Nat) (v : Value) (L : List Int) (k : Nat) (h : Rdr w rb v L k) :
    Reads 36 w rb v L (k + (rdN 0 0 (L.drop k)).2.1) (.int .u64 (if (rdN 0 0 (L.drop k)).2.2 = 0 then (rdN 0 0 (L.drop k)).1 else 0 : Nat)) (rdN 0 0 (L.drop k)).2.2 := by
  have H := rd_number w rb v L k h
  have hc := rdN_code (L.drop k) 0 0
  revert H hc
  generalize rdN 0 0 (L.drop k) = r
  obtain ⟨n, c, e⟩ := r
  intro H hc
  simp only [] at H hc ⊢
  by_cases he : e = 0
  · subst he; exact Number_ok w rb v L k _ n h H
  · obtain rfl : c = 0 := by omega
    rw [if_neg he]
    exact Number_no w rb v L k _ n e h he H
end Go.Proofs.Ytanbnefdodkniaa
