/-
  The document's letter and filled.
-/
import Derived.Test.YtkimgmgafkihaaaDoorNxb
namespace Go.Proofs.YtkimgmgafkihaaaDoor
open Go.RowKit Go.Lib Go.Sort
set_option linter.unusedVariables false
set_option linter.unusedSimpArgs false
set_option maxHeartbeats 1600000
set_option maxRecDepth 1000000
def lett (p : Nat) : Int := if p % 2 = 0 then (p / 2 : Nat) + 1 else -((p / 2 : Nat) + 1)
theorem letter_any (p : Nat) (h : p ≤ 1000) (w : World) : Calls Tryd.prog 21 #[.int .i64 (p : Int)] w fun e w' => e = .returned (.int .i64 (lett p)) ∧ w' = w := by
  have h1 : Int.tmod (p : Int) 2 = ((p % 2 : Nat) : Int) := by rw [Int.tmod_eq_emod_of_nonneg (by omega)]; omega
  have h2 : Int.tdiv (p : Int) 2 = ((p / 2 : Nat) : Int) := by simp
  have hw0 : IntKind.i64.wrap ((p % 2 : Nat) : Int) = ((p % 2 : Nat) : Int) := by rw [IntKind.wrap_i64]; omega
  have hw1 : IntKind.i64.wrap ((p / 2 : Nat) : Int) = ((p / 2 : Nat) : Int) := by rw [IntKind.wrap_i64]; omega
  have hw2 : IntKind.i64.wrap (((p / 2 : Nat) : Int) + 1) = ((p / 2 : Nat) : Int) + 1 := by rw [IntKind.wrap_i64]; omega
  have hw3 : IntKind.i64.wrap (-(((p / 2 : Nat) : Int) + 1)) = -(((p / 2 : Nat) : Int) + 1) := by rw [IntKind.wrap_i64]; omega
  unfold lett
  by_cases h0 : p % 2 = 0
  · rw [if_pos h0]
    rw [h0] at h1
    go_enter Tryd.func21, Tryd.ntmps21
    go_wp2_with fail
    go_ret
    exact ⟨rfl, rfl⟩
  · rw [if_neg h0]
    obtain h0 : p % 2 = 1 := by omega
    rw [h0] at h1
    go_enter Tryd.func21, Tryd.ntmps21
    go_wp2_with fail
    go_ret
    exact ⟨rfl, rfl⟩
theorem fill_prev (W : List Int) (o i : Nat) (f : Int) (hi : o < i) (hn : i ≤ W.length) : (W.take o ++ List.replicate (i - o) f ++ W.drop i)[i - 1]?.getD 0 = f := by
  rw [List.append_assoc, List.getElem?_append_right (by simp; omega), List.getElem?_append_left (by simp; omega)]
  simp
  rw [List.getElem?_replicate, if_pos (by omega)]
  rfl
theorem fill_prev0 (W : List Int) (o : Nat) (f : Int) (h0 : 0 < o) (hn : o ≤ W.length) : (W.take o ++ List.replicate (o - o) f ++ W.drop o)[o - 1]?.getD 0 = W[o - 1]?.getD 0 := by
  rw [Nat.sub_self, List.replicate_zero, List.append_nil, List.take_append_drop]
def flL (W : List Int) (o : Nat) : Int := if 0 < o ∧ W[o - 1]?.getD 0 = -1 then -1 else 1
theorem flL_cases (W : List Int) (o : Nat) : flL W o = -1 ∨ flL W o = 1 := by unfold flL; split; exact .inl rfl; exact .inr rfl
theorem fill_z (W : List Int) (o i : Nat) (h0 : 0 < i) (hi : o ≤ i) (hn : i ≤ W.length) : ((W.take o ++ List.replicate (i - o) (flL W o) ++ W.drop i)[i - 1]?.getD 0 = -1) ↔ flL W o = -1 := by
  by_cases h : o < i
  · rw [fill_prev W o i _ h hn]
  · obtain rfl : o = i := by omega
    rw [fill_prev0 W o _ h0 hn]
    unfold flL
    constructor
    · intro e; rw [if_pos ⟨h0, e⟩]
    · intro e
      split at e
      · next hc => exact hc.2
      · cases e
theorem filled_own (w : World) (base g n c off : Nat) (W : List Int) (hn : n = W.length) (hO : Own w base (.slice (some ⟨g, 0, none⟩) n c) W) (ho : off ≤ n) (hnc : n ≤ 1000000) (hc : n ≤ c) :
    Calls Tryd.prog 22 #[.slice (some ⟨g, 0, none⟩) n c, .int .i64 (off : Int)] w fun e w' => e = .returned (.slice (some ⟨g, 0, none⟩) n c) ∧ Own w' base (.slice (some ⟨g, 0, none⟩) n c) (W.take off ++ List.replicate (n - off) (flL W off)) ∧ w.grownBy w' (some g) := by
  have HN : Unit → W.length = n := fun _ => hn.symm
  have HO0 : Hid (Own w base (.slice (some ⟨g, 0, none⟩) n c) W) := hO
  have hnI : (n : Int) ≤ 1000000 := by omega
  clear hO hn
  have HZ : Hid (∀ i, 0 < i → off ≤ i → i ≤ n → (((W.take off ++ List.replicate (i - off) (flL W off) ++ W.drop i)[i - 1]?.getD 0 = -1) ↔ flL W off = -1)) := fun i h0 h1 h2 => fill_z W off i h0 h1 (by rw [HN ()]; exact h2)
  have HF0 : Hid (off = 0 → flL W off = 1) := fun h => by unfold flL; rw [if_neg (fun x => by omega)]
  have HF1 : Hid (flL W off = -1 ∨ flL W off = 1) := flL_cases W off
  obtain ⟨f, hf⟩ : ∃ f, flL W off = f := ⟨_, rfl⟩
  rw [hf] at HZ HF0 HF1
  rw [hf]
  clear hf
  go_enter Tryd.func22, Tryd.ntmps22
  go_wp2_with fail
  go_loopw [5] (fun s wr => ∃ i : Nat, off ≤ i ∧ i ≤ n ∧ s = .int .i64 (i : Int) ∧ Own wr base (.slice (some ⟨g, 0, none⟩) n c) (W.take off ++ List.replicate (i - off) f ++ W.drop i) ∧ w.grownBy wr (some g)) (fun s _ => match s with | .int _ i => n - i.toNat | _ => 0)
  case atStart => exact ⟨off, by omega, ho, rfl, by simpa using HO0.out, World.grownBy.refl _ _⟩
  case round =>
    obtain ⟨i, hoi, hi, rfl, hO, hG⟩ := hrel
    have HG : Hid (w.grownBy wr (some g)) := hG
    have HO : Hid (Own wr base (.slice (some ⟨g, 0, none⟩) n c) (W.take off ++ List.replicate (i - off) f ++ W.drop i)) := hO
    clear hO hG
    by_cases hlt : i < n
    · have hltI : (i : Int) < n := by omega
      have HK : Hid ((W.take off ++ List.replicate (i - off) f ++ W.drop i).length = n ∧ (W.take off ++ List.replicate (i - off) f ++ W.drop i).set i f = W.take off ++ List.replicate (i + 1 - off) f ++ W.drop (i + 1)) := by
        refine ⟨by have := HN (); simp; omega, ?_⟩
        have := set_rep W off (i - off) (n - off) f (by have := HN (); omega) (by omega)
        rw [show off + (i - off) = i by omega, show i - off + 1 = i + 1 - off by omega, show off + (i + 1 - off) = i + 1 by omega] at this
        exact this
      have HZ2 : Hid (0 < i → (((W.take off ++ List.replicate (i - off) f ++ W.drop i)[i - 1]?.getD 0 = -1) ↔ f = -1)) := fun h => HZ.out i h hoi hi
      obtain ⟨K, hK⟩ : ∃ K, W.take off ++ List.replicate (i - off) f ++ W.drop i = K := ⟨_, rfl⟩
      rw [hK] at HO HK HZ2
      clear hK
      have c1 := HO.out.cell i (by rw [HK.out.1]; exact hlt)
      have f1 := HO.out.frozen i
      have HO1 : Hid (Own (wr.setCell ⟨g, i, none⟩ (.int .i64 1)) base (.slice (some ⟨g, 0, none⟩) n c) (K.set i 1)) := HO.out.set i 1
      by_cases h0 : 0 < i
      · obtain ⟨q, hq⟩ : ∃ q, i - 1 = q := ⟨_, rfl⟩
        have hwq : IntKind.i64.wrap ((i : Int) - 1) = (q : Int) := by rw [IntKind.wrap_i64]; omega
        have hqI : (q : Int) < n := by omega
        have hiq : i ≠ q := by omega
        have c2 : (wr.setCell ⟨g, i, none⟩ (.int .i64 1)).cell? ⟨g, q, none⟩ = some (.int .i64 (K[q]?.getD 0)) := by
          have := HO1.out.cell q (by rw [List.length_set, HK.out.1]; omega)
          rw [getD_set _ _ _ _ (by rw [HK.out.1]; exact hlt), if_neg hiq] at this
          exact this
        have f2 := HO1.out.frozen i
        have hz := HZ2.out h0
        rw [hq] at hz
        obtain ⟨z, hzz⟩ : ∃ z, K[q]?.getD 0 = z := ⟨_, rfl⟩
        rw [hzz] at hz c2
        have HZ3 : Hid (z = -1 ↔ f = -1) := hz
        clear hz hzz hq
        have hb0 : decide (0 < (i : Int)) = true := decide_eq_true (by omega)
        by_cases hz1 : z = -1
        · have HFm : Hid (f = -1) := HZ3.out.1 hz1
          subst hz1
          have HO2 : Hid (Own ((wr.setCell ⟨g, i, none⟩ (.int .i64 1)).setCell ⟨g, i, none⟩ (.int .i64 (-1))) base (.slice (some ⟨g, 0, none⟩) n c) (W.take off ++ List.replicate (i + 1 - off) f ++ W.drop (i + 1))) := by
            have := HO1.out.set i (-1)
            rw [List.set_set] at this
            rw [← HK.out.2, HFm.out]
            exact this
          go_wp2_with fail
          go_roundw
          case rel => exact ⟨i + 1, by omega, by omega, num_eq (by omega), HO2.out, grownBy_trans HG.out (grownBy_trans (grownBy_setCell _ _ _ _) (grownBy_setCell _ _ _ _))⟩
          case measure => simp; omega
        · have hz2 : (z == -1) = false := by simpa using hz1
          have HO2 : Hid (Own (wr.setCell ⟨g, i, none⟩ (.int .i64 1)) base (.slice (some ⟨g, 0, none⟩) n c) (W.take off ++ List.replicate (i + 1 - off) f ++ W.drop (i + 1))) := by
            have h1 : f = 1 := by rcases HF1.out with h | h; exact absurd (HZ3.out.2 h) hz1; exact h
            have := HO1.out
            rw [← HK.out.2, h1]
            exact this
          go_wp2_with fail
          go_roundw
          case rel => exact ⟨i + 1, by omega, by omega, num_eq (by omega), HO2.out, grownBy_trans HG.out (grownBy_setCell _ _ _ _)⟩
          case measure => simp; omega
      · have hb0 : decide (0 < (i : Int)) = false := decide_eq_false (by omega)
        have HO2 : Hid (Own (wr.setCell ⟨g, i, none⟩ (.int .i64 1)) base (.slice (some ⟨g, 0, none⟩) n c) (W.take off ++ List.replicate (i + 1 - off) f ++ W.drop (i + 1))) := by
          have h1 : f = 1 := HF0.out (by omega)
          have := HO1.out
          rw [← HK.out.2, h1]
          exact this
        go_wp2_with fail
        go_roundw
        case rel => exact ⟨i + 1, by omega, by omega, num_eq (by omega), HO2.out, grownBy_trans HG.out (grownBy_setCell _ _ _ _)⟩
        case measure => simp; omega
    · have hltI : ¬ (i : Int) < n := by omega
      have HE : Hid (Own wr base (.slice (some ⟨g, 0, none⟩) n c) (W.take off ++ List.replicate (n - off) f)) := by
        have h := HO.out
        obtain rfl : i = n := by omega
        rw [show W.drop i = [] by rw [← HN (), List.drop_length], List.append_nil] at h
        exact h
      go_wp2_with fail
      go_ret
      exact ⟨rfl, HE.out, HG.out⟩
end Go.Proofs.YtkimgmgafkihaaaDoor
