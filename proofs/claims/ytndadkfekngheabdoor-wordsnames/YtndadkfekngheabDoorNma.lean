/-
  WordsNames' calls: words as long as may be, and one letter more.
-/
import Derived.Test.YtndadkfekngheabDoorTld
import Derived.Test.YtndadkfekngheabDoorRoo
namespace Go.Proofs.YtndadkfekngheabDoor
open Go.RowKit Go.Lib Go.Sort
set_option linter.unusedVariables false
set_option linter.unusedSimpArgs false
def ons (n : Nat) : List Int := List.replicate n 1
theorem ons_len (n : Nat) : (ons n).length = n := by unfold ons; simp
theorem ons_any (n : Nat) : (ons n).any noL = false := by
  rw [List.any_eq_false]
  intro x hx
  obtain rfl := (List.mem_replicate.1 hx).2
  decide
theorem ons_at (n i : Nat) (h : i < n) : (ons n)[i]?.getD 0 = 1 := by unfold ons; simp [h]
theorem ons_red (n : Nat) : Red (ons n) := fun i hi => by
  rw [ons_len] at hi
  rw [ons_at n i (by omega), ons_at n (i + 1) hi]
  decide
theorem ons_snoc (n : Nat) : ons n ++ [1] = ons (n + 1) := by
  unfold ons
  rw [List.replicate_succ']
theorem chk_ons (n : Nat) : chk [ons n] = if 4096 < n then 3 else 0 := by
  unfold chk
  simp only [List.any_cons, List.any_nil, Bool.or_false, ons_any, ons_len]
  by_cases h : 4096 < n <;> simp [h]
theorem n_short (w : World) (v : Value) (n : Nat) (h : Ints w v (ons n)) (hn : n = 4096) : Calls Tryd.prog 4 #[v] w fun e w' => ∃ ab c, e = .returned (.tuple #[.slice ab n c, .int .i64 0]) ∧ w.grownBy w' none := by
  refine (short_top w v (ons n) h (by rw [ons_len]; omega)).mono ?_
  rintro e w' ⟨hg, v', rfl, hF⟩
  have e0 : chk [ons n] = 0 := by rw [chk_ons, if_neg (by omega)]
  rw [e0, if_pos rfl, sh_red (ons_red n)] at hF
  obtain ⟨ab, c, rfl⟩ := hF.form
  rw [e0, ons_len]
  exact ⟨ab, c, rfl, hg⟩
theorem n_long (w : World) (v : Value) (n : Nat) (h : Ints w v (ons n)) (hn : n = 4097) : Calls Tryd.prog 4 #[v] w fun e w' => ∃ v', e = .returned (.tuple #[v', .int .i64 3]) ∧ w.grownBy w' none := by
  refine (short_top w v (ons n) h (by rw [ons_len]; omega)).mono ?_
  rintro e w' ⟨hg, v', rfl, hF⟩
  have e0 : chk [ons n] = 3 := by rw [chk_ons, if_pos (by omega)]
  rw [e0]
  exact ⟨v', rfl, hg⟩
theorem n_mul (w : World) (v u : Value) (n : Nat) (hv : Ints w v (ons n)) (hu : Ints w u [1]) (hn : n = 4096) : Calls Tryd.prog 5 #[.slice (some ⟨w.heap.size, 0, none⟩) 2 2] (w.alloc (.cells #[v, u] 22)) fun e w' => ∃ v', e = .returned (.tuple #[v', .int .i64 3]) ∧ w.grownBy w' none := by
  refine (mul_top _ _ [ons n, [1]] (intsL2 hv hu) (by simp) (by intro L hL; simp at hL; rcases hL with rfl | rfl <;> simp [ons_len]; omega)).mono ?_
  rintro e w' ⟨hg, v', rfl, hF⟩
  have e0 : chk [ons n, [1]] = 0 := by
    unfold chk
    have e1 : List.any [(1 : Int)] noL = false := by decide
    simp only [List.any_cons, List.any_nil, Bool.or_false, ons_any, ons_len]
    have e2 : noL 1 = false := by decide
    simp [e2]
    omega
  have e3 : mulE [ons n, [1]] = 3 := by
    unfold mulE tldE
    have : [ons n, [1]].flatten = ons (n + 1) := by simp [ons_snoc]
    rw [if_pos e0, this, sh_red (ons_red _), ons_len, if_pos (by omega)]
  rw [e3]
  exact ⟨v', rfl, grownBy_trans (grow1 _ _) hg⟩
theorem n_mul2 (w : World) (v u : Value) (n : Nat) (hv : Ints w v (ons n)) (hu : Ints w u [0]) (hn : n = 4097) : Calls Tryd.prog 5 #[.slice (some ⟨w.heap.size, 0, none⟩) 2 2] (w.alloc (.cells #[v, u] 22)) fun e w' => ∃ v', e = .returned (.tuple #[v', .int .i64 2]) ∧ w.grownBy w' none := by
  refine (mul_top _ _ [ons n, [0]] (intsL2 hv hu) (by simp) (by intro L hL; simp at hL; rcases hL with rfl | rfl <;> simp [ons_len]; omega)).mono ?_
  rintro e w' ⟨hg, v', rfl, hF⟩
  have e0 : chk [ons n, [0]] = 2 := by
    unfold chk
    have e2 : noL 0 = true := by decide
    simp [e2]
  have e3 : mulE [ons n, [0]] = 2 := by
    unfold mulE
    rw [if_neg (by rw [e0]; decide), e0]
  rw [e3]
  exact ⟨v', rfl, grownBy_trans (grow1 _ _) hg⟩
theorem cut_one : Cut (sh [1]) 0 := ⟨fun k hk => by omega, by decide⟩
theorem cut_none : Cut (sh [1, -1]) 0 := ⟨fun k hk => by omega, by decide⟩
theorem n_pow (w : World) (v : Value) (h : Ints w v [1]) : Calls Tryd.prog 6 #[v, .int .i64 (-9223372036854775808)] w fun e w' => ∃ v', e = .returned (.tuple #[v', .int .i64 3]) ∧ w.grownBy w' none := by
  refine (pow_top w v [1] (-9223372036854775808) h (by simp)).mono ?_
  rintro e w' ⟨hg, v', e2, rfl, h⟩
  rcases h with ⟨h, _⟩ | ⟨m, _, hc, he, hf⟩
  · exact absurd (show chk [[1]] = 0 by decide) h
  · obtain rfl := hc.uniq cut_one
    obtain rfl : e2 = 3 := he.trans (by decide)
    exact ⟨v', rfl, hg⟩
theorem n_pow2 (w : World) (v : Value) (h : Ints w v [1, -1]) : Calls Tryd.prog 6 #[v, .int .i64 4611686018427387904] w fun e w' => ∃ ab c, e = .returned (.tuple #[.slice ab 0 c, .int .i64 0]) ∧ w.grownBy w' none := by
  refine (pow_top w v [1, -1] 4611686018427387904 h (by simp)).mono ?_
  rintro e w' ⟨hg, v', e2, rfl, h⟩
  rcases h with ⟨h, _⟩ | ⟨m, _, hc, he, hf⟩
  · exact absurd (show chk [[1, -1]] = 0 by decide) h
  · obtain rfl := hc.uniq cut_none
    obtain rfl : e2 = 0 := he.trans (by decide)
    have e0 : pwL (coreOf (sh [1, -1]) 0) (byOf (sh [1, -1]) 0) 4611686018427387904 = [] := by
      unfold pwL
      rw [if_pos (.inr (by decide))]
    rw [if_pos rfl, e0] at hf
    obtain ⟨ab, c, rfl⟩ := hf.form
    exact ⟨ab, c, rfl, hg⟩
end Go.Proofs.YtndadkfekngheabDoor
