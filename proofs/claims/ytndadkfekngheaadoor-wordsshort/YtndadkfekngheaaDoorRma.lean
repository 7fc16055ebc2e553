/-
  Cores and roots: of lists alone.
-/
import Derived.Test.YtndadkfekngheaaDoorRtm
namespace Go.Proofs.YtndadkfekngheaaDoor
open Go.RowKit Go.Lib Go.Sort
set_option linter.unusedVariables false
set_option linter.unusedSimpArgs false

theorem inv_inv (L : List Int) : inv (inv L) = L := by
  unfold inv
  rw [List.map_reverse, List.reverse_reverse, List.map_map]
  have e : ((fun k : Int => -k) ∘ fun k => -k) = id := by
    funext k
    simp [Function.comp]
  rw [e, List.map_id]
theorem inv_at (L : List Int) (i : Nat) (h : i < L.length) : (inv L)[i]?.getD 0 = -(L[L.length - 1 - i]?.getD 0) := by
  unfold inv
  rw [List.getElem?_reverse (by simpa using h), List.getElem?_map, List.length_map, List.getElem?_eq_getElem (by omega)]
  rfl
/-- What is cut off ahead is what the core is brought by, turned round. -/
theorem cut_inv {S : List Int} {m : Nat} (h : Cut S m) : inv (S.take m) = byOf S m := by
  have hle := h.le
  apply same_prefix (by rw [inv_len, byOf_len S m hle, List.length_take]; omega)
  intro j hj
  have hj' : j < m := by rw [inv_len, List.length_take] at hj; omega
  have hl : (S.take m).length = m := by rw [List.length_take]; omega
  rw [inv_at _ _ (by rw [hl]; exact hj'), hl, List.getElem?_take, if_pos (by omega)]
  unfold byOf
  rw [List.getElem?_drop]
  have := (h.1 (m - 1 - j) (by omega)).2
  rw [show S.length - 1 - (m - 1 - j) = S.length - m + j by omega] at this
  omega
theorem cut_parts {S : List Int} {m : Nat} (h : Cut S m) : inv (byOf S m) ++ coreOf S m ++ byOf S m = S := by
  rw [← cut_inv h, inv_inv, cut_inv h]
  have hle := h.le
  unfold coreOf byOf
  rw [List.append_assoc]
  have e : (S.drop m).take (S.length - 2 * m) ++ S.drop (S.length - m) = S.drop m := by
    have := List.take_append_drop (S.length - 2 * m) (S.drop m)
    rw [List.drop_drop, show m + (S.length - 2 * m) = S.length - m by omega] at this
    exact this
  rw [e, List.take_append_drop]
/-- Short: no two that follow each other cancel. -/
def Red (S : List Int) : Prop := ∀ i, i + 1 < S.length → S[i]?.getD 0 + S[i + 1]?.getD 0 ≠ 0
theorem red_push {l : List Int} {k : Int} (h : Red l) : Red (push l k) := by
  unfold push
  split
  · intro i hi
    simp at hi
  · rename_i h0
    split
    · intro i hi
      rw [List.length_take] at hi
      rw [List.getElem?_take, if_pos (by omega), List.getElem?_take, if_pos (by omega)]
      exact h i (by omega)
    · rename_i h1
      intro i hi
      rw [List.length_append] at hi
      have hi2 : i + 1 < l.length + 1 := by simpa using hi
      rcases Nat.lt_or_ge (i + 1) l.length with e | e
      · rw [List.getElem?_append_left (by omega), List.getElem?_append_left e]
        exact h i e
      · obtain rfl : i = l.length - 1 := by omega
        rw [List.getElem?_append_left (by omega), show l.length - 1 + 1 = l.length by omega, List.getElem?_append_right (Nat.le_refl _)]
        simpa using h1
theorem red_sh (L : List Int) : Red (sh L) :=
  snoc_ind (P := fun L => Red (sh L)) (by intro i hi; simp [sh] at hi) (fun L k ih => by
    show Red (sh (L ++ [k]))
    rw [sh_snoc]
    exact red_push ih) L
theorem core_pos {S : List Int} {m : Nat} (h : Cut S m) (hr : Red S) (h0 : 0 < S.length) : 0 < (coreOf S m).length := by
  have hle := h.le
  rw [coreOf_len S m hle]
  rcases Nat.eq_zero_or_pos m with e | e
  · omega
  · have h1 := (h.1 (m - 1) (by omega)).2
    rcases Nat.lt_or_ge (2 * m) S.length with e2 | e2
    · omega
    · exfalso
      have := hr (m - 1) (by omega)
      rw [show S.length - 1 - (m - 1) = m - 1 + 1 by omega] at h1
      exact this h1
/-- A row of beginnings. -/
theorem per_rp {C : List Int} {n : Nat} (hn : n ∣ C.length) (h0 : 0 < n) : Per C (C.length / n) ↔ C = rp (C.take (C.length / n)) n := by
  obtain ⟨d, hd⟩ := hn
  have hq : C.length / n = d := by rw [hd, Nat.mul_div_cancel_left d h0]
  rw [hq]
  have hdl : d ≤ C.length := by rw [hd]; exact Nat.le_mul_of_pos_left d h0
  have hl : (C.take d).length = d := by rw [List.length_take]; omega
  constructor
  · intro hp
    apply same_prefix (by rw [rp_len, hl, hd, Nat.mul_comm])
    intro j hj
    rw [rp_at _ _ _ (by rw [hl, Nat.mul_comm, ← hd]; exact hj), hl]
    rcases Nat.eq_zero_or_pos d with e | e
    · rw [hd, e] at hj; omega
    · rw [List.getElem?_take, if_pos (Nat.mod_lt _ e)]
      have key : ∀ q r, r + q * d < C.length → C[r + q * d]?.getD 0 = C[r]?.getD 0 := by
        intro q
        induction q with
        | zero => intro r _; simp
        | succ q ih =>
          intro r hr
          rw [Nat.succ_mul, ← Nat.add_assoc] at hr ⊢
          rw [← hp _ hr, ih r (by omega)]
      have := key (j / d) (j % d) (by rw [Nat.mul_comm, Nat.mod_add_div]; exact hj)
      rw [Nat.mul_comm, Nat.mod_add_div] at this
      exact this
  · intro he j hj
    have h1 : ∀ i, i < C.length → C[i]?.getD 0 = (C.take d)[i % d]?.getD 0 := by
      intro i hi
      have := rp_at (C.take d) n i (by rw [hl, Nat.mul_comm, ← hd]; exact hi)
      rw [← he, hl] at this
      exact this
    rw [h1 j (by omega), h1 (j + d) hj, Nat.add_mod_right]
/-- What times answers of such a row is the whole just if the beginning is a period. -/
theorem times_back {B C : List Int} {n m' q : Nat} {X : List Int} (hn2 : 2 ≤ n) (hnd : n ∣ C.length) (hC : 0 < C.length) (hX : X = inv B ++ C.take (C.length / n) ++ B) (hcut : Cut X m') (hq : q ≤ n)
    (he : inv (inv (X.take m')) ++ rp (coreOf X m') q ++ inv (X.take m') = inv B ++ C ++ B) : C = rp (C.take (C.length / n)) n := by
  obtain ⟨d, hd⟩ := hnd
  have hqd : C.length / n = d := by rw [hd, Nat.mul_div_cancel_left d (by omega)]
  rw [hqd] at hX ⊢
  have hdl : d ≤ C.length := by rw [hd]; exact Nat.le_mul_of_pos_left d (by omega)
  have hd0 : 0 < d := by
    rcases Nat.eq_zero_or_pos d with e | e
    · rw [hd, e] at hC; simp at hC
    · exact e
  have hl : (C.take d).length = d := by rw [List.length_take]; omega
  have hXl : X.length = 2 * B.length + d := by rw [hX, List.length_append, List.length_append, inv_len, hl]; omega
  have hle := hcut.le
  have hB : B.length ≤ m' := by
    rcases Nat.lt_or_ge m' B.length with h | h
    · exfalso
      apply hcut.2
      refine ⟨by omega, ?_⟩
      rw [hXl, hX]
      rw [List.getElem?_append_left (by rw [List.length_append, inv_len]; omega), List.getElem?_append_left (by rw [inv_len]; omega), inv_at _ _ h, List.getElem?_append_right (by rw [List.length_append, inv_len, hl]; omega), List.length_append, inv_len, hl, show 2 * B.length + d - 1 - m' - (B.length + d) = B.length - 1 - m' by omega]
      omega
    · exact h
  have hlen := congrArg List.length he
  have hcl := coreOf_len X m' hle
  have htl : (X.take m').length = m' := by rw [List.length_take]; omega
  rw [List.length_append, List.length_append, List.length_append, List.length_append, inv_len, inv_len, htl, rp_len, hcl, hXl, inv_len, hd] at hlen
  have hmB : m' = B.length := by
    rcases Nat.lt_or_ge B.length m' with h | h
    · exfalso
      obtain ⟨t, ht⟩ : ∃ t, m' = B.length + t := ⟨m' - B.length, by omega⟩
      have ht0 : 0 < t := by omega
      have h2t : 2 * t ≤ d := by omega
      obtain ⟨s, hs⟩ : ∃ s, d = 2 * t + s := ⟨d - 2 * t, by omega⟩
      rw [ht, hs, show 2 * B.length + (2 * t + s) - 2 * (B.length + t) = s by omega] at hlen
      have h3 : s * q ≤ s * n := Nat.mul_le_mul_left s hq
      have h4 : n * (2 * t + s) = n * (2 * t) + s * n := by rw [Nat.mul_add, Nat.mul_comm n s]
      have h5 : 2 * (2 * t) ≤ n * (2 * t) := Nat.mul_le_mul_right _ hn2
      omega
    · omega
  subst hmB
  have hqn : q = n := by
    rw [show 2 * B.length + d - 2 * B.length = d by omega] at hlen
    have h1 : d * q = n * d := by omega
    rw [Nat.mul_comm n d] at h1
    exact Nat.eq_of_mul_eq_mul_left hd0 h1
  subst hqn
  have hco : coreOf X B.length = C.take d := by
    unfold coreOf
    rw [hXl, show 2 * B.length + d - 2 * B.length = d by omega, hX, List.append_assoc, List.drop_left' (inv_len B), List.take_left' hl]
  have htk : X.take B.length = inv B := by
    rw [hX, List.append_assoc, List.take_left' (inv_len B)]
  rw [hco, htk, inv_inv] at he
  have he2 : inv B ++ (rp (C.take d) q ++ B) = inv B ++ (C ++ B) := by
    rw [inv_inv] at he
    rw [← List.append_assoc, ← List.append_assoc]
    exact he
  exact (List.append_cancel_right (List.append_cancel_left he2)).symm
theorem times_fwd {B C : List Int} {n m' q : Nat} {X : List Int} (hn2 : 2 ≤ n) (hnd : n ∣ C.length) (hC : 0 < C.length) (hrd : ¬ (1 < C.length ∧ C[0]?.getD 0 + C[C.length - 1]?.getD 0 = 0)) (hX : X = inv B ++ C.take (C.length / n) ++ B) (hcut : Cut X m') (hq : q ≤ n)
    (hq2 : q = n ∨ (coreOf X m').length = 0 ∨ 8192 < (inv (inv (X.take m')) ++ rp (coreOf X m') q).length) (hlen : (inv B ++ C ++ B).length ≤ 4096) (hp : C = rp (C.take (C.length / n)) n) :
    inv (inv (X.take m')) ++ rp (coreOf X m') q ++ inv (X.take m') = inv B ++ C ++ B := by
  obtain ⟨d, hd⟩ := hnd
  have hqd : C.length / n = d := by rw [hd, Nat.mul_div_cancel_left d (by omega)]
  rw [hqd] at hX hp
  have hdl : d ≤ C.length := by rw [hd]; exact Nat.le_mul_of_pos_left d (by omega)
  have hd0 : 0 < d := by
    rcases Nat.eq_zero_or_pos d with e | e
    · rw [hd, e] at hC; simp at hC
    · exact e
  have hl : (C.take d).length = d := by rw [List.length_take]; omega
  have hXl : X.length = 2 * B.length + d := by rw [hX, List.length_append, List.length_append, inv_len, hl]; omega
  have hx1 : ∀ k, k < B.length → X[k]?.getD 0 = -(B[B.length - 1 - k]?.getD 0) := by
    intro k hk
    rw [hX, List.getElem?_append_left (by rw [List.length_append, inv_len]; omega), List.getElem?_append_left (by rw [inv_len]; omega), inv_at _ _ hk]
  have hx2 : ∀ k, k < B.length → X[B.length + d + k]?.getD 0 = B[k]?.getD 0 := by
    intro k hk
    rw [hX, List.getElem?_append_right (by rw [List.length_append, inv_len, hl]; omega), List.length_append, inv_len, hl, show B.length + d + k - (B.length + d) = k by omega]
  have hx3 : ∀ k, k < d → X[B.length + k]?.getD 0 = C[k]?.getD 0 := by
    intro k hk
    rw [hX, List.getElem?_append_left (by rw [List.length_append, inv_len, hl]; omega), List.getElem?_append_right (by rw [inv_len]; omega), inv_len, show B.length + k - B.length = k by omega, List.getElem?_take, if_pos hk]
  have hlast : C[d - 1]?.getD 0 = C[C.length - 1]?.getD 0 := by
    have h1 : ∀ i, i < C.length → C[i]?.getD 0 = (C.take d)[i % d]?.getD 0 := by
      intro i hi
      have := rp_at (C.take d) n i (by rw [hl, Nat.mul_comm, ← hd]; exact hi)
      rw [← hp, hl] at this
      exact this
    rw [h1 (d - 1) (by omega), h1 (C.length - 1) (by omega)]
    congr 2
    obtain ⟨t, rfl⟩ : ∃ t, n = t + 1 := ⟨n - 1, by omega⟩
    rw [hd, show (t + 1) * d - 1 = d * t + (d - 1) by rw [Nat.add_mul, Nat.mul_comm t d]; omega, Nat.mul_add_mod]
  have hn4 : 2 * d ≤ C.length := by rw [hd]; exact Nat.mul_le_mul_right d hn2
  have hc2 : Cut X B.length := by
    refine ⟨fun k hk => ⟨by omega, ?_⟩, ?_⟩
    · rw [hx1 k hk, hXl, show 2 * B.length + d - 1 - k = B.length + d + (B.length - 1 - k) by omega, hx2 _ (by omega)]
      omega
    · rintro ⟨h1, h2⟩
      rw [hXl] at h1 h2
      have e1 := hx3 0 (by omega)
      have e2 := hx3 (d - 1) (by omega)
      rw [Nat.add_zero] at e1
      rw [show 2 * B.length + d - 1 - B.length = B.length + (d - 1) by omega, e1, e2, hlast] at h2
      exact hrd ⟨by omega, h2⟩
  obtain rfl := hcut.uniq hc2
  have hco : coreOf X B.length = C.take d := by
    unfold coreOf
    rw [hXl, show 2 * B.length + d - 2 * B.length = d by omega, hX, List.append_assoc, List.drop_left' (inv_len B), List.take_left' hl]
  have htk : X.take B.length = inv B := by
    rw [hX, List.append_assoc, List.take_left' (inv_len B)]
  rw [hco, htk, inv_inv] at hq2 ⊢
  have hqn : q = n := by
    rcases hq2 with e | e | e
    · exact e
    · rw [hl] at e; omega
    · exfalso
      rw [List.length_append, inv_len, rp_len, hl] at e
      rw [List.length_append, List.length_append, inv_len, hd] at hlen
      have : d * q ≤ d * n := Nat.mul_le_mul_left d hq
      rw [Nat.mul_comm n d] at hlen
      omega
  subst hqn
  rw [← hp, inv_inv]
end Go.Proofs.YtndadkfekngheaaDoor
