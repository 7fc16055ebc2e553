/-
  What was written is read as it was, and what is read is written as it was: plain mathematics.
-/
import Derived.Test.YtanbnefdodkniaaRdi
import Derived.Test.YtanbnefdodkniaaRdf
namespace Go.Proofs.Ytanbnefdodkniaa
open Go.RowKit Go.Lib Go.Sort

/-! ### There and back -/
theorem unf_fold (x : Int) : unf (fold x) = x := by
  unfold fold
  by_cases h : 0 ≤ x
  · rw [if_pos h]; unfold unf; rw [if_neg (by omega)]; omega
  · rw [if_neg h]; unfold unf; rw [if_pos (by omega)]; omega
theorem fold_lt (x : Int) (h0 : -9223372036854775808 ≤ x) (h1 : x ≤ 9223372036854775807) : fold x < 18446744073709551616 := by unfold fold; split <;> omega

theorem bits8_fB (u : Nat) (h : u < 18446744073709551616) : bits8 (fB u) = u := by
  have e : fB u = [fb u 0, fb u 1, fb u 2, fb u 3, fb u 4, fb u 5, fb u 6, fb u 7] := rfl
  rw [e]
  simp only [bits8, List.foldl_cons, List.foldl_nil, fb, Int.toNat_natCast]
  simp only [Nat.mul_zero, Nat.mul_one, Nat.reduceMul, Nat.reduceSub, Nat.reducePow]
  omega
theorem fR_back (A : List Int) (u : Nat) (rest : List Int) (h : u < 18446744073709551616) : fR (A ++ (fB u ++ rest)) A.length = (fVal (nanB u) u, A.length + 8, fErr (nanB u) u) := by
  have d : ((A ++ (fB u ++ rest)).drop A.length).take 8 = fB u := by
    rw [List.drop_left, ← fB_len u, List.take_left]
  unfold fR
  rw [if_pos (by simp only [List.length_append, fB_len]; omega), d, bits8_fB u h]
theorem bitsF_lt (x : Nat) (h : x < 18446744073709551616) : bitsF x < 18446744073709551616 := by unfold bitsF; split <;> omega
theorem bitsF_const : bitsF 9221120237041090560 = 9221120237041090560 := by unfold bitsF; split <;> rfl
theorem bitsF_twice (x : Nat) : bitsF (bitsF x) = bitsF x := by
  cases h : nanB x
  · have e : bitsF x = x := by unfold bitsF; rw [h]; rfl
    rw [e, e]
  · have e : bitsF x = 9221120237041090560 := by unfold bitsF; rw [h]; rfl
    rw [e, bitsF_const]
theorem fV_bits (x : Nat) : fVal (nanB (bitsF x)) (bitsF x) = bitsF x ∧ fErr (nanB (bitsF x)) (bitsF x) = 0 := by
  cases h : nanB x
  · have e : bitsF x = x := by unfold bitsF; rw [h]; rfl
    rw [e, h]; exact ⟨rfl, rfl⟩
  · have e : bitsF x = 9221120237041090560 := by unfold bitsF; rw [h]; rfl
    rw [e]; unfold fVal fErr; simp
theorem fR_float (A : List Int) (x : Nat) (rest : List Int) (h : x < 18446744073709551616) : fR (A ++ (fB (bitsF x) ++ rest)) A.length = (bitsF x, A.length + 8, 0) := by
  rw [fR_back A (bitsF x) rest (bitsF_lt x h), (fV_bits x).1, (fV_bits x).2]
theorem cR_float (A : List Int) (x y : Nat) (rest : List Int) (hx : x < 18446744073709551616) (hy : y < 18446744073709551616) : cR (A ++ (fB (bitsF x) ++ (fB (bitsF y) ++ rest))) A.length = ((bitsF x, bitsF y), A.length + 16, 0) := by
  have h1 := fR_float A x (fB (bitsF y) ++ rest) hx
  have h2 := fR_float (A ++ fB (bitsF x)) y rest hy
  rw [List.append_assoc, List.length_append, fB_len] at h2
  unfold cR
  rw [h1]
  simp only []
  rw [h2]
  simp
theorem txt_back (A : List Int) (s : ByteArray) (rest : List Int) (hs : s.size < 9223372036854775807) : txt s.size (A ++ (textF s ++ rest)) A.length = (sB s, A.length + (textF s).length, 0) := by
  have hd : (A ++ (textF s ++ rest)).drop A.length = numF s.size ++ (sB s ++ rest) := by rw [List.drop_left]; unfold textF; rw [List.append_assoc]
  have hc : cnt s.size (A ++ (textF s ++ rest)) A.length = (s.size, A.length + (numF s.size).length, 0) := by
    unfold cnt
    rw [hd, num_back _ _ (by omega)]
    simp only []
    rw [if_neg (by omega), if_neg (by simp), if_neg (by omega)]
  unfold txt
  rw [hc]
  simp only []
  have hd2 : ((A ++ (textF s ++ rest)).drop (A.length + (numF s.size).length)).take s.size = sB s := by
    rw [← List.drop_drop, hd, List.drop_left, ← sB_length s, List.take_left]
  rw [if_neg (by simp), if_pos, hd2]
  · unfold textF
    rw [List.length_append, sB_length]
    simp; omega
  · unfold textF
    simp only [List.length_append, sB_length]
    omega
theorem twW_back (A : List Int) (a b : WN) (rest : List Int) (ha : plainW a.1 a.2 = true) (hb : plainW b.1 b.2 = true) : twW (A ++ (fracF a b ++ rest)) A.length = ((a, b), A.length + (fracF a b).length, 0) := by
  have h1 := whole_back A a.1 a.2 (wholeF b.1 b.2 ++ rest) ha
  have h2 := whole_back (A ++ wholeF a.1 a.2) b.1 b.2 rest hb
  rw [List.append_assoc, List.length_append] at h2
  unfold twW fracF
  rw [List.append_assoc, h1]
  simp only []
  rw [h2]
  simp
  omega
theorem frR_back (A : List Int) (a b : WN) (rest : List Int) (h : plainFr a b = true) : frR (A ++ (fracF a b ++ rest)) A.length = ((a, b), A.length + (fracF a b).length, 0) := by
  have hp := plainFr_p h
  unfold frR
  rw [twW_back A a b rest (plainP_w hp.1).1 (plainP_w hp.2.1).1]
  simp only []
  rw [if_neg (by simp), if_pos h]
theorem gR_back (A : List Int) (a b c d : WN) (rest : List Int) (h : plainG a b c d = true) : gR (A ++ (gaussF a b c d ++ rest)) A.length = (((a, b), (c, d)), A.length + (gaussF a b c d).length, 0) := by
  have hp : plainFr a b = true ∧ plainFr c d = true := by unfold plainG at h; simpa using h
  have h1 := frR_back A a b (fracF c d ++ rest) hp.1
  have h2 := frR_back (A ++ fracF a b) c d rest hp.2
  rw [List.append_assoc, List.length_append] at h2
  unfold gR gaussF
  rw [List.append_assoc, h1]
  simp only []
  rw [h2]
  simp
  omega

/-! ### What is read is written as it was -/
theorem rdN_canon : ∀ (L : List Int) (n i m c : Nat) (D : List Int), (∀ x ∈ L, 0 ≤ x ∧ x ≤ 255) → n < 18446744073709551616 → D = (hiL n).reverse → D.length = i → rdN n i L = (m, c, 0) → D ++ L.take (c - i) = numF m ∧ i < c
  | [], n, i, m, c, D, _, _, _, _, h => by simp [rdN] at h
  | b :: bs, n, i, m, c, D, hr, hn, hD, hi, h => by
    have hb := hr b (List.mem_cons_self ..)
    rw [rdN] at h
    split at h
    · simp at h
    · rename_i hbad
      have hn57 : n ≤ 144115188075855871 := by omega
      split at h
      · rename_i hs
        simp only [Prod.mk.injEq] at h
        obtain ⟨rfl, rfl, _⟩ := h
        refine ⟨?_, by omega⟩
        unfold numF
        have e1 : (n * 128 + (b % 128).toNat) / 128 = n := by omega
        have e2 : (((n * 128 + (b % 128).toNat) % 128 : Nat) : Int) = b := by omega
        rw [e1, e2, List.reverse_cons, ← hD]
        simp
      · rename_i hs
        have hpos : 0 < n * 128 + (b % 128).toNat := by
          by_cases h0 : n = 0
          · subst h0
            have hi0 : i = 0 := by rw [hD] at hi; simpa [hiL_zero] using hi.symm
            omega
          · omega
        have hst := hiL_step (n * 128 + (b % 128).toNat) hpos (by omega)
        have e1 : (n * 128 + (b % 128).toNat) / 128 = n := by omega
        have e2 : (((n * 128 + (b % 128).toNat) % 128 + 128 : Nat) : Int) = b := by omega
        rw [e1, e2] at hst
        have ih := rdN_canon bs (n * 128 + (b % 128).toNat) (i + 1) m c (D ++ [b]) (fun x hx => hr x (List.mem_cons_of_mem _ hx)) (by omega) (by rw [hst, List.reverse_cons, hD]) (by simp [hi]) h
        refine ⟨?_, by omega⟩
        rw [← ih.1, show c - i = (c - (i + 1)) + 1 by omega, List.take_succ_cons]
        simp
/-- A number that was read. -/
theorem num_canon (L : List Int) (m c : Nat) (hr : ∀ x ∈ L, 0 ≤ x ∧ x ≤ 255) (h : rdN 0 0 L = (m, c, 0)) : L.take c = numF m ∧ c = (numF m).length ∧ c ≤ L.length := by
  have h1 := rdN_canon L 0 0 m c [] hr (by omega) (by simp [hiL_zero]) rfl h
  have h2 := rdN_count L 0 0
  rw [h] at h2
  simp only [] at h2
  have h3 : L.take c = numF m := by simpa using h1.1
  refine ⟨h3, ?_, by omega⟩
  rw [← h3, List.length_take]; omega
theorem sB_strOf (X : List Int) (h : ∀ x ∈ X, 0 ≤ x ∧ x ≤ 255) : sB (strOf X) = X := by
  have := strOf_from X ByteArray.empty
  unfold sB
  rw [strOf, this]
  show ([] ++ bytesL X).map _ = X
  rw [List.nil_append, bytesL, List.map_map]
  refine Eq.trans (List.map_congr_left (g := id) fun x hx => ?_) (List.map_id _)
  have := h x hx
  simp
  omega
/-- A whole number that was read. -/
theorem whole_canon (L : List Int) (k j : Nat) (a : WN) (hr : ∀ x ∈ L, 0 ≤ x ∧ x ≤ 255) (hk : k ≤ L.length) (h : wR L k = (a, j, 0)) :
    (L.drop k).take (j - k) = wholeF a.1 a.2 ∧ k ≤ j ∧ j ≤ L.length := by
  have hrd : ∀ x ∈ L.drop k, 0 ≤ x ∧ x ≤ 255 := fun x hx => hr x (List.mem_of_mem_drop hx)
  unfold wR at h
  revert h
  generalize hn : rdN 0 0 (L.drop k) = r
  obtain ⟨n, c, e⟩ := r
  simp only []
  intro h
  split at h
  · rename_i he
    simp only [Prod.mk.injEq] at h
    exact absurd h.2.2 he
  · rename_i he
    obtain rfl : e = 0 := by omega
    obtain ⟨h1, h2, h3⟩ := num_canon _ n c hrd hn
    rw [List.length_drop] at h3
    split at h
    · simp at h
    · split at h
      · simp at h
      · rename_i hx
        split at h
        · simp only [Prod.mk.injEq] at h
          obtain ⟨rfl, rfl, _⟩ := h
          have hx2 : n / 2 ≤ L.length - (k + c) := by omega
          refine ⟨?_, by omega, by omega⟩
          have hsz : (strOf ((L.drop (k + c)).take (n / 2))).size = n / 2 := by rw [strOf_size]; simp; omega
          have hrx : ∀ x ∈ (L.drop (k + c)).take (n / 2), 0 ≤ x ∧ x ≤ 255 := fun x hx => hr x (List.mem_of_mem_drop (List.mem_of_mem_take hx))
          unfold wholeF
          simp only []
          rw [hsz, sB_strOf _ hrx]
          have hodd : (2 * (n / 2) + if ((n : Int) % 2 != 0) = true then 1 else 0) = n := by
            split
            · rename_i h0; simp at h0; omega
            · rename_i h0; simp at h0; omega
          rw [hodd, ← h1, show k + c + n / 2 - k = c + n / 2 by omega, List.take_add, List.drop_drop]
        · simp at h
theorem take_glue (L : List Int) (k i j : Nat) (A B : List Int) (h1 : (L.drop k).take (i - k) = A) (h2 : (L.drop i).take (j - i) = B) (hk : k ≤ i) (hi : i ≤ j) : (L.drop k).take (j - k) = A ++ B := by
  rw [show j - k = (i - k) + (j - i) by omega, List.take_add, h1, List.drop_drop, show k + (i - k) = i by omega, h2]
theorem twW_canon (L : List Int) (k j : Nat) (a b : WN) (hr : ∀ x ∈ L, 0 ≤ x ∧ x ≤ 255) (hk : k ≤ L.length) (h : twW L k = ((a, b), j, 0)) :
    (L.drop k).take (j - k) = fracF a b ∧ k ≤ j ∧ j ≤ L.length := by
  unfold twW at h
  revert h
  generalize h1 : wR L k = r1
  obtain ⟨x, i, e⟩ := r1
  simp only []
  generalize h2 : wR L i = r2
  obtain ⟨y, i2, e2⟩ := r2
  simp only []
  intro h
  split at h
  · rename_i he
    simp only [Prod.mk.injEq] at h
    exact absurd h.2.2 he
  · rename_i he
    obtain rfl : e = 0 := by omega
    simp only [Prod.mk.injEq] at h
    obtain ⟨⟨rfl, rfl⟩, rfl, rfl⟩ := h
    obtain ⟨c1, c2, c3⟩ := whole_canon L k i x hr hk h1
    obtain ⟨d1, d2, d3⟩ := whole_canon L i i2 y hr c3 h2
    exact ⟨take_glue L k i i2 _ _ c1 d1 c2 d2, by omega, d3⟩
theorem frR_canon (L : List Int) (k j : Nat) (x : FN) (hr : ∀ x ∈ L, 0 ≤ x ∧ x ≤ 255) (hk : k ≤ L.length) (h : frR L k = (x, j, 0)) :
    (L.drop k).take (j - k) = fracF x.1 x.2 ∧ k ≤ j ∧ j ≤ L.length ∧ plainFr x.1 x.2 = true := by
  unfold frR at h
  revert h
  generalize h1 : twW L k = r1
  obtain ⟨⟨a, b⟩, i, e⟩ := r1
  simp only []
  intro h
  split at h
  · rename_i he
    simp only [Prod.mk.injEq] at h
    exact absurd h.2.2 he
  · rename_i he
    obtain rfl : e = 0 := by omega
    split at h
    · rename_i hp
      simp only [Prod.mk.injEq] at h
      obtain ⟨rfl, rfl, _⟩ := h
      obtain ⟨c1, c2, c3⟩ := twW_canon L k i a b hr hk h1
      exact ⟨c1, c2, c3, hp⟩
    · simp at h
/-- An exact complex number that was read. -/
theorem gR_canon (L : List Int) (k j : Nat) (z : FN × FN) (hr : ∀ x ∈ L, 0 ≤ x ∧ x ≤ 255) (hk : k ≤ L.length) (h : gR L k = (z, j, 0)) :
    (L.drop k).take (j - k) = gaussF z.1.1 z.1.2 z.2.1 z.2.2 ∧ k ≤ j ∧ j ≤ L.length ∧ plainG z.1.1 z.1.2 z.2.1 z.2.2 = true := by
  unfold gR at h
  revert h
  generalize h1 : frR L k = r1
  obtain ⟨x, i, e⟩ := r1
  simp only []
  generalize h2 : frR L i = r2
  obtain ⟨y, i2, e2⟩ := r2
  simp only []
  intro h
  split at h
  · rename_i he
    simp only [Prod.mk.injEq] at h
    exact absurd h.2.2 he
  · rename_i he
    obtain rfl : e = 0 := by omega
    simp only [Prod.mk.injEq] at h
    obtain ⟨rfl, rfl, rfl⟩ := h
    obtain ⟨c1, c2, c3, c4⟩ := frR_canon L k i x hr hk h1
    obtain ⟨d1, d2, d3, d4⟩ := frR_canon L i i2 y hr c3 h2
    refine ⟨take_glue L k i i2 _ _ c1 d1 c2 d2, by omega, d3, ?_⟩
    unfold plainG
    simp only []
    rw [c4, d4]; rfl
end Go.Proofs.Ytanbnefdodkniaa
