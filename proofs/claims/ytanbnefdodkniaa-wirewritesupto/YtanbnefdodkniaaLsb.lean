/-
  Lists of pairs there and back: plain mathematics.
-/
import Derived.Test.YtanbnefdodkniaaTak
namespace Go.Proofs.Ytanbnefdodkniaa
open Go.RowKit Go.Lib Go.Sort

theorem hi_take : ∀ (f m j : Nat), m < 128 ^ f → m < 18446744073709551616 → ∃ m', m' ≤ m ∧ ((hiL m).reverse).take j = (hiL m').reverse
  | 0, m, j, h, _ => by
    simp at h; subst h; exact ⟨0, Nat.le_refl _, by simp [hiL_zero]⟩
  | f + 1, m, j, h, h64 => by
    by_cases h0 : m = 0
    · subst h0; exact ⟨0, Nat.le_refl _, by simp [hiL_zero]⟩
    · rw [hiL_step m (by omega) h64, List.reverse_cons]
      by_cases hj : j ≤ (hiL (m / 128)).reverse.length
      · obtain ⟨m', h1, h2⟩ := hi_take f (m / 128) j (by rw [Nat.pow_succ] at h; omega) (by omega)
        refine ⟨m', by omega, ?_⟩
        rw [List.take_append_of_le_length hj]
        exact h2
      · refine ⟨m, Nat.le_refl _, ?_⟩
        rw [List.take_of_length_le (by simp at hj ⊢; omega), hiL_step m (by omega) h64, List.reverse_cons]

theorem num_cut (n j : Nat) (h64 : n < 18446744073709551616) (hj : j < (numF n).length) : (rdN 0 0 ((numF n).take j)).2 = (0, 110) := by
  have e : (numF n).take j = ((hiL (n / 128)).reverse).take j := by
    unfold numF at hj ⊢
    rw [List.reverse_cons] at hj ⊢
    rw [List.take_append_of_le_length (by simp at hj ⊢; omega)]
  obtain ⟨m', h1, h2⟩ := hi_take 10 (n / 128) j (by omega) (by omega)
  have h3 := hi_back 10 m' [] (by omega) (by omega)
  rw [List.append_nil] at h3
  rw [e, h2, h3]
  rfl

theorem pR_back (A : List Int) (a b : Nat) (rest : List Int) (ha : a < 18446744073709551616) (hb : b < 18446744073709551616) :
    pR (A ++ (numF a ++ (numF b ++ rest))) A.length = ((a, b), A.length + (numF a).length + (numF b).length, 0) := by
  have d1 : (A ++ (numF a ++ (numF b ++ rest))).drop A.length = numF a ++ (numF b ++ rest) := List.drop_left
  have d2 : (A ++ (numF a ++ (numF b ++ rest))).drop (A.length + (numF a).length) = numF b ++ rest := by rw [← List.drop_drop, d1, List.drop_left]
  unfold pR
  rw [d1, num_back a _ ha]
  simp only []
  rw [d2, num_back b _ hb]
  simp

theorem rdA_back : ∀ (P : List (Nat × Nat)) (A rest : List Int) (acc : List (Nat × Nat)), Small P →
    rdA (A ++ (pairsF P ++ rest)) P.length acc A.length = (acc ++ P, A.length + (pairsF P).length, 0)
  | [], A, rest, acc, _ => by simp [rdA, pairsF]
  | p :: P, A, rest, acc, hS => by
    have hp := hS p (List.mem_cons_self ..)
    have e1 : A ++ (pairsF (p :: P) ++ rest) = A ++ (numF p.1 ++ (numF p.2 ++ (pairsF P ++ rest))) := by simp [pairsF]
    have e2 : A ++ (pairsF (p :: P) ++ rest) = (A ++ (numF p.1 ++ numF p.2)) ++ (pairsF P ++ rest) := by simp [pairsF]
    have hpr := pR_back A p.1 p.2 (pairsF P ++ rest) hp.1 hp.2
    rw [← e1] at hpr
    have ih := rdA_back P (A ++ (numF p.1 ++ numF p.2)) rest (acc ++ [p]) (fun q hq => hS q (List.mem_cons_of_mem _ hq))
    rw [← e2] at ih
    have hl : (A ++ (numF p.1 ++ numF p.2)).length = A.length + (numF p.1).length + (numF p.2).length := by simp; omega
    rw [hl] at ih
    rw [List.length_cons, rdA, hpr]
    simp only []
    rw [if_neg (by simp), ih]
    simp [pairsF]
    omega

theorem pR_cut (A : List Int) (a b j : Nat) (ha : a < 18446744073709551616) (hb : b < 18446744073709551616) (hj : j < (numF a ++ numF b).length) :
    (pR (A ++ (numF a ++ numF b).take j) A.length).2.2 = 110 := by
  have d1 : (A ++ (numF a ++ numF b).take j).drop A.length = (numF a ++ numF b).take j := List.drop_left
  unfold pR
  rw [d1]
  by_cases h1 : j < (numF a).length
  · have e : (numF a ++ numF b).take j = (numF a).take j := List.take_append_of_le_length (by omega)
    have hc := num_cut a j ha h1
    rw [e, if_pos (by rw [hc]; simp), hc]
  · have e : (numF a ++ numF b).take j = numF a ++ (numF b).take (j - (numF a).length) := by
      rw [List.take_append, List.take_of_length_le (by omega)]
    have hc := num_cut b (j - (numF a).length) hb (by simp at hj; omega)
    have d2 : (A ++ (numF a ++ numF b).take j).drop (A.length + (numF a).length) = (numF b).take (j - (numF a).length) := by
      rw [← List.drop_drop, d1, e, List.drop_left]
    rw [e] at d2 ⊢
    rw [num_back a _ ha]
    simp only []
    rw [d2, if_neg (by simp), hc]

theorem rdA_cut : ∀ (P : List (Nat × Nat)) (A : List Int) (acc : List (Nat × Nat)) (j : Nat), Small P → j < (pairsF P).length →
    (rdA (A ++ (pairsF P).take j) P.length acc A.length).2.2 = 110
  | [], A, acc, j, _, hj => by simp [pairsF] at hj
  | p :: P, A, acc, j, hS, hj => by
    have hp := hS p (List.mem_cons_self ..)
    have e0 : pairsF (p :: P) = (numF p.1 ++ numF p.2) ++ pairsF P := by simp [pairsF]
    rw [e0] at hj ⊢
    rw [List.length_cons, rdA]
    by_cases h1 : j < (numF p.1 ++ numF p.2).length
    · have e : ((numF p.1 ++ numF p.2) ++ pairsF P).take j = (numF p.1 ++ numF p.2).take j := List.take_append_of_le_length (by omega)
      have hc := pR_cut A p.1 p.2 j hp.1 hp.2 h1
      rw [e, if_pos (by rw [hc]; simp), hc]
    · have e : ((numF p.1 ++ numF p.2) ++ pairsF P).take j = (numF p.1 ++ numF p.2) ++ (pairsF P).take (j - (numF p.1 ++ numF p.2).length) := by
        rw [List.take_append, List.take_of_length_le (by omega)]
      have hpr := pR_back A p.1 p.2 ((pairsF P).take (j - (numF p.1 ++ numF p.2).length)) hp.1 hp.2
      have ih := rdA_cut P (A ++ (numF p.1 ++ numF p.2)) (acc ++ [p]) (j - (numF p.1 ++ numF p.2).length) (fun q hq => hS q (List.mem_cons_of_mem _ hq)) (by rw [List.length_append] at hj; omega)
      have hl : (A ++ (numF p.1 ++ numF p.2)).length = A.length + (numF p.1).length + (numF p.2).length := by simp; omega
      rw [hl, List.append_assoc] at ih
      rw [e]
      rw [List.append_assoc] at ih ⊢
      rw [hpr]
      simp only []
      rw [if_neg (by simp)]
      exact ih

theorem cnt_list (P : List (Nat × Nat)) (most : Nat) (rest : List Int) (hl : P.length < 18446744073709551616) (hm : P.length ≤ most) :
    cnt most (numF P.length ++ rest) 0 = (P.length, (numF P.length).length, 0) := by
  unfold cnt
  rw [List.drop_zero, num_back _ _ hl]
  simp only []
  rw [if_neg (by omega), if_neg (by simp), if_neg (by omega)]
  simp

theorem tR_back (P : List (Nat × Nat)) (hS : Small P) (hl : P.length < 18446744073709551616) : tR P.length (listF P) 0 = (P, (listF P).length, 0) := by
  have hr := rdA_back P (numF P.length) [] [] hS
  rw [List.append_nil] at hr
  unfold tR listF
  rw [cnt_list P P.length _ hl (Nat.le_refl _)]
  simp only []
  rw [hr]
  simp

theorem tR_long (P : List (Nat × Nat)) (h0 : 0 < P.length) (hl : P.length < 18446744073709551616) : tR (P.length - 1) (listF P) 0 = ([], 0, 3) := by
  have hc : cnt ((P.length - 1 : Nat) : Int) (listF P) 0 = (0, (numF P.length).length, 3) := by
    unfold cnt listF
    rw [List.drop_zero, num_back _ _ hl]
    simp only []
    rw [if_neg (by omega), if_neg (by simp), if_pos (by omega)]
    simp
  unfold tR
  rw [hc]
  simp

theorem tR_cut (P : List (Nat × Nat)) (hS : Small P) (hl : P.length < 18446744073709551616) (cut : Nat) (hc : cut < (listF P).length) : tR P.length ((listF P).take cut) 0 = ([], 0, 110) := by
  by_cases h1 : cut < (numF P.length).length
  · have e : (listF P).take cut = (numF P.length).take cut := List.take_append_of_le_length (by omega)
    have hn := num_cut P.length cut hl h1
    have hcn : (cnt (P.length : Int) ((numF P.length).take cut) 0).2 = (0, 110) := by
      unfold cnt
      rw [List.drop_zero, if_neg (by omega), if_pos (by rw [hn]; simp), hn]
    unfold tR
    rw [e, if_pos (by rw [hcn]; simp), hcn]
  · have e : (listF P).take cut = numF P.length ++ (pairsF P).take (cut - (numF P.length).length) := by
      unfold listF
      rw [List.take_append, List.take_of_length_le (by omega)]
    have hr := rdA_cut P (numF P.length) [] (cut - (numF P.length).length) hS (by unfold listF at hc; rw [List.length_append] at hc; omega)
    unfold tR
    rw [e, cnt_list P P.length _ hl (Nat.le_refl _)]
    simp only []
    rw [if_neg (by simp), if_pos (by rw [hr]; simp), hr]
end Go.Proofs.Ytanbnefdodkniaa
