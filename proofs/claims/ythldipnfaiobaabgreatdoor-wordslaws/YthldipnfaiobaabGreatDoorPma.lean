/-
  Products of words: what is left of two words one behind the other. Pure.
-/
import Derived.Test.YthldipnfaiobaabGreatDoorCan
import Derived.Test.YthldipnfaiobaabGreatDoorRma
namespace Go.Proofs.YthldipnfaiobaabGreatDoor
open Go.RowKit Go.Lib Go.Sort
set_option linter.unusedVariables false
set_option linter.unusedSimpArgs false
theorem red_nil : Red [] := fun i h => by simp at h
theorem red_left {A B : List Int} (h : Red (A ++ B)) : Red A := fun i hi => by
  have := h i (by simp; omega)
  rwa [List.getElem?_append_left (by omega), List.getElem?_append_left (by omega)] at this
theorem red_right {A B : List Int} (h : Red (A ++ B)) : Red B := fun i hi => by
  have := h (A.length + i) (by simp; omega)
  rw [List.getElem?_append_right (by omega), List.getElem?_append_right (by omega)] at this
  rwa [show A.length + i - A.length = i by omega, show A.length + i + 1 - A.length = i + 1 by omega] at this
theorem red_drop {A : List Int} (h : Red A) (c : Nat) : Red (A.drop c) := by
  rw [← List.take_append_drop c A] at h
  exact red_right h
theorem red_take {A : List Int} (h : Red A) (c : Nat) : Red (A.take c) := by
  rw [← List.take_append_drop c A] at h
  exact red_left h
theorem red_append {A B : List Int} (hA : Red A) (hB : Red B) (h : 0 < A.length → 0 < B.length → A[A.length - 1]?.getD 0 + B[0]?.getD 0 ≠ 0) : Red (A ++ B) := fun i hi => by
  rw [List.length_append] at hi
  rcases Nat.lt_or_ge (i + 1) A.length with h1 | h1
  · rw [List.getElem?_append_left (by omega), List.getElem?_append_left h1]
    exact hA i h1
  · rcases Nat.lt_or_ge i A.length with h2 | h2
    · rw [List.getElem?_append_left h2, List.getElem?_append_right h1, show i + 1 - A.length = 0 by omega, show i = A.length - 1 by omega]
      exact h (by omega) (by omega)
    · rw [List.getElem?_append_right h2, List.getElem?_append_right h1, show i + 1 - A.length = i - A.length + 1 by omega]
      exact hB _ (by omega)
theorem sh_red {L : List Int} (h : Red L) : sh L = L := by
  revert h
  refine snoc_ind (P := fun L => Red L → sh L = L) (fun _ => rfl) (fun L k ih h => ?_) L
  rw [sh_snoc, ih (red_left h)]
  unfold push
  split
  · rename_i h0
    simp [List.length_eq_zero_iff.1 h0]
  · rename_i h0
    split
    · rename_i h1
      exfalso
      have := h (L.length - 1) (by simp; omega)
      rw [List.getElem?_append_left (by omega), List.getElem?_append_right (by omega), show L.length - 1 + 1 - L.length = 0 by omega] at this
      exact this (by simpa using h1)
    · rfl
theorem sh_sh (L : List Int) : sh (sh L) = sh L := sh_red (red_sh L)
theorem sh_foldl (A B : List Int) : sh (A ++ B) = B.foldl push (sh A) := by simp [sh, List.foldl_append]
theorem sh_left (A B : List Int) : sh (sh A ++ B) = sh (A ++ B) := by rw [sh_foldl, sh_foldl, sh_sh]
theorem push_snoc (l : List Int) (x k : Int) (h : x + k = 0) : push (l ++ [x]) k = l := by
  unfold push
  rw [if_neg (by simp), if_pos (by simp [h])]
  simp
theorem push_back {l : List Int} (hr : Red l) {k x : Int} (h : k + x = 0) : push (push l k) x = l := by
  by_cases h0 : l.length = 0
  · obtain rfl := List.length_eq_zero_iff.1 h0
    show push [k] x = []
    exact push_snoc [] k x h
  · by_cases h1 : l[l.length - 1]?.getD 0 + k = 0
    · have e : push l k = l.take (l.length - 1) := by
        unfold push
        rw [if_neg h0, if_pos h1]
      have hs : l = l.take (l.length - 1) ++ [x] := by
        have := List.take_succ_eq_append_getElem (l := l) (i := l.length - 1) (by omega)
        rw [show l.length - 1 + 1 = l.length by omega, List.take_length] at this
        rw [List.getElem?_eq_getElem (by omega)] at h1
        simp only [Option.getD_some] at h1
        rw [show x = l[l.length - 1]'(by omega) by omega]
        exact this
      rw [e]
      obtain ⟨m, hm⟩ : ∃ m, l.take (l.length - 1) = m := ⟨_, rfl⟩
      rw [hm] at hs ⊢
      subst hs
      have : sh (m ++ [x]) = m ++ [x] := sh_red hr
      rw [sh_snoc, sh_red (red_left hr)] at this
      exact this
    · have e : push l k = l ++ [k] := by
        unfold push
        rw [if_neg h0, if_neg h1]
      rw [e]
      exact push_snoc l k x h
theorem sh_pair (A B : List Int) (x y : Int) (h : x + y = 0) : sh (A ++ [x] ++ y :: B) = sh (A ++ B) := by
  rw [show A ++ [x] ++ y :: B = (A ++ [x] ++ [y]) ++ B by simp, sh_foldl, sh_snoc, sh_snoc, push_back (red_sh A) h, ← sh_foldl]
theorem sh_push (A l : List Int) (k : Int) : sh (A ++ push l k) = push (sh (A ++ l)) k := by
  by_cases h0 : l.length = 0
  · obtain rfl := List.length_eq_zero_iff.1 h0
    rw [List.append_nil, ← sh_snoc]
    rfl
  · by_cases h1 : l[l.length - 1]?.getD 0 + k = 0
    · have e : push l k = l.take (l.length - 1) := by
        unfold push
        rw [if_neg h0, if_pos h1]
      rw [e, ← sh_snoc]
      have hs : l = l.take (l.length - 1) ++ [l[l.length - 1]?.getD 0] := by
        have := List.take_succ_eq_append_getElem (l := l) (i := l.length - 1) (by omega)
        rw [show l.length - 1 + 1 = l.length by omega, List.take_length] at this
        rw [List.getElem?_eq_getElem (by omega)]
        exact this
      generalize l[l.length - 1]?.getD 0 = x at *
      generalize l.take (l.length - 1) = m at *
      subst hs
      have := sh_pair (A ++ m) [] x k h1
      rw [List.append_nil] at this
      rw [← this]
      simp
    · have e : push l k = l ++ [k] := by
        unfold push
        rw [if_neg h0, if_neg h1]
      rw [e, ← List.append_assoc, sh_snoc]
theorem sh_right (A B : List Int) : sh (A ++ sh B) = sh (A ++ B) := by
  refine snoc_ind (P := fun B => sh (A ++ sh B) = sh (A ++ B)) rfl (fun B k ih => ?_) B
  show sh (A ++ sh (B ++ [k])) = sh (A ++ (B ++ [k]))
  rw [sh_snoc, sh_push, ih, ← List.append_assoc, sh_snoc]
theorem take_last (V : List Int) (n : Nat) (h : n < V.length) : V.take (n + 1) = V.take n ++ [V[n]?.getD 0] := by
  rw [List.take_succ_eq_append_getElem h, List.getElem?_eq_getElem h]
  rfl
theorem drop_first (W : List Int) (n : Nat) (h : n < W.length) : W.drop n = W[n]?.getD 0 :: W.drop (n + 1) := by
  rw [List.drop_eq_getElem_cons h, List.getElem?_eq_getElem h]
  rfl
theorem sh_cancel (A V W : List Int) (c : Nat) (h : ∀ k, k < c → k < V.length ∧ k < W.length ∧ V[V.length - 1 - k]?.getD 0 + W[k]?.getD 0 = 0) : sh (A ++ V.take (V.length - c) ++ W.drop c) = sh (A ++ V ++ W) := by
  induction c with
  | zero => simp
  | succ c ih =>
    rw [← ih fun k hk => h k (by omega)]
    obtain ⟨h1, h2, h3⟩ := h c (by omega)
    rw [drop_first W c h2, show V.length - c = V.length - 1 - c + 1 by omega, take_last V _ (by omega), show V.length - (c + 1) = V.length - 1 - c by omega, ← List.append_assoc]
    exact (sh_pair _ _ _ _ h3).symm
theorem Can.more {V W : List Int} {c : Nat} (h : Can V W c) (A : List Int) : sh (A ++ V.take (V.length - c) ++ W.drop c) = sh (A ++ V ++ W) := sh_cancel A V W c h.1
theorem Can.step {V W : List Int} {c : Nat} (h : Can V W c) (hc : V.length ≤ c) (A : List Int) : sh (A ++ W.drop c) = sh (A ++ V ++ W) := by
  have := h.more A
  rwa [show V.length - c = 0 by omega, List.take_zero, List.append_nil] at this
theorem Can.stop {V W : List Int} {c : Nat} (h : Can V W c) (hc : c < V.length) (A : List Int) (hA : Red (A ++ V)) (hW : Red W) : A ++ V.take (V.length - c) ++ W.drop c = sh (A ++ V ++ W) := by
  rw [← h.more A]
  refine (sh_red (red_append ?_ (red_drop hW c) fun h1 h2 e => h.2 ⟨hc, ?_, ?_⟩)).symm
  · have : A ++ V.take (V.length - c) = (A ++ V).take (A.length + (V.length - c)) := by rw [List.take_append, List.take_of_length_le (Nat.le_add_right _ _), Nat.add_sub_cancel_left]
    rw [this]
    exact red_take hA _
  · simp at h2
    omega
  · have hl : (V.take (V.length - c)).length = V.length - c := by simp
    rw [List.length_append, hl, List.getElem?_append_right (by omega), show A.length + (V.length - c) - 1 - A.length = V.length - 1 - c by omega, List.getElem?_take_of_lt (by omega), List.getElem?_drop, Nat.add_zero] at e
    exact e
end Go.Proofs.YthldipnfaiobaabGreatDoor
