/-
  Conjugates: of lists alone.
-/
import Derived.Test.YthldipnfaiobaabGreatDoorPua
import Derived.Test.YthldipnfaiobaabGreatDoorTrn
import Derived.Test.YthldipnfaiobaabGreatDoorRpm
namespace Go.Proofs.YthldipnfaiobaabGreatDoor
open Go.RowKit Go.Lib Go.Sort
set_option linter.unusedVariables false
set_option linter.unusedSimpArgs false
theorem sh_inv_right (u : List Int) : sh (u ++ inv u) = [] := by
  refine snoc_ind (P := fun u => sh (u ++ inv u) = []) rfl (fun L k ih => ?_) u
  show sh (L ++ [k] ++ inv (L ++ [k])) = []
  rw [inv_append, inv_one]
  have := sh_pair L (inv L) k (-k) (by omega)
  rw [ih] at this
  exact this
theorem sh_inv_left (u : List Int) : sh (inv u ++ u) = [] := by
  have := sh_inv_right (inv u)
  rwa [inv_inv] at this
theorem sh_mid (A X B : List Int) : sh (A ++ sh X ++ B) = sh (A ++ X ++ B) := by
  rw [← sh_left, sh_right, sh_left]
theorem sh_eqv {X Y : List Int} (h : sh X = sh Y) (A B : List Int) : sh (A ++ X ++ B) = sh (A ++ Y ++ B) := by
  rw [← sh_mid, h, sh_mid]
def Rot (V W : List Int) : Prop := ∃ A B, V = A ++ B ∧ W = B ++ A
theorem Rot.refl (V : List Int) : Rot V V := ⟨V, [], by simp, by simp⟩
theorem Rot.symm {V W : List Int} (h : Rot V W) : Rot W V := by
  obtain ⟨A, B, rfl, rfl⟩ := h
  exact ⟨B, A, rfl, rfl⟩
theorem Rot.trans {V W X : List Int} (h : Rot V W) (k : Rot W X) : Rot V X := by
  obtain ⟨A, B, rfl, rfl⟩ := h
  obtain ⟨C, D, e, rfl⟩ := k
  rcases List.append_eq_append_iff.1 e with ⟨a', rfl, rfl⟩ | ⟨c', rfl, rfl⟩
  · exact ⟨a', D ++ B, by simp, by simp⟩
  · exact ⟨A ++ C, c', by simp, by simp⟩
theorem Rot.turn {V W : List Int} (h : Rot V W) : Turn V W := by
  obtain ⟨A, B, rfl, rfl⟩ := h
  refine ⟨by simp; omega, ?_⟩
  by_cases h0 : (A ++ B).length = 0
  · exact .inl h0
  · refine .inr ?_
    by_cases hB : B = []
    · subst hB
      exact ⟨0, by omega, by simp⟩
    · refine ⟨A.length, ?_, by simp⟩
      have : 0 < B.length := List.length_pos_iff.2 hB
      simp
      omega
def CR (C : List Int) : Prop := ¬ (1 < C.length ∧ C[0]?.getD 0 + C[C.length - 1]?.getD 0 = 0)
theorem cut_of {B C : List Int} (h : CR C) : Cut (inv B ++ C ++ B) B.length ∧ coreOf (inv B ++ C ++ B) B.length = C ∧ byOf (inv B ++ C ++ B) B.length = B := by
  have hl : (inv B ++ C ++ B).length = 2 * B.length + C.length := by simp [inv_len]; omega
  have hmid : ∀ j, j < C.length → (inv B ++ C ++ B)[B.length + j]?.getD 0 = C[j]?.getD 0 := by
    intro j hj
    rw [List.getElem?_append_left (by simp [inv_len]; omega), List.getElem?_append_right (by rw [inv_len]; omega), inv_len, show B.length + j - B.length = j by omega]
  refine ⟨⟨fun k hk => ⟨by omega, ?_⟩, fun hh => ?_⟩, ?_, ?_⟩
  · rw [hl, List.getElem?_append_left (by simp [inv_len]; omega), List.getElem?_append_left (by rw [inv_len]; exact hk), inv_at _ _ hk, List.getElem?_append_right (by simp [inv_len]; omega), List.length_append, inv_len, show 2 * B.length + C.length - 1 - k - (B.length + C.length) = B.length - 1 - k by omega]
    omega
  · rw [hl] at hh
    refine h ⟨by omega, ?_⟩
    have h1 := hmid 0 (by omega)
    have h2 := hmid (C.length - 1) (by omega)
    rw [Nat.add_zero] at h1
    rw [← h1, ← h2, show B.length + (C.length - 1) = 2 * B.length + C.length - 1 - B.length by omega]
    exact hh.2
  · unfold coreOf
    rw [hl, List.append_assoc, List.drop_append_of_le_length (by rw [inv_len]; exact Nat.le_refl _), List.drop_of_length_le (by rw [inv_len]; exact Nat.le_refl _), List.nil_append, show 2 * B.length + C.length - 2 * B.length = C.length by omega, List.take_left]
  · unfold byOf
    rw [hl, show 2 * B.length + C.length - B.length = (inv B ++ C).length by simp [inv_len]; omega, List.drop_left]
theorem cut_cr {S : List Int} {m : Nat} (h : Cut S m) : CR (coreOf S m) := by
  have hle := h.le
  intro hh
  rw [coreOf_len S m hle] at hh
  refine h.2 ⟨by omega, ?_⟩
  have e := hh.2
  unfold coreOf at e
  rw [List.getElem?_take_of_lt (by omega), List.getElem?_take_of_lt (by omega), List.getElem?_drop, List.getElem?_drop, Nat.add_zero, show m + (S.length - 2 * m - 1) = S.length - 1 - m by omega] at e
  exact e
theorem conj_step {S : List Int} {m m' : Nat} (k : Int) (hr : Red S) (h : Cut S m) (h' : Cut (sh ([-k] ++ S ++ [k])) m') : Rot (coreOf S m) (coreOf (sh ([-k] ++ S ++ [k])) m') := by
  have hparts := cut_parts h
  have hcr := cut_cr h
  generalize coreOf S m = C at *
  generalize byOf S m = B at *
  clear h
  subst hparts
  have key : ∀ D : List Int, ∀ E, CR E → sh ([-k] ++ (inv B ++ C ++ B) ++ [k]) = inv D ++ E ++ D → Rot C E → Rot C (coreOf (sh ([-k] ++ (inv B ++ C ++ B) ++ [k])) m') := by
    intro D E hE he hrot
    rw [he] at h' ⊢
    obtain ⟨c1, c2, _⟩ := cut_of (B := D) hE
    obtain rfl := h'.uniq c1
    rw [c2]
    exact hrot
  by_cases hB : B = []
  · subst hB
    simp only [inv, List.map_nil, List.reverse_nil, List.nil_append, List.append_nil] at hr key ⊢
    cases C with
    | nil =>
      refine key [] [] (by simp [CR]) ?_ (Rot.refl _)
      have := sh_pair [] [] (-k) k (by omega)
      simpa [inv, sh] using this
    | cons f M =>
      by_cases hf : f = k
      · subst hf
        have hM : Red (M ++ [f]) := by
          have h1 : Red M := by simpa using red_drop hr 1
          refine red_append h1 (fun i hi => by simp at hi) fun h2 _ e => ?_
          refine hcr ⟨by simpa using h2, ?_⟩
          have : (f :: M)[(f :: M).length - 1]?.getD 0 = M[M.length - 1]?.getD 0 := by
            rw [List.length_cons, show M.length + 1 - 1 = M.length - 1 + 1 by omega, List.getElem?_cons_succ]
          rw [this]
          simp at e ⊢
          omega
        refine key [] (M ++ [f]) ?_ ?_ ⟨[f], M, rfl, rfl⟩
        · rintro ⟨h1, h2⟩
          cases M with
          | nil => simp at h1
          | cons g M' =>
            have := hr 0 (by simp)
            simp at this h2
            omega
        · have := sh_pair [] (M ++ [f]) (-f) f (by omega)
          simp only [List.nil_append, List.singleton_append, List.cons_append] at this
          simp only [inv, List.map_nil, List.reverse_nil, List.nil_append, List.append_nil, List.cons_append]
          rw [this, sh_red hM]
      · by_cases hl : (f :: M)[M.length]?.getD 0 = -k
        · obtain ⟨N, hN⟩ : ∃ N, f :: M = N ++ [-k] := by
            refine ⟨(f :: M).take M.length, ?_⟩
            have := take_last (f :: M) M.length (by simp)
            rw [hl] at this
            rw [← this, show M.length + 1 = (f :: M).length by simp, List.take_length]
          rw [hN] at hr hcr key ⊢
          have hNr : Red ([-k] ++ N) := by
            refine red_append (fun i hi => by simp at hi) (red_left hr) fun _ h2 e => hf ?_
            have : N[0]?.getD 0 = f := by
              have h3 : (f :: M)[0]?.getD 0 = (N ++ [-k])[0]?.getD 0 := by rw [hN]
              rw [List.getElem?_append_left h2] at h3
              simpa using h3.symm
            rw [this] at e
            have e2 : -k + f = 0 := by simpa using e
            omega
          refine key [] ([-k] ++ N) ?_ ?_ ⟨N, [-k], rfl, rfl⟩
          · rintro ⟨h1, h2⟩
            have hN0 : 0 < N.length := by simp at h1; omega
            have h3 := hr (N.length - 1) (by simp; omega)
            rw [List.getElem?_append_left (by omega), List.getElem?_append_right (by omega), show N.length - 1 + 1 - N.length = 0 by omega] at h3
            have h4 : ([-k] ++ N)[([-k] ++ N).length - 1]?.getD 0 = N[N.length - 1]?.getD 0 := by
              rw [show ([-k] ++ N).length - 1 = N.length by simp, List.getElem?_append_right (by simp; omega), List.length_singleton]
            rw [h4] at h2
            simp at h2 h3
            omega
          · have := sh_pair ([-k] ++ N) [] (-k) k (by omega)
            simp only [List.append_nil] at this
            simp only [inv, List.map_nil, List.reverse_nil, List.nil_append, List.append_nil]
            rw [← sh_red hNr, ← this]
            simp
        · refine key [k] (f :: M) hcr ?_ (Rot.refl _)
          have hR : Red ([-k] ++ (f :: M) ++ [k]) := by
            refine red_append (red_append (fun i hi => by simp at hi) hr fun _ _ e => ?_) (fun i hi => by simp at hi) fun _ _ e => hl ?_
            · simp at e
              exact hf (by omega)
            · rw [show ([-k] ++ (f :: M)).length - 1 = M.length + 1 by simp, List.getElem?_append_right (by simp), List.length_singleton, show M.length + 1 - 1 = M.length by omega] at e
              have e2 : (f :: M)[M.length]?.getD 0 + k = 0 := by simpa using e
              omega
          rw [sh_red hR]
          rfl
  · obtain ⟨B', b, rfl⟩ : ∃ B' b, B = B' ++ [b] := ⟨B.dropLast, B.getLast hB, (List.dropLast_concat_getLast hB).symm⟩
    by_cases hb : b = -k
    · subst hb
      have he : [-k] ++ (inv (B' ++ [-k]) ++ C ++ (B' ++ [-k])) ++ [k] = [-k] ++ (k :: (inv B' ++ C ++ B' ++ [-k] ++ [k])) := by
        rw [inv_append, inv_one, Int.neg_neg]
        simp
      have hr2 : Red (inv B' ++ C ++ B') := by
        have h1 : inv (B' ++ [-k]) ++ C ++ (B' ++ [-k]) = [k] ++ (inv B' ++ C ++ B') ++ [-k] := by
          rw [inv_append, inv_one, Int.neg_neg]
          simp
        rw [h1] at hr
        exact red_right (red_left hr)
      refine key B' C hcr ?_ (Rot.refl _)
      rw [he]
      have h1 := sh_pair [] (inv B' ++ C ++ B' ++ [-k] ++ [k]) (-k) k (by omega)
      have h2 := sh_pair (inv B' ++ C ++ B') [] (-k) k (by omega)
      simp only [List.nil_append] at h1
      rw [h1]
      rw [List.append_nil, sh_red hr2] at h2
      exact h2
    · have hR : Red ([-k] ++ (inv (B' ++ [b]) ++ C ++ (B' ++ [b])) ++ [k]) := by
        refine red_append (red_append (fun i hi => by simp at hi) hr fun _ _ e => hb ?_) (fun i hi => by simp at hi) fun _ _ e => hb ?_
        · rw [inv_append, inv_one] at e
          simp at e
          omega
        · rw [show [-k] ++ (inv (B' ++ [b]) ++ C ++ (B' ++ [b])) = ([-k] ++ inv (B' ++ [b]) ++ C ++ B') ++ [b] by simp, List.length_append, List.length_singleton, List.getElem?_append_right (by omega)] at e
          simp at e
          omega
      refine key (B' ++ [b] ++ [k]) C hcr ?_ (Rot.refl _)
      rw [sh_red hR, inv_append (B' ++ [b]) [k], inv_one]
      simp
theorem conj_rot {S : List Int} {m : Nat} (hr : Red S) (h : Cut S m) (w : List Int) : ∀ m', Cut (sh (inv w ++ S ++ w)) m' → Rot (coreOf S m) (coreOf (sh (inv w ++ S ++ w)) m') := by
  refine snoc_ind (P := fun w => ∀ m', Cut (sh (inv w ++ S ++ w)) m' → Rot (coreOf S m) (coreOf (sh (inv w ++ S ++ w)) m')) (fun m' h' => ?_) (fun w k ih m' h' => ?_) w
  · have e : sh (inv [] ++ S ++ []) = S := by
      simp only [inv, List.map_nil, List.reverse_nil, List.nil_append, List.append_nil]
      exact sh_red hr
    rw [e] at h' ⊢
    obtain rfl := h'.uniq h
    exact Rot.refl _
  · have e : sh (inv (w ++ [k]) ++ S ++ (w ++ [k])) = sh ([-k] ++ sh (inv w ++ S ++ w) ++ [k]) := by
      rw [sh_mid, inv_append, inv_one]
      simp
    rw [e] at h' ⊢
    obtain ⟨m2, h2⟩ := cut_ex (sh (inv w ++ S ++ w))
    exact (ih m2 h2).trans (conj_step k (red_sh _) h2 h')
end Go.Proofs.YthldipnfaiobaabGreatDoor
