/-
  Powers and words that commute: of lists alone.
-/
import Derived.Test.YthldipnfaiobaabGreatDoorLpa
namespace Go.Proofs.YthldipnfaiobaabGreatDoor
open Go.RowKit Go.Lib Go.Sort
set_option linter.unusedVariables false
set_option linter.unusedSimpArgs false
theorem rp_add (C : List Int) (a b : Nat) : rp C (a + b) = rp C a ++ rp C b := by
  induction b with
  | zero => simp [rp]
  | succ b ih => rw [← Nat.add_assoc, rp, ih, rp, List.append_assoc]
theorem rp_one (C : List Int) : rp C 1 = C := by simp [rp]
theorem rp_mul (C : List Int) (a b : Nat) : rp (rp C a) b = rp C (a * b) := by
  induction b with
  | zero => simp [rp]
  | succ b ih => rw [rp, ih, Nat.mul_succ, rp_add]
theorem comm_pow {C T : List Int} (h : sh (C ++ T) = sh (T ++ C)) (k : Nat) : sh (rp C k ++ T) = sh (T ++ rp C k) := by
  induction k with
  | zero => simp [rp]
  | succ k ih =>
    rw [rp]
    have h1 := sh_eqv h (rp C k) []
    have h2 := sh_eqv ih [] C
    simp only [List.append_nil, List.nil_append] at h1 h2
    rw [List.append_assoc, h1, ← List.append_assoc, h2, List.append_assoc]
theorem per_pref {W V : List Int} {q : Nat} (h : Per (W ++ V) q) : Per W q := fun j hj => by
  have := h j (by simp; omega)
  rwa [List.getElem?_append_left (by omega), List.getElem?_append_left hj] at this
theorem per_rp_self (P : List Int) (n : Nat) (h0 : 0 < P.length) : Per (rp P n) P.length := fun j hj => by
  rw [rp_len] at hj
  rw [rp_at _ _ _ (by omega), rp_at _ _ _ hj, Nat.add_mod_right]
theorem per_mod {P : List Int} {g : Nat} (h : Per P g) (h0 : 0 < g) : ∀ i, i < P.length → P[i]?.getD 0 = P[i % g]?.getD 0 := by
  intro i
  induction i using Nat.strongRecOn with
  | _ i ih =>
    intro hi
    rcases Nat.lt_or_ge i g with h1 | h1
    · rw [Nat.mod_eq_of_lt h1]
    · have h2 := h (i - g) (by omega)
      rw [show i - g + g = i by omega] at h2
      rw [← h2, ih (i - g) (by omega) (by omega), Nat.mod_eq_sub_mod h1]
theorem per_all {P : List Int} {g : Nat} (h : Per P g) (h0 : 0 < g) (hd : g ∣ P.length) (n : Nat) : Per (rp P n) g := fun j hj => by
  rw [rp_len] at hj
  have hP : 0 < P.length := by
    rcases Nat.eq_zero_or_pos P.length with e | e
    · rw [e] at hj; simp at hj
    · exact e
  rw [rp_at _ _ _ (by omega), rp_at _ _ _ hj, per_mod h h0 _ (Nat.mod_lt _ hP), per_mod h h0 _ (Nat.mod_lt _ hP), Nat.mod_mod_of_dvd _ hd, Nat.mod_mod_of_dvd _ hd, Nat.add_mod_right]
def Prim (P : List Int) : Prop := 0 < P.length ∧ ∀ g, 0 < g → g ∣ P.length → Per P g → P.length ≤ g
theorem rt_prim {C : List Int} {p : Nat} (h : Rt C p) (h0 : 0 < C.length) : Prim (C.take p) ∧ C = rp (C.take p) (C.length / p) ∧ (C.take p).length = p ∧ 0 < C.length / p := by
  obtain ⟨h1, h2, h3, h4⟩ := h
  have hle := Nat.le_of_dvd h0 h2
  have hl : (C.take p).length = p := by simp; omega
  have hq : 0 < C.length / p := Nat.div_pos hle h1
  have hdiv : C.length / (C.length / p) = p := by
    obtain ⟨d, hd⟩ := h2
    have hd0 : 0 < d := by
      rcases Nat.eq_zero_or_pos d with e | e
      · rw [e] at hd; omega
      · exact e
    rw [hd, Nat.mul_div_cancel_left d h1, Nat.mul_div_cancel _ hd0]
  have hrp : C = rp (C.take p) (C.length / p) := by
    have := (per_rp (C := C) (n := C.length / p) (Nat.div_dvd_of_dvd h2) hq).1 (by rw [hdiv]; exact h3)
    rwa [hdiv] at this
  refine ⟨⟨by omega, fun g hg hd hP => ?_⟩, hrp, hl, hq⟩
  rw [hl] at hd ⊢
  have h5 := per_all hP hg (by rw [hl]; exact hd) (C.length / p)
  rw [← hrp] at h5
  exact h4 g hg (Nat.dvd_trans hd h2) h5
theorem prim_rt {P : List Int} (h : Prim P) (t : Nat) (ht : 0 < t) : Rt (rp P t) P.length := by
  refine ⟨h.1, by rw [rp_len]; exact Nat.dvd_mul_right _ _, per_rp_self P t h.1, fun q hq hd hP => ?_⟩
  have h1 := per_all hP hq hd 2
  have h2 : Per (rp (rp P t) 2) P.length := by rw [rp_mul]; exact per_rp_self P _ h.1
  have hE : 0 < (rp P t).length := by rw [rp_len]; exact Nat.mul_pos h.1 ht
  have hqE := Nat.le_of_dvd hE hd
  have hPE : P.length ≤ (rp P t).length := by rw [rp_len]; exact Nat.le_mul_of_pos_right _ ht
  have h3 := Per.gcd P.length q h.1 hq h2 h1 (by rw [rp_len (rp P t)]; omega)
  have h4 : Per P (Nat.gcd P.length q) := by
    rw [rp_mul, show t * 2 = 1 + (t * 2 - 1) by omega, rp_add, rp_one] at h3
    exact per_pref h3
  have h5 := h.2 _ (Nat.gcd_pos_of_pos_left _ h.1) (Nat.gcd_dvd_left _ _) h4
  exact Nat.le_trans h5 (Nat.le_of_dvd hq (Nat.gcd_dvd_right _ _))
theorem can_ex (V W : List Int) : ∃ c, Can V W c := by
  have key : ∀ k : Nat, (∃ c, Can V W c) ∨ ∀ j, j < k → j < V.length ∧ j < W.length ∧ V[V.length - 1 - j]?.getD 0 + W[j]?.getD 0 = 0 := by
    intro k
    induction k with
    | zero => exact .inr fun j hj => by omega
    | succ k ih =>
      rcases ih with h | h
      · exact .inl h
      · by_cases hk : k < V.length ∧ k < W.length ∧ V[V.length - 1 - k]?.getD 0 + W[k]?.getD 0 = 0
        · refine .inr fun j hj => ?_
          rcases Nat.lt_or_ge j k with e | e
          · exact h j e
          · obtain rfl : j = k := by omega
            exact hk
        · exact .inl ⟨k, h, hk⟩
  rcases key (V.length + 1) with h | h
  · exact h
  · have := (h V.length (by omega)).1
    omega
theorem comm_pref {W T : List Int} (hW : Red W) (hT : Red T) (hc : CR W) (hl : T.length ≤ W.length) (h0 : 0 < T.length) (h : sh (W ++ T) = sh (T ++ W)) : ∃ D, (W = T ++ D ∧ W = D ++ T) ∨ (W = inv T ++ D ∧ W = D ++ inv T) := by
  obtain ⟨b, hb⟩ := can_ex W T
  obtain ⟨a, ha⟩ := can_ex T W
  have g1 := can_glue hb hW hT
  have g2 := can_glue ha hT hW
  have hbl := hb.le
  have hal := ha.le
  have e : W.take (W.length - b) ++ T.drop b = T.take (T.length - a) ++ W.drop a := by rw [g1, g2, h]
  have hab : a = b := by
    have := congrArg List.length e
    simp at this
    omega
  subst hab
  clear g1 g2 h
  rcases Nat.eq_zero_or_pos a with ha0 | ha0
  · subst ha0
    simp at e
    have h1 : W.take T.length = T := by
      have := congrArg (List.take T.length) e
      rwa [List.take_append_of_le_length hl, List.take_left] at this
    have h2 : W = T ++ W.drop T.length := by
      conv => lhs; rw [← List.take_append_drop T.length W, h1]
    refine ⟨W.drop T.length, .inl ⟨h2, ?_⟩⟩
    generalize W.drop T.length = D at *
    subst h2
    rw [List.append_assoc] at e
    exact (List.append_cancel_left e).symm
  · have h1 := ha.1 0 ha0
    have h2 := hb.1 0 ha0
    have haT : a = T.length := by
      rcases Nat.lt_or_ge a T.length with hlt | hge
      · exfalso
        have h3 : (W.take (W.length - a) ++ T.drop a)[0]?.getD 0 = (T.take (T.length - a) ++ W.drop a)[0]?.getD 0 := by rw [e]
        rw [List.getElem?_append_left (by simp; omega), List.getElem?_append_left (by simp; omega), List.getElem?_take_of_lt (by omega), List.getElem?_take_of_lt (by omega)] at h3
        refine hc ⟨by omega, ?_⟩
        have h4 := h2.2.2
        rw [Nat.sub_zero] at h4
        omega
      · omega
    subst haT
    rw [Nat.sub_self, List.take_zero, List.nil_append, List.drop_length, List.append_nil] at e
    have hp : W.take T.length = inv T := by
      apply same_prefix (by rw [inv_len, List.length_take]; omega)
      intro j hj
      have hj' : j < T.length := by rw [List.length_take] at hj; omega
      have := (ha.1 j hj').2.2
      rw [List.getElem?_take_of_lt hj', inv_at _ _ hj']
      omega
    have hs : W.drop (W.length - T.length) = inv T := by
      apply same_prefix (by rw [inv_len, List.length_drop]; omega)
      intro j hj
      have hj' : j < T.length := by rw [List.length_drop] at hj; omega
      have := (hb.1 (T.length - 1 - j) (by omega)).2.2
      rw [List.getElem?_drop, inv_at _ _ hj', show W.length - T.length + j = W.length - 1 - (T.length - 1 - j) by omega]
      omega
    refine ⟨W.drop T.length, .inr ⟨?_, ?_⟩⟩
    · conv => lhs; rw [← List.take_append_drop T.length W, hp]
    · conv => lhs; rw [← List.take_append_drop (W.length - T.length) W, hs, e]
def CE (C : List Int) : Prop := C[0]?.getD 0 + C[C.length - 1]?.getD 0 ≠ 0
theorem CR.ends {C : List Int} (h : CR C) (h0 : 0 < C.length) (hn : ∀ x ∈ C, x ≠ 0) : CE C := by
  intro e
  rcases Nat.lt_or_ge 1 C.length with h1 | h1
  · exact h ⟨h1, e⟩
  · rw [show C.length - 1 = 0 by omega, List.getElem?_eq_getElem h0] at e
    have := hn _ (List.getElem_mem h0)
    simp at e
    omega
theorem CE.cr {C : List Int} (h : CE C) : CR C := fun e => h e.2
theorem rp_ends (C : List Int) (k : Nat) (h0 : 0 < C.length) (hk : 0 < k) : (rp C k)[0]?.getD 0 = C[0]?.getD 0 ∧ (rp C k)[(rp C k).length - 1]?.getD 0 = C[C.length - 1]?.getD 0 := by
  have hpos : 0 < C.length * k := Nat.mul_pos h0 hk
  refine ⟨?_, ?_⟩
  · rw [rp_at _ _ _ hpos, Nat.zero_mod]
  · rw [rp_len, rp_at _ _ _ (by omega)]
    congr 2
    obtain ⟨k', rfl⟩ : ∃ k', k = k' + 1 := ⟨k - 1, by omega⟩
    rw [Nat.mul_succ, show C.length * k' + C.length - 1 = C.length - 1 + C.length * k' by omega, Nat.add_mul_mod_self_left, Nat.mod_eq_of_lt (by omega)]
theorem CE.rp {C : List Int} (h : CE C) (h0 : 0 < C.length) {k : Nat} (hk : 0 < k) : CE (rp C k) := by
  obtain ⟨h1, h2⟩ := rp_ends C k h0 hk
  unfold CE
  rw [h1, h2]
  exact h
theorem red_rp {C : List Int} (hr : Red C) (h : CE C) (h0 : 0 < C.length) : ∀ k, Red (rp C k)
  | 0 => red_nil
  | k + 1 => by
    rw [YthldipnfaiobaabGreatDoor.rp]
    refine red_append (red_rp hr h h0 k) hr fun h1 h2 e => ?_
    have hk : 0 < k := by
      rcases Nat.eq_zero_or_pos k with e | e
      · subst e; simp [YthldipnfaiobaabGreatDoor.rp] at h1
      · exact e
    rw [(rp_ends C k h0 hk).2] at e
    exact h (by omega)
theorem comm_T {P T : List Int} {n : Nat} (hP : Prim P) (hn : 0 < n) (hce : CE P) (hPr : Red P) (hT : Red T) (hT0 : 0 < T.length) (h : sh (rp P n ++ T) = sh (T ++ rp P n)) : ∃ t, 0 < t ∧ (T = rp P t ∨ inv T = rp P t) := by
  have hW := comm_pow h (T.length + 1)
  rw [rp_mul] at hW
  obtain ⟨N, hN⟩ : ∃ N, n * (T.length + 1) = N := ⟨_, rfl⟩
  rw [hN] at hW
  have hNT : T.length + 1 ≤ N := by rw [← hN]; exact Nat.le_mul_of_pos_left _ hn
  have hP1 := hP.1
  have hWl : (rp P N).length = P.length * N := rp_len P N
  have hbig : P.length + T.length ≤ P.length * N := by
    have h1 : P.length * (T.length + 1) ≤ P.length * N := Nat.mul_le_mul_left _ hNT
    have h2 : T.length ≤ P.length * T.length := Nat.le_mul_of_pos_left _ hP1
    rw [Nat.mul_succ] at h1
    omega
  obtain ⟨D, hD⟩ := comm_pref (red_rp hPr hce hP1 N) hT (CE.rp hce hP1 (by omega)).cr (by rw [hWl]; omega) hT0 hW
  have key : ∀ T' : List Int, T'.length = T.length → rp P N = T' ++ D → rp P N = D ++ T' → ∃ t, 0 < t ∧ T' = rp P t := by
    intro T' hl' e1 e2
    have hper : Per (rp P N) T.length := by
      intro j hj
      have hD2 : D.length + T.length = (rp P N).length := by rw [e2, List.length_append, hl']
      have h1 : (rp P N)[j]?.getD 0 = D[j]?.getD 0 := by rw [e2, List.getElem?_append_left (by omega)]
      have h2 : (rp P N)[j + T.length]?.getD 0 = D[j]?.getD 0 := by rw [e1, List.getElem?_append_right (by omega), hl', Nat.add_sub_cancel]
      rw [h1, h2]
    have hg := Per.gcd P.length T.length hP1 hT0 (per_rp_self P N hP1) hper (by rw [hWl]; exact hbig)
    have hgP : Per P (Nat.gcd P.length T.length) := by
      rw [show N = 1 + (N - 1) by omega, rp_add, rp_one] at hg
      exact per_pref hg
    have h3 := hP.2 _ (Nat.gcd_pos_of_pos_left _ hP1) (Nat.gcd_dvd_left _ _) hgP
    have h4 : Nat.gcd P.length T.length = P.length := Nat.le_antisymm (Nat.le_of_dvd hP1 (Nat.gcd_dvd_left _ _)) h3
    obtain ⟨t, ht⟩ : P.length ∣ T.length := by rw [← h4]; exact Nat.gcd_dvd_right _ _
    have ht0 : 0 < t := by
      rcases Nat.eq_zero_or_pos t with e | e
      · rw [e] at ht; omega
      · exact e
    have htN : t ≤ N := by
      have : t ≤ P.length * t := Nat.le_mul_of_pos_left _ hP1
      omega
    refine ⟨t, ht0, ?_⟩
    rw [show N = t + (N - t) by omega, rp_add] at e1
    exact (List.append_inj_left e1 (by rw [rp_len, hl', ht])).symm
  rcases hD with ⟨e1, e2⟩ | ⟨e1, e2⟩
  · obtain ⟨t, h1, h2⟩ := key T rfl e1 e2
    exact ⟨t, h1, .inl h2⟩
  · obtain ⟨t, h1, h2⟩ := key (inv T) (inv_len T) e1 e2
    exact ⟨t, h1, .inr h2⟩
end Go.Proofs.YthldipnfaiobaabGreatDoor
