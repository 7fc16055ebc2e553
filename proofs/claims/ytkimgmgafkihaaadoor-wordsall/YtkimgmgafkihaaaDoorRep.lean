/-
  slices.Repeat: a word so many times.
-/
import Derived.Test.YtkimgmgafkihaaaDoorPer
import Derived.Test.YtkimgmgafkihaaaDoorShf
namespace Go.Proofs.YtkimgmgafkihaaaDoor
open Go.RowKit Go.Lib Go.Sort
set_option linter.unusedVariables false
set_option linter.unusedSimpArgs false
set_option maxHeartbeats 1600000
set_option maxRecDepth 1000000
def rp (C : List Int) : Nat → List Int
  | 0 => []
  | n + 1 => rp C n ++ C
theorem rp_len (C : List Int) (n : Nat) : (rp C n).length = C.length * n := by
  induction n with
  | zero => rfl
  | succ n ih => rw [rp, List.length_append, ih, Nat.mul_succ]
theorem rp_at (C : List Int) (n j : Nat) (h : j < C.length * n) : (rp C n)[j]?.getD 0 = C[j % C.length]?.getD 0 := by
  induction n with
  | zero => simp at h
  | succ n ih =>
    rw [rp]
    rcases Nat.lt_or_ge j (C.length * n) with h1 | h1
    · rw [List.getElem?_append_left (by rw [rp_len]; exact h1), ih h1]
    · rw [List.getElem?_append_right (by rw [rp_len]; exact h1), rp_len]
      have h2 : j - C.length * n < C.length := by rw [Nat.mul_succ] at h; omega
      have h3 : j % C.length = j - C.length * n := by
        obtain ⟨d, rfl⟩ : ∃ d, j = C.length * n + d := ⟨j - C.length * n, by omega⟩
        rw [Nat.mul_add_mod, Nat.mod_eq_of_lt (by omega)]
        omega
      rw [h3]
def RpI (C A : List Int) (N n : Nat) : Prop := A.length = N ∧ n ≤ N ∧ C.length ∣ n ∧ ∀ j, j < n → A[j]?.getD 0 = C[j % C.length]?.getD 0
theorem RpI.step {C A : List Int} {N n m : Nat} (h : RpI C A N n) (hN : C.length ∣ N) (hn : n < N) (hm : m = min n (N - n)) : RpI C (A.take n ++ (A.take n).take m ++ A.drop (n + m)) N (n + m) := by
  obtain ⟨h1, h2, h3, h4⟩ := h
  have hl : (A.take n).length = n := by rw [List.length_take]; omega
  have hl2 : ((A.take n).take m).length = m := by rw [List.length_take, hl]; omega
  refine ⟨?_, by omega, ?_, fun j hj => ?_⟩
  · rw [List.length_append, List.length_append, hl, hl2, List.length_drop]
    omega
  · rcases Nat.le_total n (N - n) with e | e
    · rw [hm, Nat.min_eq_left e]
      exact Nat.dvd_add h3 h3
    · rw [hm, Nat.min_eq_right e, show n + (N - n) = N by omega]
      exact hN
  · rw [List.getElem?_append_left (by rw [List.length_append, hl, hl2]; exact hj)]
    rcases Nat.lt_or_ge j n with e | e
    · rw [List.getElem?_append_left (by rw [hl]; exact e), List.getElem?_take, if_pos e]
      exact h4 j e
    · rw [List.getElem?_append_right (by rw [hl]; exact e), hl, List.getElem?_take, if_pos (by omega), List.getElem?_take, if_pos (by omega), h4 _ (by omega)]
      congr 2
      obtain ⟨d, hd⟩ := h3
      rw [show j = C.length * d + (j - n) by omega, Nat.mul_add_mod]
      congr 1
      omega
theorem RpI.done {C A : List Int} {k N : Nat} (h : RpI C A N N) (hN : N = C.length * k) : A = rp C k := by
  apply same_prefix (by rw [h.1, rp_len, hN])
  intro j hj
  rw [h.1] at hj
  rw [h.2.2.2 j hj, rp_at C k j (by omega)]
theorem repeat_any (w : World) (v : Value) (C : List Int) (k : Nat) (h : Ints w v C) (h0 : 0 < C.length) (hl : C.length ≤ 1000000) (hk1 : 1 ≤ k) (hk : k ≤ 1000000) (hN : C.length * k ≤ 1000000) :
    Calls Tryd.prog 30 #[v, .int .i64 (k : Int)] w fun e w' => ∃ c, e = .returned (.slice (some ⟨w.heap.size, 0, none⟩) (C.length * k) (C.length * k)) ∧ Own w' w.heap.size (.slice (some ⟨w.heap.size, 0, none⟩) (C.length * k) c) (rp C k) ∧ w.grownBy w' none := by
  have HMul : Hid (∀ w, Calls Tryd.prog 42 #[.int .u64 ((C.length : Nat) : Int), .int .u64 (k : Int)] w fun e w' => e = .returned (.tuple #[.int .u64 0, .int .u64 ((C.length * k : Nat) : Int)]) ∧ w' = w) := fun w => by
    refine (Tryd.bits_Mul C.length k (by omega) (by omega) w).mono ?_
    rintro e w' ⟨rfl, rfl⟩
    rw [Nat.div_eq_of_lt (by omega), Nat.mod_eq_of_lt (by omega)]
    exact ⟨rfl, rfl⟩
  obtain ⟨w1, hmk, ho1, hg1⟩ := make_zeros w (C.length * k) (by omega)
  have HI1 : Hid (Ints w1 v C) := h.kept hg1
  have hO1 := ho1
  have HG1 : Hid (w.grownBy w1 none) := hg1
  have hpl : C.length ≤ C.length * k := Nat.le_mul_of_pos_right _ (by omega)
  have hdv : C.length ∣ C.length * k := Nat.dvd_mul_right _ _
  obtain ⟨w2, hcp, ho2, hg2⟩ := run_copy_ints w1 w.heap.size w.heap.size (C.length * k) (C.length * k) (List.replicate (C.length * k) 0) hO1 0 (C.length * k) (C.length * k) (by simp) v C HI1.out 3 (by omega)
  have hmin : min C.length (C.length * k) = C.length := Nat.min_eq_left hpl
  rw [hmin] at hcp ho2
  have HI0 : Hid (RpI C ((List.replicate (C.length * k) (0 : Int)).take 0 ++ C.take C.length ++ (List.replicate (C.length * k) 0).drop (0 + C.length)) (C.length * k) C.length) := by
    refine ⟨?_, hpl, Nat.dvd_refl _, fun j hj => ?_⟩
    · simp
      omega
    · rw [List.take_zero, List.nil_append, List.take_length, List.getElem?_append_left hj, Nat.mod_eq_of_lt hj]
  have HG2 : Hid (w.grownBy w2 none) := grownBy_new hg1 (Nat.le_refl _) hg2
  have HO2 : Hid (Own w2 w.heap.size (.slice (some ⟨w.heap.size, 0, none⟩) (C.length * k) (C.length * k)) ((List.replicate (C.length * k) (0 : Int)).take 0 ++ C.take C.length ++ (List.replicate (C.length * k) 0).drop (0 + C.length))) := ho2
  have HD : Hid (∀ A, RpI C A (C.length * k) (C.length * k) → A = rp C k) := fun A hA => hA.done rfl
  have HSt : Hid (∀ A n m, RpI C A (C.length * k) n → n < C.length * k → m = min n (C.length * k - n) → RpI C (A.take n ++ (A.take n).take m ++ A.drop (n + m)) (C.length * k) (n + m)) := fun A n m hA hn hm => hA.step hdv hn hm
  obtain ⟨ab, c, rfl, _⟩ := h.reads
  obtain ⟨N, hNe⟩ : ∃ N, C.length * k = N := ⟨_, rfl⟩
  rw [hNe] at HMul hmk hcp HI0 HO2 HD HSt hpl hN ⊢
  obtain ⟨q, hq⟩ : ∃ q, C.length = q := ⟨_, rfl⟩
  rw [hq] at HMul hcp HI0 hpl h0 hl HO2 ⊢
  have hqI : (q : Int) ≤ 1000000 := by omega
  have hkI : (k : Int) ≤ 1000000 := by omega
  have hNI : (N : Int) ≤ 1000000 := by omega
  generalize ((List.replicate N (0 : Int)).take 0 ++ C.take q ++ (List.replicate N 0).drop (0 + q)) = A0 at *
  clear h ho1 hg1 ho2 hg2 hO1 hmin hdv hNe hq HI1
  go_enter Tryd.func30, Tryd.ntmps30
  go_wp2_with (go_at_call 42; refine (HMul.out _).mono ?_; rintro e w' ⟨rfl, hw⟩; obtain rfl := hw.symm)
  go_loopw [8] (fun s wr => ∃ (n : Nat) (A : List Int), s = .int .i64 n ∧ 1 ≤ n ∧ RpI C A N n ∧ Own wr w.heap.size (.slice (some ⟨w.heap.size, 0, none⟩) N N) A ∧ w.grownBy wr none) (fun s _ => match s with | .int _ i => N - i.toNat | _ => 0)
  case atStart => exact ⟨q, A0, rfl, by omega, HI0.out, HO2.out, HG2.out⟩
  case round =>
    obtain ⟨n, A, rfl, hn1, hA, hO, hG⟩ := hrel
    have HA : Hid (RpI C A N n) := hA
    have HG : Hid (w.grownBy wr none) := hG
    have HO : Hid (Own wr w.heap.size (.slice (some ⟨w.heap.size, 0, none⟩) N N) A) := hO
    have hnN := hA.2.1
    have hAl : A.length = N := hA.1
    by_cases hlt : n < N
    · have hltI : (n : Int) < N := by omega
      have hIs : Ints wr.drew (.slice (some ⟨w.heap.size, 0, none⟩) n N) (A.take n) := by
        have := (HO.out.take n (by omega)).kept0 (grow_drew (grow0 wr))
        exact this.ints
      obtain ⟨w3, hcp3, ho3, hg3⟩ := run_copy_ints wr.drew w.heap.size w.heap.size N N A (HO.out.kept0 (grow_drew (grow0 wr))) n (N - n) (N - n) (by omega) _ (A.take n) hIs 3 (by omega)
      have hlen : (A.take n).length = n := by rw [List.length_take]; omega
      rw [hlen] at hcp3 ho3
      have HS := HSt.out A n (min n (N - n)) HA.out hlt rfl
      obtain ⟨m, hm⟩ : ∃ m, min n (N - n) = m := ⟨_, rfl⟩
      rw [hm] at hcp3 ho3 HS
      have HS2 : Hid (RpI C (A.take n ++ (A.take n).take m ++ A.drop (n + m)) N (n + m)) := HS
      have HO3 : Hid (Own w3 w.heap.size (.slice (some ⟨w.heap.size, 0, none⟩) N N) (A.take n ++ (A.take n).take m ++ A.drop (n + m))) := ho3
      have HG3 : Hid (w.grownBy w3 none) := grownBy_new (grow_drew HG.out) (Nat.le_refl _) hg3
      have hmp : 0 < m := by omega
      have hmN : n + m ≤ N := by omega
      have hmI : (n : Int) + m ≤ N := by omega
      have hwm : IntKind.i64.wrap ((n : Int) + m) = ((n + m : Nat) : Int) := by
        rw [IntKind.wrap_i64]
        omega
      clear hA hO hG ho3 hg3 HS hIs hlen hAl hm
      go_wp2
      go_region_held3 (fun _ => True) (trivial) (fail)
      all_goals (
        go_wp2
        go_roundw
        case rel => exact ⟨n + m, _, rfl, by omega, HS2.out, HO3.out, HG3.out⟩
        case measure => simp; omega)
    · have e : n = N := by omega
      subst e
      have HE : Hid (A = rp C k) := HD.out A HA.out
      clear hA hO hG hAl
      go_wp2
      go_ret
      have h1 := HO.out
      rw [HE.out] at h1
      exact ⟨_, rfl, h1, HG.out⟩
end Go.Proofs.YtkimgmgafkihaaaDoor
