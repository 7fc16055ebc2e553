/-
  What was written is read as it was: plain mathematics of numbers, strings and whole numbers as bytes.
-/
import Derived.Test.YtanbnefdodkniaaRdw
import Derived.Test.YtanbnefdodkniaaOrd
namespace Go.Proofs.Ytanbnefdodkniaa
open Go.RowKit Go.Lib Go.Sort

theorem hi_back : ∀ (f m : Nat) (rest : List Int), m < 128 ^ f → m < 18446744073709551616 → rdN 0 0 ((hiL m).reverse ++ rest) = rdN m (hiL m).length rest
  | 0, m, rest, h, _ => by
    simp at h; subst h; rfl
  | f + 1, m, rest, h, h64 => by
    by_cases h0 : m = 0
    · subst h0; rfl
    · have ih := hi_back f (m / 128) (((m % 128 + 128 : Nat) : Int) :: rest) (by rw [Nat.pow_succ] at h; omega) (by omega)
      rw [hiL_step m (by omega) h64, List.reverse_cons, List.append_assoc, List.singleton_append, ih]
      have hl : (hiL (m / 128)).length = 0 → m / 128 = 0 := by
        intro e
        by_cases h1 : m / 128 = 0
        · exact h1
        · rw [hiL_step (m / 128) (by omega) (by omega)] at e; simp at e
      rw [rdN]
      rw [if_neg (by rintro (⟨a, b⟩ | a); · have := hl b; omega
                     · omega), if_neg (by omega)]
      rw [List.length_cons]
      congr 1
      omega

/-- A number's form, read. -/
theorem num_back (n : Nat) (rest : List Int) (h64 : n < 18446744073709551616) : rdN 0 0 (numF n ++ rest) = (n, (numF n).length, 0) := by
  unfold numF
  rw [List.reverse_cons, List.append_assoc, List.singleton_append, hi_back 10 (n / 128) _ (by omega) (by omega), rdN]
  rw [if_neg (by omega), if_pos (by omega)]
  simp
  omega

theorem numF_rng (n : Nat) : ∀ x ∈ numF n, 0 ≤ x ∧ x ≤ 255 := by
  have h : ∀ (f m : Nat), ∀ x ∈ hiF f m, 0 ≤ x ∧ x ≤ 255 := by
    intro f
    induction f with
    | zero => intro m x hx; simp [hiF] at hx
    | succ f ih =>
      intro m x hx
      rw [hiF] at hx
      split at hx
      · simp at hx
      · rcases List.mem_cons.1 hx with rfl | hx
        · omega
        · exact ih _ x hx
  intro x hx
  unfold numF at hx
  rw [List.mem_reverse] at hx
  rcases List.mem_cons.1 hx with rfl | hx
  · omega
  · exact h _ _ x hx

theorem strOf_sB (s : ByteArray) : strOf (sB s) = s := by
  apply WideShapes.bytes_inj
  have := strOf_from (sB s) ByteArray.empty
  rw [strOf, this]
  simp only [bytesL, sB, List.map_map]
  show [] ++ _ = _
  rw [List.nil_append]
  refine Eq.trans (List.map_congr_left (g := id) fun b _ => ?_) (List.map_id _)
  simp

theorem wholeF_rng (neg : Bool) (mag : ByteArray) : ∀ x ∈ wholeF neg mag, 0 ≤ x ∧ x ≤ 255 := by
  intro x hx
  rcases List.mem_append.1 hx with hx | hx
  · exact numF_rng _ x hx
  · exact sB_rng _ x hx
theorem wholeF_len (neg : Bool) (mag : ByteArray) : (wholeF neg mag).length ≤ 11 + mag.size := by
  have := (numF_len (2 * mag.size + if neg then 1 else 0)).2
  unfold wholeF
  rw [List.length_append, sB_length]; omega

/-- A whole number's form, read. -/
theorem whole_back (A : List Int) (neg : Bool) (mag : ByteArray) (rest : List Int) (hp : plainW neg mag = true) :
    wR (A ++ (wholeF neg mag ++ rest)) A.length = ((neg, mag), A.length + (wholeF neg mag).length, 0) := by
  have hs := plainW_size hp
  have hd : (A ++ (wholeF neg mag ++ rest)).drop A.length = numF (2 * mag.size + if neg then 1 else 0) ++ (sB mag ++ rest) := by
    rw [List.drop_left]; unfold wholeF; rw [List.append_assoc]
  have hlt : (2 * mag.size + if neg then 1 else 0) < 18446744073709551616 := by split <;> omega
  have hr := num_back (2 * mag.size + if neg then 1 else 0) (sB mag ++ rest) hlt
  have hhalf : (2 * mag.size + if neg then 1 else 0) / 2 = mag.size := by split <;> omega
  have hodd : (((2 * mag.size + if neg then 1 else 0 : Nat) : Int) % 2 != 0) = neg := by
    cases neg
    · simp
    · simp
  have hd2 : ((A ++ (wholeF neg mag ++ rest)).drop (A.length + (numF (2 * mag.size + if neg then 1 else 0)).length)).take mag.size = sB mag := by
    rw [← List.drop_drop, hd, List.drop_left, ← sB_length mag, List.take_left]
  unfold wR
  rw [hd, hr]
  simp only []
  rw [hhalf, hodd, hd2, strOf_sB]
  rw [if_neg (by simp), if_neg (by omega), if_neg, if_pos hp]
  · unfold wholeF
    rw [List.length_append, sB_length]
    simp; omega
  · unfold wholeF
    simp only [List.length_append, sB_length]
    omega
end Go.Proofs.Ytanbnefdodkniaa
