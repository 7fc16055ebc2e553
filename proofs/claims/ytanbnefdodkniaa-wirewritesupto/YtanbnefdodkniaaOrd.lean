/-
  The forms of numbers stand in the order of the numbers: the longer one, or byte by byte the greater, is the greater number's. Plain mathematics.
-/
import Derived.Test.YtanbnefdodkniaaKno
namespace Go.Proofs.Ytanbnefdodkniaa
open Go.RowKit Go.Lib Go.Sort

def bytesL (L : List Int) : List UInt8 := L.map fun n => UInt8.ofNat n.toNat
theorem strOf_from (L : List Int) : ∀ s : ByteArray, (L.foldl (fun r n => r.push (UInt8.ofNat n.toNat)) s).data.toList = s.data.toList ++ bytesL L := by
  induction L with
  | nil => intro s; simp [bytesL]
  | cons x xs ih =>
    intro s
    rw [List.foldl_cons, ih]
    simp [bytesL, ByteArray.push]
theorem strOf_toList (L : List Int) : (strOf L).toList = bytesL L := by
  rw [ByteArray.toList_eq]
  have := strOf_from L ByteArray.empty
  simpa [strOf] using this
theorem bytesL_append (A B : List Int) : bytesL (A ++ B) = bytesL A ++ bytesL B := by simp [bytesL]
theorem bytesL_length (A : List Int) : (bytesL A).length = A.length := by simp [bytesL]

theorem less_irrefl : ∀ A : List UInt8, Op.bytesLess A A = false
  | [] => by simp [Op.bytesLess]
  | x :: xs => by simp [Op.bytesLess, less_irrefl xs]
theorem less_snoc : ∀ (A B : List UInt8) (c d : UInt8), A.length = B.length → Op.bytesLess A B = true → Op.bytesLess (A ++ [c]) (B ++ [d]) = true
  | [], [], _, _, _, h => by simp [Op.bytesLess] at h
  | x :: xs, y :: ys, c, d, hl, h => by
    simp only [List.cons_append, Op.bytesLess] at h ⊢
    have ih := less_snoc xs ys c d (by simpa using hl)
    by_cases h1 : x < y
    · simp [h1]
    · simp [h1] at h ⊢
      exact ⟨h.1, ih h.2⟩
  | [], _ :: _, _, _, hl, _ => by simp at hl
  | _ :: _, [], _, _, hl, _ => by simp at hl
theorem less_last : ∀ (A : List UInt8) (c d : UInt8), c < d → Op.bytesLess (A ++ [c]) (A ++ [d]) = true
  | [], c, d, h => by simp [Op.bytesLess, h]
  | x :: xs, c, d, h => by
    simp only [List.cons_append, Op.bytesLess]
    have := less_last xs c d h
    simp [this]
theorem less_asymm : ∀ (A B : List UInt8), Op.bytesLess A B = true → Op.bytesLess B A = false
  | [], [], h => by simp [Op.bytesLess]
  | [], _ :: _, h => by simp [Op.bytesLess]
  | _ :: _, [], h => by simp [Op.bytesLess] at h
  | x :: xs, y :: ys, h => by
    simp only [Op.bytesLess] at h ⊢
    have ih := less_asymm xs ys
    simp only [Bool.or_eq_true, decide_eq_true_eq, Bool.and_eq_true, beq_iff_eq] at h
    simp only [Bool.or_eq_false_iff, decide_eq_false_iff_not, Bool.and_eq_false_iff, beq_eq_false_iff_ne]
    rcases h with h | ⟨rfl, h⟩
    · refine ⟨fun h' => ?_, .inl fun e => ?_⟩
      · rw [UInt8.lt_iff_toNat_lt] at h h'; omega
      · rw [e, UInt8.lt_iff_toNat_lt] at h; omega
    · refine ⟨fun h' => ?_, .inr (ih h)⟩
      rw [UInt8.lt_iff_toNat_lt] at h'; omega

/-- The one stands ahead of the other. -/
def Ahead (A B : List UInt8) : Prop := A.length < B.length ∨ (A.length = B.length ∧ Op.bytesLess A B = true)
theorem Ahead.snoc {A B : List UInt8} (h : Ahead A B) (c d : UInt8) : Ahead (A ++ [c]) (B ++ [d]) := by
  rcases h with h | ⟨h1, h2⟩
  · left; simp; omega
  · right; exact ⟨by simp [h1], less_snoc A B c d h1 h2⟩
theorem ahead_last (A : List UInt8) {c d : UInt8} (h : c < d) : Ahead (A ++ [c]) (A ++ [d]) := .inr ⟨by simp, less_last A c d h⟩
theorem Ahead.not {A B : List UInt8} (h : Ahead A B) : ¬ Ahead B A := by
  rintro (k | ⟨k1, k2⟩)
  · rcases h with h | ⟨h1, _⟩ <;> omega
  · rcases h with h | ⟨h1, h2⟩
    · omega
    · rw [less_asymm A B h2] at k2; cases k2
theorem Ahead.ne {A B : List UInt8} (h : Ahead A B) : A ≠ B := by
  rintro rfl
  exact h.not h

theorem byte_lt {x y : Nat} (hy : y < 256) (h : x < y) : UInt8.ofNat ((x : Int)).toNat < UInt8.ofNat ((y : Int)).toNat := by
  rw [UInt8.lt_iff_toNat_lt]
  simp
  omega

theorem hi_ahead : ∀ (f a b : Nat), b < 128 ^ f → b < 18446744073709551616 → a < b → Ahead (bytesL (hiL a).reverse) (bytesL (hiL b).reverse)
  | 0, a, b, h, _, hab => by simp at h; omega
  | f + 1, a, b, h, h64, hab => by
    have hb := hiL_step b (by omega) h64
    by_cases ha0 : a = 0
    · subst ha0
      left
      rw [hb, hiL_zero]
      simp [bytesL]
    · have ha := hiL_step a (by omega) (by omega)
      rw [ha, hb, List.reverse_cons, List.reverse_cons, bytesL_append, bytesL_append]
      by_cases hq : a / 128 < b / 128
      · exact (hi_ahead f (a / 128) (b / 128) (by rw [Nat.pow_succ] at h; omega) (by omega) hq).snoc _ _
      · have e : a / 128 = b / 128 := by omega
        rw [e]
        exact ahead_last _ (byte_lt (by omega) (by omega))

/-- The form of a smaller number stands ahead. -/
theorem num_ahead (a b : Nat) (h64 : b < 18446744073709551616) (hab : a < b) : Ahead (bytesL (numF a)) (bytesL (numF b)) := by
  unfold numF
  rw [List.reverse_cons, List.reverse_cons, bytesL_append, bytesL_append]
  by_cases hq : a / 128 < b / 128
  · exact (hi_ahead 10 (a / 128) (b / 128) (by omega) (by omega) hq).snoc _ _
  · have e : a / 128 = b / 128 := by omega
    rw [e]
    exact ahead_last _ (byte_lt (by omega) (by omega))

theorem num_inj (a b : Nat) (ha : a < 18446744073709551616) (hb : b < 18446744073709551616) : (bytesL (numF a) == bytesL (numF b)) = ((a : Int) == (b : Int)) := by
  rcases Nat.lt_trichotomy a b with h | h | h
  · have := (num_ahead a b hb h).ne
    have e1 : (bytesL (numF a) == bytesL (numF b)) = false := by simpa using this
    have e2 : ((a : Int) == (b : Int)) = false := by simp; omega
    rw [e1, e2]
  · subst h; simp
  · have := (num_ahead b a ha h).ne
    have e1 : (bytesL (numF a) == bytesL (numF b)) = false := by simpa using this.symm
    have e2 : ((a : Int) == (b : Int)) = false := by simp; omega
    rw [e1, e2]
/-- What the three tests say. -/
theorem num_order (a b : Nat) (ha : a < 18446744073709551616) (hb : b < 18446744073709551616) :
    (numF a).length < (numF b).length ∧ a < b ∨ (numF b).length < (numF a).length ∧ b < a ∨ (numF a).length = (numF b).length ∧ Op.bytesLess (bytesL (numF a)) (bytesL (numF b)) = decide (a < b) := by
  rcases Nat.lt_trichotomy a b with h | h | h
  · rcases num_ahead a b hb h with k | ⟨k1, k2⟩
    · left; simp only [bytesL_length] at k; exact ⟨k, h⟩
    · right; right; simp only [bytesL_length] at k1; exact ⟨k1, by rw [k2]; simp [h]⟩
  · subst h; right; right; exact ⟨rfl, by rw [less_irrefl]; simp⟩
  · rcases num_ahead b a ha h with k | ⟨k1, k2⟩
    · right; left; simp only [bytesL_length] at k; exact ⟨k, h⟩
    · right; right; simp only [bytesL_length] at k1; refine ⟨k1.symm, ?_⟩
      rw [less_asymm _ _ k2]; simp; omega
end Go.Proofs.Ytanbnefdodkniaa
