/-
  Digits of a text: the program's groupValue and plainDigits.
-/
import Derived.Test.YtmgbkcfocbbofabGreatDoorRse
namespace Go.Proofs.YtmgbkcfocbbofabGreatDoor
open Go.RowKit Go.Lib Go.Sort

/-- The number that decimal digits are. -/
def dec (l : List Nat) : Nat := l.foldl (fun n b => n * 10 + (b - 48)) 0
theorem dec_snoc (l : List Nat) (b : Nat) : dec (l ++ [b]) = dec l * 10 + (b - 48) := by simp [dec, List.foldl_append]
def isDig (b : Nat) : Prop := 48 ≤ b ∧ b ≤ 57
theorem dec_from : ∀ (b : List Nat) (n : Nat), b.foldl (fun n b => n * 10 + (b - 48)) n = n * 10 ^ b.length + dec b
  | [], n => by simp [dec]
  | x :: b, n => by
    have h1 := dec_from b (n * 10 + (x - 48))
    have h2 := dec_from b (0 * 10 + (x - 48))
    have e : dec (x :: b) = (0 * 10 + (x - 48)) * 10 ^ b.length + dec b := h2
    rw [List.foldl_cons, h1, e, List.length_cons, Nat.pow_succ, Nat.add_mul, Nat.add_mul, Nat.zero_mul, Nat.zero_add, Nat.mul_assoc, Nat.mul_comm 10]
    omega
theorem dec_append (a b : List Nat) : dec (a ++ b) = dec a * 10 ^ b.length + dec b := by
  rw [dec, List.foldl_append, dec_from]
  rfl
theorem dec_cons (x : Nat) (b : List Nat) : dec (x :: b) = (x - 48) * 10 ^ b.length + dec b := by
  have := dec_append [x] b
  simpa [dec] using this
theorem dec_lt : ∀ (l : List Nat), (∀ b ∈ l, isDig b) → dec l < 10 ^ l.length
  | [], _ => by simp [dec]
  | x :: l, h => by
    have h1 := dec_lt l (fun y hy => h y (List.mem_cons_of_mem _ hy))
    have h2 := h x (by simp)
    unfold isDig at h2
    rw [dec_cons, List.length_cons, Nat.pow_succ]
    have h3 : (x - 48) * 10 ^ l.length ≤ 9 * 10 ^ l.length := Nat.mul_le_mul_right _ (by omega)
    omega

set_option maxHeartbeats 1600000 in
set_option maxRecDepth 1000000 in
theorem groupValue_any (s : ByteArray) (h9 : s.size ≤ 9) (hd : ∀ b ∈ bN s, isDig b) (w : World) :
    Calls Tryz.prog 41 #[.string s] w fun e w' => e = .returned (.int .u32 ((dec (bN s) : Nat) : Int)) ∧ w' = w := by
  have HD : Hid (∀ b ∈ bN s, isDig b) := hd
  clear hd
  go_enter Tryz.func41, Tryz.ntmps41
  go_wp2
  go_loopw [3, 7] (fun x i wr => ∃ k, k ≤ s.size ∧ x = .int .u32 ((dec ((bN s).take k) : Nat) : Int) ∧ i = .int .i64 k ∧ wr = w) (fun _ i _ => s.size - (RowKit.intOf i).toNat)
  case atStart => exact ⟨0, by omega, rfl, rfl, rfl⟩
  case round =>
    obtain ⟨k, hk, rfl, rfl, rfl⟩ := hrel
    by_cases hk1 : k < s.size
    · have hb := bN_at s k hk1
      have hlt : dec ((bN s).take k) < 100000000 := by
        have h1 := dec_lt ((bN s).take k) (fun b hb => HD.out b (List.mem_of_mem_take hb))
        have h2 : 10 ^ ((bN s).take k).length ≤ 10 ^ 8 := Nat.pow_le_pow_right (by decide) (by rw [List.length_take]; omega)
        have h3 : 10 ^ 8 = 100000000 := by decide
        omega
      have HS : Hid (dec ((bN s).take (k + 1)) = dec ((bN s).take k) * 10 + (s[k].toNat - 48)) := (by show dec ((bN s).take (k + 1)) = _; rw [take_succ_at hb, dec_snoc])
      have hy := HD.out s[k].toNat (by rw [List.mem_iff_getElem?]; exact ⟨k, hb⟩)
      obtain ⟨hy1, hy2⟩ := hy
      have hw : IntKind.u8.wrap ((s[k].toNat : Int) - 48) = (s[k].toNat : Int) - 48 := by rw [IntKind.wrap_u8]; omega
      clear hb
      generalize dec ((bN s).take k) = X at *
      go_wp2
      go_roundw
      case rel => exact ⟨k + 1, by omega, num_eq (by rw [HS.out]; omega), rfl, trivial⟩
      case measure => simp [RowKit.intOf]; omega
    · have hk0 : k = s.size := by omega
      subst hk0
      have ht : (bN s).take s.size = bN s := by rw [List.take_of_length_le (by rw [bN_length]; exact Nat.le_refl _)]
      rw [ht]
      go_wp2
      go_ret
      exact ⟨rfl, rfl⟩

/-- Digits without noughts ahead. -/
def plain (s : ByteArray) : Prop := (∀ b ∈ bN s, isDig b) ∧ s.size ≠ 0 ∧ (s.size = 1 ∨ (bN s).head?.getD 0 ≠ 48)
instance (b : Nat) : Decidable (isDig b) := by unfold isDig; exact inferInstance
instance (s : ByteArray) : Decidable (plain s) := by unfold plain; exact inferInstance
end Go.Proofs.YtmgbkcfocbbofabGreatDoor
