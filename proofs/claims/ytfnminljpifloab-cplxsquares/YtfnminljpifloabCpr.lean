/-
  Texts: a digit's worth, a part read, a part told.
-/
import Derived.Test.YtfnminljpifloabCpe
import Derived.Deep.LoopGhost
import Derived.Lib.Walk
namespace Go.Proofs.Ytfnminljpifloab
open Go.RowKit Go.Lib Ieee
attribute [local go_sem] extBits extFrom

/-- What a digit's byte is worth. -/
def hexD (c : Nat) : Nat := if c ≤ 57 then c - 48 else c - 87
def isHex (c : Nat) : Prop := (48 ≤ c ∧ c ≤ 57) ∨ (97 ≤ c ∧ c ≤ 102)

set_option maxHeartbeats 1600000 in
theorem worth_any (c : Nat) (h : isHex c) :
    Gives 32 #[.int .u8 (c : Int)] (.tuple #[.int .u64 ((hexD c : Nat) : Int), .bool true]) := by
  intro w
  rcases h with ⟨h1, h2⟩ | ⟨h1, h2⟩
  · have e : hexD c = c - 48 := by rw [hexD, if_pos h2]
    have a1 : (48 : Int) ≤ (c : Int) := by omega
    have a2 : (c : Int) ≤ 57 := by omega
    rw [e]
    go_enter Try.func32, Try.ntmps32
    go_wp2
    go_ret2
    refine ⟨?_, rfl⟩
    rw [show ((c - 48 : Nat) : Int) = (c : Int) - 48 by omega]
    rfl
  · have e : hexD c = c - 87 := by rw [hexD, if_neg (by omega)]
    have a1 : (97 : Int) ≤ (c : Int) := by omega
    have a2 : (c : Int) ≤ 102 := by omega
    have a3 : ¬ (c : Int) ≤ 57 := by omega
    rw [e]
    go_enter Try.func32, Try.ntmps32
    go_wp2
    go_ret2
    refine ⟨?_, rfl⟩
    rw [show ((c - 87 : Nat) : Int) = (c : Int) - 97 + 10 by omega]
    rfl

/-- The number of the first k digits. -/
def hexV (s : ByteArray) : Nat → Nat
  | 0 => 0
  | k + 1 => hexV s k * 16 + hexD (s.data.toList.getD k 0).toNat

theorem hexD_lt {c : Nat} (h : isHex c) : hexD c < 16 := by
  unfold hexD
  rcases h with h | h <;> split <;> omega
theorem hexV_lt (s : ByteArray) (hd : ∀ k, k < 16 → isHex (s.data.toList.getD k 0).toNat) : ∀ k, k ≤ 16 → hexV s k < 16 ^ k
  | 0, _ => by show 0 < 1; decide
  | k + 1, h => by
    have h1 := hexV_lt s hd k (by omega)
    have h2 := hexD_lt (hd k (by omega))
    rw [hexV, Nat.pow_succ]
    omega
theorem byte_at (s : ByteArray) (i : Nat) (h : i < s.size) : (s[i]'h) = s.data.toList.getD i 0 := by
  have h' : i < s.data.toList.length := by rw [Array.length_toList]; exact h
  rw [List.getD_eq_getElem?_getD, List.getElem?_eq_getElem h']
  rfl

set_option maxHeartbeats 1600000 in
theorem readP_any (s : ByteArray) (hs : s.size = 16) (hd : ∀ k, k < 16 → isHex (s.data.toList.getD k 0).toNat) (hn : (double.order (hexV s 16) (hexV s 16) == some .eq) = true) :
    Gives 23 #[.string s] (.tuple #[.float .f64 (hexV s 16), .bool true]) := by
  intro w
  have hnan : (s.toList == [110, 97, 110]) = false := by
    rw [beq_eq_false_iff_ne]
    intro e
    have := congrArg List.length e
    rw [ByteArray.toList_eq, Array.length_toList] at this
    exact absurd (hs.symm.trans this) (by decide)
  obtain ⟨V, hV⟩ : ∃ V, hexV s 16 = V := ⟨_, rfl⟩
  have HW : Hid (hexV s 16 = V) := hV
  rw [hV] at hn ⊢
  clear hV
  have hq : (FloatKind.f64.format.order V V == some .eq) = true := hn
  have HS : Hid (s.size = 16) := hs
  have hsI : (s.size : Int) = 16 := by omega
  clear hs
  go_enter Try.func23, Try.ntmps23
  go_wp2
  go_loopw [4, 17] (fun n k wr => ∃ i : Nat, i ≤ 16 ∧ k = .int .i64 i ∧ n = .int .u64 (hexV s i) ∧ wr = w) (fun _ k _ => 16 - (RowKit.intOf k).toNat)
  case atStart => exact ⟨0, by omega, rfl, rfl, rfl⟩
  case round =>
    obtain ⟨i, hi, rfl, rfl, rfl⟩ := hrel
    by_cases h16 : i = 16
    · subst h16
      rw [HW.out]
      go_wp2_with (go_at_call 19; refine (isNaN_any _ _).mono ?_; rintro e w' ⟨rfl, rfl⟩; rw [bne, show (double.order V V == some .eq) = true from hn])
      go_ret2
      exact ⟨rfl, rfl⟩
    · have hlt : i < 16 := by omega
      have hltI : (i : Int) < 16 := by omega
      have HX : Hid (isHex (s.data.toList.getD i 0).toNat) := hd i hlt
      have HB : Hid (∀ h : i < s.size, (s[i]'h) = s.data.toList.getD i 0) := byte_at s i
      have h1 : (hexV s i : Int) ≤ 1152921504606846975 := by
        have h1 := hexV_lt s hd i (by omega)
        have h2 : (16 : Nat) ^ i ≤ 16 ^ 15 := Nat.pow_le_pow_right (by decide) (by omega)
        have h3 : (16 : Nat) ^ 15 = 1152921504606846976 := by decide
        omega
      obtain ⟨D, hD⟩ : ∃ D, hexD (s.data.toList.getD i 0).toNat = D := ⟨_, rfl⟩
      have h2 : (D : Int) ≤ 15 := by have := hexD_lt HX.out; omega
      have HV : Hid (hexV s (i + 1) = hexV s i * 16 + D) := (congrArg (hexV s i * 16 + ·) hD : hexV s i * 16 + hexD (s.data.toList.getD i 0).toNat = _)
      have HQ : Hid (Gives 32 #[.int .u8 ((s.data.toList.getD i 0).toNat : Int)] (.tuple #[.int .u64 (D : Int), .bool true])) := by
        have := worth_any _ HX.out
        rw [hD] at this
        exact this
      clear hd hn hq hD
      generalize hexV s i = U at *
      go_wp2_with (go_at_call 32; rw [HB.out]; refine (HQ.out _).mono ?_; rintro e w' ⟨rfl, rfl⟩)
      go_roundw
      case rel => exact ⟨i + 1, by omega, by push_cast; rfl, by rw [HV.out]; push_cast; rfl, trivial⟩
      case measure => simp [RowKit.intOf]; omega
end Go.Proofs.Ytfnminljpifloab
