/-
  The program's Count and the document's, at any place.
-/
import Derived.Test.YtkimgmgafkihaaaDoorShf
import Derived.Test.YtkimgmgafkihaaaDoorTop
namespace Go.Proofs.YtkimgmgafkihaaaDoor
open Go.RowKit Go.Lib Go.Sort
set_option linter.unusedVariables false
set_option linter.unusedSimpArgs false
set_option maxHeartbeats 1600000
set_option maxRecDepth 100000
def cgo (m : Nat) : Nat → Nat → Option Nat
  | 0, c => some c
  | k + 1, c => if c * m / 18446744073709551616 = 0 then cgo m k (c * m % 18446744073709551616) else none
def ctF (r : Option Nat) : Int := if r.isSome then 0 else 4
def ctO (l n : Int) : Option Nat := cgo (2 * l - 1).toNat (n - 1).toNat (2 * l).toNat
def ctC (l n : Int) : Nat := if l < 1 ∨ 64 < l ∨ n < 0 then 0 else if n = 0 then 1 else if l = 1 then 2 else (ctO l n).getD 0
def ctE (l n : Int) : Int := if l < 1 ∨ 64 < l ∨ n < 0 then 2 else if n = 0 then 0 else if l = 1 then 0 else ctF (ctO l n)
theorem cg_le {l : Int} (h1 : 2 ≤ l) (h2 : l ≤ 64) : ∃ c0 m : Nat, IntKind.i64.wrap (2 * l) = (c0 : Int) ∧ IntKind.u64.wrap (c0 : Int) = (c0 : Int) ∧ IntKind.i64.wrap ((c0 : Int) - 1) = (m : Int) ∧ IntKind.u64.wrap (m : Int) = (m : Int) ∧ c0 < 18446744073709551616 ∧ m < 18446744073709551616 ∧ (2 * l).toNat = c0 ∧ (2 * l - 1).toNat = m := by
  refine ⟨(2 * l).toNat, (2 * l - 1).toNat, ?_, ?_, ?_, ?_, by omega, by omega, rfl, rfl⟩
  · rw [IntKind.wrap_i64]; omega
  · rw [IntKind.wrap_u64]; omega
  · rw [IntKind.wrap_i64]; omega
  · rw [IntKind.wrap_u64]; omega
theorem count_arg (l n : Int) (h : l < 1 ∨ 64 < l ∨ n < 0) (w : World) : Calls Tryd.prog 4 #[.int .i64 l, .int .i64 n] w fun e w' => e = .returned (.tuple #[.int .u64 0, .int .i64 2]) ∧ w' = w := by
  by_cases h1 : l < 1
  · have hb1 : decide (l < 1) = true := decide_eq_true h1
    go_enter Tryd.func4, Tryd.ntmps4
    go_wp2_with fail
    go_ret2
    exact ⟨rfl, rfl⟩
  · have hb1 : decide (l < 1) = false := decide_eq_false h1
    by_cases h2 : 64 < l
    · have hb2 : decide (64 < l) = true := decide_eq_true h2
      go_enter Tryd.func4, Tryd.ntmps4
      go_wp2_with fail
      go_ret2
      exact ⟨rfl, rfl⟩
    · have hb2 : decide (64 < l) = false := decide_eq_false h2
      have hb3 : decide (n < 0) = true := decide_eq_true (by omega)
      go_enter Tryd.func4, Tryd.ntmps4
      go_wp2_with fail
      go_ret2
      exact ⟨rfl, rfl⟩
theorem count_few (l n : Int) (h1 : ¬ l < 1) (h2 : ¬ 64 < l) (h3 : n = 0 ∨ 0 < n ∧ l = 1) (w : World) : Calls Tryd.prog 4 #[.int .i64 l, .int .i64 n] w fun e w' => e = .returned (.tuple #[.int .u64 (if n = 0 then 1 else 2), .int .i64 0]) ∧ w' = w := by
  have hb1 : decide (l < 1) = false := decide_eq_false h1
  have hb2 : decide (64 < l) = false := decide_eq_false h2
  have hb3 : decide (n < 0) = false := decide_eq_false (by omega)
  by_cases h0 : n = 0
  · rw [if_pos h0]
    subst h0
    go_enter Tryd.func4, Tryd.ntmps4
    go_wp2_with fail
    go_ret2
    exact ⟨rfl, rfl⟩
  · rw [if_neg h0]
    obtain rfl : l = 1 := by omega
    have hb4 : (n == 0) = false := by simpa using h0
    go_enter Tryd.func4, Tryd.ntmps4
    go_wp2_with fail
    go_ret2
    exact ⟨rfl, rfl⟩
theorem count_go (l n : Int) (h1 : 2 ≤ l) (h2 : l ≤ 64) (h3 : 0 < n) (h4 : n < 9223372036854775808) (w : World) : Calls Tryd.prog 4 #[.int .i64 l, .int .i64 n] w fun e w' => e = .returned (.tuple #[.int .u64 (((ctO l n).getD 0 : Nat) : Int), .int .i64 (ctF (ctO l n))]) ∧ w' = w := by
  have hb1 : decide (l < 1) = false := decide_eq_false (by omega)
  have hb2 : decide (64 < l) = false := decide_eq_false (by omega)
  have hb3 : decide (n < 0) = false := decide_eq_false (by omega)
  have hb4 : (n == 0) = false := by simp; omega
  have hb5 : (l == 1) = false := by simp; omega
  obtain ⟨c0, m, e1, e2, e3, e4, hc, hm, e5, e6⟩ := cg_le h1 h2
  obtain ⟨q, hq⟩ : ∃ q : Nat, (n - 1).toNat = q := ⟨_, rfl⟩
  have e7 : IntKind.i64.wrap (n - 1) = (q : Int) := by rw [IntKind.wrap_i64]; omega
  have HQ : Hid (q < 9223372036854775807) := by show q < _; omega
  unfold ctO
  rw [e5, e6, hq]
  clear e5 e6 hq
  obtain ⟨r, hr⟩ : ∃ r, cgo m q c0 = r := ⟨_, rfl⟩
  have HR : Hid (cgo m q c0 = r) := hr
  rw [hr]
  clear hr
  go_enter Tryd.func4, Tryd.ntmps4
  go_wp2_with fail
  go_loopw [6, 36] (fun s t wr => ∃ (i c : Nat), i ≤ q ∧ t = .int .i64 (i : Int) ∧ s = .int .u64 (c : Int) ∧ c < 18446744073709551616 ∧ cgo m (q - i) c = r ∧ w = wr) (fun _ t _ => match t with | .int _ i => q + 1 - i.toNat | _ => 0)
  case atStart => exact ⟨0, c0, by omega, rfl, rfl, hc, HR.out, rfl⟩
  case round =>
    obtain ⟨i, c, hi, rfl, rfl, hcc, hcg, rfl⟩ := hrel
    have HG : Hid (cgo m (q - i) c = r) := hcg
    have HC : Hid (i ≤ q ∧ c < 18446744073709551616) := ⟨hi, hcc⟩
    clear hcg hi hcc HR
    by_cases hiq : i < q
    · have hd : decide (i < q) = true := decide_eq_true hiq
      obtain ⟨k, hk⟩ : ∃ k, q - i = k + 1 := ⟨q - i - 1, by omega⟩
      have HK : Hid (q - (i + 1) = k) := by show q - (i + 1) = k; omega
      have HS : Hid (i + 1 ≤ q ∧ q < 9223372036854775807) := ⟨hiq, HQ.out⟩
      have hw1 : IntKind.i64.wrap ((i : Int) + 1) = ((i + 1 : Nat) : Int) := by rw [IntKind.wrap_i64]; have := HS.out; omega
      rw [hk] at HG
      clear hk hiq
      go_wp2_with fail
      refine (Tryd.bits_Mul64 c m HC.out.2 hm _).mono ?_
      have HR2 : Hid (∀ hh ll, c * m / 18446744073709551616 = hh → c * m % 18446744073709551616 = ll → ll < 18446744073709551616 ∧ (if hh = 0 then cgo m k ll else none) = r) := by
        rintro hh ll rfl rfl
        exact ⟨Nat.mod_lt _ (by decide), HG.out⟩
      obtain ⟨hh, h1⟩ : ∃ hh, c * m / 18446744073709551616 = hh := ⟨_, rfl⟩
      obtain ⟨ll, h2⟩ : ∃ ll, c * m % 18446744073709551616 = ll := ⟨_, rfl⟩
      have HR3 : Hid (ll < 18446744073709551616 ∧ (if hh = 0 then cgo m k ll else none) = r) := HR2.out hh ll h1 h2
      rw [h1, h2]
      clear h1 h2 HR2 HG
      rintro e w' ⟨rfl, hw⟩
      obtain rfl := hw.symm
      by_cases h0 : hh = 0
      · subst h0
        go_wp2_with fail
        go_roundw
        case rel => exact ⟨i + 1, ll, HS.out.1, by simp, rfl, HR3.out.1, by rw [HK.out]; exact HR3.out.2, trivial⟩
        case measure => simp; have := HS.out; omega
      · have hb : ((hh : Int) != 0) = true := by simp; omega
        have HN : Hid (r = none) := by have := HR3.out.2; rw [if_neg h0] at this; exact this.symm
        go_wp2_with fail
        go_ret2
        rw [HN.out]
        exact ⟨rfl, rfl⟩
    · have hd : decide (i < q) = false := decide_eq_false hiq
      have HN : Hid (r = some c) := by
        have h := HG.out
        rw [show q - i = 0 by omega] at h
        exact h.symm
      go_wp2_with fail
      go_ret2
      rw [HN.out]
      exact ⟨rfl, rfl⟩
theorem ct_arg {l n : Int} (h : l < 1 ∨ 64 < l ∨ n < 0) : ctC l n = 0 ∧ ctE l n = 2 := ⟨if_pos h, if_pos h⟩
theorem count_any (l n : Int) (hn : n < 9223372036854775808) (w : World) : Calls Tryd.prog 4 #[.int .i64 l, .int .i64 n] w fun e w' => e = .returned (.tuple #[.int .u64 ((ctC l n : Nat) : Int), .int .i64 (ctE l n)]) ∧ w' = w := by
  by_cases hA : l < 1 ∨ 64 < l ∨ n < 0
  · rw [(ct_arg hA).1, (ct_arg hA).2]
    exact count_arg l n hA w
  · by_cases hB : n = 0 ∨ 0 < n ∧ l = 1
    · have h := count_few l n (by omega) (by omega) hB w
      unfold ctC ctE
      rw [if_neg hA, if_neg hA]
      by_cases h0 : n = 0
      · rw [if_pos h0] at h
        rw [if_pos h0, if_pos h0]
        exact h
      · rw [if_neg h0] at h
        rw [if_neg h0, if_neg h0, if_pos (by omega), if_pos (by omega)]
        exact h
    · have h := count_go l n (by omega) (by omega) (by omega) hn w
      unfold ctC ctE
      rw [if_neg hA, if_neg hA, if_neg (by omega), if_neg (by omega), if_neg (by omega), if_neg (by omega)]
      exact h
end Go.Proofs.YtkimgmgafkihaaaDoor
