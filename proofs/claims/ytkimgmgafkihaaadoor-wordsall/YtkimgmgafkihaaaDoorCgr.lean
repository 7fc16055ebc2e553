/-
  The document's Count, at any place.
-/
import Derived.Test.YtkimgmgafkihaaaDoorCgn
namespace Go.Proofs.YtkimgmgafkihaaaDoor
open Go.RowKit Go.Lib Go.Sort
set_option linter.unusedVariables false
set_option linter.unusedSimpArgs false
set_option maxHeartbeats 1600000
set_option maxRecDepth 100000
theorem rCount_arg (l n : Int) (h : l < 1 ∨ 64 < l ∨ n < 0) (w : World) : Calls Tryd.prog 5 #[.int .i64 l, .int .i64 n] w fun e w' => e = .returned (.tuple #[.int .u64 0, .int .i64 2]) ∧ w' = w := by
  by_cases h1 : l < 1
  · have hb1 : decide (l < 1) = true := decide_eq_true h1
    go_enter Tryd.func5, Tryd.ntmps5
    go_wp2_with fail
    go_ret2
    exact ⟨rfl, rfl⟩
  · have hb1 : decide (l < 1) = false := decide_eq_false h1
    by_cases h2 : 64 < l
    · have hb2 : decide (64 < l) = true := decide_eq_true h2
      go_enter Tryd.func5, Tryd.ntmps5
      go_wp2_with fail
      go_ret2
      exact ⟨rfl, rfl⟩
    · have hb2 : decide (64 < l) = false := decide_eq_false h2
      have hb3 : decide (n < 0) = true := decide_eq_true (by omega)
      go_enter Tryd.func5, Tryd.ntmps5
      go_wp2_with fail
      go_ret2
      exact ⟨rfl, rfl⟩
theorem rCount_few (l n : Int) (h1 : ¬ l < 1) (h2 : ¬ 64 < l) (h3 : n = 0 ∨ 0 < n ∧ l = 1) (w : World) : Calls Tryd.prog 5 #[.int .i64 l, .int .i64 n] w fun e w' => e = .returned (.tuple #[.int .u64 (if n = 0 then 1 else 2), .int .i64 0]) ∧ w' = w := by
  have hb1 : decide (l < 1) = false := decide_eq_false h1
  have hb2 : decide (64 < l) = false := decide_eq_false h2
  have hb3 : decide (n < 0) = false := decide_eq_false (by omega)
  by_cases h0 : n = 0
  · rw [if_pos h0]
    subst h0
    go_enter Tryd.func5, Tryd.ntmps5
    go_wp2_with fail
    go_ret2
    exact ⟨rfl, rfl⟩
  · rw [if_neg h0]
    obtain rfl : l = 1 := by omega
    have hb4 : (n == 0) = false := by simpa using h0
    go_enter Tryd.func5, Tryd.ntmps5
    go_wp2_with fail
    go_ret2
    exact ⟨rfl, rfl⟩
theorem rCount_go (l n : Int) (h1 : 2 ≤ l) (h2 : l ≤ 64) (h3 : 0 < n) (h4 : n < 9223372036854775808) (w : World) : Calls Tryd.prog 5 #[.int .i64 l, .int .i64 n] w fun e w' => e = .returned (.tuple #[.int .u64 (((ctO l n).getD 0 : Nat) : Int), .int .i64 (ctF (ctO l n))]) ∧ w' = w := by
  have hb1 : decide (l < 1) = false := decide_eq_false (by omega)
  have hb2 : decide (64 < l) = false := decide_eq_false (by omega)
  have hb3 : decide (n < 0) = false := decide_eq_false (by omega)
  have hb4 : (n == 0) = false := by simp; omega
  have hb5 : (l == 1) = false := by simp; omega
  obtain ⟨c0, m, e1, e2, e3, e4, hc, hm, e5, e6⟩ := cg_le h1 h2
  obtain ⟨q, hq⟩ : ∃ q : Nat, n = (q : Int) := ⟨n.toNat, by omega⟩
  have HQ : Hid (1 ≤ q ∧ q < 9223372036854775808) := by show 1 ≤ q ∧ q < _; omega
  unfold ctO
  rw [e5, e6, show (n - 1).toNat = q - 1 by omega]
  clear e5 e6
  obtain ⟨r, hr⟩ : ∃ r, cgo m (q - 1) c0 = r := ⟨_, rfl⟩
  have HR : Hid (cgo m (q - 1) c0 = r) := hr
  rw [hr]
  clear hr
  subst hq
  clear h3 h4
  go_enter Tryd.func5, Tryd.ntmps5
  go_wp2_with fail
  go_loopw [6, 7] (fun s t wr => ∃ (i c : Nat), 1 ≤ i ∧ i ≤ q ∧ t = .int .i64 (i : Int) ∧ s = .int .u64 (c : Int) ∧ c < 18446744073709551616 ∧ cgo m (q - i) c = r ∧ w = wr) (fun _ t _ => match t with | .int _ i => q + 1 - i.toNat | _ => 0)
  case atStart => exact ⟨1, c0, by omega, HQ.out.1, rfl, rfl, hc, HR.out, rfl⟩
  case round =>
    obtain ⟨i, c, h0i, hi, rfl, rfl, hcc, hcg, rfl⟩ := hrel
    have HG : Hid (cgo m (q - i) c = r) := hcg
    have HC : Hid (i ≤ q ∧ c < 18446744073709551616) := ⟨hi, hcc⟩
    clear hcg hi hcc HR
    by_cases hiq : i < q
    · have hd : decide (i < q) = true := decide_eq_true hiq
      obtain ⟨k, hk⟩ : ∃ k, q - i = k + 1 := ⟨q - i - 1, by omega⟩
      have HK : Hid (q - (i + 1) = k) := by show q - (i + 1) = k; omega
      have HS : Hid (1 ≤ i ∧ i + 1 ≤ q ∧ q < 9223372036854775808) := ⟨h0i, hiq, HQ.out.2⟩
      have hw1 : IntKind.i64.wrap ((i : Int) + 1) = ((i + 1 : Nat) : Int) := by rw [IntKind.wrap_i64]; have := HS.out; omega
      rw [hk] at HG
      clear hk hiq h0i
      go_wp2_with fail
      refine (Tryd.bits_Mul64 c m HC.out.2 hm _).mono ?_
      have HR2 : Hid (∀ hh ll, c * m / 18446744073709551616 = hh → c * m % 18446744073709551616 = ll → ll < 18446744073709551616 ∧ (if hh = 0 then cgo m k ll else none) = r) := by
        rintro hh ll rfl rfl
        exact ⟨Nat.mod_lt _ (by decide), HG.out⟩
      obtain ⟨hh, h1⟩ : ∃ hh, c * m / 18446744073709551616 = hh := ⟨_, rfl⟩
      obtain ⟨ll, h2⟩ : ∃ ll, c * m % 18446744073709551616 = ll := ⟨_, rfl⟩
      have HR3 : Hid (ll < 18446744073709551616 ∧ (if hh = 0 then cgo m k ll else none) = r) := HR2.out hh ll h1 h2
      rw [h1, h2]
      clear h1 h2 HR2 HG
      rintro e w' ⟨rfl, hw⟩
      obtain rfl := hw.symm
      by_cases h0 : hh = 0
      · subst h0
        go_wp2_with fail
        go_roundw
        case rel => exact ⟨i + 1, ll, by omega, HS.out.2.1, by simp, rfl, HR3.out.1, by rw [HK.out]; exact HR3.out.2, trivial⟩
        case measure => simp; have := HS.out; omega
      · have hb : decide (0 < hh) = true := decide_eq_true (by omega)
        have h0' : 0 < hh := by omega
        have HN : Hid (r = none) := by have := HR3.out.2; rw [if_neg h0] at this; exact this.symm
        go_wp2_with fail
        go_ret2
        rw [HN.out]
        exact ⟨rfl, rfl⟩
    · have hd : decide (i < q) = false := decide_eq_false hiq
      have HN : Hid (r = some c) := by
        have h := HG.out
        rw [show q - i = 0 by omega] at h
        exact h.symm
      go_wp2_with fail
      go_ret2
      rw [HN.out]
      exact ⟨rfl, rfl⟩
theorem rCount_any (l n : Int) (hn : n < 9223372036854775808) (w : World) : Calls Tryd.prog 5 #[.int .i64 l, .int .i64 n] w fun e w' => e = .returned (.tuple #[.int .u64 ((ctC l n : Nat) : Int), .int .i64 (ctE l n)]) ∧ w' = w := by
  by_cases hA : l < 1 ∨ 64 < l ∨ n < 0
  · rw [(ct_arg hA).1, (ct_arg hA).2]
    exact rCount_arg l n hA w
  · by_cases hB : n = 0 ∨ 0 < n ∧ l = 1
    · have h := rCount_few l n (by omega) (by omega) hB w
      unfold ctC ctE
      rw [if_neg hA, if_neg hA]
      by_cases h0 : n = 0
      · rw [if_pos h0] at h
        rw [if_pos h0, if_pos h0]
        exact h
      · rw [if_neg h0] at h
        rw [if_neg h0, if_neg h0, if_pos (by omega), if_pos (by omega)]
        exact h
    · have h := rCount_go l n (by omega) (by omega) (by omega) hn w
      unfold ctC ctE
      rw [if_neg hA, if_neg hA, if_neg (by omega), if_neg (by omega), if_neg (by omega), if_neg (by omega)]
      exact h
end Go.Proofs.YtkimgmgafkihaaaDoor
