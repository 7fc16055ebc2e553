/-
  The program's word, of at most two digits, and digitsOfWord.
-/
import Derived.Test.YtjngcpbdilhkbaaGreatDoorRtw
import Derived.Test.YtjngcpbdilhkbaaGreatDoorBunRed
import Derived.Test.YtjngcpbdilhkbaaGreatDoorBunMor
namespace Go.Proofs.YtjngcpbdilhkbaaGreatDoor
open Go.RowKit Go.Lib Go.Sort

theorem or_high (a b : Nat) (ha : a < 4294967296) (hb : b < 4294967296) : bits .or .u64 (a : Int) ((b : Int) * 4294967296) = ((a + 4294967296 * b : Nat) : Int) := by
  rw [show (b : Int) * 4294967296 = ((b * 4294967296 : Nat) : Int) by omega, u64_or_nat a _ (by omega) (by omega), Nat.or_comm, Nat.mul_comm b, show (4294967296 : Nat) = 2 ^ 32 by decide, ← Nat.two_pow_add_eq_or_of_lt (i := 32) (by omega), Nat.add_comm]

set_option maxHeartbeats 1600000 in
set_option maxRecDepth 1000000 in
theorem wordAt_two (w : World) (v : Value) (a b : Nat) (h : D4 w v [a, b]) (ha : a < 4294967296) (hb : b < 4294967296) :
    Calls Tryz.prog 103 #[v, .int .i64 0] w fun e w' => e = .returned (.int .u64 ((a + 4294967296 * b : Nat) : Int)) ∧ w' = w := by
  rcases h with ⟨rfl, h⟩ | ⟨B, off, c, rfl, hc, h⟩
  · cases h
  · have h0 := h 0 (by simp)
    have h1 := h 1 (by simp)
    have ho := or_high a b ha hb
    simp at h0 h1 hc
    have haI : (a : Int) ≤ 4294967295 := by omega
    have hbI : (b : Int) ≤ 4294967295 := by omega
    have hcI : (2 : Int) ≤ (c : Int) := by omega
    clear h
    simp only [List.length_cons, List.length_nil]
    go_enter Tryz.func103, Tryz.ntmps103
    go_wp2_with fail
    go_ret
    refine ⟨?_, rfl⟩
    show Ending.returned (.int .u64 ((a : Int) + 4294967296 * (b : Int))) = _
    rw [show (a : Int) + 4294967296 * (b : Int) = ((a + 4294967296 * b : Nat) : Int) by omega]
set_option maxHeartbeats 1600000 in
set_option maxRecDepth 1000000 in
theorem wordAt_one (w : World) (v : Value) (a : Nat) (h : D4 w v [a]) (ha : a < 4294967296) :
    Calls Tryz.prog 103 #[v, .int .i64 0] w fun e w' => e = .returned (.int .u64 (a : Int)) ∧ w' = w := by
  rcases h with ⟨rfl, h⟩ | ⟨B, off, c, rfl, hc, h⟩
  · cases h
  · have h0 := h 0 (by simp)
    simp at h0 hc
    have haI : (a : Int) ≤ 4294967295 := by omega
    have hcI : (1 : Int) ≤ (c : Int) := by omega
    clear h
    simp only [List.length_cons, List.length_nil]
    go_enter Tryz.func103, Tryz.ntmps103
    go_wp2_with fail
    go_ret
    exact ⟨rfl, rfl⟩
set_option maxHeartbeats 1600000 in
set_option maxRecDepth 1000000 in
theorem word_any (w : World) (v : Value) (L : List Nat) (h : D4 w v L) (hr : ∀ x ∈ L, x < B32) (hl : L.length ≤ 2) :
    Calls Tryz.prog 85 #[v] w fun e w' => e = .returned (.int .u64 ((nv B32 L : Nat) : Int)) ∧ w' = w := by
  match L, hl with
  | [], _ =>
    obtain ⟨aa, ca, rfl⟩ := h.slice
    simp only [List.length_nil]
    clear h
    go_enter Tryz.func85, Tryz.ntmps85
    go_wp2_with fail
    go_ret
    exact ⟨rfl, rfl⟩
  | [a], _ =>
    have hc := wordAt_one w v a h (hr a (by simp))
    obtain ⟨aa, ca, rfl⟩ := h.slice
    have HV : Hid (nv B32 [a] = a) := (by simp [nv] : nv B32 [a] = a)
    simp only [List.length_cons, List.length_nil] at hc ⊢
    clear h hr
    go_enter Tryz.func85, Tryz.ntmps85
    go_wp2_with fail
    refine hc.mono ?_
    rintro e w' ⟨rfl, rfl⟩
    go_wp2_with fail
    go_ret
    exact ⟨by rw [HV.out]; rfl, rfl⟩
  | [a, b], _ =>
    have hc := wordAt_two w v a b h (hr a (by simp)) (hr b (by simp))
    obtain ⟨aa, ca, rfl⟩ := h.slice
    have HV : Hid (nv B32 [a, b] = a + 4294967296 * b) := (by simp [nv, B32] : nv B32 [a, b] = a + 4294967296 * b)
    simp only [List.length_cons, List.length_nil] at hc ⊢
    clear h hr
    go_enter Tryz.func85, Tryz.ntmps85
    go_wp2_with fail
    refine hc.mono ?_
    rintro e w' ⟨rfl, rfl⟩
    go_wp2_with fail
    go_ret
    exact ⟨by rw [HV.out]; rfl, rfl⟩

set_option maxHeartbeats 1600000 in
set_option maxRecDepth 1000000 in
theorem digitsOfWord_any (n : Nat) (hn : n < 18446744073709551616) (w : World) :
    Calls Tryz.prog 83 #[.int .u64 (n : Int)] w fun e w' => ∃ v K, e = .returned v ∧ Row w' w.heap.size v K ∧ (∀ x ∈ K, x < B32) ∧ nv B32 K = n ∧ Trim K ∧ K.length ≤ 2 ∧ w.grownBy w' none := by
  have hnI : (n : Int) ≤ 18446744073709551615 := by omega
  obtain ⟨a, ha⟩ : ∃ a, n % 4294967296 = a := ⟨_, rfl⟩
  obtain ⟨b, hb⟩ : ∃ b, n / 4294967296 = b := ⟨_, rfl⟩
  have haI : (n : Int) % 4294967296 = (a : Int) := by omega
  have hbI : (n : Int) / 4294967296 = (b : Int) := by omega
  have HV : Hid (nv B32 [a, b] = n ∧ a < B32 ∧ b < B32) := by
    refine (⟨?_, ?_, ?_⟩ : nv B32 [a, b] = n ∧ a < B32 ∧ b < B32)
    · simp [nv, B32]; omega
    · unfold B32; omega
    · unfold B32; omega
  have HR : Hid (Calls Tryz.prog 53 #[.slice (some ⟨w.heap.size, 0, none⟩) 2 2] (w.alloc (.cells #[.int .u32 (a : Int), .int .u32 (b : Int)] 64)) fun e w' => ∃ v' k, e = .returned v' ∧ k ≤ 2 ∧ Row (w.alloc (.cells #[.int .u32 (a : Int), .int .u32 (b : Int)] 64)) w.heap.size v' ([a, b].take k) ∧ nv B32 ([a, b].take k) = nv B32 [a, b] ∧ Trim ([a, b].take k) ∧ w' = w.alloc (.cells #[.int .u32 (a : Int), .int .u32 (b : Int)] 64)) := by
    have hB : BlkL (w.alloc (.cells #[.int .u32 (a : Int), .int .u32 (b : Int)] 64)) w.heap.size 64 enc4 (ints [a, b]) := heap_alloc_new _ _
    have hrow := hB.row (Nat.le_refl _) (by unfold maxLen; simp)
    refine (trim_row _ _ _ [a, b] hrow (by simp)).mono ?_
    rintro e w' ⟨v', k, rfl, h1, h2, h3, h4, _, rfl⟩
    exact ⟨v', k, rfl, by simpa using h1, h2, h3, h4, rfl⟩
  clear ha hb hn
  go_enter Tryz.func83, Tryz.ntmps83
  go_wp2_with fail
  refine HR.out.mono ?_
  rintro e w' ⟨v', k, rfl, h1, h2, h3, h4, rfl⟩
  have HE : Hid (Row (w.alloc (.cells #[.int .u32 (a : Int), .int .u32 (b : Int)] 64)) w.heap.size v' ([a, b].take k) ∧ nv B32 ([a, b].take k) = nv B32 [a, b] ∧ Trim ([a, b].take k)) := ⟨h2, h3, h4⟩
  clear h1 h2 h3 h4 HR
  go_wp2_with fail
  go_ret
  refine ⟨v', _, rfl, HE.out.1, fun x hx => ?_, HE.out.2.1.trans HV.out.1, HE.out.2.2, ?_, grow1 _ _⟩
  · have := List.mem_of_mem_take hx
    simp at this
    rcases this with rfl | rfl
    · exact HV.out.2.1
    · exact HV.out.2.2
  · rw [List.length_take]; simp; omega
end Go.Proofs.YtjngcpbdilhkbaaGreatDoor
