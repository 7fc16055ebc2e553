/-
  The program's wordAt: the bits from a place on.
-/
import Derived.Test.YtjngcpbdilhkbaaGreatDoorWor
import Derived.Test.YtjngcpbdilhkbaaGreatDoorBunTtm
namespace Go.Proofs.YtjngcpbdilhkbaaGreatDoor
open Go.RowKit Go.Lib Go.Sort
set_option linter.unusedVariables false

theorem nv_dropk (B : Nat) (L : List Nat) (k : Nat) (hB : 0 < B) (hr : ∀ x ∈ L, x < B) (hk : k ≤ L.length) : nv B L / B ^ k = nv B (L.drop k) := by
  have e : nv B L = nv B (L.take k) + B ^ k * nv B (L.drop k) := by
    conv => lhs; rw [← List.take_append_drop k L]
    rw [nv_append, List.length_take, Nat.min_eq_left hk]
  have h1 : nv B (L.take k) < B ^ k := by
    have := nv_lt B (L.take k) (fun x hx => hr x (List.mem_of_mem_take hx))
    rwa [List.length_take, Nat.min_eq_left hk] at this
  rw [e, Nat.add_mul_div_left _ _ (Nat.pow_pos hB), Nat.div_eq_of_lt h1, Nat.zero_add]
theorem drop_get (L : List Nat) (k : Nat) (h : k < L.length) : L.drop k = L[k]?.getD 0 :: L.drop (k + 1) := by
  rw [List.drop_eq_getElem_cons h]
  simp [h]

/-- The number from a place on, of which three digits are told. -/
theorem word_nat (T S c0 c1 c2 z : Nat) (hT : 0 < T) (hS : T * S = 4294967296) (h : (c0 + 4294967296 * (c1 + 4294967296 * (c2 + 4294967296 * z))) / T < 18446744073709551616) :
    (c0 + 4294967296 * (c1 + 4294967296 * (c2 + 4294967296 * z))) / T = c0 / T + c1 * S + c2 * (S * 4294967296) := by
  have e : (c0 + 4294967296 * (c1 + 4294967296 * (c2 + 4294967296 * z))) / T = c0 / T + S * (c1 + 4294967296 * (c2 + 4294967296 * z)) := by
    rw [show 4294967296 * (c1 + 4294967296 * (c2 + 4294967296 * z)) = T * (S * (c1 + 4294967296 * (c2 + 4294967296 * z))) by rw [← Nat.mul_assoc, hS], Nat.add_mul_div_left _ _ hT]
  rw [e] at h ⊢
  have hS0 : 1 ≤ S := by
    rcases Nat.eq_zero_or_pos S with h0 | h0
    · rw [h0] at hS; omega
    · exact h0
  have e2 : S * (c1 + 4294967296 * (c2 + 4294967296 * z)) = c1 * S + c2 * (S * 4294967296) + 18446744073709551616 * (S * z) := by grind
  rw [e2] at h ⊢
  generalize c0 / T = u at h ⊢
  generalize S * z = v at h ⊢
  generalize c1 * S = v1 at h ⊢
  generalize c2 * (S * 4294967296) = v2 at h ⊢
  clear e e2
  omega

theorem wj (b x y : Nat) (hx : x < 2 ^ b) (hy : 2 ^ b ∣ y) (h : x + y ≤ 18446744073709551615) : bits .or .u64 (x : Int) (y : Int) = (x : Int) + (y : Int) := by
  refine bits_join_low .u64 64 (by decide) wraps_u64 b (x : Int) (y : Int) (by omega) (by exact_mod_cast hx) (by omega) (by omega) ?_ (by omega)
  obtain ⟨c, rfl⟩ := hy
  rw [Int.natCast_mul, Int.natCast_pow]
  exact Int.mul_emod_right _ _

set_option maxHeartbeats 1600000 in
set_option maxRecDepth 1000000 in
theorem wordAt_walk3 (w : World) (B off c m k r s s2 : Nat) (c0 c1 c2 z0 y1 y2 : Nat) (hm : m ≤ 1000000000) (hmc : m ≤ c) (hk : k + 3 ≤ m) (hr : r < 32)
    (h0 : w.cell? ⟨B, off + k, none⟩ = some (.int .u32 (c0 : Int))) (h1 : w.cell? ⟨B, off + k + 1, none⟩ = some (.int .u32 (c1 : Int))) (h2 : w.cell? ⟨B, off + k + 2, none⟩ = some (.int .u32 (c2 : Int)))
    (b0 : c0 ≤ 4294967295) (b1 : c1 ≤ 4294967295) (b2 : c2 ≤ 4294967295) (at' : Int) (hq : at'.tdiv 32 = (k : Int)) (hq2 : at'.tmod 32 = (r : Int))
    (hs : (32 : Int) - (r : Int) = (s : Int)) (hs2 : (64 : Int) - (r : Int) = (s2 : Int)) (e0 : (c0 : Int) / 2 ^ r = (z0 : Int)) (e1 : (c1 : Int) * 2 ^ s = (y1 : Int)) (e2 : (c2 : Int) * 2 ^ s2 = (y2 : Int))
    (g0 : z0 ≤ 4294967295) (g1 : y1 ≤ 18446744073709551615) (g2 : y2 ≤ 18446744073709551615) (o1 : bits .or .u64 (z0 : Int) (y1 : Int) = (z0 : Int) + (y1 : Int)) (g3 : z0 + y1 ≤ 18446744073709551615) (o2 : bits .or .u64 ((z0 : Int) + (y1 : Int)) (y2 : Int) = (z0 : Int) + (y1 : Int) + (y2 : Int)) :
    Calls Tryz.prog 103 #[.slice (some ⟨B, off, none⟩) m c, .int .i64 at'] w fun e w' => e = .returned (.int .u64 ((z0 + y1 + y2 : Nat) : Int)) ∧ w' = w := by
  go_enter Tryz.func103, Tryz.ntmps103
  go_wp2_with fail
  go_ret
  exact ⟨rfl, rfl⟩
set_option maxHeartbeats 1600000 in
set_option maxRecDepth 1000000 in
theorem wordAt_walk2 (w : World) (B off c m k r s : Nat) (c0 c1 z0 y1 : Nat) (hm : m ≤ 1000000000) (hmc : m ≤ c) (hk : m = k + 2) (hr : r < 32)
    (h0 : w.cell? ⟨B, off + k, none⟩ = some (.int .u32 (c0 : Int))) (h1 : w.cell? ⟨B, off + k + 1, none⟩ = some (.int .u32 (c1 : Int)))
    (b0 : c0 ≤ 4294967295) (b1 : c1 ≤ 4294967295) (at' : Int) (hq : at'.tdiv 32 = (k : Int)) (hq2 : at'.tmod 32 = (r : Int))
    (hs : (32 : Int) - (r : Int) = (s : Int)) (e0 : (c0 : Int) / 2 ^ r = (z0 : Int)) (e1 : (c1 : Int) * 2 ^ s = (y1 : Int))
    (g0 : z0 ≤ 4294967295) (g1 : y1 ≤ 18446744073709551615) (o1 : bits .or .u64 (z0 : Int) (y1 : Int) = (z0 : Int) + (y1 : Int)) :
    Calls Tryz.prog 103 #[.slice (some ⟨B, off, none⟩) m c, .int .i64 at'] w fun e w' => e = .returned (.int .u64 ((z0 + y1 : Nat) : Int)) ∧ w' = w := by
  go_enter Tryz.func103, Tryz.ntmps103
  go_wp2_with fail
  go_ret
  exact ⟨rfl, rfl⟩
set_option maxHeartbeats 1600000 in
set_option maxRecDepth 1000000 in
theorem wordAt_walk1 (w : World) (B off c m k r : Nat) (c0 z0 : Nat) (hm : m ≤ 1000000000) (hmc : m ≤ c) (hk : m = k + 1) (hr : r < 32)
    (h0 : w.cell? ⟨B, off + k, none⟩ = some (.int .u32 (c0 : Int))) (b0 : c0 ≤ 4294967295) (at' : Int) (hq : at'.tdiv 32 = (k : Int)) (hq2 : at'.tmod 32 = (r : Int))
    (e0 : (c0 : Int) / 2 ^ r = (z0 : Int)) (g0 : z0 ≤ 4294967295) :
    Calls Tryz.prog 103 #[.slice (some ⟨B, off, none⟩) m c, .int .i64 at'] w fun e w' => e = .returned (.int .u64 (z0 : Int)) ∧ w' = w := by
  go_enter Tryz.func103, Tryz.ntmps103
  go_wp2_with fail
  go_ret
  exact ⟨rfl, rfl⟩

theorem wordAt_any (w : World) (v : Value) (L : List Nat) (at' : Nat) (h : D4 w v L) (hr : ∀ x ∈ L, x < B32) (hl : L.length ≤ 1000000000) (hat : at' / 32 < L.length) (hlt : nv B32 L / 2 ^ at' < 18446744073709551616) :
    Calls Tryz.prog 103 #[v, .int .i64 (at' : Int)] w fun e w' => e = .returned (.int .u64 ((nv B32 L / 2 ^ at' : Nat) : Int)) ∧ w' = w := by
  rcases h with ⟨rfl, hn⟩ | ⟨B, off, c, rfl, hc, h⟩
  · rw [hn] at hat; simp at hat
  obtain ⟨k, hk⟩ : ∃ k, at' / 32 = k := ⟨_, rfl⟩
  obtain ⟨r, hrr⟩ : ∃ r, at' % 32 = r := ⟨_, rfl⟩
  rw [hk] at hat
  have hr32 : r < 32 := by omega
  have hq : (at' : Int).tdiv 32 = (k : Int) := by rw [Int.tdiv_eq_ediv_of_nonneg (by omega)]; omega
  have hq2 : (at' : Int).tmod 32 = (r : Int) := by rw [Int.tmod_eq_emod_of_nonneg (by omega)]; omega
  have hN : nv B32 L / 2 ^ at' = nv B32 (L.drop k) / 2 ^ r := by
    rw [← nv_dropk B32 L k (by decide) hr (by omega), Nat.div_div_eq_div_mul]
    congr 1
    rw [show B32 = 2 ^ 32 by decide, ← Nat.pow_mul, ← Nat.pow_add]
    congr 1
    omega
  rw [hN] at hlt ⊢
  have hT : 0 < 2 ^ r := Nat.pow_pos (by decide)
  have hS : 2 ^ r * 2 ^ (32 - r) = 4294967296 := by rw [← Nat.pow_add, show r + (32 - r) = 32 by omega]
  have hS2 : 2 ^ (64 - r) = 2 ^ (32 - r) * 4294967296 := by rw [show 64 - r = (32 - r) + 32 by omega, Nat.pow_add]
  have c0h := h k hat
  have r0 := d4_rng hr k
  have g0 : L[k]?.getD 0 / 2 ^ r < 2 ^ (32 - r) := by
    rw [Nat.div_lt_iff_lt_mul hT, Nat.mul_comm, hS]
    exact r0
  have g0' : L[k]?.getD 0 / 2 ^ r ≤ L[k]?.getD 0 := Nat.div_le_self _ _
  have e0 : ((L[k]?.getD 0 : Nat) : Int) / 2 ^ r = ((L[k]?.getD 0 / 2 ^ r : Nat) : Int) := by simp
  simp only [B32] at r0
  rcases Nat.lt_or_ge (k + 1) L.length with h1 | h1
  · have c1h := h (k + 1) h1
    have r1 := d4_rng hr (k + 1)
    simp only [B32] at r1
    rcases Nat.lt_or_ge (k + 2) L.length with h2 | h2
    · have c2h := h (k + 2) h2
      have r2 := d4_rng hr (k + 2)
      simp only [B32] at r2
      have hD : nv B32 (L.drop k) = L[k]?.getD 0 + 4294967296 * (L[k + 1]?.getD 0 + 4294967296 * (L[k + 2]?.getD 0 + 4294967296 * nv B32 (L.drop (k + 3)))) := by
        rw [drop_get L k hat, drop_get L (k + 1) h1, drop_get L (k + 2) h2]
        rfl
      rw [hD] at hlt ⊢
      have hw := word_nat (2 ^ r) (2 ^ (32 - r)) _ _ _ _ hT hS hlt
      rw [hw] at hlt ⊢
      rw [← hS2] at hlt ⊢
      have hy1 : L[k]?.getD 0 / 2 ^ r + L[k + 1]?.getD 0 * 2 ^ (32 - r) < 2 ^ (64 - r) := by
        have m1 : (L[k + 1]?.getD 0 + 1) * 2 ^ (32 - r) ≤ 4294967296 * 2 ^ (32 - r) := Nat.mul_le_mul_right _ (by omega)
        rw [Nat.add_mul] at m1
        rw [hS2]
        generalize L[k]?.getD 0 / 2 ^ r = u at *
        generalize L[k + 1]?.getD 0 * 2 ^ (32 - r) = u1 at *
        generalize 2 ^ (32 - r) = u2 at *
        omega
      have e1 : ((L[k + 1]?.getD 0 : Nat) : Int) * 2 ^ (32 - r) = ((L[k + 1]?.getD 0 * 2 ^ (32 - r) : Nat) : Int) := by simp
      have e2 : ((L[k + 2]?.getD 0 : Nat) : Int) * 2 ^ (64 - r) = ((L[k + 2]?.getD 0 * 2 ^ (64 - r) : Nat) : Int) := by simp
      have d1 : 2 ^ (32 - r) ∣ L[k + 1]?.getD 0 * 2 ^ (32 - r) := Nat.dvd_mul_left _ _
      have d2 : 2 ^ (64 - r) ∣ L[k + 2]?.getD 0 * 2 ^ (64 - r) := Nat.dvd_mul_left _ _
      clear hD hw hN
      generalize L[k]?.getD 0 / 2 ^ r = z0 at *
      generalize L[k + 1]?.getD 0 * 2 ^ (32 - r) = y1 at *
      generalize L[k + 2]?.getD 0 * 2 ^ (64 - r) = y2 at *
      have o1 := wj (32 - r) z0 y1 g0 d1 (by omega)
      have o2 := wj (64 - r) (z0 + y1) y2 hy1 d2 (by omega)
      rw [Int.natCast_add] at o2
      have := wordAt_walk3 w B off c L.length k r (32 - r) (64 - r) _ _ _ z0 y1 y2 hl hc (by omega) hr32 c0h c1h c2h (by omega) (by omega) (by omega) (at' : Int) hq hq2 (by omega) (by omega) e0 e1 e2 (by omega) (by omega) (by omega) o1 (by omega) o2
      exact this
    · have hD : nv B32 (L.drop k) = L[k]?.getD 0 + 4294967296 * (L[k + 1]?.getD 0 + 4294967296 * (0 + 4294967296 * 0)) := by
        rw [drop_get L k hat, drop_get L (k + 1) h1, List.drop_of_length_le (by omega)]
        rfl
      rw [hD] at hlt ⊢
      have hw := word_nat (2 ^ r) (2 ^ (32 - r)) _ _ _ _ hT hS hlt
      rw [hw] at hlt ⊢
      rw [Nat.zero_mul, Nat.add_zero] at hlt ⊢
      have e1 : ((L[k + 1]?.getD 0 : Nat) : Int) * 2 ^ (32 - r) = ((L[k + 1]?.getD 0 * 2 ^ (32 - r) : Nat) : Int) := by simp
      have d1 : 2 ^ (32 - r) ∣ L[k + 1]?.getD 0 * 2 ^ (32 - r) := Nat.dvd_mul_left _ _
      clear hD hw hN
      generalize L[k]?.getD 0 / 2 ^ r = z0 at *
      generalize L[k + 1]?.getD 0 * 2 ^ (32 - r) = y1 at *
      exact wordAt_walk2 w B off c L.length k r (32 - r) _ _ z0 y1 hl hc (by omega) hr32 c0h c1h (by omega) (by omega) (at' : Int) hq hq2 (by omega) e0 e1 (by omega) (by omega) (wj (32 - r) z0 y1 g0 d1 (by omega))
  · have hD : nv B32 (L.drop k) = L[k]?.getD 0 := by
      rw [drop_get L k hat, List.drop_of_length_le (by omega)]
      rfl
    rw [hD]
    exact wordAt_walk1 w B off c L.length k r _ _ hl hc (by omega) hr32 c0h (by omega) (at' : Int) hq hq2 e0 (by omega)
end Go.Proofs.YtjngcpbdilhkbaaGreatDoor
