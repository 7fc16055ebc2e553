/-
  The document's digits: words, at, bits.
-/
import Derived.Test.YtaldmfbicddcbaaGreatDoorBts
namespace Go.Proofs.YtaldmfbicddcbaaGreatDoor
open Go.RowKit Go.Lib Go.Sort

abbrev B32 : Nat := 4294967296
theorem nv_set (B : Nat) : ∀ (L : List Nat) (q x : Nat), q < L.length → nv B (L.set q x) + (L[q]?.getD 0) * B ^ q = nv B L + x * B ^ q
  | [], q, x, h => by simp at h
  | d :: t, 0, x, _ => by simp [nv]; omega
  | d :: t, q + 1, x, h => by
    have ih := nv_set B t q x (by simpa using h)
    simp only [List.set_cons_succ, nv, List.getElem?_cons_succ, Nat.pow_succ]
    have h2 := congrArg (B * ·) ih
    simp only [Nat.mul_add] at h2
    rw [show t[q]?.getD 0 * (B ^ q * B) = B * (t[q]?.getD 0 * B ^ q) by rw [Nat.mul_comm (B ^ q) B, ← Nat.mul_assoc, ← Nat.mul_assoc, Nat.mul_comm _ B],
      show x * (B ^ q * B) = B * (x * B ^ q) by rw [Nat.mul_comm (B ^ q) B, ← Nat.mul_assoc, ← Nat.mul_assoc, Nat.mul_comm _ B]]
    omega
theorem nv_replicate (B n : Nat) : nv B (List.replicate n 0) = 0 := by
  induction n with
  | zero => rfl
  | succ n ih => rw [List.replicate_succ, nv, ih]; simp

/-- A slice of digits that can be read. -/
def D4 (w : World) (v : Value) (L : List Nat) : Prop :=
  (v = .slice none 0 0 ∧ L = []) ∨ ∃ B off c, v = .slice (some ⟨B, off, none⟩) L.length c ∧ L.length ≤ c ∧ ∀ j, j < L.length → w.cell? ⟨B, off + j, none⟩ = some (.int .u32 ((L[j]?.getD 0 : Nat) : Int))
theorem D4.kept {w w' : World} {v : Value} {L : List Nat} (h : D4 w v L) (hg : w.grownBy w' none) : D4 w' v L := by
  rcases h with h | ⟨B, off, c, rfl, hc, h⟩
  · exact .inl h
  · exact .inr ⟨B, off, c, rfl, hc, fun j hj => grownBy_cell hg (h j hj) (by simp)⟩
theorem ints_at (L : List Nat) (i : Nat) : (ints L)[i]?.getD 0 = ((L[i]?.getD 0 : Nat) : Int) := by
  simp only [ints, List.getElem?_map]
  cases L[i]? <;> rfl
theorem BlkL.d4 {w : World} {B : Nat} {L : List Nat} {t : TypeId} (h : BlkL w B t enc4 (ints L)) : D4 w (.slice (some ⟨B, 0, none⟩) L.length L.length) L :=
  .inr ⟨B, 0, L.length, rfl, Nat.le_refl _, fun j hj => by
    rw [Nat.zero_add, h.cell j (by rw [ints_length]; exact hj), ints_at]⟩

/-- What is added to a digit has room there. -/
theorem word_room {L : List Nat} {i b : Nat} (hr : ∀ x ∈ L, x < B32) (hv : nv B32 L < 256 ^ i) (hb : b < 256) :
    L[i / 4]?.getD 0 + b * 2 ^ (8 * (i % 4)) < B32 ∧ b * 2 ^ (8 * (i % 4)) < B32 := by
  have h1 := nv_digit B32 L (i / 4) hr
  have h2 : nv B32 L / B32 ^ (i / 4) < 2 ^ (8 * (i % 4)) := by
    rw [Nat.div_lt_iff_lt_mul (Nat.pow_pos (by decide))]
    rw [show B32 = 2 ^ 32 from rfl, ← Nat.pow_mul, ← Nat.pow_add]
    rw [show (256 : Nat) = 2 ^ 8 from rfl, ← Nat.pow_mul] at hv
    rw [show 8 * (i % 4) + 32 * (i / 4) = 8 * i by omega]
    exact hv
  have h3 : L[i / 4]?.getD 0 < 2 ^ (8 * (i % 4)) := by
    rw [← h1]
    exact Nat.lt_of_le_of_lt (Nat.mod_le _ _) h2
  have h4 : i % 4 = 0 ∨ i % 4 = 1 ∨ i % 4 = 2 ∨ i % 4 = 3 := by omega
  rcases h4 with h | h | h | h <;> rw [h] at h3 ⊢ <;> simp only [B32] <;> omega
/-- The value behind one more byte. -/
theorem word_step {L : List Nat} {V i b : Nat} (hq : i / 4 < L.length) (hv : nv B32 L = V % 256 ^ i) (hb : V / 256 ^ i % 256 = b) :
    nv B32 (L.set (i / 4) (L[i / 4]?.getD 0 + b * 2 ^ (8 * (i % 4)))) = V % 256 ^ (i + 1) := by
  have h := nv_set B32 L (i / 4) (L[i / 4]?.getD 0 + b * 2 ^ (8 * (i % 4))) hq
  rw [Nat.mod_pow_succ, hb, ← hv]
  have e : b * 2 ^ (8 * (i % 4)) * B32 ^ (i / 4) = 256 ^ i * b := by
    rw [show B32 = 2 ^ 32 from rfl, ← Nat.pow_mul, Nat.mul_assoc, ← Nat.pow_add, show 8 * (i % 4) + 32 * (i / 4) = 8 * i by omega, Nat.pow_mul, Nat.mul_comm]
  rw [Nat.add_mul, e] at h
  omega
theorem set_rng {L : List Nat} {q x : Nat} (hr : ∀ x ∈ L, x < B32) (hx : x < B32) : ∀ y ∈ L.set q x, y < B32 := by
  intro y hy
  rcases List.mem_or_eq_of_mem_set hy with h | h
  · exact hr y h
  · omega
theorem ints_set (L : List Nat) (q x : Nat) : (ints L).set q (x : Int) = ints (L.set q x) := by simp [ints, List.map_set]

theorem cell_sum (x b s : Nat) (h : x + b * 2 ^ s < 4294967296) (hb : b < 4294967296) : ((x : Int) + (b : Int) % 4294967296 * 2 ^ s) % 4294967296 = ((x + b * 2 ^ s : Nat) : Int) := by
  have e1 : (b : Int) % 4294967296 = b := by omega
  have e2 : (b : Int) * 2 ^ s = ((b * 2 ^ s : Nat) : Int) := by simp
  rw [e1, e2]
  generalize b * 2 ^ s = t at *
  omega
theorem Tryz.info4 : (Tryz.prog.info? 74).map (fun i => (i.zero, i.size, i.bytes)) = some (some (.int .u32 0), 1, 4) := by kernel_rfl
theorem Tryz.info1 : (Tryz.prog.info? 5).map (fun i => (i.zero, i.size, i.bytes)) = some (some (.int .u8 0), 1, 1) := by kernel_rfl
theorem made_one (z : Value) (n : Nat) (hz : z.cells = #[z]) : madeCells z.cells n = (List.replicate n z).toArray := by
  apply Array.ext
  · simp [size_madeCells]
  · intro j h1 h2
    simp [madeCells, hz, Nat.mod_one]
theorem make4 (w : World) (n : Nat) (hn : n ≤ 1000000000) :
    (Instr.makeSlice 75 (.int .i64 n) (.int .i64 n)).run Tryz.prog w = .ok (.slice (some ⟨w.heap.size, 0, none⟩) n n) (w.alloc (.cells ((ints (List.replicate n 0)).map enc4).toArray 74)) := by
  obtain ⟨i0, hi, hz0, hz1, hz2⟩ := info_parts Tryz.info4
  have h := run_make (P := Tryz.prog) w 75 74 i0 _ Tryz.underlying75 hi hz0 .i64 .i64 n n (by omega) (by omega) (by rw [hz2]; omega) (by omega)
  rw [h, hz1, made_one _ _ rfl]
  simp [ints]
theorem make1 (w : World) (n : Nat) (hn : n ≤ 1000000000) :
    (Instr.makeSlice 98 (.int .i64 n) (.int .i64 n)).run Tryz.prog w = .ok (.slice (some ⟨w.heap.size, 0, none⟩) n n) (w.alloc (.cells ((ints (List.replicate n 0)).map encB).toArray 5)) := by
  obtain ⟨i0, hi, hz0, hz1, hz2⟩ := info_parts Tryz.info1
  have h := run_make (P := Tryz.prog) w 98 5 i0 _ Tryz.underlying98 hi hz0 .i64 .i64 n n (by omega) (by omega) (by rw [hz2]; omega) (by omega)
  rw [h, hz1, made_one _ _ rfl]
  simp [ints]

set_option maxHeartbeats 1600000 in
set_option maxRecDepth 1000000 in
theorem words_any (m : ByteArray) (hm : m.size ≤ 16384) (w : World) :
    Calls Tryz.prog 62 #[.string m] w fun e w' => ∃ B L, e = .returned (.slice (some ⟨B, 0, none⟩) L.length L.length) ∧ w.heap.size ≤ B ∧ BlkL w' B 74 enc4 (ints L) ∧ w.grownBy w' none ∧
      L.length = (m.size + 3) / 4 ∧ (∀ x ∈ L, x < B32) ∧ nv B32 L = val (bN m) := by
  have hmk := make4 w ((m.size + 3) / 4) (by omega)
  rw [show ((((m.size + 3) / 4 : Nat)) : Int) = ((m.size : Int) + 3) / 4 by omega] at hmk
  obtain ⟨n, hn⟩ : ∃ n, (m.size + 3) / 4 = n := ⟨_, rfl⟩
  rw [hn] at hmk
  go_enter Tryz.func62, Tryz.ntmps62
  go_wp2
  go_loopw [4] (fun x wr => ∃ (i : Nat) (L : List Nat), x = .int .i64 i ∧ i ≤ m.size ∧ L.length = n ∧ (∀ x ∈ L, x < B32) ∧ nv B32 L = val (bN m) % 256 ^ i ∧ BlkL wr w.heap.size 74 enc4 (ints L) ∧ w.grownBy wr none) (fun x _ => m.size - (RowKit.intOf x).toNat)
  case atStart => exact ⟨0, List.replicate n 0, rfl, by omega, by simp, fun x hx => by rw [List.eq_of_mem_replicate hx]; decide, by rw [nv_replicate, Nat.pow_zero, Nat.mod_one], heap_alloc_new _ _, grow1 _ _⟩
  case round =>
    obtain ⟨i, L, rfl, hi, hL, hr, hv, hB, hg⟩ := hrel
    clear hmk
    have HR : Hid (∀ x ∈ L, x < B32) := hr
    have HV : Hid (nv B32 L = val (bN m) % 256 ^ i) := hv
    have HB : Hid (BlkL wr w.heap.size 74 enc4 (ints L)) := hB
    by_cases hi1 : i < m.size
    · have hq : i / 4 < n := by omega
      have hc := hB.cell (i / 4) (by rw [ints_length]; omega)
      rw [ints_at] at hc
      have hf := hB.frozen (i / 4)
      have hb := (m[m.size - 1 - i]'(by omega)).toNat_lt
      have hrm := word_room (i := i) hr (by rw [hv]; exact Nat.mod_lt _ (Nat.pow_pos (by decide))) hb
      clear hr hv hB
      have hw1 : IntKind.i64.wrap ((i : Int) / 4) = ((i / 4 : Nat) : Int) := by rw [IntKind.wrap_i64]; omega
      have hw2 : IntKind.i64.wrap (8 * ((i : Int) % 4)) = ((8 * (i % 4) : Nat) : Int) := by rw [IntKind.wrap_i64]; omega
      obtain ⟨p, hp⟩ : ∃ p : Nat, m.size - 1 - i = p := ⟨_, rfl⟩
      have hpm : p < m.size := by omega
      have hq1 : ((i / 4 : Nat) : Int) < n := by omega
      go_wp2
      rw [show (m.size : Int) - 1 - (i : Int) = (p : Int) by omega]
      go_region
      go_wp2
      go_roundw
      case rel =>
        have hb2 : val (bN m) / 256 ^ i % 256 = m[p].toNat := by
          have h1 := nv_digit 256 (bN m).reverse i (fun x hx => bN_rng m x (by simpa using hx))
          rw [← val_nv, List.getElem?_reverse (by rw [bN_length]; exact hi1), bN_length, hp, bN_at m p hpm] at h1
          exact h1
        have hqL : i / 4 < L.length := by omega
        have hle : L[i / 4]?.getD 0 = L[i / 4] := by rw [List.getElem?_eq_getElem hqL]; rfl
        have hrm2 : L[i / 4]?.getD 0 + m[p].toNat * 2 ^ (8 * (i % 4)) < B32 := by
          have := hrm.1
          simp only [hp] at this
          exact this
        refine ⟨i + 1, L.set (i / 4) (L[i / 4]?.getD 0 + m[p].toNat * 2 ^ (8 * (i % 4))), rfl, by omega, by simp [hL], set_rng HR.out hrm2, word_step hqL HV.out hb2, ?_, grow_drew (grown_set hg (Nat.le_refl _))⟩
        have e := HB.out.set (i / 4) ((L[i / 4]?.getD 0 + m[p].toNat * 2 ^ (8 * (i % 4)) : Nat) : Int)
        rw [ints_set] at e
        rw [cell_sum (L[i / 4]) (m[p].toNat) (8 * (i % 4)) (by rw [← hle]; exact hrm2) (by have := (m[p]).toNat_lt; omega), ← hle]
        exact e
      case measure => simp [RowKit.intOf]; omega
    · have hi0 : i = m.size := by omega
      subst hi0
      have hvv : nv B32 L = val (bN m) := by
        rw [hv]
        have := val_lt (bN m) (bN_rng m)
        rw [bN_length] at this
        exact Nat.mod_eq_of_lt this
      clear hr hv hB
      go_wp2
      go_ret
      exact ⟨w.heap.size, L, by rw [hL]; rfl, Nat.le_refl _, HB.out, hg, by rw [hL, ← hn], HR.out, hvv⟩
end Go.Proofs.YtaldmfbicddcbaaGreatDoor
