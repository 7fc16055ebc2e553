/-
  The document's product of numbers that are longer than may be.
-/
import Derived.Test.YtjenbicaepldlaaGreatDoorBunAll
namespace Go.Proofs.YtjenbicaepldlaaGreatDoor
open Go.RowKit Go.Lib Go.Sort

set_option maxHeartbeats 1600000 in
set_option maxRecDepth 1000000 in
theorem words_wide (m : ByteArray) (hm : m.size ≤ 100000) (w : World) :
    Calls Tryz.prog 46 #[.string m] w fun e w' => ∃ B L, e = .returned (.slice (some ⟨B, 0, none⟩) L.length L.length) ∧ w.heap.size ≤ B ∧ BlkL w' B 72 enc4 (ints L) ∧ w.grownBy w' none ∧
      L.length = (m.size + 3) / 4 ∧ (∀ x ∈ L, x < B32) ∧ nv B32 L = val (bN m) := by
  have hmk := make4 w ((m.size + 3) / 4) (by omega)
  rw [show ((((m.size + 3) / 4 : Nat)) : Int) = ((m.size : Int) + 3) / 4 by omega] at hmk
  obtain ⟨n, hn⟩ : ∃ n, (m.size + 3) / 4 = n := ⟨_, rfl⟩
  rw [hn] at hmk
  go_enter Tryz.func46, Tryz.ntmps46
  go_wp2
  go_loopw [4] (fun x wr => ∃ (i : Nat) (L : List Nat), x = .int .i64 i ∧ i ≤ m.size ∧ L.length = n ∧ (∀ x ∈ L, x < B32) ∧ nv B32 L = val (bN m) % 256 ^ i ∧ BlkL wr w.heap.size 72 enc4 (ints L) ∧ w.grownBy wr none) (fun x _ => m.size - (RowKit.intOf x).toNat)
  case atStart => exact ⟨0, List.replicate n 0, rfl, by omega, by simp, fun x hx => by rw [List.eq_of_mem_replicate hx]; decide, by rw [nv_replicate, Nat.pow_zero, Nat.mod_one], heap_alloc_new _ _, grow1 _ _⟩
  case round =>
    obtain ⟨i, L, rfl, hi, hL, hr, hv, hB, hg⟩ := hrel
    clear hmk
    have HR : Hid (∀ x ∈ L, x < B32) := hr
    have HV : Hid (nv B32 L = val (bN m) % 256 ^ i) := hv
    have HB : Hid (BlkL wr w.heap.size 72 enc4 (ints L)) := hB
    by_cases hi1 : i < m.size
    · have hq : i / 4 < n := by omega
      have hc := hB.cell (i / 4) (by rw [ints_length]; omega)
      rw [ints_at] at hc
      have hf := hB.frozen (i / 4)
      have hb := (m[m.size - 1 - i]'(by omega)).toNat_lt
      have hrm := word_room (i := i) hr (by rw [hv]; exact Nat.mod_lt _ (Nat.pow_pos (by decide))) hb
      clear hr hv hB
      have hw1 : IntKind.i64.wrap ((i : Int) / 4) = ((i / 4 : Nat) : Int) := by rw [IntKind.wrap_i64]; omega
      have hw2 : IntKind.i64.wrap (8 * ((i : Int) % 4)) = ((8 * (i % 4) : Nat) : Int) := by rw [IntKind.wrap_i64]; omega
      obtain ⟨p, hp⟩ : ∃ p : Nat, m.size - 1 - i = p := ⟨_, rfl⟩
      have hpm : p < m.size := by omega
      have hq1 : ((i / 4 : Nat) : Int) < n := by omega
      go_wp2
      rw [show (m.size : Int) - 1 - (i : Int) = (p : Int) by omega]
      go_region
      go_wp2
      go_roundw
      case rel =>
        have hb2 : val (bN m) / 256 ^ i % 256 = m[p].toNat := by
          have h1 := nv_digit 256 (bN m).reverse i (fun x hx => bN_rng m x (by simpa using hx))
          rw [← val_nv, List.getElem?_reverse (by rw [bN_length]; exact hi1), bN_length, hp, bN_at m p hpm] at h1
          exact h1
        have hqL : i / 4 < L.length := by omega
        have hle : L[i / 4]?.getD 0 = L[i / 4] := by rw [List.getElem?_eq_getElem hqL]; rfl
        have hrm2 : L[i / 4]?.getD 0 + m[p].toNat * 2 ^ (8 * (i % 4)) < B32 := by
          have := hrm.1
          simp only [hp] at this
          exact this
        refine ⟨i + 1, L.set (i / 4) (L[i / 4]?.getD 0 + m[p].toNat * 2 ^ (8 * (i % 4))), rfl, by omega, by simp [hL], set_rng HR.out hrm2, word_step hqL HV.out hb2, ?_, grow_drew (grown_set hg (Nat.le_refl _))⟩
        have e := HB.out.set (i / 4) ((L[i / 4]?.getD 0 + m[p].toNat * 2 ^ (8 * (i % 4)) : Nat) : Int)
        rw [ints_set] at e
        rw [cell_sum (L[i / 4]) (m[p].toNat) (8 * (i % 4)) (by rw [← hle]; exact hrm2) (by have := (m[p]).toNat_lt; omega), ← hle]
        exact e
      case measure => simp [RowKit.intOf]; omega
    · have hi0 : i = m.size := by omega
      subst hi0
      have hvv : nv B32 L = val (bN m) := by
        rw [hv]
        have := val_lt (bN m) (bN_rng m)
        rw [bN_length] at this
        exact Nat.mod_eq_of_lt this
      clear hr hv hB
      go_wp2
      go_ret
      exact ⟨w.heap.size, L, by rw [hL]; rfl, Nat.le_refl _, HB.out, hg, by rw [hL, ← hn], HR.out, hvv⟩

/-- What the document's words makes, in a world of its own. -/
def Wdw (w w' : World) (v : Value) (m : ByteArray) : Prop :=
  ∃ L, D4 w' v L ∧ (∀ x ∈ L, x < B32) ∧ L.length ≤ 25000 ∧ nv B32 L = val (bN m) ∧ w.grownBy w' none
theorem Wdw.grown {w w' : World} {v : Value} {m : ByteArray} (h : Wdw w w' v m) : w.grownBy w' none := by
  obtain ⟨_, _, _, _, _, hg⟩ := h
  exact hg
theorem words_wdw (m : ByteArray) (hm : m.size ≤ 100000) (w : World) :
    Calls Tryz.prog 46 #[.string m] w fun e w' => ∃ v, e = .returned v ∧ Wdw w w' v m := by
  refine (words_wide m hm w).mono ?_
  rintro e w' ⟨B, L, rfl, _, hb, hg, hl, hr, hv⟩
  exact ⟨_, rfl, L, hb.d4, hr, by omega, hv, hg⟩
theorem prod_wdw {w0 w1 w2 : World} {va vb : Value} {m1 m2 : ByteArray} (h1 : Wdw w0 w1 va m1) (h2 : Wdw w1 w2 vb m2) :
    Calls Tryz.prog 68 #[va, vb] w2 fun e w' => ∃ v, e = .returned v ∧ ∃ K, D4 w' v K ∧ (∀ x ∈ K, x < B32) ∧ K.length ≤ 50000 ∧ nv B32 K = val (bN m1) * val (bN m2) ∧ w2.grownBy w' none := by
  obtain ⟨A, dA, rA, lA, vA, gA⟩ := h1
  obtain ⟨B, dB, rB, lB, vB, gB⟩ := h2
  refine (product_any w2 va vb A B (dA.kept gB) dB rA rB (by omega) (by omega)).mono ?_
  rintro e w' ⟨v, K, rfl, dK, rK, vK, lK, _, gK⟩
  exact ⟨v, rfl, K, dK, rK, by omega, by rw [vK, vA, vB], gK⟩

set_option maxHeartbeats 3200000 in
set_option maxRecDepth 1000000 in
theorem rTimes_wide (n1 n2 : Bool) (m1 m2 : ByteArray) (h1 : m1.size ≤ 100000) (h2 : m2.size ≤ 100000) (w : World) :
    Calls Tryz.prog 70 #[whole n1 m1, whole n2 m2] w fun e w' => ∃ s, e = .returned (whole ((n1 != n2) && decide (val (bN m1) * val (bN m2) ≠ 0)) s) ∧ bN s = magN (val (bN m1) * val (bN m2)) ∧ w.grownBy w' none := by
  go_enter Tryz.func70, Tryz.ntmps70
  go_wp2_with fail
  have HKK : Hid (∀ w', ((w.alloc (wObj n1 m1)).alloc (wObj n2 m2)).grownBy w' none → w'.cell? ⟨w.heap.size, 0, none⟩ = some (Value.bool n1) ∧ w'.cell? ⟨w.heap.size, 1, none⟩ = some (Value.string m1) ∧ w'.cell? ⟨w.heap.size + 1, 0, none⟩ = some (Value.bool n2) ∧ w'.cell? ⟨w.heap.size + 1, 1, none⟩ = some (Value.string m2)) :=
    fun w' hg => ⟨grownBy_cell hg (WBlk.c0 (b := .string m1) (old_alloc _ _ (heap_alloc_new _ _))) (by simp), grownBy_cell hg (WBlk.c1 (a := .bool n1) (old_alloc _ _ (heap_alloc_new _ _))) (by simp), grownBy_cell hg (WBlk.c0 (b := .string m2) (heap_alloc2_new _ _ _)) (by simp), grownBy_cell hg (WBlk.c1 (a := .bool n2) (heap_alloc2_new _ _ _)) (by simp)⟩
  go_region_held3 (fun w' => w'.cell? ⟨w.heap.size, 0, none⟩ = some (Value.bool n1) ∧ w'.cell? ⟨w.heap.size, 1, none⟩ = some (Value.string m1) ∧ w'.cell? ⟨w.heap.size + 1, 0, none⟩ = some (Value.bool n2) ∧ w'.cell? ⟨w.heap.size + 1, 1, none⟩ = some (Value.string m2))
    (first | (go_keep; done) | exact HKK.out _ (grownBy_trans (grow1 _ _) (by assumption)) | exact HKK.out _ (grown_set (grown_set (grownBy_trans (grow1 _ _) GM) (by simp)) (by simp)) | exact HKK.out _ (grow_drew (grow1 _ _)) | fail)
    (first
      | (go_at_call 46; refine (words_wdw _ (by first | exact h1 | exact h2) _).mono ?_; rintro e wA ⟨vA, rfl, hWA⟩; have GA : (((w.alloc (wObj n1 m1)).alloc (wObj n2 m2)).alloc (wObj false eS)).grownBy wA none := (by obtain ⟨_, _, _, _, _, hgA⟩ := hWA; first | exact grownBy_trans (by assumption) hgA | exact grownBy_undrew hgA | fail))
      | (go_at_call 68; refine (prod_wdw (by assumption) (by assumption)).mono ?_; rintro e wP ⟨vP, rfl, K, hDK, hRK, hLK, hVK, hGK⟩; have GP : (((w.alloc (wObj n1 m1)).alloc (wObj n2 m2)).alloc (wObj false eS)).grownBy wP none := grownBy_trans (by assumption) hGK)
      | (go_at_call 47; refine (made_any (n1 != n2) _ _ K hDK hRK (by omega)).mono ?_; rw [hVK]; rintro e wM ⟨s, rfl, hs, hGM⟩; have GM : (((w.alloc (wObj n1 m1)).alloc (wObj n2 m2)).alloc (wObj false eS)).grownBy wM none := grownBy_trans GP hGM; have hW : WBlk wM (w.heap.size + 2) (.bool false) (.string eS) := WBlk.kept (at_alloc3 _ _ _ _) GM (by simp); have hc0 := hW.c0; have hc1 := hW.c1; have hf0 := hW.fr 0; have hf1 := hW.fr 1)
      | fail)
  go_wp2_with fail
  refine bodyPost_ret (res_cell rfl _ _ (w.heap.size + 2) _ _ _ _ rfl (hW.put _ _)) rfl ?_
  exact ⟨s, ret_val (by simp), hs, grown_set (grown_set (grownBy_trans (grow3 _ _ _ _) GM) (by omega)) (by omega)⟩
end Go.Proofs.YtjenbicaepldlaaGreatDoor
