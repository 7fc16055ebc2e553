/-
  The document's Small, cut, made, Of.
-/
import Derived.Test.YtaldmfbicddcbaaGreatDoorRfa
namespace Go.Proofs.YtaldmfbicddcbaaGreatDoor
open Go.RowKit Go.Lib Go.Sort

theorem nv_two {L : List Nat} (h : L.length ≤ 2) : nv B32 L = (L[1]?.getD 0) * 4294967296 + L[0]?.getD 0 := by
  match L, h with
  | [], _ => rfl
  | [a], _ => simp [nv]
  | [a, b], _ => simp [nv, B32]; omega
  | a :: b :: c :: t, h => simp at h

set_option maxHeartbeats 1600000 in
set_option maxRecDepth 1000000 in
theorem rSmall_any (neg : Bool) (mag : ByteArray) (h : may neg mag = true) (w : World) :
    Calls Tryz.prog 22 #[whole neg mag] w fun e w' => ∃ y, e = .returned (.tuple #[.int .i64 y, .bool (isSmall neg mag)]) ∧ (isSmall neg mag = true → y = num neg mag) ∧ w.grownBy w' none := by
  have hm := may_size h
  by_cases h8 : mag.size ≤ 8
  · have hv8 := val_size h8
    go_enter Tryz.func22, Tryz.ntmps22
    go_wp2_with fail
    refine (words_any mag hm _).mono ?_
    rintro e w1 ⟨B, L, rfl, hB, hb, hg, hl, hr, hv⟩
    have a1 := at_any w1 _ L hb.d4 hr (by omega) 1 (by omega)
    have a0 := at_any w1 _ L hb.d4 hr (by omega) 0 (by omega)
    have hn2 := nv_two (L := L) (by omega)
    rw [hv] at hn2
    have r0 := d4_rng hr 0
    have r1 := d4_rng hr 1
    have hbk : WBlk w1 w.heap.size (.bool neg) (.string mag) := WBlk.kept (w := w.alloc (wObj neg mag)) (heap_alloc_new _ _) hg (by simp)
    have hc0 := hbk.c0
    have HG : Hid ((w.alloc (wObj neg mag)).grownBy w1 none) := hg
    have A0 : Hid (Calls Tryz.prog 63 #[.slice (some ⟨B, 0, none⟩) L.length L.length, .int .i64 0] w1 fun e w' => e = .returned (.int .u64 ((L[0]?.getD 0 : Nat) : Int)) ∧ w' = w1) := a0
    have A1 : Hid (Calls Tryz.prog 63 #[.slice (some ⟨B, 0, none⟩) L.length L.length, .int .i64 1] w1 fun e w' => e = .returned (.int .u64 ((L[1]?.getD 0 : Nat) : Int)) ∧ w' = w1) := a1
    clear hg a0 a1 hv hr hl hb hB hbk
    generalize L[0]?.getD 0 = x at *
    generalize L[1]?.getD 0 = y at *
    have hx : (x : Int) ≤ 4294967295 := by have : x < 4294967296 := r0; omega
    have hy : (y : Int) ≤ 4294967295 := by have : y < 4294967296 := r1; omega
    obtain ⟨u, hu⟩ : ∃ u : Int, (y : Int) * 4294967296 + (x : Int) = u := ⟨_, rfl⟩
    have hvu : ((val (bN mag) : Nat) : Int) = u := by rw [← hu]; omega
    have hw0 : IntKind.u64.wrap ((y : Int) * 4294967296) = (y : Int) * 4294967296 := by rw [IntKind.wrap_u64]; omega
    have hw1 : IntKind.u64.wrap ((y : Int) * 4294967296 + (x : Int)) = u := by rw [hu, IntKind.wrap_u64]; omega
    have hu0 : 0 ≤ u := by omega
    have hu1 : u ≤ 18446744073709551615 := by omega
    have HVU : Hid (((val (bN mag) : Nat) : Int) = u) := hvu
    clear r0 r1 hn2 hv8 hvu
    go_wp2_with fail
    refine A1.out.mono ?_
    rintro e w2 ⟨rfl, rfl⟩
    clear A1
    go_wp2_with fail
    refine A0.out.mono ?_
    rintro e w3 ⟨rfl, rfl⟩
    clear A0
    cases neg
    · go_wp2_with fail
      go_ret2
      have hd : decide (u < 9223372036854775808) = isSmall false mag := by
        unfold isSmall
        rw [decide_eq_true h8]
        simp only [Bool.true_and, Bool.false_eq_true, if_false]
        exact decide_eq_decide.2 (by have := HVU.out; omega)
      refine ⟨wrap64 u, by rw [← hd]; rfl, fun hs => ?_, grownBy_trans (grow1 _ _) HG.out⟩
      rw [← hd] at hs
      have hs2 := of_decide_eq_true hs
      have : num false mag = u := HVU.out
      rw [this]
      unfold wrap64
      omega
    · go_wp2_with fail
      go_ret2
      have hd : decide (u ≤ 9223372036854775808) = isSmall true mag := by
        unfold isSmall
        rw [decide_eq_true h8]
        simp only [Bool.true_and, if_true]
        exact decide_eq_decide.2 (by have := HVU.out; omega)
      refine ⟨wrap64 (IntKind.u64.wrap (-u)), by rw [← hd]; rfl, fun hs => ?_, grownBy_trans (grow1 _ _) HG.out⟩
      rw [← hd] at hs
      have hs2 := of_decide_eq_true hs
      have : num true mag = -u := by unfold num; rw [if_pos rfl, HVU.out]
      rw [this, IntKind.wrap_u64]
      unfold wrap64
      omega
  · have hi : isSmall neg mag = false := by simp [isSmall, h8]
    go_enter Tryz.func22, Tryz.ntmps22
    go_wp2
    go_ret2
    rw [hi]
    exact ⟨0, rfl, fun h => by simp at h, grow1 _ _⟩

theorem nv_take_zero (B : Nat) (L : List Nat) (k : Nat) (hk : k < L.length) (h0 : L[k]?.getD 0 = 0) : nv B (L.take (k + 1)) = nv B (L.take k) := by
  have h1 : L[k]? = some (L[k]'hk) := List.getElem?_eq_getElem hk
  rw [take_succ_at h1, nv_append]
  rw [h1] at h0
  simp at h0
  simp [nv, h0]

set_option maxHeartbeats 1600000 in
set_option maxRecDepth 1000000 in
theorem cut_any (w : World) (v : Value) (L : List Nat) (h : D4 w v L) (hr : ∀ x ∈ L, x < B32) (hl : L.length ≤ 1000000000) :
    Calls Tryz.prog 101 #[v] w fun e w' => ∃ v' k, e = .returned v' ∧ k ≤ L.length ∧ D4 w v' (L.take k) ∧ nv B32 (L.take k) = nv B32 L ∧ (k = 0 ∨ (L.take k)[k - 1]?.getD 0 ≠ 0) ∧ w' = w := by
  rcases h with ⟨rfl, rfl⟩ | ⟨B, off, c, rfl, hc, h⟩
  · go_enter Tryz.func101, Tryz.ntmps101
    go_wp2
    go_loopw [3] (fun s wr => s = .int .i64 0 ∧ wr = w) (fun _ _ => 0)
    case atStart => exact ⟨rfl, rfl⟩
    case round =>
      obtain ⟨rfl, rfl⟩ := hrel
      go_wp2
      go_ret
      exact ⟨_, 0, rfl, by simp, .inl ⟨rfl, rfl⟩, rfl, .inl rfl, rfl⟩
  · have HC : Hid (∀ j, j < L.length → w.cell? ⟨B, off + j, none⟩ = some (.int .u32 ((L[j]?.getD 0 : Nat) : Int))) := h
    have HR : Hid (∀ x ∈ L, x < B32) := hr
    have hlI : (L.length : Int) ≤ 1000000000 := by omega
    obtain ⟨n, hn⟩ : ∃ n, L.length = n := ⟨_, rfl⟩
    have HN : Hid (L.length = n) := hn
    rw [hn] at hc hlI ⊢
    clear h hr hl hn
    go_enter Tryz.func101, Tryz.ntmps101
    go_wp2
    go_loopw [3] (fun s wr => ∃ k, k ≤ n ∧ s = .int .i64 k ∧ nv B32 (L.take k) = nv B32 L ∧ wr = w) (fun s _ => (RowKit.intOf s).toNat)
    case atStart => exact ⟨n, Nat.le_refl _, rfl, by rw [← HN.out, List.take_length], rfl⟩
    case round =>
      obtain ⟨k, hk, rfl, hv, rfl⟩ := hrel
      have HV : Hid (nv B32 (L.take k) = nv B32 L) := hv
      clear hv
      by_cases hk0 : k = 0
      · subst hk0
        go_wp2
        go_ret
        exact ⟨_, 0, rfl, by omega, .inr ⟨B, off, c, by simp, by simp, fun j hj => by simp at hj⟩, HV.out, .inl rfl, rfl⟩
      · obtain ⟨q, rfl⟩ : ∃ q, k = q + 1 := ⟨k - 1, by omega⟩
        have hx := HC.out q (by have := HN.out; omega)
        by_cases hz : L[q]?.getD 0 = 0
        · rw [hz] at hx
          go_wp2
          go_roundw
          case rel => exact ⟨q, by omega, num_eq (by omega), by rw [← HV.out, nv_take_zero B32 L q (by have := HN.out; omega) hz], trivial⟩
          case measure => simp [RowKit.intOf]
        · have hz1 : (((L[q]?.getD 0 : Nat) : Int) == 0) = false := by
            rw [beq_eq_false_iff_ne]; omega
          have HZ : Hid (L[q]?.getD 0 ≠ 0) := hz
          clear hz
          generalize ((L[q]?.getD 0 : Nat) : Int) = x at *
          go_wp2
          go_ret
          refine ⟨_, q + 1, rfl, by have := HN.out; omega, .inr ⟨B, off, c, ?_, ?_, fun j hj => ?_⟩, HV.out, .inr ?_, rfl⟩
          · rw [List.length_take, HN.out, Nat.min_eq_left hk]; rfl
          · rw [List.length_take, HN.out, Nat.min_eq_left hk]; omega
          · rw [List.length_take, HN.out, Nat.min_eq_left hk] at hj
            rw [HC.out j (by have := HN.out; omega), List.getElem?_take, if_pos hj]
          · rw [List.getElem?_take, if_pos (by omega)]; exact HZ.out
end Go.Proofs.YtaldmfbicddcbaaGreatDoor
