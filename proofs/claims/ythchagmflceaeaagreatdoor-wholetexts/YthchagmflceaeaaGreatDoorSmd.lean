/-
  The document's small: a magnitude divided by one digit.
-/
import Derived.Test.YthchagmflceaeaaGreatDoorCby
import Derived.Test.YthchagmflceaeaaGreatDoorPrd
namespace Go.Proofs.YthchagmflceaeaaGreatDoor
open Go.RowKit Go.Lib Go.Sort

set_option maxHeartbeats 1600000 in
set_option maxRecDepth 1000000 in
theorem cut_own (w : World) (v : Value) (L : List Nat) (h : D4 w v L) (hr : ∀ x ∈ L, x < B32) (hl : L.length ≤ 1000000000) :
    Calls Tryz.prog 101 #[v] w fun e w' => ∃ v' k, e = .returned v' ∧ k ≤ L.length ∧ D4 w v' (L.take k) ∧ nv B32 (L.take k) = nv B32 L ∧ (k = 0 ∨ (L.take k)[k - 1]?.getD 0 ≠ 0) ∧ v'.ownBlock = v.ownBlock ∧ w' = w := by
  rcases h with ⟨rfl, rfl⟩ | ⟨B, off, c, rfl, hc, h⟩
  · go_enter Tryz.func101, Tryz.ntmps101
    go_wp2
    go_loopw [3] (fun s wr => s = .int .i64 0 ∧ wr = w) (fun _ _ => 0)
    case atStart => exact ⟨rfl, rfl⟩
    case round =>
      obtain ⟨rfl, rfl⟩ := hrel
      go_wp2
      go_ret
      exact ⟨_, 0, rfl, by simp, .inl ⟨rfl, rfl⟩, rfl, .inl rfl, rfl, rfl⟩
  · have HC : Hid (∀ j, j < L.length → w.cell? ⟨B, off + j, none⟩ = some (.int .u32 ((L[j]?.getD 0 : Nat) : Int))) := h
    have HR : Hid (∀ x ∈ L, x < B32) := hr
    have hlI : (L.length : Int) ≤ 1000000000 := by omega
    obtain ⟨n, hn⟩ : ∃ n, L.length = n := ⟨_, rfl⟩
    have HN : Hid (L.length = n) := hn
    rw [hn] at hc hlI ⊢
    clear h hr hl hn
    go_enter Tryz.func101, Tryz.ntmps101
    go_wp2
    go_loopw [3] (fun s wr => ∃ k, k ≤ n ∧ s = .int .i64 k ∧ nv B32 (L.take k) = nv B32 L ∧ wr = w) (fun s _ => (RowKit.intOf s).toNat)
    case atStart => exact ⟨n, Nat.le_refl _, rfl, by rw [← HN.out, List.take_length], rfl⟩
    case round =>
      obtain ⟨k, hk, rfl, hv, rfl⟩ := hrel
      have HV : Hid (nv B32 (L.take k) = nv B32 L) := hv
      clear hv
      by_cases hk0 : k = 0
      · subst hk0
        go_wp2
        go_ret
        exact ⟨_, 0, rfl, by omega, .inr ⟨B, off, c, by simp, by simp, fun j hj => by simp at hj⟩, HV.out, .inl rfl, rfl, rfl⟩
      · obtain ⟨q, rfl⟩ : ∃ q, k = q + 1 := ⟨k - 1, by omega⟩
        have hx := HC.out q (by have := HN.out; omega)
        by_cases hz : L[q]?.getD 0 = 0
        · rw [hz] at hx
          go_wp2
          go_roundw
          case rel => exact ⟨q, by omega, num_eq (by omega), by rw [← HV.out, nv_take_zero B32 L q (by have := HN.out; omega) hz], trivial⟩
          case measure => simp [RowKit.intOf]
        · have hz1 : (((L[q]?.getD 0 : Nat) : Int) == 0) = false := by
            rw [beq_eq_false_iff_ne]; omega
          have HZ : Hid (L[q]?.getD 0 ≠ 0) := hz
          clear hz
          generalize ((L[q]?.getD 0 : Nat) : Int) = x at *
          go_wp2
          go_ret
          refine ⟨_, q + 1, rfl, by have := HN.out; omega, .inr ⟨B, off, c, ?_, ?_, fun j hj => ?_⟩, HV.out, .inr ?_, rfl, rfl⟩
          · rw [List.length_take, HN.out, Nat.min_eq_left hk]; rfl
          · rw [List.length_take, HN.out, Nat.min_eq_left hk]; omega
          · rw [List.length_take, HN.out, Nat.min_eq_left hk] at hj
            rw [HC.out j (by have := HN.out; omega), List.getElem?_take, if_pos hj]
          · rw [List.getElem?_take, if_pos (by omega)]; exact HZ.out
set_option maxHeartbeats 3200000 in
set_option maxRecDepth 1000000 in
theorem small_div (w : World) (va : Value) (A : List Nat) (d : Nat) (hA : D4 w va A) (ra : ∀ x ∈ A, x < B32) (la : A.length ≤ 100000000) (hd0 : 0 < d) (hd1 : d < 4294967296) :
    Calls Tryz.prog 102 #[va, .int .u64 (d : Int)] w fun e w' => ∃ v K, e = .returned (.tuple #[v, .int .u64 ((nv B32 A % d : Nat) : Int)]) ∧ D4 w' v K ∧ (∀ x ∈ K, x < B32) ∧ nv B32 K = nv B32 A / d ∧ K.length ≤ A.length ∧ Trim K ∧ (∃ g, v.ownBlock = some g ∧ w.heap.size ≤ g ∧ g < w'.heap.size) ∧ w.grownBy w' none := by
  obtain ⟨aa, ca, rfl⟩ := hA.slice
  have HA : Hid (D4 w (.slice aa A.length ca) A) := hA
  have HRa : Hid (∀ x ∈ A, x < B32) := ra
  obtain ⟨p, hp⟩ : ∃ p, A.length = p := ⟨_, rfl⟩
  have HP : Unit → A.length = p := fun _ => hp
  have hp9 : (p : Int) ≤ 100000000 := by omega
  have hdI : (d : Int) ≤ 4294967295 := by omega
  have hdI0 : (0 : Int) < d := by omega
  have hw0 : ((d : Int) == 0) = false := by rw [beq_eq_false_iff_ne]; omega
  have hmk := make4 w p (by omega)
  rw [hp] at HA ⊢
  clear hA ra hp la
  go_enter Tryz.func102, Tryz.ntmps102
  go_wp2_with fail
  clear hmk
  go_loopw [7, 8] (fun s t wr => ∃ (m : Nat) (L : List Nat), s = .int .u64 ((nv B32 (A.drop m) % d : Nat) : Int) ∧ t = .int .i64 ((m : Int) - 1) ∧ m ≤ p ∧ L.length = p ∧ (∀ x ∈ L, x < B32) ∧ nv B32 (L.drop m) = nv B32 (A.drop m) / d ∧
    BlkL wr w.heap.size 74 enc4 (ints L) ∧ w.grownBy wr none) (fun _ t _ => (RowKit.intOf t + 1).toNat)
  case atStart =>
    refine ⟨p, List.replicate p 0, ?_, rfl, Nat.le_refl _, by simp, fun x hx => by rw [List.eq_of_mem_replicate hx]; decide, ?_, heap_alloc_new _ _, grow1 _ _⟩
    · rw [show A.drop p = [] from List.drop_of_length_le (by rw [HP ()]; exact Nat.le_refl _)]; simp [nv]
    · rw [show A.drop p = [] from List.drop_of_length_le (by rw [HP ()]; exact Nat.le_refl _), show (List.replicate p 0).drop p = [] by simp]; simp [nv]
  case round =>
    obtain ⟨m, L, rfl, rfl, hm, hL, hr, hv, hBk, hg⟩ := hrel
    have HR : Hid (∀ x ∈ L, x < B32) := hr
    have HV : Hid (nv B32 (L.drop m) = nv B32 (A.drop m) / d) := hv
    have HBk : Hid (BlkL wr w.heap.size 74 enc4 (ints L)) := hBk
    have HG : Hid (w.grownBy wr none) := hg
    rcases Nat.eq_zero_or_pos m with rfl | hm0
    · have hct := cut_own wr _ L hBk.d4 hr (by omega)
      rw [hL] at hct
      have HCT : Hid (Calls Tryz.prog 101 #[.slice (some ⟨w.heap.size, 0, none⟩) p p] wr fun e w' => ∃ v' k, e = .returned v' ∧ k ≤ p ∧ D4 wr v' (L.take k) ∧ nv B32 (L.take k) = nv B32 L ∧ (k = 0 ∨ (L.take k)[k - 1]?.getD 0 ≠ 0) ∧ v'.ownBlock = some w.heap.size ∧ w' = wr) := hct
      have HVV : Unit → nv B32 L = nv B32 A / d := fun _ => by have := HV.out; rwa [List.drop_zero, List.drop_zero] at this
      rw [List.drop_zero]
      clear hct hr hv hBk hg
      go_wp2_with fail
      refine HCT.out.mono ?_
      rintro e w1 ⟨v', k, rfl, hk, hD, hnk, hlast, hob, hw1⟩
      subst hw1
      have hlen : (L.take k).length = k := by rw [List.length_take, hL, Nat.min_eq_left hk]
      have HD : Hid (D4 w1 v' (L.take k)) := hD
      have HNK : Unit → nv B32 (L.take k) = nv B32 L := fun _ => hnk
      have HLT : Hid (Trim (L.take k)) := (by show Trim _; unfold Trim; rw [hlen]; exact hlast)
      have HOB : Hid (∃ g, v'.ownBlock = some g ∧ w.heap.size ≤ g ∧ g < w1.heap.size) := ⟨_, hob, Nat.le_refl _, HBk.out.lt⟩
      clear hD hnk hlast HCT hob
      go_wp2_with fail
      go_ret2
      exact ⟨v', L.take k, rfl, HD.out, fun x hx => HR.out x (List.mem_of_mem_take hx), by rw [HNK (), HVV ()], by omega, HLT.out, HOB.out, HG.out⟩
    · obtain ⟨q, rfl⟩ : ∃ q, m = q + 1 := ⟨m - 1, by omega⟩
      rcases HA.out with ⟨_, hnil⟩ | ⟨Ba, oa, ca', hve, hpc, hcA⟩
      · exfalso
        have := HP ()
        rw [hnil] at this
        simp at this
        omega
      · obtain ⟨haa, hpp, hcc⟩ := Value.slice.inj hve
        rw [HP ()] at hpc
        clear hpp hve
        subst haa
        subst hcc
        have hx := grownBy_cell hg (hcA q (by rw [HP ()]; omega)) (by simp)
        have hfr := hBk.frozen q
        have hzc := hBk.cell q (by rw [ints_length]; omega)
        have rx : A[q]?.getD 0 < 4294967296 := d4_rng HRa.out q
        have hst := div_step (nv B32 (A.drop (q + 1))) (A[q]?.getD 0) d hd0
        have hdA : nv B32 (A.drop q) = A[q]?.getD 0 + B32 * nv B32 (A.drop (q + 1)) := nv_drop_succ A q (by rw [HP ()]; omega)
        have hRb : nv B32 (A.drop (q + 1)) % d < d := Nat.mod_lt _ hd0
        have HST : Hid (nv B32 (A.drop q) / d = B32 * (nv B32 (A.drop (q + 1)) / d) + (nv B32 (A.drop (q + 1)) % d * B32 + A[q]?.getD 0) / d ∧ nv B32 (A.drop q) % d = (nv B32 (A.drop (q + 1)) % d * B32 + A[q]?.getD 0) % d) := (by rw [hdA]; exact hst)
        clear hst hdA hcA hr hv hBk hg
        generalize nv B32 (A.drop (q + 1)) % d = R at *
        generalize A[q]?.getD 0 = x at *
        have hxI : (x : Int) ≤ 4294967295 := by omega
        have hRI : (R : Int) ≤ 4294967295 := by omega
        have hq32 := div_lt32 R x d hRb rx
        have e1 : ((R : Int) * 4294967296 + x) / d = (((R * 4294967296 + x) / d : Nat) : Int) := by simp
        have e2 : ((R : Int) * 4294967296 + x) % d = (((R * 4294967296 + x) % d : Nat) : Int) := by simp
        have hqp : (q : Int) < p := by omega
        obtain ⟨Y, hY⟩ : ∃ Y, (R * 4294967296 + x) / d = Y := ⟨_, rfl⟩
        have HY : Unit → (R * 4294967296 + x) / d = Y := fun _ => hY
        rw [hY] at hq32 e1
        have hYI : (Y : Int) ≤ 4294967295 := by omega
        have hw8 : IntKind.u32.wrap (Y : Int) = (Y : Int) := by rw [IntKind.wrap_u32]; omega
        have hw9 : IntKind.u32.wrap (((R : Int) * 4294967296 + x) / d) = (Y : Int) := by rw [e1]; exact hw8
        clear hY e2
        rw [show (((q + 1 : Nat) : Int) - 1) = (q : Int) by omega]
        clear rx hRb
        go_wp2_with fail
        go_roundw
        case rel =>
          refine ⟨q, L.set q Y, num_eq ?_, rfl, by omega, by simp [hL], set_rng HR.out hq32, ?_, ?_, grown_set HG.out (Nat.le_refl _)⟩
          · rw [HST.out.2]
            simp
          · rw [nv_drop_succ _ q (by simp; omega), List.getElem?_set_self (by omega), List.drop_set_of_lt (by omega), HV.out, HST.out.1, show R * B32 + x = R * 4294967296 + x from rfl, HY ()]
            simp only [Option.getD_some]
            omega
          · have e := HBk.out.set q (Y : Int)
            rw [ints_set] at e
            exact e
        case measure => simp [RowKit.intOf]
end Go.Proofs.YthchagmflceaeaaGreatDoor
