/-
  Digits that the call owns: out of a new block, and trimmed in their place.
-/
import Derived.Test.YtmgbkcfocbbofabGreatDoorSmm
import Derived.Test.YtmgbkcfocbbofabGreatDoorBunMor
namespace Go.Proofs.YtmgbkcfocbbofabGreatDoor
open Go.RowKit Go.Lib Go.Sort

theorem BlkL.row {w : World} {B base : Nat} {L : List Nat} (h : BlkL w B 55 enc4 (ints L)) (hb : base ≤ B) (hl : L.length ≤ maxLen) : Row w base (.slice (some ⟨B, 0, none⟩) L.length L.length) L := by
  refine ⟨by simp [ints], .inr ⟨B, L.length, _, rfl, hb, h, Nat.le_refl _, hl, by simp [ints], ?_⟩⟩
  simp only [ints, List.map_map, Nat.mul_one]
  exact List.take_of_length_le (by simp)
theorem Row.take {w : World} {base g n c k : Nat} {L : List Nat} (h : Row w base (.slice (some ⟨g, 0, none⟩) n c) L) (hk : k ≤ n) : Row w base (.slice (some ⟨g, 0, none⟩) k c) (L.take k) := by
  rcases h.2 with ⟨e, _⟩ | ⟨g', cap, cur, e, hb, hg, hc, hm, hs, ht⟩
  · cases e
  · obtain ⟨e1, e2, e3⟩ := Value.slice.inj e
    cases e1
    subst e3
    have hlen : (L.take k).length = k := by rw [List.length_take]; omega
    refine ⟨by simp [ints], .inr ⟨g, c, cur, by rw [hlen], hb, hg, by rw [hlen]; omega, hm, hs, ?_⟩⟩
    rw [hlen, Nat.mul_one]
    rw [Nat.mul_one] at ht
    have := congrArg (List.take k) ht
    rw [List.take_take, Nat.min_eq_left (by omega)] at this
    rw [this]
    simp [ints, List.map_take]

set_option maxHeartbeats 1600000 in
set_option maxRecDepth 1000000 in
theorem trim_row (w : World) (base : Nat) (v : Value) (L : List Nat) (h : Row w base v L) (hl : L.length ≤ 1000000000) :
    Calls Tryz.prog 31 #[v] w fun e w' => ∃ v' k, e = .returned v' ∧ k ≤ L.length ∧ Row w base v' (L.take k) ∧ nv B32 (L.take k) = nv B32 L ∧ Trim (L.take k) ∧ v'.ownBlock = v.ownBlock ∧ w' = w := by
  have HR : Hid (Row w base v L) := h
  rcases h.cases with ⟨rfl, rfl⟩ | ⟨B, c, rfl, _, hc⟩
  · clear h
    go_enter Tryz.func31, Tryz.ntmps31
    go_wp2
    go_loopw [0] (fun s wr => s = .slice none 0 0 ∧ wr = w) (fun _ _ => 0)
    case atStart => exact ⟨rfl, rfl⟩
    case round =>
      obtain ⟨rfl, rfl⟩ := hrel
      go_wp2
      go_ret
      exact ⟨_, 0, rfl, by simp, HR.out, rfl, .inl rfl, rfl, rfl⟩
  · have HC : Hid (∀ j, j < L.length → w.cell? ⟨B, j, none⟩ = some (.int .u32 ((L[j]?.getD 0 : Nat) : Int))) := fun j hj => h.cell j hj
    have hlI : (L.length : Int) ≤ 1000000000 := by omega
    obtain ⟨n, hn⟩ : ∃ n, L.length = n := ⟨_, rfl⟩
    have HN : Unit → L.length = n := fun _ => hn
    rw [hn] at hc hlI HR ⊢
    clear h hl hn
    go_enter Tryz.func31, Tryz.ntmps31
    go_wp2
    go_loopw [0] (fun s wr => ∃ k, k ≤ n ∧ s = .slice (some ⟨B, 0, none⟩) k c ∧ nv B32 (L.take k) = nv B32 L ∧ wr = w) (fun s _ => match s with | .slice _ n _ => n | _ => 0)
    case atStart => exact ⟨n, Nat.le_refl _, rfl, by rw [← HN (), List.take_length], rfl⟩
    case round =>
      obtain ⟨k, hk, rfl, hv, rfl⟩ := hrel
      have HV : Hid (nv B32 (L.take k) = nv B32 L) := hv
      clear hv
      by_cases hk0 : k = 0
      · subst hk0
        go_wp2
        go_ret
        exact ⟨_, 0, rfl, by omega, HR.out.take (by omega), HV.out, .inl (by simp), rfl, rfl⟩
      · obtain ⟨q, rfl⟩ : ∃ q, k = q + 1 := ⟨k - 1, by omega⟩
        have hx := HC.out q (by rw [HN ()]; omega)
        have hqI : (q : Int) ≤ 1000000000 := by omega
        have hqc : q + 1 ≤ c := by omega
        by_cases hz : L[q]?.getD 0 = 0
        · rw [hz] at hx
          go_wp2
          go_roundw
          case rel => exact ⟨q, by omega, rfl, by rw [← HV.out, nv_take_zero B32 L q (by rw [HN ()]; omega) hz], trivial⟩
          case measure => simp
        · have hz1 : (((L[q]?.getD 0 : Nat) : Int) == 0) = false := by
            rw [beq_eq_false_iff_ne]; omega
          have HZ : Hid (L[q]?.getD 0 ≠ 0) := hz
          clear hz
          generalize ((L[q]?.getD 0 : Nat) : Int) = x at *
          go_wp2
          go_ret
          have hlen : (L.take (q + 1)).length = q + 1 := by rw [List.length_take, HN (), Nat.min_eq_left hk]
          refine ⟨_, q + 1, rfl, by omega, HR.out.take (by omega), HV.out, .inr ?_, rfl, rfl⟩
          rw [hlen, Nat.add_sub_cancel, List.getElem?_take, if_pos (by omega)]; exact HZ.out
end Go.Proofs.YtmgbkcfocbbofabGreatDoor
