/-
  The program's made: the number of a sign and digits, refused where it is too long.
-/
import Derived.Test.YtmgbkcfocbbofabGreatDoorMgo
import Derived.Test.YtmgbkcfocbbofabGreatDoorMgf
namespace Go.Proofs.YtmgbkcfocbbofabGreatDoor
open Go.RowKit Go.Lib Go.Sort

/-- How many bytes a magnitude has. -/
theorem magN_len (n : Nat) : (magN n).length = (bl n + 7) / 8 := by
  induction n using Nat.strongRecOn with
  | ind n ih =>
    rcases Nat.eq_zero_or_pos n with rfl | hp
    · rw [magN_zero]; rfl
    · rw [magN_pos hp, List.length_append, List.length_singleton, ih (n / 256) (by omega)]
      rcases Nat.lt_or_ge n 256 with h | h
      · rw [show n / 256 = 0 by omega, bl_zero]
        obtain ⟨k, hk⟩ := bl_pos hp
        have := bl_le (k := 8) h
        omega
      · have e : bl n = 8 + bl (n / 256) := by
          have := bl_up (n / 256) 8 (n % 256) (by omega) (by omega)
          rw [← this]
          congr 1
          omega
        omega
/-- What made answers of a sign and a magnitude. -/
def Made (neg : Bool) (n : Nat) (e : Ending) : Prop :=
  (bl n ≤ 131072 ∧ ∃ s, e = .returned (.tuple #[whole (neg && decide (n ≠ 0)) s, .int .i64 0]) ∧ bN s = magN n) ∨ (131072 < bl n ∧ e = .returned (.tuple #[whole false eS, .int .i64 4]))

set_option maxHeartbeats 1600000 in
set_option maxRecDepth 1000000 in
theorem madeP_any (neg : Bool) (w : World) (v : Value) (L : List Nat) (h : D4 w v L) (hr : ∀ x ∈ L, x < B32) (hl : L.length ≤ 100000000) :
    Calls Tryz.prog 42 #[.bool neg, v] w fun e w' => Made neg (nv B32 L) e ∧ w.grownBy w' none := by
  have HT := trim_any (w.alloc (wObj false eS)) v L (h.kept (grow1 _ _)) (by omega)
  have HTH : Hid (Calls Tryz.prog 31 #[v] (w.alloc (wObj false eS)) fun e w' => ∃ v' k, e = .returned v' ∧ k ≤ L.length ∧ D4 (w.alloc (wObj false eS)) v' (L.take k) ∧ nv B32 (L.take k) = nv B32 L ∧ Trim (L.take k) ∧ w' = w.alloc (wObj false eS)) := HT
  have HR : Hid (∀ x ∈ L, x < B32) := hr
  clear HT h hr
  go_enter Tryz.func42, Tryz.ntmps42
  go_wp2_with fail
  refine HTH.out.mono ?_
  rintro e w1 ⟨v', k, rfl, hk, hD, hn, hT, rfl⟩
  have hlen : (L.take k).length = k := by rw [List.length_take, Nat.min_eq_left hk]
  have hR' : ∀ x ∈ L.take k, x < B32 := fun x hx => HR.out x (List.mem_of_mem_take hx)
  have hB := bitsOf_any _ v' (L.take k) hD hR' hT (by omega)
  rw [hn] at hB
  obtain ⟨ab, cp, rfl⟩ := hD.slice
  rw [hlen] at hD hB
  have HM : Hid (Calls Tryz.prog 70 #[.slice ab k cp] (w.alloc (wObj false eS)) fun e w' => ∃ s, e = .returned (.string s) ∧ bN s = magN (nv B32 L) ∧ (w.alloc (wObj false eS)).grownBy w' none) := (by
    have := magOf_any (w.alloc (wObj false eS)) ab k cp (L.take k) hlen hD hR' (by omega)
    rw [hn] at this
    exact this)
  have hz : Unit → (k = 0 ↔ nv B32 L = 0) := fun _ => by
    rw [← hn]
    constructor
    · intro e; subst e; simp [nv]
    · intro e
      rcases Nat.eq_zero_or_pos k with h | h
      · exact h
      · have := trim_lo hT (k - 1) (by omega)
        have hp : 0 < B32 ^ (k - 1) := Nat.pow_pos (by decide)
        omega
  clear hD hn hT hR' HTH
  rw [hlen]
  have HB : Hid (Calls Tryz.prog 69 #[.slice ab k cp] (w.alloc (wObj false eS)) fun e w' => e = .returned (.int .i64 (bl (nv B32 L))) ∧ w' = w.alloc (wObj false eS)) := hB
  clear hB hlen
  obtain ⟨n, hnn⟩ : ∃ n, nv B32 L = n := ⟨_, rfl⟩
  have HNN : Unit → nv B32 L = n := fun _ => hnn
  rw [hnn] at HM HB hz
  clear hnn
  obtain ⟨b, hb⟩ : ∃ b, bl n = b := ⟨_, rfl⟩
  have HB2 : Unit → bl n = b := fun _ => hb
  rw [hb] at HB
  clear hb
  go_wp2_with fail
  refine HB.out.mono ?_
  rintro e w1 ⟨rfl, rfl⟩
  clear HB
  by_cases hbig : b ≤ 131072
  · have hbI : (b : Int) ≤ 131072 := by omega
    cases neg
    · go_wp2_with fail
      refine HM.out.mono ?_
      rintro e w1 ⟨s, rfl, hs, hg⟩
      have HS : Hid (bN s = magN n) := hs
      have hb : WBlk w1 w.heap.size (.bool false) (.string eS) := WBlk.kept (w := w.alloc (wObj false eS)) (heap_alloc_new _ _) hg (by simp)
      have hc0 := hb.c0
      have hc1 := hb.c1
      have hf0 := hb.fr 0
      have hf1 := hb.fr 1
      have HG : Hid ((w.alloc (wObj false eS)).grownBy w1 none) := hg
      clear hg hs HM
      go_wp2_with fail
      refine bodyPost_ret (res_cell_tmp rfl _ _ w.heap.size _ _ _ _ rfl (hb.put _ _)) rfl ?_
      refine ⟨.inl ⟨by rw [HNN (), HB2 ()]; exact hbig, s, ?_, by rw [HNN ()]; exact HS.out⟩, grown_set (grown_set (grownBy_trans (grow1 _ _) HG.out) (Nat.le_refl _)) (Nat.le_refl _)⟩
      rfl
    · have hneg : Unit → decide (0 < k) = decide (n ≠ 0) := fun _ => by
        have := hz ()
        exact decide_eq_decide.2 (by omega)
      go_wp2_with fail
      refine HM.out.mono ?_
      rintro e w1 ⟨s, rfl, hs, hg⟩
      have HS : Hid (bN s = magN n) := hs
      have hb : WBlk w1 w.heap.size (.bool false) (.string eS) := WBlk.kept (w := w.alloc (wObj false eS)) (heap_alloc_new _ _) hg (by simp)
      have hc0 := hb.c0
      have hc1 := hb.c1
      have hf0 := hb.fr 0
      have hf1 := hb.fr 1
      have HG : Hid ((w.alloc (wObj false eS)).grownBy w1 none) := hg
      clear hg hs HM
      go_wp2_with fail
      refine bodyPost_ret (res_cell_tmp rfl _ _ w.heap.size _ _ _ _ rfl (hb.put _ _)) rfl ?_
      refine ⟨.inl ⟨by rw [HNN (), HB2 ()]; exact hbig, s, ?_, by rw [HNN ()]; exact HS.out⟩, grown_set (grown_set (grownBy_trans (grow1 _ _) HG.out) (Nat.le_refl _)) (Nat.le_refl _)⟩
      rw [HNN (), Bool.true_and, ← hneg ()]
      rfl
  · have hbI : (131072 : Int) + 1 ≤ b := by omega
    go_wp2_with (go_at_call 29; refine (zero_any _).mono ?_; rintro e w' ⟨rfl, rfl⟩)
    refine bodyPost_ret (res_cell_tmp rfl _ _ w.heap.size _ _ _ _ rfl (old_alloc _ _ (heap_alloc_new _ _))) rfl ?_
    exact ⟨.inr ⟨by rw [HNN (), HB2 ()]; omega, rfl⟩, grow2 _ _ _⟩
end Go.Proofs.YtmgbkcfocbbofabGreatDoor
