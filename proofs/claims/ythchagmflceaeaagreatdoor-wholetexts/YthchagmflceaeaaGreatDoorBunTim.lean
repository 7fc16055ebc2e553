/-
  The document's product of numbers.
  The document's sum of numbers.
  The document's sum of numbers of unlike signs.
  The document's sum of numbers of unlike signs: the walks.
  The document's sums, differences and products as whole numbers of Lean.
  The document's difference of numbers.
  The document's order of numbers.
-/
import Derived.Test.YthchagmflceaeaaGreatDoorPrd
import Derived.Test.YthchagmflceaeaaGreatDoorSht
namespace Go.Proofs.YthchagmflceaeaaGreatDoor
open Go.RowKit Go.Lib Go.Sort

/-- What the document's words makes, in a world of its own. -/
def Wds (w w' : World) (v : Value) (m : ByteArray) : Prop :=
  ∃ L, D4 w' v L ∧ (∀ x ∈ L, x < B32) ∧ L.length ≤ 4096 ∧ nv B32 L = val (bN m) ∧ w.grownBy w' none
theorem Wds.grown {w w' : World} {v : Value} {m : ByteArray} (h : Wds w w' v m) : w.grownBy w' none := by
  obtain ⟨_, _, _, _, _, hg⟩ := h
  exact hg
theorem words_wds (m : ByteArray) (hm : m.size ≤ 16384) (w : World) :
    Calls Tryz.prog 62 #[.string m] w fun e w' => ∃ v, e = .returned v ∧ Wds w w' v m := by
  refine (words_any m hm w).mono ?_
  rintro e w' ⟨B, L, rfl, _, hb, hg, hl, hr, hv⟩
  exact ⟨_, rfl, L, hb.d4, hr, by omega, hv, hg⟩
theorem prod_wds {w0 w1 w2 : World} {va vb : Value} {m1 m2 : ByteArray} (h1 : Wds w0 w1 va m1) (h2 : Wds w1 w2 vb m2) :
    Calls Tryz.prog 76 #[va, vb] w2 fun e w' => ∃ v, e = .returned v ∧ ∃ K, D4 w' v K ∧ (∀ x ∈ K, x < B32) ∧ K.length ≤ 8192 ∧ nv B32 K = val (bN m1) * val (bN m2) ∧ w2.grownBy w' none := by
  obtain ⟨A, dA, rA, lA, vA, gA⟩ := h1
  obtain ⟨B, dB, rB, lB, vB, gB⟩ := h2
  refine (product_any w2 va vb A B (dA.kept gB) dB rA rB (by omega) (by omega)).mono ?_
  rintro e w' ⟨v, K, rfl, dK, rK, vK, lK, _, gK⟩
  exact ⟨v, rfl, K, dK, rK, by omega, by rw [vK, vA, vB], gK⟩

set_option maxHeartbeats 3200000 in
set_option maxRecDepth 1000000 in
theorem rTimes_any (n1 n2 : Bool) (m1 m2 : ByteArray) (h1 : m1.size ≤ 16384) (h2 : m2.size ≤ 16384) (w : World) :
    Calls Tryz.prog 37 #[whole n1 m1, whole n2 m2] w fun e w' => ∃ s, e = .returned (whole ((n1 != n2) && decide (val (bN m1) * val (bN m2) ≠ 0)) s) ∧ bN s = magN (val (bN m1) * val (bN m2)) ∧ w.grownBy w' none := by
  go_enter Tryz.func37, Tryz.ntmps37
  go_wp2_with fail
  have HKK : Hid (∀ w', ((w.alloc (wObj n1 m1)).alloc (wObj n2 m2)).grownBy w' none → w'.cell? ⟨w.heap.size, 0, none⟩ = some (Value.bool n1) ∧ w'.cell? ⟨w.heap.size, 1, none⟩ = some (Value.string m1) ∧ w'.cell? ⟨w.heap.size + 1, 0, none⟩ = some (Value.bool n2) ∧ w'.cell? ⟨w.heap.size + 1, 1, none⟩ = some (Value.string m2)) :=
    fun w' hg => ⟨grownBy_cell hg (WBlk.c0 (b := .string m1) (old_alloc _ _ (heap_alloc_new _ _))) (by simp), grownBy_cell hg (WBlk.c1 (a := .bool n1) (old_alloc _ _ (heap_alloc_new _ _))) (by simp), grownBy_cell hg (WBlk.c0 (b := .string m2) (heap_alloc2_new _ _ _)) (by simp), grownBy_cell hg (WBlk.c1 (a := .bool n2) (heap_alloc2_new _ _ _)) (by simp)⟩
  go_region_held3 (fun w' => w'.cell? ⟨w.heap.size, 0, none⟩ = some (Value.bool n1) ∧ w'.cell? ⟨w.heap.size, 1, none⟩ = some (Value.string m1) ∧ w'.cell? ⟨w.heap.size + 1, 0, none⟩ = some (Value.bool n2) ∧ w'.cell? ⟨w.heap.size + 1, 1, none⟩ = some (Value.string m2))
    (first | (go_keep; done) | exact HKK.out _ (grownBy_trans (grow1 _ _) (by assumption)) | exact HKK.out _ (grown_set (grown_set (grownBy_trans (grow1 _ _) GM) (by simp)) (by simp)) | exact HKK.out _ (grow_drew (grow1 _ _)) | fail)
    (first
      | (go_at_call 62; refine (words_wds _ (by first | exact h1 | exact h2) _).mono ?_; rintro e wA ⟨vA, rfl, hWA⟩; have GA : (((w.alloc (wObj n1 m1)).alloc (wObj n2 m2)).alloc (wObj false eS)).grownBy wA none := (by obtain ⟨_, _, _, _, _, hgA⟩ := hWA; first | exact grownBy_trans (by assumption) hgA | exact grownBy_undrew hgA | fail))
      | (go_at_call 76; refine (prod_wds (by assumption) (by assumption)).mono ?_; rintro e wP ⟨vP, rfl, K, hDK, hRK, hLK, hVK, hGK⟩; have GP : (((w.alloc (wObj n1 m1)).alloc (wObj n2 m2)).alloc (wObj false eS)).grownBy wP none := grownBy_trans (by assumption) hGK)
      | (go_at_call 59; refine (made_any (n1 != n2) _ _ K hDK hRK (by omega)).mono ?_; rw [hVK]; rintro e wM ⟨s, rfl, hs, hGM⟩; have GM : (((w.alloc (wObj n1 m1)).alloc (wObj n2 m2)).alloc (wObj false eS)).grownBy wM none := grownBy_trans GP hGM; have hW : WBlk wM (w.heap.size + 2) (.bool false) (.string eS) := WBlk.kept (at_alloc3 _ _ _ _) GM (by simp); have hc0 := hW.c0; have hc1 := hW.c1; have hf0 := hW.fr 0; have hf1 := hW.fr 1)
      | fail)
  go_wp2_with fail
  refine bodyPost_ret (res_cell rfl _ _ (w.heap.size + 2) _ _ _ _ rfl (hW.put _ _)) rfl ?_
  exact ⟨s, ret_val (by simp), hs, grown_set (grown_set (grownBy_trans (grow3 _ _ _ _) GM) (by omega)) (by omega)⟩
end Go.Proofs.YthchagmflceaeaaGreatDoor

namespace Go.Proofs.YthchagmflceaeaaGreatDoor
open Go.RowKit Go.Lib Go.Sort

theorem more_wds {w0 w1 w2 : World} {va vb : Value} {m1 m2 : ByteArray} (h1 : Wds w0 w1 va m1) (h2 : Wds w1 w2 vb m2) (w3 : World) (hg3 : w2.grownBy w3 none) :
    Calls Tryz.prog 74 #[va, vb] w3 fun e w' => ∃ v, e = .returned v ∧ ∃ K, D4 w' v K ∧ (∀ x ∈ K, x < B32) ∧ K.length ≤ 8192 ∧ nv B32 K = val (bN m1) + val (bN m2) ∧ w3.grownBy w' none := by
  obtain ⟨A, dA, rA, lA, vA, gA⟩ := h1
  obtain ⟨B, dB, rB, lB, vB, gB⟩ := h2
  refine (more_any w3 va vb A B ((dA.kept gB).kept hg3) (dB.kept hg3) rA rB (by omega) (by omega)).mono ?_
  rintro e w' ⟨v, K, rfl, dK, rK, vK, lK, _, gK⟩
  exact ⟨v, rfl, K, dK, rK, by omega, by rw [vK, vA, vB], gK⟩

set_option maxHeartbeats 3200000 in
set_option maxRecDepth 1000000 in
theorem rPlus_same (n : Bool) (m1 m2 : ByteArray) (h1 : m1.size ≤ 16384) (h2 : m2.size ≤ 16384) (w : World) :
    Calls Tryz.prog 35 #[whole n m1, whole n m2] w fun e w' => ∃ s, e = .returned (whole (n && decide (val (bN m1) + val (bN m2) ≠ 0)) s) ∧ bN s = magN (val (bN m1) + val (bN m2)) ∧ w.grownBy w' none := by
  go_enter Tryz.func35, Tryz.ntmps35
  go_wp2_with fail
  have HKK : Hid (∀ w', ((w.alloc (wObj n m1)).alloc (wObj n m2)).grownBy w' none → w'.cell? ⟨w.heap.size, 0, none⟩ = some (Value.bool n) ∧ w'.cell? ⟨w.heap.size, 1, none⟩ = some (Value.string m1) ∧ w'.cell? ⟨w.heap.size + 1, 0, none⟩ = some (Value.bool n) ∧ w'.cell? ⟨w.heap.size + 1, 1, none⟩ = some (Value.string m2)) :=
    fun w' hg => ⟨grownBy_cell hg (WBlk.c0 (b := .string m1) (old_alloc _ _ (heap_alloc_new _ _))) (by simp), grownBy_cell hg (WBlk.c1 (a := .bool n) (old_alloc _ _ (heap_alloc_new _ _))) (by simp), grownBy_cell hg (WBlk.c0 (b := .string m2) (heap_alloc2_new _ _ _)) (by simp), grownBy_cell hg (WBlk.c1 (a := .bool n) (heap_alloc2_new _ _ _)) (by simp)⟩
  go_region_held3 (fun w' => w'.cell? ⟨w.heap.size, 0, none⟩ = some (Value.bool n) ∧ w'.cell? ⟨w.heap.size, 1, none⟩ = some (Value.string m1) ∧ w'.cell? ⟨w.heap.size + 1, 0, none⟩ = some (Value.bool n) ∧ w'.cell? ⟨w.heap.size + 1, 1, none⟩ = some (Value.string m2))
    (first | (go_keep; done) | exact HKK.out _ (grownBy_trans (grow1 _ _) (by assumption)) | exact HKK.out _ (grow_drew (grow1 _ _)) | fail)
    (first
      | (go_at_call 62; refine (words_wds _ (by first | exact h1 | exact h2) _).mono ?_; rintro e wA ⟨vA, rfl, hWA⟩; have hgA := hWA.grown; have GA : (((w.alloc (wObj n m1)).alloc (wObj n m2)).alloc (wObj false eS)).grownBy wA none := (by first | exact grownBy_trans (by assumption) hgA | exact grownBy_undrew hgA | fail))
      | fail)
  obtain ⟨c0, c1, c2, c3⟩ := HKK.out _ (grownBy_trans (grow1 _ _) GA)
  go_wp2_with fail
  go_region_held3 (fun w' => w'.cell? ⟨w.heap.size, 0, none⟩ = some (Value.bool n) ∧ w'.cell? ⟨w.heap.size, 1, none⟩ = some (Value.string m1) ∧ w'.cell? ⟨w.heap.size + 1, 0, none⟩ = some (Value.bool n) ∧ w'.cell? ⟨w.heap.size + 1, 1, none⟩ = some (Value.string m2))
    (first | (go_keep; done) | exact HKK.out _ (grownBy_trans (grow1 _ _) (by assumption)) | exact HKK.out _ (grown_set (grown_set (grownBy_trans (grow1 _ _) GM) (by simp)) (by simp)) | fail)
    (first
      | (go_at_call 74; refine (more_wds (by assumption) (by assumption) _ (by first | exact grow_drew (World.grownBy.refl _ _) | exact World.grownBy.refl _ _ | fail)).mono ?_; rintro e wP ⟨vP, rfl, K, hDK, hRK, hLK, hVK, hGK⟩; have GP : (((w.alloc (wObj n m1)).alloc (wObj n m2)).alloc (wObj false eS)).grownBy wP none := (by first | exact grownBy_trans GA (grownBy_undrew hGK) | exact grownBy_trans GA hGK | fail))
      | (go_at_call 59; refine (made_any n _ _ K hDK hRK (by omega)).mono ?_; rw [hVK]; rintro e wM ⟨s, rfl, hs, hGM⟩; have GM : (((w.alloc (wObj n m1)).alloc (wObj n m2)).alloc (wObj false eS)).grownBy wM none := grownBy_trans GP hGM; have hW : WBlk wM (w.heap.size + 2) (.bool false) (.string eS) := WBlk.kept (at_alloc3 _ _ _ _) GM (by simp); have hc0 := hW.c0; have hc1 := hW.c1; have hf0 := hW.fr 0; have hf1 := hW.fr 1)
      | fail)
  go_wp2_with fail
  refine bodyPost_ret (res_cell rfl _ _ (w.heap.size + 2) _ _ _ _ rfl (hW.put _ _)) rfl ?_
  exact ⟨s, ret_val (by simp), hs, grown_set (grown_set (grownBy_trans (grow3 _ _ _ _) GM) (by omega)) (by omega)⟩
end Go.Proofs.YthchagmflceaeaaGreatDoor

namespace Go.Proofs.YthchagmflceaeaaGreatDoor
open Go.RowKit Go.Lib Go.Sort

theorem words_trim {L : List Nat} {neg : Bool} {mag : ByteArray} (h : may neg mag = true) (hl : L.length = (mag.size + 3) / 4) (hr : ∀ x ∈ L, x < B32) (hv : nv B32 L = val (bN mag)) : Trim L := by
  by_cases hp : mag.size = 0
  · left; omega
  · right
    have h0 := may_head h (by omega)
    have h3 := val_head mag (by omega) h0
    obtain ⟨k, hk⟩ : ∃ k, L.length = k + 1 := ⟨L.length - 1, by omega⟩
    have h1 := nv_top B32 L k hk
    have h2 := nv_lt B32 (L.take k) (fun x hx => hr x (List.mem_of_mem_take hx))
    rw [List.length_take, Nat.min_eq_left (by omega)] at h2
    rw [hk, Nat.add_sub_cancel]
    intro hz
    rw [hz, Nat.mul_zero, Nat.add_zero] at h1
    rw [← hv, h1] at h3
    rw [show (256 : Nat) = 2 ^ 8 from rfl, ← Nat.pow_mul] at h3
    have h4 : B32 ^ k ≤ 2 ^ (8 * (mag.size - 1)) := by
      rw [show B32 = 2 ^ 32 from rfl, ← Nat.pow_mul]
      exact Nat.pow_le_pow_right (by decide) (by omega)
    omega

/-- What the document's words makes of a number that may be. -/
def WdT (w w' : World) (v : Value) (m : ByteArray) : Prop :=
  ∃ L, D4 w' v L ∧ (∀ x ∈ L, x < B32) ∧ L.length ≤ 4096 ∧ Trim L ∧ nv B32 L = val (bN m) ∧ w.grownBy w' none
theorem WdT.grown {w w' : World} {v : Value} {m : ByteArray} (h : WdT w w' v m) : w.grownBy w' none := by
  obtain ⟨_, _, _, _, _, _, hg⟩ := h
  exact hg
theorem words_wdt (neg : Bool) (m : ByteArray) (h : may neg m = true) (w : World) :
    Calls Tryz.prog 62 #[.string m] w fun e w' => ∃ v, e = .returned v ∧ WdT w w' v m := by
  have hm := may_size h
  refine (words_any m hm w).mono ?_
  rintro e w' ⟨B, L, rfl, _, hb, hg, hl, hr, hv⟩
  exact ⟨_, rfl, L, hb.d4, hr, by omega, words_trim h hl hr hv, hv, hg⟩
theorem under_wdt {w0 w1 w2 : World} {va vb : Value} {m1 m2 : ByteArray} (h1 : WdT w0 w1 va m1) (h2 : WdT w1 w2 vb m2) (w3 : World) (hg3 : w2.grownBy w3 none) :
    Calls Tryz.prog 72 #[va, vb] w3 fun e w' => e = .returned (.int .i64 (cmpN (val (bN m1)) (val (bN m2)))) ∧ w3.grownBy w' none := by
  obtain ⟨A, dA, rA, lA, tA, vA, gA⟩ := h1
  obtain ⟨B, dB, rB, lB, tB, vB, gB⟩ := h2
  rw [← vA, ← vB]
  exact under_any w3 va vb A B ((dA.kept gB).kept hg3) (dB.kept hg3) rA rB tA tB (by omega) (by omega)
theorem less_wdt {w0 w1 w2 : World} {va vb : Value} {m1 m2 : ByteArray} (h1 : WdT w0 w1 va m1) (h2 : WdT w1 w2 vb m2) (hle : val (bN m2) ≤ val (bN m1)) (w3 : World) (hg3 : w2.grownBy w3 none) :
    Calls Tryz.prog 75 #[va, vb] w3 fun e w' => ∃ v, e = .returned v ∧ ∃ K, D4 w' v K ∧ (∀ x ∈ K, x < B32) ∧ K.length ≤ 8192 ∧ nv B32 K = val (bN m1) - val (bN m2) ∧ w3.grownBy w' none := by
  obtain ⟨A, dA, rA, lA, tA, vA, gA⟩ := h1
  obtain ⟨B, dB, rB, lB, tB, vB, gB⟩ := h2
  have hlen : B.length ≤ A.length := by
    rcases Nat.lt_or_ge A.length B.length with h | h
    · have := len_lt rA tB h
      omega
    · exact h
  refine (less_any w3 va vb A B ((dA.kept gB).kept hg3) (dB.kept hg3) rA rB (by omega) hlen (by omega)).mono ?_
  rintro e w' ⟨v, K, rfl, dK, rK, vK, lK, _, gK⟩
  exact ⟨v, rfl, K, dK, rK, by omega, by rw [vK, vA, vB], gK⟩
theorem less_wdt2 {w0 w1 w2 : World} {va vb : Value} {m1 m2 : ByteArray} (h1 : WdT w0 w1 va m1) (h2 : WdT w1 w2 vb m2) (hle : val (bN m1) ≤ val (bN m2)) (w3 : World) (hg3 : w2.grownBy w3 none) :
    Calls Tryz.prog 75 #[vb, va] w3 fun e w' => ∃ v, e = .returned v ∧ ∃ K, D4 w' v K ∧ (∀ x ∈ K, x < B32) ∧ K.length ≤ 8192 ∧ nv B32 K = val (bN m2) - val (bN m1) ∧ w3.grownBy w' none := by
  obtain ⟨A, dA, rA, lA, tA, vA, gA⟩ := h1
  obtain ⟨B, dB, rB, lB, tB, vB, gB⟩ := h2
  have hlen : A.length ≤ B.length := by
    rcases Nat.lt_or_ge B.length A.length with h | h
    · have := len_lt rB tA h
      omega
    · exact h
  refine (less_any w3 vb va B A (dB.kept hg3) ((dA.kept gB).kept hg3) rB rA (by omega) hlen (by omega)).mono ?_
  rintro e w' ⟨v, K, rfl, dK, rK, vK, lK, _, gK⟩
  exact ⟨v, rfl, K, dK, rK, by omega, by rw [vK, vA, vB], gK⟩
end Go.Proofs.YthchagmflceaeaaGreatDoor

namespace Go.Proofs.YthchagmflceaeaaGreatDoor
open Go.RowKit Go.Lib Go.Sort

set_option maxHeartbeats 3200000 in
set_option maxRecDepth 1000000 in
theorem rPlus_ge (n1 n2 : Bool) (m1 m2 : ByteArray) (h1 : may n1 m1 = true) (h2 : may n2 m2 = true) (hne : (n1 == n2) = false) (hle : val (bN m2) ≤ val (bN m1)) (w : World) :
    Calls Tryz.prog 35 #[whole n1 m1, whole n2 m2] w fun e w' => ∃ s, e = .returned (whole (n1 && decide (val (bN m1) - val (bN m2) ≠ 0)) s) ∧ bN s = magN (val (bN m1) - val (bN m2)) ∧ w.grownBy w' none := by
  have hcv : (0 : Int) ≤ cmpN (val (bN m1)) (val (bN m2)) := by
    rcases Nat.lt_or_eq_of_le hle with h | h
    · rw [cmpN_gt h]; decide
    · rw [cmpN_eq h.symm]; decide
  have W1 := fun w => words_wdt n1 m1 h1 w
  have W2 := fun w => words_wdt n2 m2 h2 w
  have HWW : Hid (∀ m w, (m = m1 ∨ m = m2) → Calls Tryz.prog 62 #[.string m] w fun e w' => ∃ v, e = .returned v ∧ WdT w w' v m) := fun m w h => by
    rcases h with rfl | rfl
    · exact W1 w
    · exact W2 w
  clear W1 W2
  go_enter Tryz.func35, Tryz.ntmps35
  go_wp2_with fail
  have HKK : Hid (∀ w', ((w.alloc (wObj n1 m1)).alloc (wObj n2 m2)).grownBy w' none → w'.cell? ⟨w.heap.size, 0, none⟩ = some (Value.bool n1) ∧ w'.cell? ⟨w.heap.size, 1, none⟩ = some (Value.string m1) ∧ w'.cell? ⟨w.heap.size + 1, 0, none⟩ = some (Value.bool n2) ∧ w'.cell? ⟨w.heap.size + 1, 1, none⟩ = some (Value.string m2)) :=
    fun w' hg => ⟨grownBy_cell hg (WBlk.c0 (b := .string m1) (old_alloc _ _ (heap_alloc_new _ _))) (by simp), grownBy_cell hg (WBlk.c1 (a := .bool n1) (old_alloc _ _ (heap_alloc_new _ _))) (by simp), grownBy_cell hg (WBlk.c0 (b := .string m2) (heap_alloc2_new _ _ _)) (by simp), grownBy_cell hg (WBlk.c1 (a := .bool n2) (heap_alloc2_new _ _ _)) (by simp)⟩
  go_region_held3 (fun w' => w'.cell? ⟨w.heap.size, 0, none⟩ = some (Value.bool n1) ∧ w'.cell? ⟨w.heap.size, 1, none⟩ = some (Value.string m1) ∧ w'.cell? ⟨w.heap.size + 1, 0, none⟩ = some (Value.bool n2) ∧ w'.cell? ⟨w.heap.size + 1, 1, none⟩ = some (Value.string m2))
    (first | (go_keep; done) | exact HKK.out _ (grownBy_trans (grow1 _ _) (by assumption)) | exact HKK.out _ (grow_drew (grow1 _ _)) | fail)
    (first
      | (go_at_call 62; refine (HWW.out _ _ (by first | exact .inl rfl | exact .inr rfl)).mono ?_; rintro e wA ⟨vA, rfl, hWA⟩; have hgA := hWA.grown; have GA : (((w.alloc (wObj n1 m1)).alloc (wObj n2 m2)).alloc (wObj false eS)).grownBy wA none := (by first | exact grownBy_trans (by assumption) hgA | exact grownBy_undrew hgA | fail))
      | fail)
  obtain ⟨c0, c1, c2, c3⟩ := HKK.out _ (grownBy_trans (grow1 _ _) GA)
  go_wp2_with fail
  refine (under_wdt (by assumption) (by assumption) _ (by first | exact World.grownBy.refl _ _ | exact grow_drew (World.grownBy.refl _ _) | fail)).mono ?_
  rintro e wU ⟨rfl, gU⟩
  have GU : (((w.alloc (wObj n1 m1)).alloc (wObj n2 m2)).alloc (wObj false eS)).grownBy wU none := grownBy_trans GA gU
  clear c0 c1 c2 c3
  obtain ⟨c0, c1, c2, c3⟩ := HKK.out _ (grownBy_trans (grow1 _ _) GU)
  generalize cmpN (val (bN m1)) (val (bN m2)) = cm at *
  go_wp2_with fail
  go_region_held3 (fun w' => w'.cell? ⟨w.heap.size, 0, none⟩ = some (Value.bool n1) ∧ w'.cell? ⟨w.heap.size, 1, none⟩ = some (Value.string m1) ∧ w'.cell? ⟨w.heap.size + 1, 0, none⟩ = some (Value.bool n2) ∧ w'.cell? ⟨w.heap.size + 1, 1, none⟩ = some (Value.string m2))
    (first | (go_keep; done) | exact HKK.out _ (grownBy_trans (grow1 _ _) (by assumption)) | exact HKK.out _ (grown_set (grown_set (grownBy_trans (grow1 _ _) GM) (by simp)) (by simp)) | fail)
    (first
      | (go_at_call 75; refine (less_wdt (by assumption) (by assumption) hle _ (by first | exact gU | exact grow_drew gU | fail)).mono ?_; rintro e wP ⟨vP, rfl, K, hDK, hRK, hLK, hVK, hGK⟩; have GP : (((w.alloc (wObj n1 m1)).alloc (wObj n2 m2)).alloc (wObj false eS)).grownBy wP none := (by first | exact grownBy_trans GU (grownBy_undrew hGK) | exact grownBy_trans GU hGK | fail))
      | (go_at_call 59; refine (made_any n1 _ _ K hDK hRK (by omega)).mono ?_; rw [hVK]; rintro e wM ⟨s, rfl, hs, hGM⟩; have GM : (((w.alloc (wObj n1 m1)).alloc (wObj n2 m2)).alloc (wObj false eS)).grownBy wM none := grownBy_trans GP hGM; have hW : WBlk wM (w.heap.size + 2) (.bool false) (.string eS) := WBlk.kept (at_alloc3 _ _ _ _) GM (by simp); have hc0 := hW.c0; have hc1 := hW.c1; have hf0 := hW.fr 0; have hf1 := hW.fr 1)
      | fail)
  go_wp2_with fail
  refine bodyPost_ret (res_cell rfl _ _ (w.heap.size + 2) _ _ _ _ rfl (hW.put _ _)) rfl ?_
  exact ⟨s, ret_val (by simp), hs, grown_set (grown_set (grownBy_trans (grow3 _ _ _ _) GM) (by omega)) (by omega)⟩

set_option maxHeartbeats 3200000 in
set_option maxRecDepth 1000000 in
theorem rPlus_lt (n1 n2 : Bool) (m1 m2 : ByteArray) (h1 : may n1 m1 = true) (h2 : may n2 m2 = true) (hne : (n1 == n2) = false) (hle : val (bN m1) < val (bN m2)) (w : World) :
    Calls Tryz.prog 35 #[whole n1 m1, whole n2 m2] w fun e w' => ∃ s, e = .returned (whole (n2 && decide (val (bN m2) - val (bN m1) ≠ 0)) s) ∧ bN s = magN (val (bN m2) - val (bN m1)) ∧ w.grownBy w' none := by
  have hcv : cmpN (val (bN m1)) (val (bN m2)) < 0 := by rw [cmpN_lt hle]; decide
  have W1 := fun w => words_wdt n1 m1 h1 w
  have W2 := fun w => words_wdt n2 m2 h2 w
  have HWW : Hid (∀ m w, (m = m1 ∨ m = m2) → Calls Tryz.prog 62 #[.string m] w fun e w' => ∃ v, e = .returned v ∧ WdT w w' v m) := fun m w h => by
    rcases h with rfl | rfl
    · exact W1 w
    · exact W2 w
  clear W1 W2
  go_enter Tryz.func35, Tryz.ntmps35
  go_wp2_with fail
  have HKK : Hid (∀ w', ((w.alloc (wObj n1 m1)).alloc (wObj n2 m2)).grownBy w' none → w'.cell? ⟨w.heap.size, 0, none⟩ = some (Value.bool n1) ∧ w'.cell? ⟨w.heap.size, 1, none⟩ = some (Value.string m1) ∧ w'.cell? ⟨w.heap.size + 1, 0, none⟩ = some (Value.bool n2) ∧ w'.cell? ⟨w.heap.size + 1, 1, none⟩ = some (Value.string m2)) :=
    fun w' hg => ⟨grownBy_cell hg (WBlk.c0 (b := .string m1) (old_alloc _ _ (heap_alloc_new _ _))) (by simp), grownBy_cell hg (WBlk.c1 (a := .bool n1) (old_alloc _ _ (heap_alloc_new _ _))) (by simp), grownBy_cell hg (WBlk.c0 (b := .string m2) (heap_alloc2_new _ _ _)) (by simp), grownBy_cell hg (WBlk.c1 (a := .bool n2) (heap_alloc2_new _ _ _)) (by simp)⟩
  go_region_held3 (fun w' => w'.cell? ⟨w.heap.size, 0, none⟩ = some (Value.bool n1) ∧ w'.cell? ⟨w.heap.size, 1, none⟩ = some (Value.string m1) ∧ w'.cell? ⟨w.heap.size + 1, 0, none⟩ = some (Value.bool n2) ∧ w'.cell? ⟨w.heap.size + 1, 1, none⟩ = some (Value.string m2))
    (first | (go_keep; done) | exact HKK.out _ (grownBy_trans (grow1 _ _) (by assumption)) | exact HKK.out _ (grow_drew (grow1 _ _)) | fail)
    (first
      | (go_at_call 62; refine (HWW.out _ _ (by first | exact .inl rfl | exact .inr rfl)).mono ?_; rintro e wA ⟨vA, rfl, hWA⟩; have hgA := hWA.grown; have GA : (((w.alloc (wObj n1 m1)).alloc (wObj n2 m2)).alloc (wObj false eS)).grownBy wA none := (by first | exact grownBy_trans (by assumption) hgA | exact grownBy_undrew hgA | fail))
      | fail)
  obtain ⟨c0, c1, c2, c3⟩ := HKK.out _ (grownBy_trans (grow1 _ _) GA)
  go_wp2_with fail
  refine (under_wdt (by assumption) (by assumption) _ (by first | exact World.grownBy.refl _ _ | exact grow_drew (World.grownBy.refl _ _) | fail)).mono ?_
  rintro e wU ⟨rfl, gU⟩
  have GU : (((w.alloc (wObj n1 m1)).alloc (wObj n2 m2)).alloc (wObj false eS)).grownBy wU none := grownBy_trans GA gU
  clear c0 c1 c2 c3
  obtain ⟨c0, c1, c2, c3⟩ := HKK.out _ (grownBy_trans (grow1 _ _) GU)
  generalize cmpN (val (bN m1)) (val (bN m2)) = cm at *
  go_wp2_with fail
  go_region_held3 (fun w' => w'.cell? ⟨w.heap.size, 0, none⟩ = some (Value.bool n1) ∧ w'.cell? ⟨w.heap.size, 1, none⟩ = some (Value.string m1) ∧ w'.cell? ⟨w.heap.size + 1, 0, none⟩ = some (Value.bool n2) ∧ w'.cell? ⟨w.heap.size + 1, 1, none⟩ = some (Value.string m2))
    (first | (go_keep; done) | exact HKK.out _ (grownBy_trans (grow1 _ _) (by assumption)) | exact HKK.out _ (grown_set (grown_set (grownBy_trans (grow1 _ _) GM) (by simp)) (by simp)) | fail)
    (first
      | (go_at_call 75; refine (less_wdt2 (by assumption) (by assumption) (Nat.le_of_lt hle) _ (by first | exact gU | exact grow_drew gU | fail)).mono ?_; rintro e wP ⟨vP, rfl, K, hDK, hRK, hLK, hVK, hGK⟩; have GP : (((w.alloc (wObj n1 m1)).alloc (wObj n2 m2)).alloc (wObj false eS)).grownBy wP none := (by first | exact grownBy_trans GU (grownBy_undrew hGK) | exact grownBy_trans GU hGK | fail))
      | (go_at_call 59; refine (made_any n2 _ _ K hDK hRK (by omega)).mono ?_; rw [hVK]; rintro e wM ⟨s, rfl, hs, hGM⟩; have GM : (((w.alloc (wObj n1 m1)).alloc (wObj n2 m2)).alloc (wObj false eS)).grownBy wM none := grownBy_trans GP hGM; have hW : WBlk wM (w.heap.size + 2) (.bool false) (.string eS) := WBlk.kept (at_alloc3 _ _ _ _) GM (by simp); have hc0 := hW.c0; have hc1 := hW.c1; have hf0 := hW.fr 0; have hf1 := hW.fr 1)
      | fail)
  go_wp2_with fail
  refine bodyPost_ret (res_cell rfl _ _ (w.heap.size + 2) _ _ _ _ rfl (hW.put _ _)) rfl ?_
  exact ⟨s, ret_val (by simp), hs, grown_set (grown_set (grownBy_trans (grow3 _ _ _ _) GM) (by omega)) (by omega)⟩

end Go.Proofs.YthchagmflceaeaaGreatDoor

namespace Go.Proofs.YthchagmflceaeaaGreatDoor
open Go.RowKit Go.Lib Go.Sort

/-- A sign and a magnitude that are the number z, in its one form. -/
def IsZ (z : Int) (n : Bool) (s : ByteArray) : Prop := n = decide (z < 0) ∧ bN s = magN z.natAbs
theorem num_f (m : ByteArray) : num false m = (val (bN m) : Int) := rfl
theorem num_t (m : ByteArray) : num true m = -(val (bN m) : Int) := rfl
/-- One form: the number tells the sign and the magnitude. -/
theorem IsZ.one {z : Int} {n n' : Bool} {s s' : ByteArray} (h : IsZ z n s) (h' : IsZ z n' s') : whole n s = whole n' s' := by
  have e : s = s' := bN_inj (h.2.trans h'.2.symm)
  rw [h.1, h'.1, e]

theorem rPlus_z (n1 n2 : Bool) (m1 m2 : ByteArray) (h1 : may n1 m1 = true) (h2 : may n2 m2 = true) (w : World) :
    Calls Tryz.prog 35 #[whole n1 m1, whole n2 m2] w fun e w' => ∃ n s, e = .returned (whole n s) ∧ IsZ (num n1 m1 + num n2 m2) n s ∧ w.grownBy w' none := by
  have l1 := may_size h1
  have l2 := may_size h2
  have key : ∀ (b : Bool) (d : Nat) (z : Int) (s : ByteArray), z = (if b then -(d : Int) else d) → bN s = magN d → IsZ z (b && decide (d ≠ 0)) s := by
    intro b d z s hz hs
    subst hz
    cases b
    · exact ⟨by simp, by simpa using hs⟩
    · refine ⟨?_, by simpa using hs⟩
      rw [Bool.true_and, if_pos rfl]
      exact decide_eq_decide.2 (by omega)
  by_cases hn : n1 = n2
  · subst hn
    refine (rPlus_same n1 m1 m2 l1 l2 w).mono ?_
    rintro e w' ⟨s, rfl, hs, hg⟩
    refine ⟨_, s, rfl, key n1 _ _ s ?_ hs, hg⟩
    cases n1
    · rw [num_f, num_f]; simp
    · rw [num_t, num_t]; simp; omega
  · have hne : (n1 == n2) = false := by simpa using hn
    rcases Nat.lt_or_ge (val (bN m1)) (val (bN m2)) with hlt | hge
    · refine (rPlus_lt n1 n2 m1 m2 h1 h2 hne hlt w).mono ?_
      rintro e w' ⟨s, rfl, hs, hg⟩
      refine ⟨_, s, rfl, key n2 _ _ s ?_ hs, hg⟩
      cases n1 <;> cases n2 <;> simp at hn <;> simp [num_f, num_t] <;> omega
    · refine (rPlus_ge n1 n2 m1 m2 h1 h2 hne hge w).mono ?_
      rintro e w' ⟨s, rfl, hs, hg⟩
      refine ⟨_, s, rfl, key n1 _ _ s ?_ hs, hg⟩
      cases n1 <;> cases n2 <;> simp at hn <;> simp [num_f, num_t] <;> omega

theorem rTimes_z (n1 n2 : Bool) (m1 m2 : ByteArray) (h1 : may n1 m1 = true) (h2 : may n2 m2 = true) (w : World) :
    Calls Tryz.prog 37 #[whole n1 m1, whole n2 m2] w fun e w' => ∃ n s, e = .returned (whole n s) ∧ IsZ (num n1 m1 * num n2 m2) n s ∧ w.grownBy w' none := by
  have l1 := may_size h1
  have l2 := may_size h2
  refine (rTimes_any n1 n2 m1 m2 l1 l2 w).mono ?_
  rintro e w' ⟨s, rfl, hs, hg⟩
  refine ⟨_, s, rfl, ?_, hg⟩
  have ha : (num n1 m1 * num n2 m2).natAbs = val (bN m1) * val (bN m2) := by
    rw [Int.natAbs_mul]
    cases n1 <;> cases n2 <;> simp [num_f, num_t]
  refine ⟨?_, by rw [ha]; exact hs⟩
  obtain ⟨P, hP⟩ : ∃ P, val (bN m1) * val (bN m2) = P := ⟨_, rfl⟩
  have hPI : ((val (bN m1) : Nat) : Int) * ((val (bN m2) : Nat) : Int) = (P : Int) := by rw [← hP]; simp
  rw [hP]
  cases n1 <;> cases n2
  · rw [num_f, num_f, hPI]; simp
  · rw [num_f, num_t, Int.mul_neg, hPI]
    exact (Bool.true_and _).trans (decide_eq_decide.2 (by omega))
  · rw [num_t, num_f, Int.neg_mul, hPI]
    exact (Bool.true_and _).trans (decide_eq_decide.2 (by omega))
  · rw [num_t, num_t, Int.neg_mul_neg, hPI]; simp
end Go.Proofs.YthchagmflceaeaaGreatDoor

namespace Go.Proofs.YthchagmflceaeaaGreatDoor
open Go.RowKit Go.Lib Go.Sort

theorem num_ngs (n : Bool) (m : ByteArray) : num (ngs n m) m = -num n m := by
  by_cases h0 : m.size = 0
  · obtain rfl := empty_of_size h0
    cases n <;> rfl
  · cases n
    · have : ngs false m = true := by simp [ngs, h0]
      rw [this, num_t, num_f]
    · have : ngs true m = false := by simp [ngs]
      rw [this, num_t, num_f]; omega
theorem may_ngs {n : Bool} {m : ByteArray} (h : may n m = true) : may (ngs n m) m = true := by
  by_cases h0 : m.size = 0
  · obtain rfl := empty_of_size h0
    cases n <;> rfl
  · cases n <;> simp_all [may]

set_option maxHeartbeats 3200000 in
set_option maxRecDepth 1000000 in
theorem rMinus_z (n1 n2 : Bool) (m1 m2 : ByteArray) (h1 : may n1 m1 = true) (h2 : may n2 m2 = true) (w : World) :
    Calls Tryz.prog 36 #[whole n1 m1, whole n2 m2] w fun e w' => ∃ n s, e = .returned (whole n s) ∧ IsZ (num n1 m1 - num n2 m2) n s ∧ w.grownBy w' none := by
  go_enter Tryz.func36, Tryz.ntmps36
  go_wp2_with fail
  have HKK : Hid (∀ w', ((w.alloc (wObj n1 m1)).alloc (wObj n2 m2)).grownBy w' none → w'.cell? ⟨w.heap.size, 0, none⟩ = some (Value.bool n1) ∧ w'.cell? ⟨w.heap.size, 1, none⟩ = some (Value.string m1) ∧ w'.cell? ⟨w.heap.size + 1, 0, none⟩ = some (Value.bool n2) ∧ w'.cell? ⟨w.heap.size + 1, 1, none⟩ = some (Value.string m2)) :=
    fun w' hg => ⟨grownBy_cell hg (WBlk.c0 (b := .string m1) (old_alloc _ _ (heap_alloc_new _ _))) (by simp), grownBy_cell hg (WBlk.c1 (a := .bool n1) (old_alloc _ _ (heap_alloc_new _ _))) (by simp), grownBy_cell hg (WBlk.c0 (b := .string m2) (heap_alloc2_new _ _ _)) (by simp), grownBy_cell hg (WBlk.c1 (a := .bool n2) (heap_alloc2_new _ _ _)) (by simp)⟩
  go_region_held3 (fun w' => w'.cell? ⟨w.heap.size, 0, none⟩ = some (Value.bool n1) ∧ w'.cell? ⟨w.heap.size, 1, none⟩ = some (Value.string m1) ∧ w'.cell? ⟨w.heap.size + 1, 0, none⟩ = some (Value.bool n2) ∧ w'.cell? ⟨w.heap.size + 1, 1, none⟩ = some (Value.string m2))
    (first | (go_keep; done) | exact HKK.out _ (grownBy_trans (grow1 _ _) (by assumption)) | exact HKK.out _ (grown_set (grown_set (grownBy_trans (grow1 _ _) GM) (by simp)) (by simp)) | exact HKK.out _ (grow_drew (grow1 _ _)) | fail)
    (first
      | (go_at_call 23; refine (rNeg_any n2 m2 _).mono ?_; rintro e wA ⟨rfl, hgA⟩; have GA : (((w.alloc (wObj n1 m1)).alloc (wObj n2 m2)).alloc (wObj false eS)).grownBy wA none := (by first | exact grownBy_trans (by assumption) hgA | exact grownBy_undrew hgA | fail))
      | (go_at_call 35; refine (rPlus_z n1 (ngs n2 m2) m1 m2 h1 (may_ngs h2) _).mono ?_; rw [num_ngs]; rintro e wM ⟨n, s, rfl, hs, hGM⟩; have GM : (((w.alloc (wObj n1 m1)).alloc (wObj n2 m2)).alloc (wObj false eS)).grownBy wM none := grownBy_trans (by assumption) hGM; have hW : WBlk wM (w.heap.size + 2) (.bool false) (.string eS) := WBlk.kept (at_alloc3 _ _ _ _) GM (by simp); have hc0 := hW.c0; have hc1 := hW.c1; have hf0 := hW.fr 0; have hf1 := hW.fr 1)
      | fail)
  go_wp2_with fail
  refine bodyPost_ret (res_cell rfl _ _ (w.heap.size + 2) _ _ _ _ rfl (hW.put _ _)) rfl ?_
  exact ⟨n, s, ret_val (by simp), by rw [Int.sub_eq_add_neg]; exact hs, grown_set (grown_set (grownBy_trans (grow3 _ _ _ _) GM) (by omega)) (by omega)⟩
end Go.Proofs.YthchagmflceaeaaGreatDoor

namespace Go.Proofs.YthchagmflceaeaaGreatDoor
open Go.RowKit Go.Lib Go.Sort

/-- The order of two whole numbers of Lean, as -1, 0, 1. -/
def cmpZ (a b : Int) : Int := if a < b then -1 else if a = b then 0 else 1
theorem val_zero {n : Bool} {m : ByteArray} (h : may n m = true) (h0 : m.size ≠ 0) : val (bN m) ≠ 0 := by
  have h3 := val_head m (by omega) (may_head h (by omega))
  have := Nat.pow_pos (n := m.size - 1) (show 0 < 256 by decide)
  omega
theorem sgn_cases {n : Bool} {m : ByteArray} (h : may n m = true) : (sgn n m = 0 ∧ n = false ∧ num n m = 0 ∧ val (bN m) = 0) ∨ (sgn n m = 1 ∧ n = false ∧ num n m = (val (bN m) : Int) ∧ 0 < val (bN m)) ∨ (sgn n m = -1 ∧ n = true ∧ num n m = -(val (bN m) : Int) ∧ 0 < val (bN m)) := by
  by_cases h0 : m.size = 0
  · obtain rfl := empty_of_size h0
    have := may_empty h
    subst this
    exact .inl ⟨rfl, rfl, rfl, rfl⟩
  · have hv := val_zero h h0
    cases n
    · exact .inr (.inl ⟨by simp [sgn, h0], rfl, num_f m, by omega⟩)
    · exact .inr (.inr ⟨by simp [sgn, h0], rfl, num_t m, by omega⟩)

theorem wrap_sgn (s c : Int) (h1 : -1 ≤ s) (h2 : s ≤ 1) (h3 : c = -1 ∨ c = 0 ∨ c = 1) : IntKind.i64.wrap (s * c) = s * c := by
  have h : s = -1 ∨ s = 0 ∨ s = 1 := by omega
  rcases h with rfl | rfl | rfl <;> rcases h3 with rfl | rfl | rfl <;> rfl
theorem cmpN_three (a b : Nat) : cmpN a b = -1 ∨ cmpN a b = 0 ∨ cmpN a b = 1 := by
  unfold cmpN
  (repeat' split) <;> simp
theorem cmpZ_sgn {n1 n2 : Bool} {m1 m2 : ByteArray} (h1 : may n1 m1 = true) (h2 : may n2 m2 = true) : (sgn n1 m1 ≠ sgn n2 m2 → cmpZ (num n1 m1) (num n2 m2) = if sgn n1 m1 < sgn n2 m2 then -1 else 1) ∧ (sgn n1 m1 = sgn n2 m2 → cmpZ (num n1 m1) (num n2 m2) = sgn n1 m1 * cmpN (val (bN m1)) (val (bN m2))) := by
  have S1 := sgn_cases h1
  have S2 := sgn_cases h2
  unfold cmpZ cmpN
  constructor
  · intro hne
    rcases S1 with ⟨a, _, b, c⟩ | ⟨a, _, b, c⟩ | ⟨a, _, b, c⟩ <;> rcases S2 with ⟨a', _, b', c'⟩ | ⟨a', _, b', c'⟩ | ⟨a', _, b', c'⟩ <;> rw [a, a'] at hne <;> (try exact absurd rfl hne) <;> rw [a, a', b, b'] <;> (repeat' split) <;> omega
  · intro he
    rcases S1 with ⟨a, _, b, c⟩ | ⟨a, _, b, c⟩ | ⟨a, _, b, c⟩ <;> rcases S2 with ⟨a', _, b', c'⟩ | ⟨a', _, b', c'⟩ | ⟨a', _, b', c'⟩ <;> rw [a, a'] at he <;> (try exact absurd he (by decide)) <;> rw [a, b, b'] <;> (repeat' split) <;> omega

set_option maxHeartbeats 3200000 in
set_option maxRecDepth 1000000 in
theorem rCmp_lt (n1 n2 : Bool) (m1 m2 : ByteArray) (h1 : may n1 m1 = true) (h2 : may n2 m2 = true) (he : ¬ sgn n1 m1 = sgn n2 m2) (hlt : sgn n1 m1 < sgn n2 m2) (w : World) :
    Calls Tryz.prog 33 #[whole n1 m1, whole n2 m2] w fun e w' => e = .returned (.int .i64 (-1)) ∧ w.grownBy w' none := by
  have S1 := sgn_cases h1
  have S2 := sgn_cases h2
  have W1 := words_wdt n1 m1 h1
  have W2 := words_wdt n2 m2 h2
  have HWW : Hid (∀ m w, m = m1 ∨ m = m2 → Calls Tryz.prog 62 #[.string m] w fun e w' => ∃ v, e = .returned v ∧ WdT w w' v m) := (by
    intro m w hm
    rcases hm with rfl | rfl
    · exact W1 w
    · exact W2 w)
  have HSS : Hid (∀ n m w, Calls Tryz.prog 25 #[whole n m] w fun e w' => e = .returned (.int .i64 (sgn n m)) ∧ w.grownBy w' none) := rSign_any
  have HL : -1 ≤ sgn n1 m1 ∧ sgn n1 m1 ≤ 1 := by rcases S1 with ⟨a, _⟩ | ⟨a, _⟩ | ⟨a, _⟩ <;> omega
  have HL2 : -1 ≤ sgn n2 m2 ∧ sgn n2 m2 ≤ 1 := by rcases S2 with ⟨a, _⟩ | ⟨a, _⟩ | ⟨a, _⟩ <;> omega
  clear W1 W2 S1 S2
  obtain ⟨HL1, HL2'⟩ := HL
  obtain ⟨HL3, HL4⟩ := HL2
  go_enter Tryz.func33, Tryz.ntmps33
  go_wp2_with fail
  have HKK : Hid (∀ w', ((w.alloc (wObj n1 m1)).alloc (wObj n2 m2)).grownBy w' none → w'.cell? ⟨w.heap.size, 0, none⟩ = some (Value.bool n1) ∧ w'.cell? ⟨w.heap.size, 1, none⟩ = some (Value.string m1) ∧ w'.cell? ⟨w.heap.size + 1, 0, none⟩ = some (Value.bool n2) ∧ w'.cell? ⟨w.heap.size + 1, 1, none⟩ = some (Value.string m2)) :=
    fun w' hg => ⟨grownBy_cell hg (WBlk.c0 (b := .string m1) (old_alloc _ _ (heap_alloc_new _ _))) (by simp), grownBy_cell hg (WBlk.c1 (a := .bool n1) (old_alloc _ _ (heap_alloc_new _ _))) (by simp), grownBy_cell hg (WBlk.c0 (b := .string m2) (heap_alloc2_new _ _ _)) (by simp), grownBy_cell hg (WBlk.c1 (a := .bool n2) (heap_alloc2_new _ _ _)) (by simp)⟩
  go_region_held3 (fun w' => w'.cell? ⟨w.heap.size, 0, none⟩ = some (Value.bool n1) ∧ w'.cell? ⟨w.heap.size, 1, none⟩ = some (Value.string m1) ∧ w'.cell? ⟨w.heap.size + 1, 0, none⟩ = some (Value.bool n2) ∧ w'.cell? ⟨w.heap.size + 1, 1, none⟩ = some (Value.string m2))
    (first | (go_keep; done) | exact HKK.out _ (by assumption) | exact HKK.out _ (grow_drew (World.grownBy.refl _ _)) | fail)
    (first
      | (go_at_call 25; refine (HSS.out _ _ _).mono ?_; rintro e wA ⟨rfl, hgA⟩; have GA : ((w.alloc (wObj n1 m1)).alloc (wObj n2 m2)).grownBy wA none := (by first | exact grownBy_trans (by assumption) hgA | exact grownBy_undrew hgA | fail))
      | fail)
  obtain ⟨c0, c1, c2, c3⟩ := HKK.out _ GA
  go_wp2_with fail
  go_ret
  exact ⟨rfl, grownBy_trans (grow2 _ _ _) GA⟩

set_option maxHeartbeats 3200000 in
set_option maxRecDepth 1000000 in
theorem rCmp_gt (n1 n2 : Bool) (m1 m2 : ByteArray) (h1 : may n1 m1 = true) (h2 : may n2 m2 = true) (he : ¬ sgn n1 m1 = sgn n2 m2) (hlt : ¬ sgn n1 m1 < sgn n2 m2) (w : World) :
    Calls Tryz.prog 33 #[whole n1 m1, whole n2 m2] w fun e w' => e = .returned (.int .i64 1) ∧ w.grownBy w' none := by
  have S1 := sgn_cases h1
  have S2 := sgn_cases h2
  have W1 := words_wdt n1 m1 h1
  have W2 := words_wdt n2 m2 h2
  have HWW : Hid (∀ m w, m = m1 ∨ m = m2 → Calls Tryz.prog 62 #[.string m] w fun e w' => ∃ v, e = .returned v ∧ WdT w w' v m) := (by
    intro m w hm
    rcases hm with rfl | rfl
    · exact W1 w
    · exact W2 w)
  have HSS : Hid (∀ n m w, Calls Tryz.prog 25 #[whole n m] w fun e w' => e = .returned (.int .i64 (sgn n m)) ∧ w.grownBy w' none) := rSign_any
  have HL : -1 ≤ sgn n1 m1 ∧ sgn n1 m1 ≤ 1 := by rcases S1 with ⟨a, _⟩ | ⟨a, _⟩ | ⟨a, _⟩ <;> omega
  have HL2 : -1 ≤ sgn n2 m2 ∧ sgn n2 m2 ≤ 1 := by rcases S2 with ⟨a, _⟩ | ⟨a, _⟩ | ⟨a, _⟩ <;> omega
  clear W1 W2 S1 S2
  obtain ⟨HL1, HL2'⟩ := HL
  obtain ⟨HL3, HL4⟩ := HL2
  go_enter Tryz.func33, Tryz.ntmps33
  go_wp2_with fail
  have HKK : Hid (∀ w', ((w.alloc (wObj n1 m1)).alloc (wObj n2 m2)).grownBy w' none → w'.cell? ⟨w.heap.size, 0, none⟩ = some (Value.bool n1) ∧ w'.cell? ⟨w.heap.size, 1, none⟩ = some (Value.string m1) ∧ w'.cell? ⟨w.heap.size + 1, 0, none⟩ = some (Value.bool n2) ∧ w'.cell? ⟨w.heap.size + 1, 1, none⟩ = some (Value.string m2)) :=
    fun w' hg => ⟨grownBy_cell hg (WBlk.c0 (b := .string m1) (old_alloc _ _ (heap_alloc_new _ _))) (by simp), grownBy_cell hg (WBlk.c1 (a := .bool n1) (old_alloc _ _ (heap_alloc_new _ _))) (by simp), grownBy_cell hg (WBlk.c0 (b := .string m2) (heap_alloc2_new _ _ _)) (by simp), grownBy_cell hg (WBlk.c1 (a := .bool n2) (heap_alloc2_new _ _ _)) (by simp)⟩
  go_region_held3 (fun w' => w'.cell? ⟨w.heap.size, 0, none⟩ = some (Value.bool n1) ∧ w'.cell? ⟨w.heap.size, 1, none⟩ = some (Value.string m1) ∧ w'.cell? ⟨w.heap.size + 1, 0, none⟩ = some (Value.bool n2) ∧ w'.cell? ⟨w.heap.size + 1, 1, none⟩ = some (Value.string m2))
    (first | (go_keep; done) | exact HKK.out _ (by assumption) | exact HKK.out _ (grow_drew (World.grownBy.refl _ _)) | fail)
    (first
      | (go_at_call 25; refine (HSS.out _ _ _).mono ?_; rintro e wA ⟨rfl, hgA⟩; have GA : ((w.alloc (wObj n1 m1)).alloc (wObj n2 m2)).grownBy wA none := (by first | exact grownBy_trans (by assumption) hgA | exact grownBy_undrew hgA | fail))
      | fail)
  obtain ⟨c0, c1, c2, c3⟩ := HKK.out _ GA
  go_wp2_with fail
  go_ret
  exact ⟨rfl, grownBy_trans (grow2 _ _ _) GA⟩

set_option maxHeartbeats 3200000 in
set_option maxRecDepth 1000000 in
theorem rCmp_eq (n1 n2 : Bool) (m1 m2 : ByteArray) (h1 : may n1 m1 = true) (h2 : may n2 m2 = true) (he : sgn n1 m1 = sgn n2 m2) (w : World) :
    Calls Tryz.prog 33 #[whole n1 m1, whole n2 m2] w fun e w' => e = .returned (.int .i64 (sgn n1 m1 * cmpN (val (bN m1)) (val (bN m2)))) ∧ w.grownBy w' none := by
  have S1 := sgn_cases h1
  have S2 := sgn_cases h2
  have W1 := words_wdt n1 m1 h1
  have W2 := words_wdt n2 m2 h2
  have HWW : Hid (∀ m w, m = m1 ∨ m = m2 → Calls Tryz.prog 62 #[.string m] w fun e w' => ∃ v, e = .returned v ∧ WdT w w' v m) := (by
    intro m w hm
    rcases hm with rfl | rfl
    · exact W1 w
    · exact W2 w)
  have HSS : Hid (∀ n m w, Calls Tryz.prog 25 #[whole n m] w fun e w' => e = .returned (.int .i64 (sgn n m)) ∧ w.grownBy w' none) := rSign_any
  have HL : -1 ≤ sgn n1 m1 ∧ sgn n1 m1 ≤ 1 := by rcases S1 with ⟨a, _⟩ | ⟨a, _⟩ | ⟨a, _⟩ <;> omega
  have HL2 : -1 ≤ sgn n2 m2 ∧ sgn n2 m2 ≤ 1 := by rcases S2 with ⟨a, _⟩ | ⟨a, _⟩ | ⟨a, _⟩ <;> omega
  clear W1 W2 S1 S2
  obtain ⟨HL1, HL2'⟩ := HL
  obtain ⟨HL3, HL4⟩ := HL2
  go_enter Tryz.func33, Tryz.ntmps33
  go_wp2_with fail
  have HKK : Hid (∀ w', ((w.alloc (wObj n1 m1)).alloc (wObj n2 m2)).grownBy w' none → w'.cell? ⟨w.heap.size, 0, none⟩ = some (Value.bool n1) ∧ w'.cell? ⟨w.heap.size, 1, none⟩ = some (Value.string m1) ∧ w'.cell? ⟨w.heap.size + 1, 0, none⟩ = some (Value.bool n2) ∧ w'.cell? ⟨w.heap.size + 1, 1, none⟩ = some (Value.string m2)) :=
    fun w' hg => ⟨grownBy_cell hg (WBlk.c0 (b := .string m1) (old_alloc _ _ (heap_alloc_new _ _))) (by simp), grownBy_cell hg (WBlk.c1 (a := .bool n1) (old_alloc _ _ (heap_alloc_new _ _))) (by simp), grownBy_cell hg (WBlk.c0 (b := .string m2) (heap_alloc2_new _ _ _)) (by simp), grownBy_cell hg (WBlk.c1 (a := .bool n2) (heap_alloc2_new _ _ _)) (by simp)⟩
  go_region_held3 (fun w' => w'.cell? ⟨w.heap.size, 0, none⟩ = some (Value.bool n1) ∧ w'.cell? ⟨w.heap.size, 1, none⟩ = some (Value.string m1) ∧ w'.cell? ⟨w.heap.size + 1, 0, none⟩ = some (Value.bool n2) ∧ w'.cell? ⟨w.heap.size + 1, 1, none⟩ = some (Value.string m2))
    (first | (go_keep; done) | exact HKK.out _ (by assumption) | exact HKK.out _ (grow_drew (World.grownBy.refl _ _)) | fail)
    (first
      | (go_at_call 25; refine (HSS.out _ _ _).mono ?_; rintro e wA ⟨rfl, hgA⟩; have GA : ((w.alloc (wObj n1 m1)).alloc (wObj n2 m2)).grownBy wA none := (by first | exact grownBy_trans (by assumption) hgA | exact grownBy_undrew hgA | fail))
      | fail)
  obtain ⟨c0, c1, c2, c3⟩ := HKK.out _ GA
  go_wp2_with fail
  go_region_held3 (fun w' => w'.cell? ⟨w.heap.size, 0, none⟩ = some (Value.bool n1) ∧ w'.cell? ⟨w.heap.size, 1, none⟩ = some (Value.string m1) ∧ w'.cell? ⟨w.heap.size + 1, 0, none⟩ = some (Value.bool n2) ∧ w'.cell? ⟨w.heap.size + 1, 1, none⟩ = some (Value.string m2))
    (first | (go_keep; done) | exact HKK.out _ (by assumption) | exact HKK.out _ (grow_drew GA) | fail)
    (first
      | (go_at_call 62; refine (HWW.out _ _ (by first | exact .inl rfl | exact .inr rfl)).mono ?_; rintro e wB ⟨vB, rfl, hWB⟩; have hgB := hWB.grown; have GB : ((w.alloc (wObj n1 m1)).alloc (wObj n2 m2)).grownBy wB none := (by first | exact grownBy_trans (by assumption) hgB | exact grownBy_trans GA (grownBy_undrew hgB) | fail))
      | (go_at_call 72; refine (under_wdt (by assumption) (by assumption) _ (by first | exact World.grownBy.refl _ _ | exact grow_drew (World.grownBy.refl _ _) | fail)).mono ?_; rintro e wU ⟨rfl, gU⟩; have GU : ((w.alloc (wObj n1 m1)).alloc (wObj n2 m2)).grownBy wU none := grownBy_trans (by assumption) gU)
      | fail)
  go_wp2_with fail
  go_ret
  exact ⟨ret_num (by rw [he]; exact wrap_sgn _ _ HL3 HL4 (cmpN_three _ _)), grownBy_trans (grow2 _ _ _) GU⟩

theorem rCmp_z (n1 n2 : Bool) (m1 m2 : ByteArray) (h1 : may n1 m1 = true) (h2 : may n2 m2 = true) (w : World) :
    Calls Tryz.prog 33 #[whole n1 m1, whole n2 m2] w fun e w' => e = .returned (.int .i64 (cmpZ (num n1 m1) (num n2 m2))) ∧ w.grownBy w' none := by
  obtain ⟨ha, hb⟩ := cmpZ_sgn h1 h2
  by_cases he : sgn n1 m1 = sgn n2 m2
  · rw [hb he]
    exact rCmp_eq n1 n2 m1 m2 h1 h2 he w
  · rw [ha he]
    by_cases hlt : sgn n1 m1 < sgn n2 m2
    · rw [if_pos hlt]
      exact rCmp_lt n1 n2 m1 m2 h1 h2 he hlt w
    · rw [if_neg hlt]
      exact rCmp_gt n1 n2 m1 m2 h1 h2 he hlt w
end Go.Proofs.YthchagmflceaeaaGreatDoor
