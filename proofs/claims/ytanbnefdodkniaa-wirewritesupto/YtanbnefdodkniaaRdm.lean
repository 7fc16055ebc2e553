/-
  What a reader's Place, Left, count and next do.
-/
import Derived.Test.YtanbnefdodkniaaOpn
namespace Go.Proofs.Ytanbnefdodkniaa
open Go.RowKit Go.Lib Go.Sort

theorem ret_num {k : IntKind} {a b : Int} (h : a = b) : Ending.returned (.int k a) = .returned (.int k b) := by rw [h]

set_option maxHeartbeats 1600000 in
set_option maxRecDepth 1000000 in
theorem place_any (w : World) (rb : Nat) (v : Value) (L : List Int) (k : Nat) (h : Rdr w rb v L k) :
    Calls Try.prog 33 #[rp rb] w fun e w' => e = .returned (.int .i64 k) ∧ w' = w := by
  have h1 := h.c1
  have h2 := h.c2
  go_enter Try.func33, Try.ntmps33
  go_wp2
  go_ret
  exact ⟨rfl, rfl⟩

set_option maxHeartbeats 1600000 in
set_option maxRecDepth 1000000 in
theorem left_any (w : World) (rb : Nat) (v : Value) (L : List Int) (k : Nat) (h : Rdr w rb v L k) :
    Calls Try.prog 34 #[rp rb] w fun e w' => e = .returned (.int .i64 (L.length - k : Nat)) ∧ ∃ n, w' = w.drewN n := by
  have h0 := h.c0
  have h1 := h.c1
  have h2 := h.c2
  have hx := h.max
  have hk := h.le
  obtain ⟨ao, c, rfl⟩ : ∃ ao c, v = .slice ao L.length c := by
    rcases h.form with ⟨rfl, rfl⟩ | ⟨g, cap, rfl, _⟩
    · exact ⟨_, _, rfl⟩
    · exact ⟨_, _, rfl⟩
  go_enter Try.func34, Try.ntmps34
  go_wp2
  go_quiet (fail)
  go_wp2
  go_ret
  exact ⟨ret_num (by omega), _, rfl⟩

theorem Rdr.back_drew {w : World} {rb : Nat} {v : Value} {L : List Int} {j k : Nat} (h : Rdr w rb v L j) (q : Nat) (hk : k ≤ L.length) :
    Rdr ((w.drewN q).setCell ⟨rb, 1, none⟩ (.int .i64 k)) rb v L k ∧ w.grownBy ((w.drewN q).setCell ⟨rb, 1, none⟩ (.int .i64 k)) (some rb) :=
  (h.drewN q).back (grownBy_drewN (World.grownBy.refl w _) q) hk
theorem cut_cells {L : List Int} {k n j : Nat} {u : Value} (h : (((L.drop k).take n).map encB)[j]? = some u) : k + j < L.length ∧ u = .int .u8 (L[k + j]?.getD 0) := by
  have h1 := (List.getElem?_eq_some_iff.1 h).1
  simp at h1
  refine ⟨by omega, ?_⟩
  rw [List.getElem?_map, List.getElem?_take, if_pos (by omega), List.getElem?_drop, List.getElem?_eq_getElem (by omega)] at h
  simp at h
  rw [List.getElem?_eq_getElem (by omega)]
  exact h.symm

set_option maxHeartbeats 1600000 in
set_option maxRecDepth 1000000 in
theorem next_no (w : World) (rb : Nat) (v : Value) (L : List Int) (k n : Nat) (h : Rdr w rb v L k) (hn : L.length - k < n) (hn2 : n < 18446744073709551616) :
    Calls Try.prog 85 #[rp rb, .int .u64 n] w fun e w' => e = .returned (.tuple #[.slice none 0 0, .int .i64 110]) ∧ ∃ n, w' = w.drewN n := by
  have hx := h.max
  have hk := h.le
  go_enter Try.func85, Try.ntmps85
  go_wp2_with (go_at_call 34; refine (left_any w rb v L k h).mono ?_; rintro e w' ⟨rfl, nn, rfl⟩)
  go_ret2
  exact ⟨rfl, _, rfl⟩

set_option maxHeartbeats 1600000 in
set_option maxRecDepth 1000000 in
theorem next_yes (w : World) (rb : Nat) (v : Value) (L : List Int) (k n : Nat) (h : Rdr w rb v L k) (hn : n ≤ L.length - k) :
    Calls Try.prog 85 #[rp rb, .int .u64 n] w fun e w' => ∃ s, e = .returned (.tuple #[s, .int .i64 0]) ∧ Src w' s ((L.drop k).take n) ∧ Rdr w' rb v L (k + n) ∧ w.grownBy w' (some rb) := by
  have h0 := h.c0
  have h1 := h.c1
  have hf := h.fr 1
  have hx := h.max
  have hk := h.le
  rcases h.form with ⟨rfl, rfl⟩ | ⟨g, cap, rfl, hc1, hc2, hgr, hgs, hcell⟩
  · obtain rfl : k = 0 := by simpa using hk
    obtain rfl : n = 0 := by simpa using hn
    go_enter Try.func85, Try.ntmps85
    go_wp2_with (go_at_call 34; refine (left_any w rb _ [] 0 h).mono ?_; rintro e w' ⟨rfl, nn, rfl⟩)
    go_quiet (fail)
    go_wp2
    go_ret2
    exact ⟨_, rfl, .inl ⟨rfl, by simp⟩, h.back_drew _ (by simp)⟩
  · unfold maxLen at hc2
    have HC : Hid (∀ j, j < L.length → w.cell? ⟨g, j, none⟩ = some (.int .u8 (L[j]?.getD 0))) := hcell
    clear hcell
    by_cases hck : cap = k
    · obtain rfl : n = 0 := by omega
      subst hck
      go_enter Try.func85, Try.ntmps85
      go_wp2_with (go_at_call 34; refine (left_any w rb _ L cap h).mono ?_; rintro e w' ⟨rfl, nn, rfl⟩)
      go_quiet (fail)
      go_wp2
      go_ret2
      exact ⟨_, rfl, .inr ⟨g, 0, 0, by simp, fun j u hj => by simp at hj⟩, h.back_drew _ hk⟩
    · go_enter Try.func85, Try.ntmps85
      go_wp2_with (go_at_call 34; refine (left_any w rb _ L k h).mono ?_; rintro e w' ⟨rfl, nn, rfl⟩)
      go_quiet (fail)
      go_wp2
      go_ret2
      refine ⟨_, rfl, .inr ⟨g, k, cap - k, ?_, fun j u hj => ?_⟩, h.back_drew _ (by omega)⟩
      · rw [show ((L.drop k).take n).length = k + n - k by simp; omega]; rfl
      · obtain ⟨hj1, rfl⟩ := cut_cells hj
        have := HC.out (k + j) hj1
        rw [← this]
        exact World.cell?_of_block (Below.heap_setCell _ _ _ _ (by simpa using hgr))
end Go.Proofs.Ytanbnefdodkniaa
