/-
  The program's parted: a short word's core and what it is brought by.
-/
import Derived.Test.YtkimgmgafkihaaaDoorInv
namespace Go.Proofs.YtkimgmgafkihaaaDoor
open Go.RowKit Go.Lib Go.Sort
set_option linter.unusedVariables false
set_option linter.unusedSimpArgs false
set_option maxHeartbeats 1600000
set_option maxRecDepth 1000000
def Cut (L : List Int) (m : Nat) : Prop := (∀ k, k < m → 2 * k + 1 < L.length ∧ L[k]?.getD 0 + L[L.length - 1 - k]?.getD 0 = 0) ∧ ¬ (2 * m + 1 < L.length ∧ L[m]?.getD 0 + L[L.length - 1 - m]?.getD 0 = 0)
theorem Cut.uniq {L : List Int} {m n : Nat} (h : Cut L m) (k : Cut L n) : m = n := by
  rcases Nat.lt_trichotomy m n with e | e | e
  · exact absurd (k.1 m e) h.2
  · exact e
  · exact absurd (h.1 n e) k.2
theorem Cut.le {L : List Int} {m : Nat} (h : Cut L m) : 2 * m ≤ L.length := by
  rcases Nat.eq_zero_or_pos m with e | e
  · omega
  · have := (h.1 (m - 1) (by omega)).1
    omega
def coreOf (L : List Int) (m : Nat) : List Int := (L.drop m).take (L.length - 2 * m)
def byOf (L : List Int) (m : Nat) : List Int := L.drop (L.length - m)
theorem coreOf_len (L : List Int) (m : Nat) (h : 2 * m ≤ L.length) : (coreOf L m).length = L.length - 2 * m := by
  simp [coreOf]
  omega
theorem byOf_len (L : List Int) (m : Nat) (h : 2 * m ≤ L.length) : (byOf L m).length = m := by
  simp [byOf]
  omega
theorem Ints.sub {w : World} {B off n c : Nat} {L : List Int} (h : Ints w (.slice (some ⟨B, off, none⟩) n c) L) (i k c' : Nat) (hk : i + k ≤ L.length) (hc : k ≤ c') : Ints w (.slice (some ⟨B, off + i, none⟩) k c') ((L.drop i).take k) := by
  have hl : ((L.drop i).take k).length = k := by simp; omega
  rcases h with ⟨e, _⟩ | ⟨B', off', c2, e, hc2, h⟩ | ⟨e, _⟩
  · cases e
  · cases e
    refine .inr (.inl ⟨B, off + i, c', by rw [hl], by rw [hl]; exact hc, fun j hj => ?_⟩)
    rw [hl] at hj
    rw [Nat.add_assoc, h (i + j) (by omega), List.getElem?_take, if_pos hj, List.getElem?_drop]
  · subst e
    have hk0 : k = 0 := by simp at hk; omega
    subst hk0
    exact .inr (.inl ⟨B, off + i, c', by simp, by simp, fun j hj => by simp at hj⟩)
theorem Ints.zero (w : World) (a : Addr) (c : Nat) (ha : a.spot = none) : Ints w (.slice (some a) 0 c) [] := by
  obtain ⟨B, off, s⟩ := a
  subst ha
  exact .inr (.inl ⟨B, off, c, rfl, by simp, fun j hj => by simp at hj⟩)
theorem cut_core {w : World} {g n : Nat} {L : List Int} (h : Ints w (.slice (some ⟨g, 0, none⟩) n n) L) (hn : L.length = n) (i k o c : Nat) (hi : 2 * i ≤ n) (hk : k = n - 2 * i) (hc : k ≤ c) (ho : o = i ∨ k = 0) : Ints w (.slice (some ⟨g, o, none⟩) k c) (coreOf L i) := by
  subst hk
  unfold coreOf
  rw [hn]
  rcases Nat.eq_zero_or_pos (n - 2 * i) with h0 | h0
  · rw [h0, List.take_zero]
    exact Ints.zero w ⟨g, o, none⟩ c rfl
  · obtain rfl : o = i := by omega
    have := h.sub o (n - 2 * o) c (by omega) hc
    rwa [Nat.zero_add] at this
theorem cut_by {w : World} {g n : Nat} {L : List Int} (h : Ints w (.slice (some ⟨g, 0, none⟩) n n) L) (hn : L.length = n) (i k o c : Nat) (hi : 2 * i ≤ n) (hk : k = i) (hc : k ≤ c) (ho : o = n - i ∨ k = 0) : Ints w (.slice (some ⟨g, o, none⟩) k c) (byOf L i) := by
  subst hk
  unfold byOf
  rw [hn]
  rcases Nat.eq_zero_or_pos k with h0 | h0
  · subst h0
    rw [List.drop_eq_nil_of_le (by omega)]
    exact Ints.zero w ⟨g, o, none⟩ c rfl
  · obtain rfl : o = n - k := by omega
    have := h.sub (n - k) k c (by omega) hc
    rw [Nat.zero_add] at this
    rwa [List.take_of_length_le (by rw [List.length_drop]; omega)] at this
def PtQ (w : World) (L : List Int) (e : Ending) (w' : World) : Prop := ∃ (m : Nat) (u v : Value), Cut L m ∧ e = .returned (.tuple #[u, v]) ∧ Ints w' u (coreOf L m) ∧ Ints w' v (byOf L m) ∧ w.grownBy w' none
theorem parted_any (w : World) (g n : Nat) (L : List Int) (hn : n = L.length) (h : Ints w (.slice (some ⟨g, 0, none⟩) n n) L) (hl : n ≤ 1000000) (hL : ∀ x ∈ L, noL x = false) :
    Calls Tryd.prog 27 #[.slice (some ⟨g, 0, none⟩) n n] w fun e w' => PtQ w L e w' := by
  have HI : Hid (Ints w (.slice (some ⟨g, 0, none⟩) n n) L) := h
  have HN : Unit → L.length = n := fun _ => hn.symm
  have HC : Hid (∀ w', w.grownBy w' none → ∀ j, j < n → w'.cell? ⟨g, j, none⟩ = some (.int .i64 (L[j]?.getD 0))) := by
    intro w' hg j hj
    rcases h with ⟨e, _⟩ | ⟨B, off, c, e, hc, h⟩ | ⟨e, _⟩
    rotate_left 2
    · subst e; simp at hn; omega
    · cases e
    · cases e
      have := h j (by omega)
      rw [Nat.zero_add] at this
      exact grownBy_cell hg this (by simp)
  have HL : Hid (∀ j, j < n → -64 ≤ L[j]?.getD 0 ∧ L[j]?.getD 0 ≤ 64) := by
    intro j hj
    rw [List.getElem?_eq_getElem (by omega)]
    have := noL_no (hL _ (List.getElem_mem (show j < L.length by omega)))
    simp only [Option.getD_some]
    omega
  have hnI : (n : Int) ≤ 1000000 := by omega
  clear h hn hl hL
  go_enter Tryd.func27, Tryd.ntmps27
  go_wp2
  go_loopw [4] (fun s wr => ∃ (i : Nat), s = .int .i64 i ∧ (2 * i ≤ n ∧ ∀ k, k < i → 2 * k + 1 < L.length ∧ L[k]?.getD 0 + L[L.length - 1 - k]?.getD 0 = 0) ∧ w.grownBy wr none) (fun s _ => match s with | .int _ i => n - i.toNat | _ => 0)
  case atStart => exact ⟨0, rfl, ⟨by omega, fun k hk => by omega⟩, grow0 _⟩
  case round =>
    obtain ⟨i, rfl, hp, hg⟩ := hrel
    have HP : Hid (∀ k, k < i → 2 * k + 1 < L.length ∧ L[k]?.getD 0 + L[L.length - 1 - k]?.getD 0 = 0) := hp.2
    have HG : Hid (w.grownBy wr none) := hg
    have hin := hp.1
    clear hp hg
    have hiI : 2 * (i : Int) ≤ n := by omega
    obtain ⟨e, he⟩ : ∃ e : Nat, n - i = e := ⟨_, rfl⟩
    have heI : (n : Int) - i = e := by omega
    have hie : (i : Int) ≤ e := by omega
    have hen : (e : Int) ≤ n := by omega
    have HE : Unit → n - i = e := fun _ => he
    clear he
    by_cases hlt : 2 * i + 1 < n
    · have hltI : 2 * (i : Int) + 1 < n := by omega
      have hd : decide (IntKind.i64.wrap (IntKind.i64.wrap (2 * (i : Int)) + 1) < (n : Int)) = true := by
        rw [IntKind.wrap_i64 (2 * (i : Int)), IntKind.wrap_i64]
        simp
        omega
      obtain ⟨j, hj⟩ : ∃ j : Nat, n - 1 - i = j := ⟨_, rfl⟩
      have hjI : (n : Int) - 1 - i = j := by omega
      have hjn : (j : Int) < n := by omega
      have hinI : (i : Int) < n := by omega
      have hwj : IntKind.i64.wrap (IntKind.i64.wrap ((n : Int) - 1) - i) = (j : Int) := by
        rw [IntKind.wrap_i64 ((n : Int) - 1), IntKind.wrap_i64]
        omega
      have c1 := HC.out wr HG.out i (by omega)
      have c2 := HC.out wr HG.out j (by omega)
      have b1 := HL.out i (by omega)
      have b2 := HL.out j (by omega)
      have HS : Hid (∀ x y, L[i]?.getD 0 = x → L[j]?.getD 0 = y → (x + y = 0 → ∀ k, k < i + 1 → 2 * k + 1 < L.length ∧ L[k]?.getD 0 + L[L.length - 1 - k]?.getD 0 = 0) ∧ (x + y ≠ 0 → Cut L i)) := by
        rintro x y rfl rfl
        refine ⟨fun e k hk => ?_, fun e => ⟨HP.out, fun h => e ?_⟩⟩
        · rcases Nat.lt_or_ge k i with h | h
          · exact HP.out k h
          · obtain rfl : k = i := by omega
            rw [HN (), hj]
            exact ⟨hlt, e⟩
        · have := h.2
          rwa [HN (), hj] at this
      obtain ⟨x, hx⟩ : ∃ x, L[i]?.getD 0 = x := ⟨_, rfl⟩
      obtain ⟨y, hy⟩ : ∃ y, L[j]?.getD 0 = y := ⟨_, rfl⟩
      have HS2 := HS.out x y hx hy
      have HS3 : Hid ((x + y = 0 → ∀ k, k < i + 1 → 2 * k + 1 < L.length ∧ L[k]?.getD 0 + L[L.length - 1 - k]?.getD 0 = 0) ∧ (x + y ≠ 0 → Cut L i)) := HS2
      rw [hx] at c1 b1
      rw [hy] at c2 b2
      clear hx hy HS2 hj
      obtain ⟨b3, b4⟩ := b1
      obtain ⟨b5, b6⟩ := b2
      by_cases hs : x + y = 0
      · have hsb : (x + y == 0) = true := by simpa using hs
        have HS4 : Hid (∀ k, k < i + 1 → 2 * k + 1 < L.length ∧ L[k]?.getD 0 + L[L.length - 1 - k]?.getD 0 = 0) := HS3.out.1 hs
        clear hs
        go_wp2
        go_region_held3 (fun w' => w'.cell? ⟨g, i, none⟩ = some (Value.int .i64 x) ∧ w'.cell? ⟨g, j, none⟩ = some (Value.int .i64 y)) (first | (go_keep; done) | fail) (first | (go_at_call 36; refine (cancel_any x y ⟨b3, b4⟩ ⟨b5, b6⟩ _).mono ?_; rw [hsb]; rintro e w' ⟨rfl, rfl⟩) | fail)
        go_wp2
        go_roundw
        case rel => exact ⟨i + 1, num_eq (by omega), ⟨by omega, HS4.out⟩, grow_drew HG.out⟩
        case measure => simp; omega
      · have hsb : (x + y == 0) = false := by simpa using hs
        have HCut : Hid (Cut L i) := HS3.out.2 hs
        clear hs
        go_wp2
        go_region_held3 (fun w' => w'.cell? ⟨g, i, none⟩ = some (Value.int .i64 x) ∧ w'.cell? ⟨g, j, none⟩ = some (Value.int .i64 y)) (first | (go_keep; done) | fail) (first | (go_at_call 36; refine (cancel_any x y ⟨b3, b4⟩ ⟨b5, b6⟩ _).mono ?_; rw [hsb]; rintro e w' ⟨rfl, rfl⟩) | fail)
        go_wp2
        go_region_held3 (fun _ => True) (trivial) (fail)
        all_goals go_wp2
        all_goals (
          refine bodyPost_ret (results_tmp2 rfl _ _ _) rfl ?_
          have h1 := HE ()
          have h2 := HI.out.kept (grow_drew (grow_drew HG.out))
          refine ⟨i, ?_⟩; refine ⟨_, _, HCut.out, rfl, ?_, ?_, grow_drew (grow_drew HG.out)⟩; exact cut_core h2 (HN ()) i _ _ _ (by omega) (by omega) (by omega) (by omega); exact cut_by h2 (HN ()) i _ _ _ (by omega) (by omega) (by omega) (by omega))
    · have HCut : Hid (Cut L i) := ⟨HP.out, fun h => hlt (by rw [← HN ()]; exact h.1)⟩
      have hd : decide (IntKind.i64.wrap (IntKind.i64.wrap (2 * (i : Int)) + 1) < (n : Int)) = false := by
        rw [IntKind.wrap_i64 (2 * (i : Int)), IntKind.wrap_i64]
        simp
        omega
      go_wp2
      refine wp_region_held_drew (S := fun _ => True) (by kernel_rfl) (trivial) (fun hHeld => ?_)
      refine wpAnyH_take (i := 0) (v := ?_) rfl (by kernel_rfl) (by kernel_rfl) (by kernel_rfl) (fun _ _ _ h => h) (Or.inl ⟨by kernel_rfl, ?_⟩) (by assumption) ?_
      rotate_left
      · (intro w hSw; (try dsimp only at hSw); go_simp; try (first | with_reducible rfl | (simp [*]; done) | (simp; omega)))
      (try simp only [Act.put, List.getElem_toArray, List.getElem_cons_succ, List.getElem_cons_zero, List.setIfInBounds_toArray, List.set_cons_zero, List.set_cons_succ])
      refine wpAnyH_take (i := 1) (v := ?_) rfl (by kernel_rfl) (by kernel_rfl) (by kernel_rfl) (fun _ _ _ h => h) (Or.inl ⟨by kernel_rfl, ?_⟩) (by assumption) ?_
      rotate_left
      · (intro w hSw; (try dsimp only at hSw); go_simp; try (first | with_reducible rfl | (simp [*]; done) | (simp; omega)))
      (try simp only [Act.put, List.getElem_toArray, List.getElem_cons_succ, List.getElem_cons_zero, List.setIfInBounds_toArray, List.set_cons_zero, List.set_cons_succ])
      refine wpAnyH_take (i := 2) (v := ?_) rfl (by kernel_rfl) (by kernel_rfl) (by kernel_rfl) (fun _ _ _ h => h) (Or.inl ⟨by kernel_rfl, ?_⟩) (by assumption) ?_
      rotate_left
      · (intro w hSw; (try dsimp only at hSw); go_simp; try (first | with_reducible rfl | (simp [*]; done) | (simp; omega)))
      (try simp only [Act.put, List.getElem_toArray, List.getElem_cons_succ, List.getElem_cons_zero, List.setIfInBounds_toArray, List.set_cons_zero, List.set_cons_succ])
      refine wpAnyH_take (i := 3) (v := ?_) rfl (by kernel_rfl) (by kernel_rfl) (by kernel_rfl) (fun _ _ _ h => h) (Or.inl ⟨by kernel_rfl, ?_⟩) (by assumption) ?_
      rotate_left
      · (intro w hSw; (try dsimp only at hSw); go_simp; try (first | with_reducible rfl | (simp [*]; done) | (simp; omega)))
      (try simp only [Act.put, List.getElem_toArray, List.getElem_cons_succ, List.getElem_cons_zero, List.setIfInBounds_toArray, List.set_cons_zero, List.set_cons_succ])
      refine wpAnyH_take (i := 4) (v := ?_) rfl (by kernel_rfl) (by kernel_rfl) (by kernel_rfl) (fun _ _ _ h => h) (Or.inl ⟨by kernel_rfl, ?_⟩) (by assumption) ?_
      rotate_left
      · (intro w hSw; (try dsimp only at hSw); go_simp; try (first | with_reducible rfl | (simp [*]; done) | (simp; omega)))
      (try simp only [Act.put, List.getElem_toArray, List.getElem_cons_succ, List.getElem_cons_zero, List.setIfInBounds_toArray, List.set_cons_zero, List.set_cons_succ])
      refine wpAnyH_take (i := 5) (v := .bool false) rfl (by kernel_rfl) (by kernel_rfl) (by kernel_rfl) (fun _ _ _ h => h) (Or.inl ⟨by kernel_rfl, ?_⟩) (by assumption) ?_
      · (intro w hSw; (try dsimp only at hSw); go_simp; try (first | with_reducible rfl | (simp [*]; done) | (simp; omega)))
      (try simp only [Act.put, List.getElem_toArray, List.getElem_cons_succ, List.getElem_cons_zero, List.setIfInBounds_toArray, List.set_cons_zero, List.set_cons_succ])
      refine wpAnyH_take (i := 6) (v := ?_) rfl (by kernel_rfl) (by kernel_rfl) (by kernel_rfl) (fun _ _ _ h => h) (Or.inl ⟨by kernel_rfl, ?_⟩) (by assumption) ?_
      rotate_left
      · (intro w hSw; (try dsimp only at hSw); go_simp; try (first | with_reducible rfl | (simp [*]; done) | (simp; omega)))
      (try simp only [Act.put, List.getElem_toArray, List.getElem_cons_succ, List.getElem_cons_zero, List.setIfInBounds_toArray, List.set_cons_zero, List.set_cons_succ])
      refine wpAnyH_take (i := 7) (v := undef) rfl (by kernel_rfl) (by kernel_rfl) (by kernel_rfl) (fun _ _ _ h => h) (Or.inr ⟨by kernel_rfl, rfl⟩) (by assumption) ?_
      (try simp only [Act.put, List.getElem_toArray, List.getElem_cons_succ, List.getElem_cons_zero, List.setIfInBounds_toArray, List.set_cons_zero, List.set_cons_succ])
      refine wpAnyH_take (i := 8) (v := undef) rfl (by kernel_rfl) (by kernel_rfl) (by kernel_rfl) (fun _ _ _ h => h) (Or.inr ⟨by kernel_rfl, rfl⟩) (by assumption) ?_
      (try simp only [Act.put, List.getElem_toArray, List.getElem_cons_succ, List.getElem_cons_zero, List.setIfInBounds_toArray, List.set_cons_zero, List.set_cons_succ])
      refine wpAnyH_take (i := 9) (v := undef) rfl (by kernel_rfl) (by kernel_rfl) (by kernel_rfl) (fun _ _ _ h => h) (Or.inr ⟨by kernel_rfl, rfl⟩) (by assumption) ?_
      (try simp only [Act.put, List.getElem_toArray, List.getElem_cons_succ, List.getElem_cons_zero, List.setIfInBounds_toArray, List.set_cons_zero, List.set_cons_succ])
      refine wpAnyH_take (i := 10) (v := undef) rfl (by kernel_rfl) (by kernel_rfl) (by kernel_rfl) (fun _ _ _ h => h) (Or.inr ⟨by kernel_rfl, rfl⟩) (by assumption) ?_
      (try simp only [Act.put, List.getElem_toArray, List.getElem_cons_succ, List.getElem_cons_zero, List.setIfInBounds_toArray, List.set_cons_zero, List.set_cons_succ])
      refine wpAnyH_take (i := 11) (v := undef) rfl (by kernel_rfl) (by kernel_rfl) (by kernel_rfl) (fun _ _ _ h => h) (Or.inr ⟨by kernel_rfl, rfl⟩) (by assumption) ?_
      (try simp only [Act.put, List.getElem_toArray, List.getElem_cons_succ, List.getElem_cons_zero, List.setIfInBounds_toArray, List.set_cons_zero, List.set_cons_succ])
      refine wpAnyH_take (i := 12) (v := undef) rfl (by kernel_rfl) (by kernel_rfl) (by kernel_rfl) (fun _ _ _ h => h) (Or.inr ⟨by kernel_rfl, rfl⟩) (by assumption) ?_
      (try simp only [Act.put, List.getElem_toArray, List.getElem_cons_succ, List.getElem_cons_zero, List.setIfInBounds_toArray, List.set_cons_zero, List.set_cons_succ])
      refine wpAnyH_take (i := 13) (v := undef) rfl (by kernel_rfl) (by kernel_rfl) (by kernel_rfl) (fun _ _ _ h => h) (Or.inr ⟨by kernel_rfl, rfl⟩) (by assumption) ?_
      (try simp only [Act.put, List.getElem_toArray, List.getElem_cons_succ, List.getElem_cons_zero, List.setIfInBounds_toArray, List.set_cons_zero, List.set_cons_succ])
      refine wpAnyH_take (i := 14) (v := undef) rfl (by kernel_rfl) (by kernel_rfl) (by kernel_rfl) (fun _ _ _ h => h) (Or.inr ⟨by kernel_rfl, rfl⟩) (by assumption) ?_
      (try simp only [Act.put, List.getElem_toArray, List.getElem_cons_succ, List.getElem_cons_zero, List.setIfInBounds_toArray, List.set_cons_zero, List.set_cons_succ])
      refine wpAnyH_take (i := 15) (v := undef) rfl (by kernel_rfl) (by kernel_rfl) (by kernel_rfl) (fun _ _ _ h => h) (Or.inr ⟨by kernel_rfl, rfl⟩) (by assumption) ?_
      (try simp only [Act.put, List.getElem_toArray, List.getElem_cons_succ, List.getElem_cons_zero, List.setIfInBounds_toArray, List.set_cons_zero, List.set_cons_succ])
      refine wpAnyH_take (i := 16) (v := undef) rfl (by kernel_rfl) (by kernel_rfl) (by kernel_rfl) (fun _ _ _ h => h) (Or.inr ⟨by kernel_rfl, rfl⟩) (by assumption) ?_
      (try simp only [Act.put, List.getElem_toArray, List.getElem_cons_succ, List.getElem_cons_zero, List.setIfInBounds_toArray, List.set_cons_zero, List.set_cons_succ])
      refine wpAnyH_take (i := 17) (v := undef) rfl (by kernel_rfl) (by kernel_rfl) (by kernel_rfl) (fun _ _ _ h => h) (Or.inr ⟨by kernel_rfl, rfl⟩) (by assumption) ?_
      (try simp only [Act.put, List.getElem_toArray, List.getElem_cons_succ, List.getElem_cons_zero, List.setIfInBounds_toArray, List.set_cons_zero, List.set_cons_succ])
      refine wpAnyH_take (i := 18) (v := undef) rfl (by kernel_rfl) (by kernel_rfl) (by kernel_rfl) (fun _ _ _ h => h) (Or.inr ⟨by kernel_rfl, rfl⟩) (by assumption) ?_
      (try simp only [Act.put, List.getElem_toArray, List.getElem_cons_succ, List.getElem_cons_zero, List.setIfInBounds_toArray, List.set_cons_zero, List.set_cons_succ])
      refine wpAnyH_take (i := 19) (v := undef) rfl (by kernel_rfl) (by kernel_rfl) (by kernel_rfl) (fun _ _ _ h => h) (Or.inr ⟨by kernel_rfl, rfl⟩) (by assumption) ?_
      (try simp only [Act.put, List.getElem_toArray, List.getElem_cons_succ, List.getElem_cons_zero, List.setIfInBounds_toArray, List.set_cons_zero, List.set_cons_succ])
      refine wpAnyH_take (i := 20) (v := ?_) rfl (by kernel_rfl) (by kernel_rfl) (by kernel_rfl) (fun _ _ _ h => h) (Or.inl ⟨by kernel_rfl, ?_⟩) (by assumption) ?_
      rotate_left
      · (intro w hSw; (try dsimp only at hSw); go_simp; try (first | with_reducible rfl | (simp [*]; done) | (simp; omega)))
      (try simp only [Act.put, List.getElem_toArray, List.getElem_cons_succ, List.getElem_cons_zero, List.setIfInBounds_toArray, List.set_cons_zero, List.set_cons_succ])
      refine wpAnyH_done (by kernel_rfl) ?_ _
      go_wp2
      go_region_held3 (fun _ => True) (trivial) (fail)
      all_goals go_wp2
      all_goals (
        refine bodyPost_ret (results_tmp2 rfl _ _ _) rfl ?_
        have h1 := HE ()
        have h2 := HI.out.kept (grow_drew (grow_drew HG.out))
        refine ⟨i, ?_⟩; refine ⟨_, _, HCut.out, rfl, ?_, ?_, grow_drew (grow_drew HG.out)⟩; exact cut_core h2 (HN ()) i _ _ _ (by omega) (by omega) (by omega) (by omega); exact cut_by h2 (HN ()) i _ _ _ (by omega) (by omega) (by omega) (by omega))
end Go.Proofs.YtkimgmgafkihaaaDoor
