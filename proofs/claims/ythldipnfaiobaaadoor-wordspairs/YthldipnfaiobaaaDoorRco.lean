/-
  The document's Core.
-/
import Derived.Test.YthldipnfaiobaaaDoorRfs
namespace Go.Proofs.YthldipnfaiobaaaDoor
open Go.RowKit Go.Lib Go.Sort
set_option linter.unusedVariables false
set_option linter.unusedSimpArgs false
set_option maxHeartbeats 3200000
set_option maxRecDepth 1000000
def RcQ (w : World) (v0 : Value) (L : List Int) (e : Ending) (w' : World) : Prop := ∃ (m : Nat) (u v : Value), Cut L m ∧ e = .returned (.tuple #[u, v]) ∧ Ints w' u (coreOf L m) ∧ Ints w' v (inv (L.take m)) ∧ w.grownBy w' none ∧ u.ownBlock = v0.ownBlock ∧ ∀ g, v.ownBlock = some g → w.heap.size ≤ g
theorem rCore_any (w : World) (v : Value) (L : List Int) (h : Ints w v L) (hl : L.length ≤ 1000000) (hL : ∀ x ∈ L, noL x = false) :
    Calls Tryd.prog 23 #[v] w fun e w' => RcQ w v L e w' := by
  rcases h with ⟨rfl, rfl⟩ | ⟨g, off, cp, rfl, hcp, h⟩ | ⟨rfl, ad, rfl⟩
  · have HInv : Hid (∀ w', Calls Tryd.prog 24 #[.slice none 0 0] w' fun e w'' => ∃ v', e = .returned v' ∧ Own w'' w'.heap.size v' (inv []) ∧ w'.grownBy w'' none) := fun w' => rInverse_any w' _ [] (Ints.nil _) (by simp) rfl
    clear hL hl
    go_enter Tryd.func23, Tryd.ntmps23
    go_wp2_with fail
    go_loopw [4] (fun s wr => s = .int .i64 0 ∧ w = wr) (fun _ _ => 0)
    case atStart => exact ⟨rfl, rfl⟩
    case round =>
      obtain ⟨rfl, rfl⟩ := hrel
      have hd0 : (0 : Int) ≤ IntKind.i64.wrap (IntKind.i64.wrap 0 + 1) := by decide
      have hd1 : (0 : Int) ≤ IntKind.i64.wrap 1 := by decide
      have hw00 : IntKind.i64.wrap (0 - 0) = 0 := by decide
      have hw01 : IntKind.i64.wrap 0 = 0 := by decide
      go_wp2_with fail
      refine wp_region_held_drew (S := fun _ => True) (by kernel_rfl) (trivial) (fun hHeld => ?_)
      refine wpAnyH_take (i := 0) (v := ?_) rfl (by kernel_rfl) (by kernel_rfl) (by kernel_rfl) (fun _ _ _ h => h) (Or.inl ⟨by kernel_rfl, ?_⟩) (by assumption) ?_
      rotate_left
      · (intro w hSw; (try dsimp only at hSw); go_simp; try (first | with_reducible rfl | (simp [*]; done) | (simp; omega)))
      (try simp only [Act.put, List.getElem_toArray, List.getElem_cons_succ, List.getElem_cons_zero, List.setIfInBounds_toArray, List.set_cons_zero, List.set_cons_succ])
      refine wpAnyH_take (i := 1) (v := ?_) rfl (by kernel_rfl) (by kernel_rfl) (by kernel_rfl) (fun _ _ _ h => h) (Or.inl ⟨by kernel_rfl, ?_⟩) (by assumption) ?_
      rotate_left
      · (intro w hSw; (try dsimp only at hSw); go_simp; try (first | with_reducible rfl | (simp [*]; done) | (simp; omega)))
      (try simp only [Act.put, List.getElem_toArray, List.getElem_cons_succ, List.getElem_cons_zero, List.setIfInBounds_toArray, List.set_cons_zero, List.set_cons_succ])
      refine wpAnyH_take (i := 2) (v := ?_) rfl (by kernel_rfl) (by kernel_rfl) (by kernel_rfl) (fun _ _ _ h => h) (Or.inl ⟨by kernel_rfl, ?_⟩) (by assumption) ?_
      rotate_left
      · (intro w hSw; (try dsimp only at hSw); go_simp; try (first | with_reducible rfl | (simp [*]; done) | (simp; omega)))
      (try simp only [Act.put, List.getElem_toArray, List.getElem_cons_succ, List.getElem_cons_zero, List.setIfInBounds_toArray, List.set_cons_zero, List.set_cons_succ])
      refine wpAnyH_take (i := 3) (v := ?_) rfl (by kernel_rfl) (by kernel_rfl) (by kernel_rfl) (fun _ _ _ h => h) (Or.inl ⟨by kernel_rfl, ?_⟩) (by assumption) ?_
      rotate_left
      · (intro w hSw; (try dsimp only at hSw); go_simp; try (first | with_reducible rfl | (simp [*]; done) | (simp; omega)))
      (try simp only [Act.put, List.getElem_toArray, List.getElem_cons_succ, List.getElem_cons_zero, List.setIfInBounds_toArray, List.set_cons_zero, List.set_cons_succ])
      refine wpAnyH_take (i := 4) (v := ?_) rfl (by kernel_rfl) (by kernel_rfl) (by kernel_rfl) (fun _ _ _ h => h) (Or.inl ⟨by kernel_rfl, ?_⟩) (by assumption) ?_
      rotate_left
      · (intro w hSw; (try dsimp only at hSw); go_simp; try (first | with_reducible rfl | (simp [*]; done) | (simp; omega)))
      (try simp only [Act.put, List.getElem_toArray, List.getElem_cons_succ, List.getElem_cons_zero, List.setIfInBounds_toArray, List.set_cons_zero, List.set_cons_succ])
      refine wpAnyH_take (i := 5) (v := .bool false) rfl (by kernel_rfl) (by kernel_rfl) (by kernel_rfl) (fun _ _ _ h => h) (Or.inl ⟨by kernel_rfl, ?_⟩) (by assumption) ?_
      · (intro w hSw; (try dsimp only at hSw); go_simp; try (first | with_reducible rfl | (simp [*]; done) | (simp; omega)))
      (try simp only [Act.put, List.getElem_toArray, List.getElem_cons_succ, List.getElem_cons_zero, List.setIfInBounds_toArray, List.set_cons_zero, List.set_cons_succ])
      refine wpAnyH_take (i := 6) (v := ?_) rfl (by kernel_rfl) (by kernel_rfl) (by kernel_rfl) (fun _ _ _ h => h) (Or.inl ⟨by kernel_rfl, ?_⟩) (by assumption) ?_
      rotate_left
      · (intro w hSw; (try dsimp only at hSw); go_simp; try (first | with_reducible rfl | (simp [*]; done) | (simp; omega)))
      (try simp only [Act.put, List.getElem_toArray, List.getElem_cons_succ, List.getElem_cons_zero, List.setIfInBounds_toArray, List.set_cons_zero, List.set_cons_succ])
      refine wpAnyH_take (i := 7) (v := undef) rfl (by kernel_rfl) (by kernel_rfl) (by kernel_rfl) (fun _ _ _ h => h) (Or.inr ⟨by kernel_rfl, rfl⟩) (by assumption) ?_
      (try simp only [Act.put, List.getElem_toArray, List.getElem_cons_succ, List.getElem_cons_zero, List.setIfInBounds_toArray, List.set_cons_zero, List.set_cons_succ])
      refine wpAnyH_take (i := 8) (v := undef) rfl (by kernel_rfl) (by kernel_rfl) (by kernel_rfl) (fun _ _ _ h => h) (Or.inr ⟨by kernel_rfl, rfl⟩) (by assumption) ?_
      (try simp only [Act.put, List.getElem_toArray, List.getElem_cons_succ, List.getElem_cons_zero, List.setIfInBounds_toArray, List.set_cons_zero, List.set_cons_succ])
      refine wpAnyH_take (i := 9) (v := undef) rfl (by kernel_rfl) (by kernel_rfl) (by kernel_rfl) (fun _ _ _ h => h) (Or.inr ⟨by kernel_rfl, rfl⟩) (by assumption) ?_
      (try simp only [Act.put, List.getElem_toArray, List.getElem_cons_succ, List.getElem_cons_zero, List.setIfInBounds_toArray, List.set_cons_zero, List.set_cons_succ])
      refine wpAnyH_take (i := 10) (v := undef) rfl (by kernel_rfl) (by kernel_rfl) (by kernel_rfl) (fun _ _ _ h => h) (Or.inr ⟨by kernel_rfl, rfl⟩) (by assumption) ?_
      (try simp only [Act.put, List.getElem_toArray, List.getElem_cons_succ, List.getElem_cons_zero, List.setIfInBounds_toArray, List.set_cons_zero, List.set_cons_succ])
      refine wpAnyH_take (i := 11) (v := undef) rfl (by kernel_rfl) (by kernel_rfl) (by kernel_rfl) (fun _ _ _ h => h) (Or.inr ⟨by kernel_rfl, rfl⟩) (by assumption) ?_
      (try simp only [Act.put, List.getElem_toArray, List.getElem_cons_succ, List.getElem_cons_zero, List.setIfInBounds_toArray, List.set_cons_zero, List.set_cons_succ])
      refine wpAnyH_take (i := 12) (v := undef) rfl (by kernel_rfl) (by kernel_rfl) (by kernel_rfl) (fun _ _ _ h => h) (Or.inr ⟨by kernel_rfl, rfl⟩) (by assumption) ?_
      (try simp only [Act.put, List.getElem_toArray, List.getElem_cons_succ, List.getElem_cons_zero, List.setIfInBounds_toArray, List.set_cons_zero, List.set_cons_succ])
      refine wpAnyH_take (i := 13) (v := undef) rfl (by kernel_rfl) (by kernel_rfl) (by kernel_rfl) (fun _ _ _ h => h) (Or.inr ⟨by kernel_rfl, rfl⟩) (by assumption) ?_
      (try simp only [Act.put, List.getElem_toArray, List.getElem_cons_succ, List.getElem_cons_zero, List.setIfInBounds_toArray, List.set_cons_zero, List.set_cons_succ])
      refine wpAnyH_take (i := 14) (v := undef) rfl (by kernel_rfl) (by kernel_rfl) (by kernel_rfl) (fun _ _ _ h => h) (Or.inr ⟨by kernel_rfl, rfl⟩) (by assumption) ?_
      (try simp only [Act.put, List.getElem_toArray, List.getElem_cons_succ, List.getElem_cons_zero, List.setIfInBounds_toArray, List.set_cons_zero, List.set_cons_succ])
      refine wpAnyH_take (i := 15) (v := undef) rfl (by kernel_rfl) (by kernel_rfl) (by kernel_rfl) (fun _ _ _ h => h) (Or.inr ⟨by kernel_rfl, rfl⟩) (by assumption) ?_
      (try simp only [Act.put, List.getElem_toArray, List.getElem_cons_succ, List.getElem_cons_zero, List.setIfInBounds_toArray, List.set_cons_zero, List.set_cons_succ])
      refine wpAnyH_take (i := 16) (v := undef) rfl (by kernel_rfl) (by kernel_rfl) (by kernel_rfl) (fun _ _ _ h => h) (Or.inr ⟨by kernel_rfl, rfl⟩) (by assumption) ?_
      (try simp only [Act.put, List.getElem_toArray, List.getElem_cons_succ, List.getElem_cons_zero, List.setIfInBounds_toArray, List.set_cons_zero, List.set_cons_succ])
      refine wpAnyH_take (i := 17) (v := undef) rfl (by kernel_rfl) (by kernel_rfl) (by kernel_rfl) (fun _ _ _ h => h) (Or.inr ⟨by kernel_rfl, rfl⟩) (by assumption) ?_
      (try simp only [Act.put, List.getElem_toArray, List.getElem_cons_succ, List.getElem_cons_zero, List.setIfInBounds_toArray, List.set_cons_zero, List.set_cons_succ])
      refine wpAnyH_take (i := 18) (v := undef) rfl (by kernel_rfl) (by kernel_rfl) (by kernel_rfl) (fun _ _ _ h => h) (Or.inr ⟨by kernel_rfl, rfl⟩) (by assumption) ?_
      (try simp only [Act.put, List.getElem_toArray, List.getElem_cons_succ, List.getElem_cons_zero, List.setIfInBounds_toArray, List.set_cons_zero, List.set_cons_succ])
      refine wpAnyH_take (i := 19) (v := undef) rfl (by kernel_rfl) (by kernel_rfl) (by kernel_rfl) (fun _ _ _ h => h) (Or.inr ⟨by kernel_rfl, rfl⟩) (by assumption) ?_
      (try simp only [Act.put, List.getElem_toArray, List.getElem_cons_succ, List.getElem_cons_zero, List.setIfInBounds_toArray, List.set_cons_zero, List.set_cons_succ])
      refine wpAnyH_take (i := 20) (v := undef) rfl (by kernel_rfl) (by kernel_rfl) (by kernel_rfl) (fun _ _ _ h => h) (Or.inr ⟨by kernel_rfl, rfl⟩) (by assumption) ?_
      (try simp only [Act.put, List.getElem_toArray, List.getElem_cons_succ, List.getElem_cons_zero, List.setIfInBounds_toArray, List.set_cons_zero, List.set_cons_succ])
      refine wpAnyH_take (i := 21) (v := ?_) rfl (by kernel_rfl) (by kernel_rfl) (by kernel_rfl) (fun _ _ _ h => h) (Or.inl ⟨by kernel_rfl, ?_⟩) (by assumption) ?_
      rotate_left
      · (intro w hSw; (try dsimp only at hSw); go_simp; try (first | with_reducible rfl | (simp [*]; done) | (simp; omega)))
      (try simp only [Act.put, List.getElem_toArray, List.getElem_cons_succ, List.getElem_cons_zero, List.setIfInBounds_toArray, List.set_cons_zero, List.set_cons_succ])
      refine wpAnyH_done (by kernel_rfl) ?_ _
      go_wp2_with fail
      go_region_held3 (fun _ => True) (trivial) (first | (go_at_call 24; refine (HInv.out _).mono ?_; rintro e w2 ⟨v2, rfl, hO2, hG2⟩; have HO2 : Hid (Ints w2 v2 [] ∧ ∀ g, v2.ownBlock = some g → w.heap.size ≤ g) := ⟨hO2.ints, fun g hg => (hO2.fr.blk g hg).1⟩; have HG2 : Hid (w.grownBy w2 none) := (grownBy_undrew (grownBy_undrew hG2)); clear hO2 hG2) | fail)
      all_goals go_wp2_with fail
      all_goals (
        refine bodyPost_ret (results_tmp2 rfl _ _ _) rfl ?_
        refine ⟨0, ?_⟩
        refine ⟨_, _, ⟨fun k hk => by omega, by simp⟩, rfl, ?_, HO2.out.1, HG2.out, rfl, HO2.out.2⟩
        exact Ints.nil _)
  · have HI : Hid (Ints w (.slice (some ⟨g, off, none⟩) L.length cp) L) := .inr (.inl ⟨g, off, cp, rfl, hcp, h⟩)
    have HC : Hid (∀ w', w.grownBy w' none → ∀ j, j < L.length → w'.cell? ⟨g, off + j, none⟩ = some (.int .i64 (L[j]?.getD 0))) := fun w' hg j hj => grownBy_cell hg (h j hj) (by simp)
    have HL : Hid (∀ j, j < L.length → -64 ≤ L[j]?.getD 0 ∧ L[j]?.getD 0 ≤ 64) := by
      intro j hj
      rw [List.getElem?_eq_getElem hj]
      have := noL_no (hL _ (List.getElem_mem hj))
      simp only [Option.getD_some]
      omega
    have HLn : Hid (∀ i, (L.take i).any noL = false) := fun i => any_no fun x hx => hL x (List.mem_of_mem_take hx)
    obtain ⟨n, hn⟩ : ∃ n, L.length = n := ⟨_, rfl⟩
    have HN : Unit → L.length = n := fun _ => hn
    have hnI : (n : Int) ≤ 1000000 := by omega
    rw [hn] at HI HC HL hcp ⊢
    clear h hn hl hL
    go_enter Tryd.func23, Tryd.ntmps23
    go_wp2_with fail
    go_loopw [4] (fun s wr => ∃ (i : Nat), s = .int .i64 i ∧ (2 * i ≤ n ∧ ∀ k, k < i → 2 * k + 1 < L.length ∧ L[k]?.getD 0 + L[L.length - 1 - k]?.getD 0 = 0) ∧ w.grownBy wr none) (fun s _ => match s with | .int _ i => n - i.toNat | _ => 0)
    case atStart => exact ⟨0, rfl, ⟨by omega, fun k hk => by omega⟩, grow0 _⟩
    case round =>
      obtain ⟨i, rfl, hp, hg⟩ := hrel
      have HP : Hid (∀ k, k < i → 2 * k + 1 < L.length ∧ L[k]?.getD 0 + L[L.length - 1 - k]?.getD 0 = 0) := hp.2
      have HG : Hid (w.grownBy wr none) := hg
      have hin := hp.1
      clear hp hg
      have hiI : 2 * (i : Int) ≤ n := by omega
      obtain ⟨e, he⟩ : ∃ e : Nat, n - i = e := ⟨_, rfl⟩
      have heI : IntKind.i64.wrap ((n : Int) - i) = e := by
        rw [IntKind.wrap_i64]
        omega
      have hie : (i : Int) ≤ e := by omega
      have hen : (e : Int) ≤ n := by omega
      have hincp : (i : Int) ≤ cp := by omega
      have hecp : (e : Int) ≤ cp := by omega
      have HE : Unit → n - i = e := fun _ => he
      have HInv : Hid (∀ w', w.grownBy w' none → Calls Tryd.prog 24 #[.slice (some ⟨g, off, none⟩) i cp] w' fun e w'' => ∃ v', e = .returned v' ∧ Own w'' w'.heap.size v' (inv (L.take i)) ∧ w'.grownBy w'' none) := by
        intro w' hg
        refine rInverse_any w' _ (L.take i) ?_ (by rw [List.length_take]; omega) (HLn.out i)
        have := (HI.out.kept hg).sub 0 i cp (by rw [HN ()]; omega) (by omega)
        rwa [Nat.add_zero, List.drop_zero] at this
      have HCo : Hid (∀ w' o k c', w.grownBy w' none → k = n - 2 * i → k ≤ c' → (o = off + i ∨ k = 0) → Ints w' (.slice (some ⟨g, o, none⟩) k c') (coreOf L i)) := by
        intro w' o k c' hg hk hc ho
        subst hk
        unfold coreOf
        rw [HN ()]
        rcases Nat.eq_zero_or_pos (n - 2 * i) with h0 | h0
        · rw [h0, List.take_zero]
          exact Ints.zero w' ⟨g, o, none⟩ c' rfl
        · obtain rfl : o = off + i := by omega
          exact (HI.out.kept hg).sub i (n - 2 * i) c' (by rw [HN ()]; omega) hc
      clear he
      by_cases hlt : 2 * i + 1 < n
      · have hltI : 2 * (i : Int) + 1 < n := by omega
        have hd : decide (IntKind.i64.wrap (IntKind.i64.wrap (2 * (i : Int)) + 1) < (n : Int)) = true := by
          rw [IntKind.wrap_i64 (2 * (i : Int)), IntKind.wrap_i64]
          simp
          omega
        obtain ⟨j, hj⟩ : ∃ j : Nat, n - 1 - i = j := ⟨_, rfl⟩
        have hjn : (j : Int) < n := by omega
        have hinI : (i : Int) < n := by omega
        have hwj : IntKind.i64.wrap (IntKind.i64.wrap ((n : Int) - 1) - i) = (j : Int) := by
          rw [IntKind.wrap_i64 ((n : Int) - 1), IntKind.wrap_i64]
          omega
        have c1 := HC.out wr HG.out i (by omega)
        have c2 := HC.out wr HG.out j (by omega)
        have b1 := HL.out i (by omega)
        have b2 := HL.out j (by omega)
        have HS : Hid (∀ x y, L[i]?.getD 0 = x → L[j]?.getD 0 = y → (x + y = 0 → ∀ k, k < i + 1 → 2 * k + 1 < L.length ∧ L[k]?.getD 0 + L[L.length - 1 - k]?.getD 0 = 0) ∧ (x + y ≠ 0 → Cut L i)) := by
          rintro x y rfl rfl
          refine ⟨fun e k hk => ?_, fun e => ⟨HP.out, fun h => e ?_⟩⟩
          · rcases Nat.lt_or_ge k i with h | h
            · exact HP.out k h
            · obtain rfl : k = i := by omega
              rw [HN (), hj]
              exact ⟨hlt, e⟩
          · have := h.2
            rwa [HN (), hj] at this
        obtain ⟨x, hx⟩ : ∃ x, L[i]?.getD 0 = x := ⟨_, rfl⟩
        obtain ⟨y, hy⟩ : ∃ y, L[j]?.getD 0 = y := ⟨_, rfl⟩
        have HS3 : Hid ((x + y = 0 → ∀ k, k < i + 1 → 2 * k + 1 < L.length ∧ L[k]?.getD 0 + L[L.length - 1 - k]?.getD 0 = 0) ∧ (x + y ≠ 0 → Cut L i)) := HS.out x y hx hy
        rw [hx] at c1 b1
        rw [hy] at c2 b2
        clear hx hy hj
        obtain ⟨b3, b4⟩ := b1
        obtain ⟨b5, b6⟩ := b2
        have hwy : IntKind.i64.wrap (-y) = -y := by
          rw [IntKind.wrap_i64]
          omega
        by_cases hs : x + y = 0
        · have hsb : (x == -y) = true := by simp; omega
          have HS4 : Hid (∀ k, k < i + 1 → 2 * k + 1 < L.length ∧ L[k]?.getD 0 + L[L.length - 1 - k]?.getD 0 = 0) := HS3.out.1 hs
          clear hs
          go_wp2_with fail
          go_region_held3 (fun w' => w'.cell? ⟨g, off + i, none⟩ = some (Value.int .i64 x) ∧ w'.cell? ⟨g, off + j, none⟩ = some (Value.int .i64 y)) (first | (go_keep; done) | fail) (fail)
          go_wp2_with fail
          go_roundw
          case rel => exact ⟨i + 1, num_eq (by omega), ⟨by omega, HS4.out⟩, grow_drew HG.out⟩
          case measure => simp; omega
        · have hsb : (x == -y) = false := by simp; omega
          have HCut : Hid (Cut L i) := HS3.out.2 hs
          clear hs
          go_wp2_with fail
          go_region_held3 (fun w' => w'.cell? ⟨g, off + i, none⟩ = some (Value.int .i64 x) ∧ w'.cell? ⟨g, off + j, none⟩ = some (Value.int .i64 y)) (first | (go_keep; done) | fail) (fail)
          go_wp2_with fail
          go_region_held3 (fun _ => True) (trivial) (first | (go_at_call 24; refine (HInv.out _ (grow_drew (grow_drew HG.out))).mono ?_; rintro e w2 ⟨v2, rfl, hO2, hG2⟩; have HO2 : Hid (Ints w2 v2 (inv (L.take i)) ∧ ∀ g, v2.ownBlock = some g → w.heap.size ≤ g) := ⟨hO2.ints, fun g hg => Nat.le_trans HG.out.size (hO2.fr.blk g hg).1⟩; have HG2 : Hid (w.grownBy w2 none) := grownBy_trans HG.out (grownBy_undrew (grownBy_undrew hG2)); clear hO2 hG2) | fail)
          all_goals go_wp2_with fail
          all_goals (
            refine bodyPost_ret (results_tmp2 rfl _ _ _) rfl ?_
            have h1 := HE ()
            exact ⟨i, _, _, HCut.out, rfl, HCo.out _ _ _ _ HG2.out (by omega) (by omega) (by omega), HO2.out.1, HG2.out, rfl, HO2.out.2⟩)
      · have HCut : Hid (Cut L i) := ⟨HP.out, fun h => hlt (by rw [← HN ()]; exact h.1)⟩
        have hd : decide (IntKind.i64.wrap (IntKind.i64.wrap (2 * (i : Int)) + 1) < (n : Int)) = false := by
          rw [IntKind.wrap_i64 (2 * (i : Int)), IntKind.wrap_i64]
          simp
          omega
        go_wp2_with fail
        refine wp_region_held_drew (S := fun _ => True) (by kernel_rfl) (trivial) (fun hHeld => ?_)
        refine wpAnyH_take (i := 0) (v := ?_) rfl (by kernel_rfl) (by kernel_rfl) (by kernel_rfl) (fun _ _ _ h => h) (Or.inl ⟨by kernel_rfl, ?_⟩) (by assumption) ?_
        rotate_left
        · (intro w hSw; (try dsimp only at hSw); go_simp; try (first | with_reducible rfl | (simp [*]; done) | (simp; omega)))
        (try simp only [Act.put, List.getElem_toArray, List.getElem_cons_succ, List.getElem_cons_zero, List.setIfInBounds_toArray, List.set_cons_zero, List.set_cons_succ])
        refine wpAnyH_take (i := 1) (v := ?_) rfl (by kernel_rfl) (by kernel_rfl) (by kernel_rfl) (fun _ _ _ h => h) (Or.inl ⟨by kernel_rfl, ?_⟩) (by assumption) ?_
        rotate_left
        · (intro w hSw; (try dsimp only at hSw); go_simp; try (first | with_reducible rfl | (simp [*]; done) | (simp; omega)))
        (try simp only [Act.put, List.getElem_toArray, List.getElem_cons_succ, List.getElem_cons_zero, List.setIfInBounds_toArray, List.set_cons_zero, List.set_cons_succ])
        refine wpAnyH_take (i := 2) (v := ?_) rfl (by kernel_rfl) (by kernel_rfl) (by kernel_rfl) (fun _ _ _ h => h) (Or.inl ⟨by kernel_rfl, ?_⟩) (by assumption) ?_
        rotate_left
        · (intro w hSw; (try dsimp only at hSw); go_simp; try (first | with_reducible rfl | (simp [*]; done) | (simp; omega)))
        (try simp only [Act.put, List.getElem_toArray, List.getElem_cons_succ, List.getElem_cons_zero, List.setIfInBounds_toArray, List.set_cons_zero, List.set_cons_succ])
        refine wpAnyH_take (i := 3) (v := ?_) rfl (by kernel_rfl) (by kernel_rfl) (by kernel_rfl) (fun _ _ _ h => h) (Or.inl ⟨by kernel_rfl, ?_⟩) (by assumption) ?_
        rotate_left
        · (intro w hSw; (try dsimp only at hSw); go_simp; try (first | with_reducible rfl | (simp [*]; done) | (simp; omega)))
        (try simp only [Act.put, List.getElem_toArray, List.getElem_cons_succ, List.getElem_cons_zero, List.setIfInBounds_toArray, List.set_cons_zero, List.set_cons_succ])
        refine wpAnyH_take (i := 4) (v := ?_) rfl (by kernel_rfl) (by kernel_rfl) (by kernel_rfl) (fun _ _ _ h => h) (Or.inl ⟨by kernel_rfl, ?_⟩) (by assumption) ?_
        rotate_left
        · (intro w hSw; (try dsimp only at hSw); go_simp; try (first | with_reducible rfl | (simp [*]; done) | (simp; omega)))
        (try simp only [Act.put, List.getElem_toArray, List.getElem_cons_succ, List.getElem_cons_zero, List.setIfInBounds_toArray, List.set_cons_zero, List.set_cons_succ])
        refine wpAnyH_take (i := 5) (v := .bool false) rfl (by kernel_rfl) (by kernel_rfl) (by kernel_rfl) (fun _ _ _ h => h) (Or.inl ⟨by kernel_rfl, ?_⟩) (by assumption) ?_
        · (intro w hSw; (try dsimp only at hSw); go_simp; try (first | with_reducible rfl | (simp [*]; done) | (simp; omega)))
        (try simp only [Act.put, List.getElem_toArray, List.getElem_cons_succ, List.getElem_cons_zero, List.setIfInBounds_toArray, List.set_cons_zero, List.set_cons_succ])
        refine wpAnyH_take (i := 6) (v := ?_) rfl (by kernel_rfl) (by kernel_rfl) (by kernel_rfl) (fun _ _ _ h => h) (Or.inl ⟨by kernel_rfl, ?_⟩) (by assumption) ?_
        rotate_left
        · (intro w hSw; (try dsimp only at hSw); go_simp; try (first | with_reducible rfl | (simp [*]; done) | (simp; omega)))
        (try simp only [Act.put, List.getElem_toArray, List.getElem_cons_succ, List.getElem_cons_zero, List.setIfInBounds_toArray, List.set_cons_zero, List.set_cons_succ])
        refine wpAnyH_take (i := 7) (v := undef) rfl (by kernel_rfl) (by kernel_rfl) (by kernel_rfl) (fun _ _ _ h => h) (Or.inr ⟨by kernel_rfl, rfl⟩) (by assumption) ?_
        (try simp only [Act.put, List.getElem_toArray, List.getElem_cons_succ, List.getElem_cons_zero, List.setIfInBounds_toArray, List.set_cons_zero, List.set_cons_succ])
        refine wpAnyH_take (i := 8) (v := undef) rfl (by kernel_rfl) (by kernel_rfl) (by kernel_rfl) (fun _ _ _ h => h) (Or.inr ⟨by kernel_rfl, rfl⟩) (by assumption) ?_
        (try simp only [Act.put, List.getElem_toArray, List.getElem_cons_succ, List.getElem_cons_zero, List.setIfInBounds_toArray, List.set_cons_zero, List.set_cons_succ])
        refine wpAnyH_take (i := 9) (v := undef) rfl (by kernel_rfl) (by kernel_rfl) (by kernel_rfl) (fun _ _ _ h => h) (Or.inr ⟨by kernel_rfl, rfl⟩) (by assumption) ?_
        (try simp only [Act.put, List.getElem_toArray, List.getElem_cons_succ, List.getElem_cons_zero, List.setIfInBounds_toArray, List.set_cons_zero, List.set_cons_succ])
        refine wpAnyH_take (i := 10) (v := undef) rfl (by kernel_rfl) (by kernel_rfl) (by kernel_rfl) (fun _ _ _ h => h) (Or.inr ⟨by kernel_rfl, rfl⟩) (by assumption) ?_
        (try simp only [Act.put, List.getElem_toArray, List.getElem_cons_succ, List.getElem_cons_zero, List.setIfInBounds_toArray, List.set_cons_zero, List.set_cons_succ])
        refine wpAnyH_take (i := 11) (v := undef) rfl (by kernel_rfl) (by kernel_rfl) (by kernel_rfl) (fun _ _ _ h => h) (Or.inr ⟨by kernel_rfl, rfl⟩) (by assumption) ?_
        (try simp only [Act.put, List.getElem_toArray, List.getElem_cons_succ, List.getElem_cons_zero, List.setIfInBounds_toArray, List.set_cons_zero, List.set_cons_succ])
        refine wpAnyH_take (i := 12) (v := undef) rfl (by kernel_rfl) (by kernel_rfl) (by kernel_rfl) (fun _ _ _ h => h) (Or.inr ⟨by kernel_rfl, rfl⟩) (by assumption) ?_
        (try simp only [Act.put, List.getElem_toArray, List.getElem_cons_succ, List.getElem_cons_zero, List.setIfInBounds_toArray, List.set_cons_zero, List.set_cons_succ])
        refine wpAnyH_take (i := 13) (v := undef) rfl (by kernel_rfl) (by kernel_rfl) (by kernel_rfl) (fun _ _ _ h => h) (Or.inr ⟨by kernel_rfl, rfl⟩) (by assumption) ?_
        (try simp only [Act.put, List.getElem_toArray, List.getElem_cons_succ, List.getElem_cons_zero, List.setIfInBounds_toArray, List.set_cons_zero, List.set_cons_succ])
        refine wpAnyH_take (i := 14) (v := undef) rfl (by kernel_rfl) (by kernel_rfl) (by kernel_rfl) (fun _ _ _ h => h) (Or.inr ⟨by kernel_rfl, rfl⟩) (by assumption) ?_
        (try simp only [Act.put, List.getElem_toArray, List.getElem_cons_succ, List.getElem_cons_zero, List.setIfInBounds_toArray, List.set_cons_zero, List.set_cons_succ])
        refine wpAnyH_take (i := 15) (v := undef) rfl (by kernel_rfl) (by kernel_rfl) (by kernel_rfl) (fun _ _ _ h => h) (Or.inr ⟨by kernel_rfl, rfl⟩) (by assumption) ?_
        (try simp only [Act.put, List.getElem_toArray, List.getElem_cons_succ, List.getElem_cons_zero, List.setIfInBounds_toArray, List.set_cons_zero, List.set_cons_succ])
        refine wpAnyH_take (i := 16) (v := undef) rfl (by kernel_rfl) (by kernel_rfl) (by kernel_rfl) (fun _ _ _ h => h) (Or.inr ⟨by kernel_rfl, rfl⟩) (by assumption) ?_
        (try simp only [Act.put, List.getElem_toArray, List.getElem_cons_succ, List.getElem_cons_zero, List.setIfInBounds_toArray, List.set_cons_zero, List.set_cons_succ])
        refine wpAnyH_take (i := 17) (v := undef) rfl (by kernel_rfl) (by kernel_rfl) (by kernel_rfl) (fun _ _ _ h => h) (Or.inr ⟨by kernel_rfl, rfl⟩) (by assumption) ?_
        (try simp only [Act.put, List.getElem_toArray, List.getElem_cons_succ, List.getElem_cons_zero, List.setIfInBounds_toArray, List.set_cons_zero, List.set_cons_succ])
        refine wpAnyH_take (i := 18) (v := undef) rfl (by kernel_rfl) (by kernel_rfl) (by kernel_rfl) (fun _ _ _ h => h) (Or.inr ⟨by kernel_rfl, rfl⟩) (by assumption) ?_
        (try simp only [Act.put, List.getElem_toArray, List.getElem_cons_succ, List.getElem_cons_zero, List.setIfInBounds_toArray, List.set_cons_zero, List.set_cons_succ])
        refine wpAnyH_take (i := 19) (v := undef) rfl (by kernel_rfl) (by kernel_rfl) (by kernel_rfl) (fun _ _ _ h => h) (Or.inr ⟨by kernel_rfl, rfl⟩) (by assumption) ?_
        (try simp only [Act.put, List.getElem_toArray, List.getElem_cons_succ, List.getElem_cons_zero, List.setIfInBounds_toArray, List.set_cons_zero, List.set_cons_succ])
        refine wpAnyH_take (i := 20) (v := undef) rfl (by kernel_rfl) (by kernel_rfl) (by kernel_rfl) (fun _ _ _ h => h) (Or.inr ⟨by kernel_rfl, rfl⟩) (by assumption) ?_
        (try simp only [Act.put, List.getElem_toArray, List.getElem_cons_succ, List.getElem_cons_zero, List.setIfInBounds_toArray, List.set_cons_zero, List.set_cons_succ])
        refine wpAnyH_take (i := 21) (v := ?_) rfl (by kernel_rfl) (by kernel_rfl) (by kernel_rfl) (fun _ _ _ h => h) (Or.inl ⟨by kernel_rfl, ?_⟩) (by assumption) ?_
        rotate_left
        · (intro w hSw; (try dsimp only at hSw); go_simp; try (first | with_reducible rfl | (simp [*]; done) | (simp; omega)))
        (try simp only [Act.put, List.getElem_toArray, List.getElem_cons_succ, List.getElem_cons_zero, List.setIfInBounds_toArray, List.set_cons_zero, List.set_cons_succ])
        refine wpAnyH_done (by kernel_rfl) ?_ _
        go_wp2_with fail
        by_cases hz : cp = i
        · have h0 : i = 0 := by omega
          subst h0
          subst hz
          obtain rfl : n = 0 := by omega
          obtain rfl : e = 0 := by have := HE (); omega
          have hw00 : IntKind.i64.wrap (0 - 0) = 0 := by decide
          have hw01 : IntKind.i64.wrap 0 = 0 := by decide
          go_region_held3 (fun _ => True) (trivial) (first | (go_at_call 24; refine (HInv.out _ (grow_drew (grow_drew HG.out))).mono ?_; rintro e w2 ⟨v2, rfl, hO2, hG2⟩; have HO2 : Hid (Ints w2 v2 (inv (L.take 0)) ∧ ∀ g, v2.ownBlock = some g → w.heap.size ≤ g) := ⟨hO2.ints, fun g hg => Nat.le_trans HG.out.size (hO2.fr.blk g hg).1⟩; have HG2 : Hid (w.grownBy w2 none) := grownBy_trans HG.out (grownBy_undrew (grownBy_undrew hG2)); clear hO2 hG2) | fail)
          all_goals go_wp2_with fail
          all_goals (
            refine bodyPost_ret (results_tmp2 rfl _ _ _) rfl ?_
            have h1 := HE ()
            exact ⟨0, _, _, HCut.out, rfl, HCo.out _ _ _ _ HG2.out (by omega) (by omega) (by omega), HO2.out.1, HG2.out, rfl, HO2.out.2⟩)
        · have hz1 : ¬ cp - i = 0 := by omega
          have hz2 : (i : Int) < cp := by omega
          go_region_held3 (fun _ => True) (trivial) (first | (go_at_call 24; refine (HInv.out _ (grow_drew (grow_drew HG.out))).mono ?_; rintro e w2 ⟨v2, rfl, hO2, hG2⟩; have HO2 : Hid (Ints w2 v2 (inv (L.take i)) ∧ ∀ g, v2.ownBlock = some g → w.heap.size ≤ g) := ⟨hO2.ints, fun g hg => Nat.le_trans HG.out.size (hO2.fr.blk g hg).1⟩; have HG2 : Hid (w.grownBy w2 none) := grownBy_trans HG.out (grownBy_undrew (grownBy_undrew hG2)); clear hO2 hG2) | fail)
          all_goals go_wp2_with fail
          all_goals (
            refine bodyPost_ret (results_tmp2 rfl _ _ _) rfl ?_
            have h1 := HE ()
            exact ⟨i, _, _, HCut.out, rfl, HCo.out _ _ _ _ HG2.out (by omega) (by omega) (by omega), HO2.out.1, HG2.out, rfl, HO2.out.2⟩)
  · have HInv : Hid (∀ w', Calls Tryd.prog 24 #[.slice (some ad) 0 0] w' fun e w'' => ∃ v', e = .returned v' ∧ Own w'' w'.heap.size v' (inv []) ∧ w'.grownBy w'' none) := fun w' => rInverse_any w' _ [] (.inr (.inr ⟨rfl, ad, rfl⟩)) (by simp) rfl
    clear hL hl
    go_enter Tryd.func23, Tryd.ntmps23
    go_wp2_with fail
    go_loopw [4] (fun s wr => s = .int .i64 0 ∧ w = wr) (fun _ _ => 0)
    case atStart => exact ⟨rfl, rfl⟩
    case round =>
      obtain ⟨rfl, rfl⟩ := hrel
      have hd0 : (0 : Int) ≤ IntKind.i64.wrap (IntKind.i64.wrap 0 + 1) := by decide
      have hd1 : (0 : Int) ≤ IntKind.i64.wrap 1 := by decide
      have hw00 : IntKind.i64.wrap (0 - 0) = 0 := by decide
      have hw01 : IntKind.i64.wrap 0 = 0 := by decide
      go_wp2_with fail
      refine wp_region_held_drew (S := fun _ => True) (by kernel_rfl) (trivial) (fun hHeld => ?_)
      refine wpAnyH_take (i := 0) (v := ?_) rfl (by kernel_rfl) (by kernel_rfl) (by kernel_rfl) (fun _ _ _ h => h) (Or.inl ⟨by kernel_rfl, ?_⟩) (by assumption) ?_
      rotate_left
      · (intro w hSw; (try dsimp only at hSw); go_simp; try (first | with_reducible rfl | (simp [*]; done) | (simp; omega)))
      (try simp only [Act.put, List.getElem_toArray, List.getElem_cons_succ, List.getElem_cons_zero, List.setIfInBounds_toArray, List.set_cons_zero, List.set_cons_succ])
      refine wpAnyH_take (i := 1) (v := ?_) rfl (by kernel_rfl) (by kernel_rfl) (by kernel_rfl) (fun _ _ _ h => h) (Or.inl ⟨by kernel_rfl, ?_⟩) (by assumption) ?_
      rotate_left
      · (intro w hSw; (try dsimp only at hSw); go_simp; try (first | with_reducible rfl | (simp [*]; done) | (simp; omega)))
      (try simp only [Act.put, List.getElem_toArray, List.getElem_cons_succ, List.getElem_cons_zero, List.setIfInBounds_toArray, List.set_cons_zero, List.set_cons_succ])
      refine wpAnyH_take (i := 2) (v := ?_) rfl (by kernel_rfl) (by kernel_rfl) (by kernel_rfl) (fun _ _ _ h => h) (Or.inl ⟨by kernel_rfl, ?_⟩) (by assumption) ?_
      rotate_left
      · (intro w hSw; (try dsimp only at hSw); go_simp; try (first | with_reducible rfl | (simp [*]; done) | (simp; omega)))
      (try simp only [Act.put, List.getElem_toArray, List.getElem_cons_succ, List.getElem_cons_zero, List.setIfInBounds_toArray, List.set_cons_zero, List.set_cons_succ])
      refine wpAnyH_take (i := 3) (v := ?_) rfl (by kernel_rfl) (by kernel_rfl) (by kernel_rfl) (fun _ _ _ h => h) (Or.inl ⟨by kernel_rfl, ?_⟩) (by assumption) ?_
      rotate_left
      · (intro w hSw; (try dsimp only at hSw); go_simp; try (first | with_reducible rfl | (simp [*]; done) | (simp; omega)))
      (try simp only [Act.put, List.getElem_toArray, List.getElem_cons_succ, List.getElem_cons_zero, List.setIfInBounds_toArray, List.set_cons_zero, List.set_cons_succ])
      refine wpAnyH_take (i := 4) (v := ?_) rfl (by kernel_rfl) (by kernel_rfl) (by kernel_rfl) (fun _ _ _ h => h) (Or.inl ⟨by kernel_rfl, ?_⟩) (by assumption) ?_
      rotate_left
      · (intro w hSw; (try dsimp only at hSw); go_simp; try (first | with_reducible rfl | (simp [*]; done) | (simp; omega)))
      (try simp only [Act.put, List.getElem_toArray, List.getElem_cons_succ, List.getElem_cons_zero, List.setIfInBounds_toArray, List.set_cons_zero, List.set_cons_succ])
      refine wpAnyH_take (i := 5) (v := .bool false) rfl (by kernel_rfl) (by kernel_rfl) (by kernel_rfl) (fun _ _ _ h => h) (Or.inl ⟨by kernel_rfl, ?_⟩) (by assumption) ?_
      · (intro w hSw; (try dsimp only at hSw); go_simp; try (first | with_reducible rfl | (simp [*]; done) | (simp; omega)))
      (try simp only [Act.put, List.getElem_toArray, List.getElem_cons_succ, List.getElem_cons_zero, List.setIfInBounds_toArray, List.set_cons_zero, List.set_cons_succ])
      refine wpAnyH_take (i := 6) (v := ?_) rfl (by kernel_rfl) (by kernel_rfl) (by kernel_rfl) (fun _ _ _ h => h) (Or.inl ⟨by kernel_rfl, ?_⟩) (by assumption) ?_
      rotate_left
      · (intro w hSw; (try dsimp only at hSw); go_simp; try (first | with_reducible rfl | (simp [*]; done) | (simp; omega)))
      (try simp only [Act.put, List.getElem_toArray, List.getElem_cons_succ, List.getElem_cons_zero, List.setIfInBounds_toArray, List.set_cons_zero, List.set_cons_succ])
      refine wpAnyH_take (i := 7) (v := undef) rfl (by kernel_rfl) (by kernel_rfl) (by kernel_rfl) (fun _ _ _ h => h) (Or.inr ⟨by kernel_rfl, rfl⟩) (by assumption) ?_
      (try simp only [Act.put, List.getElem_toArray, List.getElem_cons_succ, List.getElem_cons_zero, List.setIfInBounds_toArray, List.set_cons_zero, List.set_cons_succ])
      refine wpAnyH_take (i := 8) (v := undef) rfl (by kernel_rfl) (by kernel_rfl) (by kernel_rfl) (fun _ _ _ h => h) (Or.inr ⟨by kernel_rfl, rfl⟩) (by assumption) ?_
      (try simp only [Act.put, List.getElem_toArray, List.getElem_cons_succ, List.getElem_cons_zero, List.setIfInBounds_toArray, List.set_cons_zero, List.set_cons_succ])
      refine wpAnyH_take (i := 9) (v := undef) rfl (by kernel_rfl) (by kernel_rfl) (by kernel_rfl) (fun _ _ _ h => h) (Or.inr ⟨by kernel_rfl, rfl⟩) (by assumption) ?_
      (try simp only [Act.put, List.getElem_toArray, List.getElem_cons_succ, List.getElem_cons_zero, List.setIfInBounds_toArray, List.set_cons_zero, List.set_cons_succ])
      refine wpAnyH_take (i := 10) (v := undef) rfl (by kernel_rfl) (by kernel_rfl) (by kernel_rfl) (fun _ _ _ h => h) (Or.inr ⟨by kernel_rfl, rfl⟩) (by assumption) ?_
      (try simp only [Act.put, List.getElem_toArray, List.getElem_cons_succ, List.getElem_cons_zero, List.setIfInBounds_toArray, List.set_cons_zero, List.set_cons_succ])
      refine wpAnyH_take (i := 11) (v := undef) rfl (by kernel_rfl) (by kernel_rfl) (by kernel_rfl) (fun _ _ _ h => h) (Or.inr ⟨by kernel_rfl, rfl⟩) (by assumption) ?_
      (try simp only [Act.put, List.getElem_toArray, List.getElem_cons_succ, List.getElem_cons_zero, List.setIfInBounds_toArray, List.set_cons_zero, List.set_cons_succ])
      refine wpAnyH_take (i := 12) (v := undef) rfl (by kernel_rfl) (by kernel_rfl) (by kernel_rfl) (fun _ _ _ h => h) (Or.inr ⟨by kernel_rfl, rfl⟩) (by assumption) ?_
      (try simp only [Act.put, List.getElem_toArray, List.getElem_cons_succ, List.getElem_cons_zero, List.setIfInBounds_toArray, List.set_cons_zero, List.set_cons_succ])
      refine wpAnyH_take (i := 13) (v := undef) rfl (by kernel_rfl) (by kernel_rfl) (by kernel_rfl) (fun _ _ _ h => h) (Or.inr ⟨by kernel_rfl, rfl⟩) (by assumption) ?_
      (try simp only [Act.put, List.getElem_toArray, List.getElem_cons_succ, List.getElem_cons_zero, List.setIfInBounds_toArray, List.set_cons_zero, List.set_cons_succ])
      refine wpAnyH_take (i := 14) (v := undef) rfl (by kernel_rfl) (by kernel_rfl) (by kernel_rfl) (fun _ _ _ h => h) (Or.inr ⟨by kernel_rfl, rfl⟩) (by assumption) ?_
      (try simp only [Act.put, List.getElem_toArray, List.getElem_cons_succ, List.getElem_cons_zero, List.setIfInBounds_toArray, List.set_cons_zero, List.set_cons_succ])
      refine wpAnyH_take (i := 15) (v := undef) rfl (by kernel_rfl) (by kernel_rfl) (by kernel_rfl) (fun _ _ _ h => h) (Or.inr ⟨by kernel_rfl, rfl⟩) (by assumption) ?_
      (try simp only [Act.put, List.getElem_toArray, List.getElem_cons_succ, List.getElem_cons_zero, List.setIfInBounds_toArray, List.set_cons_zero, List.set_cons_succ])
      refine wpAnyH_take (i := 16) (v := undef) rfl (by kernel_rfl) (by kernel_rfl) (by kernel_rfl) (fun _ _ _ h => h) (Or.inr ⟨by kernel_rfl, rfl⟩) (by assumption) ?_
      (try simp only [Act.put, List.getElem_toArray, List.getElem_cons_succ, List.getElem_cons_zero, List.setIfInBounds_toArray, List.set_cons_zero, List.set_cons_succ])
      refine wpAnyH_take (i := 17) (v := undef) rfl (by kernel_rfl) (by kernel_rfl) (by kernel_rfl) (fun _ _ _ h => h) (Or.inr ⟨by kernel_rfl, rfl⟩) (by assumption) ?_
      (try simp only [Act.put, List.getElem_toArray, List.getElem_cons_succ, List.getElem_cons_zero, List.setIfInBounds_toArray, List.set_cons_zero, List.set_cons_succ])
      refine wpAnyH_take (i := 18) (v := undef) rfl (by kernel_rfl) (by kernel_rfl) (by kernel_rfl) (fun _ _ _ h => h) (Or.inr ⟨by kernel_rfl, rfl⟩) (by assumption) ?_
      (try simp only [Act.put, List.getElem_toArray, List.getElem_cons_succ, List.getElem_cons_zero, List.setIfInBounds_toArray, List.set_cons_zero, List.set_cons_succ])
      refine wpAnyH_take (i := 19) (v := undef) rfl (by kernel_rfl) (by kernel_rfl) (by kernel_rfl) (fun _ _ _ h => h) (Or.inr ⟨by kernel_rfl, rfl⟩) (by assumption) ?_
      (try simp only [Act.put, List.getElem_toArray, List.getElem_cons_succ, List.getElem_cons_zero, List.setIfInBounds_toArray, List.set_cons_zero, List.set_cons_succ])
      refine wpAnyH_take (i := 20) (v := undef) rfl (by kernel_rfl) (by kernel_rfl) (by kernel_rfl) (fun _ _ _ h => h) (Or.inr ⟨by kernel_rfl, rfl⟩) (by assumption) ?_
      (try simp only [Act.put, List.getElem_toArray, List.getElem_cons_succ, List.getElem_cons_zero, List.setIfInBounds_toArray, List.set_cons_zero, List.set_cons_succ])
      refine wpAnyH_take (i := 21) (v := ?_) rfl (by kernel_rfl) (by kernel_rfl) (by kernel_rfl) (fun _ _ _ h => h) (Or.inl ⟨by kernel_rfl, ?_⟩) (by assumption) ?_
      rotate_left
      · (intro w hSw; (try dsimp only at hSw); go_simp; try (first | with_reducible rfl | (simp [*]; done) | (simp; omega)))
      (try simp only [Act.put, List.getElem_toArray, List.getElem_cons_succ, List.getElem_cons_zero, List.setIfInBounds_toArray, List.set_cons_zero, List.set_cons_succ])
      refine wpAnyH_done (by kernel_rfl) ?_ _
      go_wp2_with fail
      go_region_held3 (fun _ => True) (trivial) (first | (go_at_call 24; refine (HInv.out _).mono ?_; rintro e w2 ⟨v2, rfl, hO2, hG2⟩; have HO2 : Hid (Ints w2 v2 [] ∧ ∀ g, v2.ownBlock = some g → w.heap.size ≤ g) := ⟨hO2.ints, fun g hg => (hO2.fr.blk g hg).1⟩; have HG2 : Hid (w.grownBy w2 none) := (grownBy_undrew (grownBy_undrew hG2)); clear hO2 hG2) | fail)
      all_goals go_wp2_with fail
      all_goals (
        refine bodyPost_ret (results_tmp2 rfl _ _ _) rfl ?_
        refine ⟨0, ?_⟩
        refine ⟨_, _, ⟨fun k hk => by omega, by simp⟩, rfl, ?_, HO2.out.1, HG2.out, rfl, HO2.out.2⟩
        exact .inr (.inr ⟨rfl, _, rfl⟩))
end Go.Proofs.YthldipnfaiobaaaDoor
