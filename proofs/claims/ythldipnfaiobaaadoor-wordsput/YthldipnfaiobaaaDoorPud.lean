/-
  The document's glued and Put.
-/
import Derived.Test.YthldipnfaiobaaaDoorPua
import Derived.Test.YthldipnfaiobaaaDoorAlk
namespace Go.Proofs.YthldipnfaiobaaaDoor
open Go.RowKit Go.Lib Go.Sort
set_option linter.unusedVariables false
set_option linter.unusedSimpArgs false
set_option maxHeartbeats 3200000
set_option maxRecDepth 1000000
theorem Ints.tailN {w : World} {ab : Option Addr} {n c : Nat} {L : List Int} (h : Ints w (.slice ab n c) L) (hn : L.length = n) (i : Nat) (hi : i ≤ n) :
    (∀ B off, ab = some ⟨B, off, none⟩ → Ints w (.slice (some ⟨B, off + i, none⟩) (n - i) (c - i)) (L.drop i)) ∧ (i = n → ∀ a, Ints w (.slice (some a) 0 0) (L.drop i)) ∧ (i = n → Ints w (.slice none 0 0) (L.drop i)) := by
  subst hn
  refine ⟨fun B off e => ?_, fun e a => ?_, fun e => ?_⟩
  · subst e
    rcases Nat.lt_or_ge i L.length with h1 | h1
    · have hc : L.length ≤ c := by
        rcases h with ⟨e, _⟩ | ⟨B', off', c', e, hc, _⟩ | ⟨e, _⟩
        · cases e
        · obtain ⟨_, _, rfl⟩ := Value.slice.inj e
          exact hc
        · subst e; simp at h1
      have := h.sub i (L.length - i) (c - i) (by omega) (by omega)
      rwa [List.take_of_length_le (by rw [List.length_drop]; omega)] at this
    · rw [List.drop_eq_nil_of_le h1, show L.length - i = 0 by omega]
      exact Ints.zero w _ _ rfl
  · rw [List.drop_eq_nil_of_le (by omega)]
    exact .inr (.inr ⟨rfl, a, rfl⟩)
  · rw [List.drop_eq_nil_of_le (by omega)]
    exact .inl ⟨rfl, rfl⟩
theorem Ints.headN {w : World} {ab : Option Addr} {n c : Nat} {L : List Int} (h : Ints w (.slice ab n c) L) (k : Nat) (hk : k ≤ L.length) : Ints w (.slice ab k c) (L.take k) := by
  have hl : (L.take k).length = k := by simp [hk]
  rcases h with ⟨e, rfl⟩ | ⟨B, off, c', e, hc, hel⟩ | ⟨rfl, a, e⟩
  · obtain ⟨rfl, _, rfl⟩ := Value.slice.inj e
    obtain rfl : k = 0 := by simpa using hk
    exact .inl ⟨rfl, rfl⟩
  · obtain ⟨rfl, _, rfl⟩ := Value.slice.inj e
    refine .inr (.inl ⟨B, off, c, by rw [hl], by omega, fun j hj => ?_⟩)
    rw [hl] at hj
    rw [List.getElem?_take_of_lt hj]
    exact hel j (by omega)
  · obtain ⟨rfl, _, rfl⟩ := Value.slice.inj e
    obtain rfl : k = 0 := by simpa using hk
    exact .inr (.inr ⟨rfl, a, rfl⟩)
theorem glued_any (w : World) (v u : Value) (V U : List Int) (hV : Ints w v V) (hU : Ints w u U) (hl : V.length ≤ 1000000) (hl2 : U.length ≤ 1000000) (hVn : ∀ x ∈ V, noL x = false) (hUn : ∀ x ∈ U, noL x = false) (hVr : Red V) (hUr : Red U) :
    Calls Tryd.prog 75 #[v, u] w fun e w' => ∃ v', e = .returned v' ∧ Own w' w.heap.size v' (sh (V ++ U)) ∧ w.grownBy w' none := by
  have HV : Hid (Ints w v V) := hV
  have HU : Hid (Ints w u U) := hU
  have HRed : Hid (Red V ∧ Red U) := ⟨hVr, hUr⟩
  obtain ⟨ab, cv, rfl, HR⟩ := hV.reads
  obtain ⟨ab', cu, rfl, HR'⟩ := hU.reads
  have HR1 : Hid (∀ w', w.grownBy w' none → ∀ i, i < V.length → ∃ B off, ab = some ⟨B, off, none⟩ ∧ w'.cell? ⟨B, off + i, none⟩ = some (.int .i64 (V[i]?.getD 0)) ∧ V.length ≤ cv) := HR
  have HR2 : Hid (∀ w', w.grownBy w' none → ∀ i, i < U.length → ∃ B off, ab' = some ⟨B, off, none⟩ ∧ w'.cell? ⟨B, off + i, none⟩ = some (.int .i64 (U[i]?.getD 0)) ∧ U.length ≤ cu) := HR'
  have HLv : Hid (∀ j, j < V.length → -64 ≤ V[j]?.getD 0 ∧ V[j]?.getD 0 ≤ 64) := by
    intro j hj
    rw [List.getElem?_eq_getElem hj]
    have := noL_no (hVn _ (List.getElem_mem hj))
    simp only [Option.getD_some]
    omega
  have HLu : Hid (∀ j, j < U.length → -64 ≤ U[j]?.getD 0 ∧ U[j]?.getD 0 ≤ 64) := by
    intro j hj
    rw [List.getElem?_eq_getElem hj]
    have := noL_no (hUn _ (List.getElem_mem hj))
    simp only [Option.getD_some]
    omega
  obtain ⟨p, hp⟩ : ∃ p, V.length = p := ⟨_, rfl⟩
  obtain ⟨q, hq⟩ : ∃ q, U.length = q := ⟨_, rfl⟩
  have HN : Unit → V.length = p ∧ U.length = q := fun _ => ⟨hp, hq⟩
  rw [hp] at HR1 HLv HV ⊢
  rw [hq] at HR2 HLu HU ⊢
  have hpcv : p ≤ cv := by
    rcases HV.out with ⟨e, _⟩ | ⟨B, off, c, e, hc, _⟩ | ⟨_, a, e⟩
    · obtain ⟨_, e1, _⟩ := Value.slice.inj e
      omega
    · obtain ⟨_, e1, rfl⟩ := Value.slice.inj e
      omega
    · obtain ⟨_, e1, _⟩ := Value.slice.inj e
      omega
  have hqcu : q ≤ cu := by
    rcases HU.out with ⟨e, _⟩ | ⟨B, off, c, e, hc, _⟩ | ⟨_, a, e⟩
    · obtain ⟨_, e1, _⟩ := Value.slice.inj e
      omega
    · obtain ⟨_, e1, rfl⟩ := Value.slice.inj e
      omega
    · obtain ⟨_, e1, _⟩ := Value.slice.inj e
      omega
  have hpI : (p : Int) ≤ 1000000 := by omega
  have hqI : (q : Int) ≤ 1000000 := by omega
  clear HR HR' hV hU hl hl2 hVn hUn hp hq hVr hUr
  go_enter Tryd.func75, Tryd.ntmps75
  go_wp2_with fail
  go_loopw [5] (fun s wr => ∃ (i : Nat), s = .int .i64 i ∧ (i ≤ p ∧ i ≤ q ∧ ∀ k, k < i → k < V.length ∧ k < U.length ∧ V[V.length - 1 - k]?.getD 0 + U[k]?.getD 0 = 0) ∧ w.grownBy wr none) (fun s _ => match s with | .int _ i => p - i.toNat | _ => 0)
  case atStart => exact ⟨0, rfl, ⟨by omega, by omega, fun k hk => by omega⟩, grow0 _⟩
  case round =>
    obtain ⟨i, rfl, ⟨hip, hiq, hP⟩, hG⟩ := hrel
    have HP : Hid (∀ k, k < i → k < V.length ∧ k < U.length ∧ V[V.length - 1 - k]?.getD 0 + U[k]?.getD 0 = 0) := hP
    have HG : Hid (w.grownBy wr none) := hG
    clear hP hG
    by_cases h1 : i < p
    · have hd1 : decide (i < p) = true := by simpa using h1
      have h1I : (i : Int) < p := by omega
      by_cases h2 : i < q
      · have hd2 : decide (i < q) = true := by simpa using h2
        have h2I : (i : Int) < q := by omega
        obtain ⟨j, hj⟩ : ∃ j : Nat, p - 1 - i = j := ⟨_, rfl⟩
        have hjp : (j : Int) < p := by omega
        obtain ⟨B, off, rfl, c1, hpc⟩ := HR1.out wr HG.out j (by omega)
        obtain ⟨B2, off2, rfl, c2, hqc⟩ := HR2.out wr HG.out i h2
        have hwj : IntKind.i64.wrap (IntKind.i64.wrap ((p : Int) - 1) - i) = (j : Int) := by
          rw [IntKind.wrap_i64 ((p : Int) - 1), IntKind.wrap_i64]
          omega
        have b1 := HLv.out j (by omega)
        have b2 := HLu.out i h2
        have HS : Hid (∀ x y, V[j]?.getD 0 = x → U[i]?.getD 0 = y → (x + y = 0 → ∀ k, k < i + 1 → k < V.length ∧ k < U.length ∧ V[V.length - 1 - k]?.getD 0 + U[k]?.getD 0 = 0) ∧ (x + y ≠ 0 → Can V U i)) := by
          rintro x y rfl rfl
          refine ⟨fun e k hk => ?_, fun e => ⟨HP.out, fun h => e ?_⟩⟩
          · rcases Nat.lt_or_ge k i with h | h
            · exact HP.out k h
            · obtain rfl : k = i := by omega
              rw [(HN ()).1, (HN ()).2, hj]
              exact ⟨h1, h2, e⟩
          · have := h.2.2
            rwa [(HN ()).1, hj] at this
        obtain ⟨x, hx⟩ : ∃ x, V[j]?.getD 0 = x := ⟨_, rfl⟩
        obtain ⟨y, hy⟩ : ∃ y, U[i]?.getD 0 = y := ⟨_, rfl⟩
        have HS3 : Hid ((x + y = 0 → ∀ k, k < i + 1 → k < V.length ∧ k < U.length ∧ V[V.length - 1 - k]?.getD 0 + U[k]?.getD 0 = 0) ∧ (x + y ≠ 0 → Can V U i)) := HS.out x y hx hy
        rw [hx] at c1 b1
        rw [hy] at c2 b2
        clear hx hy hj
        obtain ⟨b3, b4⟩ := b1
        obtain ⟨b5, b6⟩ := b2
        by_cases hs : x + y = 0
        · have hsb : (x == IntKind.i64.wrap (-y)) = true := by rw [IntKind.wrap_i64]; simp; omega
          have HS4 : Hid (∀ k, k < i + 1 → k < V.length ∧ k < U.length ∧ V[V.length - 1 - k]?.getD 0 + U[k]?.getD 0 = 0) := HS3.out.1 hs
          clear hs
          go_wp2_with fail
          go_region_held3 (fun w' => w'.cell? ⟨B, off + j, none⟩ = some (Value.int .i64 x) ∧ w'.cell? ⟨B2, off2 + i, none⟩ = some (Value.int .i64 y)) (first | (go_keep; done) | fail) (fail)
          all_goals (
            go_wp2_with fail
            go_roundw
            case rel => exact ⟨i + 1, num_eq (by omega), ⟨by omega, by omega, HS4.out⟩, grow_drew HG.out⟩
            case measure => simp; omega)
        · have hsb : (x == IntKind.i64.wrap (-y)) = false := by rw [IntKind.wrap_i64]; simp; omega
          have HC : Hid (Can V U i) := HS3.out.2 hs
          clear hs
          go_wp2_with fail
          go_region_held3 (fun w' => w'.cell? ⟨B, off + j, none⟩ = some (Value.int .i64 x) ∧ w'.cell? ⟨B2, off2 + i, none⟩ = some (Value.int .i64 y)) (first | (go_keep; done) | fail) (fail)
          all_goals (
            have hle := HC.out.le
            rw [(HN ()).1, (HN ()).2] at hle
            obtain ⟨pc, hpc⟩ : ∃ pc, p - i = pc := ⟨_, rfl⟩
            have hwpc : IntKind.i64.wrap ((p : Int) - (i : Int)) = (pc : Int) := by
              rw [IntKind.wrap_i64]
              omega
            have hpcc : (pc : Int) ≤ cv := by omega
            have hpc0 : (0 : Int) ≤ pc := by omega
            have hi0 : (0 : Int) ≤ i := by omega
            have hiqI : (i : Int) ≤ q := by omega
            have hicu : (i : Int) ≤ cu := by omega
            have hqcuI : (q : Int) ≤ cu := by omega
            have HJ : Hid (∀ w3 s1 s2, w.grownBy w3 none → Ints w3 s1 (V.take pc) → Ints w3 s2 (U.drop i) → Calls Tryd.prog 59 #[.slice (some ⟨w3.heap.size, 0, none⟩) 2 2] (w3.alloc (.cells #[s1, s2] 22)) fun e w' => ∃ v', e = .returned v' ∧ Own w' w.heap.size v' (sh (V ++ U)) ∧ w.grownBy w' none) := by
              intro w3 s1 s2 hg h1 h2
              refine (rJoined_two w3 s1 s2 _ _ h1 h2 (by rw [List.length_append, List.length_take, List.length_drop, (HN ()).1, (HN ()).2]; omega)).mono ?_
              rintro e w' ⟨v', rfl, hO, hG'⟩
              have e2 : V.take pc ++ U.drop i = sh (V ++ U) := by
                have := can_glue HC.out HRed.out.1 HRed.out.2
                rwa [(HN ()).1, hpc] at this
              rw [e2] at hO
              exact ⟨v', rfl, hO.mono hg.size, grownBy_trans hg hG'⟩
            have HWay : (∃ B9 off9, (some ⟨B2, off2, none⟩ : Option Addr) = some ⟨B9, off9, none⟩ ∧ ¬ cu = i ∧ Hid (∀ w3, w.grownBy w3 none → Ints w3 (.slice (some ⟨B9, off9 + i, none⟩) (q - i) (cu - i)) (U.drop i))) ∨ (∃ a9, (some ⟨B2, off2, none⟩ : Option Addr) = some a9 ∧ cu = i ∧ i = q ∧ Hid (∀ w3, w.grownBy w3 none → Ints w3 (.slice (some a9) 0 0) (U.drop i))) ∨ ((some ⟨B2, off2, none⟩ : Option Addr) = none ∧ q = 0 ∧ cu = 0 ∧ i = 0 ∧ Hid (∀ w3, w.grownBy w3 none → Ints w3 (.slice none 0 0) (U.drop i))) := by
              have ht := fun w3 (hg : w.grownBy w3 none) => (HU.out.kept hg).tailN (HN ()).2 i hle.2
              rcases HU.out with ⟨e, e2⟩ | ⟨B9, off9, c9, e, _, _⟩ | ⟨e2, a9, e⟩
              · obtain ⟨e3, e4, e5⟩ := Value.slice.inj e
                exact .inr (.inr ⟨e3, e4, e5, by omega, fun w3 hg => (ht w3 hg).2.2 (by omega)⟩)
              · obtain ⟨e3, e4, e5⟩ := Value.slice.inj e
                by_cases h8 : cu = i
                · exact .inr (.inl ⟨_, e3, h8, by omega, fun w3 hg => (ht w3 hg).2.1 (by omega) _⟩)
                · exact .inl ⟨B9, off9, e3, h8, fun w3 hg => (ht w3 hg).1 B9 off9 e3⟩
              · obtain ⟨e3, e4, e5⟩ := Value.slice.inj e
                exact .inr (.inl ⟨a9, e3, by omega, by omega, fun w3 hg => (ht w3 hg).2.1 (by omega) a9⟩)
            have HV1 : Hid (∀ w3, w.grownBy w3 none → Ints w3 (.slice (some ⟨B, off, none⟩) pc cv) (V.take pc)) := fun w3 hg => (HV.out.kept hg).headN pc (by rw [(HN ()).1]; omega)
            clear HS3 HR1 HR2 HLv HLu HU HV HRed
            rcases HWay with ⟨B9, off9, e9, h8, HU2⟩ | ⟨a9, e9, h8, h7, HU2⟩ | ⟨e9, h6, h8, h7, HU2⟩
            all_goals cases e9
            all_goals try subst h7
            all_goals try subst h8
            all_goals try subst h6
            all_goals have hwp : IntKind.i64.wrap (p : Int) = (p : Int) := by rw [IntKind.wrap_i64]; omega
            all_goals try (have hpc9 : p = pc := by omega; subst hpc9)
            all_goals (
              go_wp2_with fail
              go_region_held3 (fun _ => True) (trivial) (first
                | (go_at_call 59; refine (HJ.out _ _ _ (grow_drew (grow_drew HG.out)) (HV1.out _ (grow_drew (grow_drew HG.out))) (HU2.out _ (grow_drew (grow_drew HG.out)))).mono ?_; rintro e w9 ⟨v9, rfl, hO9, hG9⟩; have HO9 : Hid (Own w9 w.heap.size v9 (sh (V ++ U))) := hO9; have HG9 : Hid (w.grownBy w9 none) := hG9; clear hO9 hG9)
                | fail)
              all_goals (
                go_wp2_with fail
                go_ret
                exact ⟨_, rfl, HO9.out, HG9.out⟩)))
      · have HC : Hid (Can V U i) := ⟨HP.out, fun h => h2 (by rw [← (HN ()).2]; exact h.2.1)⟩
        have hd2 : decide (i < q) = false := by simpa using h2
        have h2I : ¬ (i : Int) < q := by omega
        go_wp2_with fail
        refine wp_region_held_drew (S := fun _ => True) (by kernel_rfl) (trivial) (fun hHeld => ?_)
        refine wpAnyH_take (i := 0) (v := ?_) rfl (by kernel_rfl) (by kernel_rfl) (by kernel_rfl) (fun _ _ _ h => h) (Or.inl ⟨by kernel_rfl, ?_⟩) (by assumption) ?_
        rotate_left
        · (intro w hSw; (try dsimp only at hSw); go_simp; try (first | with_reducible rfl | (simp [*]; done) | (simp; omega)))
        (try simp only [Act.put, List.getElem_toArray, List.getElem_cons_succ, List.getElem_cons_zero, List.setIfInBounds_toArray, List.set_cons_zero, List.set_cons_succ])
        refine wpAnyH_take (i := 1) (v := ?_) rfl (by kernel_rfl) (by kernel_rfl) (by kernel_rfl) (fun _ _ _ h => h) (Or.inl ⟨by kernel_rfl, ?_⟩) (by assumption) ?_
        rotate_left
        · (intro w hSw; (try dsimp only at hSw); go_simp; try (first | with_reducible rfl | (simp [*]; done) | (simp; omega)))
        (try simp only [Act.put, List.getElem_toArray, List.getElem_cons_succ, List.getElem_cons_zero, List.setIfInBounds_toArray, List.set_cons_zero, List.set_cons_succ])
        refine wpAnyH_take (i := 2) (v := ?_) rfl (by kernel_rfl) (by kernel_rfl) (by kernel_rfl) (fun _ _ _ h => h) (Or.inl ⟨by kernel_rfl, ?_⟩) (by assumption) ?_
        rotate_left
        · (intro w hSw; (try dsimp only at hSw); go_simp; try (first | with_reducible rfl | (simp [*]; done) | (simp; omega)))
        (try simp only [Act.put, List.getElem_toArray, List.getElem_cons_succ, List.getElem_cons_zero, List.setIfInBounds_toArray, List.set_cons_zero, List.set_cons_succ])
        refine wpAnyH_take (i := 3) (v := .bool true) rfl (by kernel_rfl) (by kernel_rfl) (by kernel_rfl) (fun _ _ _ h => h) (Or.inl ⟨by kernel_rfl, ?_⟩) (by assumption) ?_
        · (intro w hSw; (try dsimp only at hSw); go_simp; try (first | with_reducible rfl | (simp [*]; done) | (simp; omega)))
        (try simp only [Act.put, List.getElem_toArray, List.getElem_cons_succ, List.getElem_cons_zero, List.setIfInBounds_toArray, List.set_cons_zero, List.set_cons_succ])
        refine wpAnyH_take (i := 4) (v := ?_) rfl (by kernel_rfl) (by kernel_rfl) (by kernel_rfl) (fun _ _ _ h => h) (Or.inl ⟨by kernel_rfl, ?_⟩) (by assumption) ?_
        rotate_left
        · (intro w hSw; (try dsimp only at hSw); go_simp; try (first | with_reducible rfl | (simp [*]; done) | (simp; omega)))
        (try simp only [Act.put, List.getElem_toArray, List.getElem_cons_succ, List.getElem_cons_zero, List.setIfInBounds_toArray, List.set_cons_zero, List.set_cons_succ])
        refine wpAnyH_take (i := 5) (v := ?_) rfl (by kernel_rfl) (by kernel_rfl) (by kernel_rfl) (fun _ _ _ h => h) (Or.inl ⟨by kernel_rfl, ?_⟩) (by assumption) ?_
        rotate_left
        · (intro w hSw; (try dsimp only at hSw); go_simp; try (first | with_reducible rfl | (simp [*]; done) | (simp; omega)))
        (try simp only [Act.put, List.getElem_toArray, List.getElem_cons_succ, List.getElem_cons_zero, List.setIfInBounds_toArray, List.set_cons_zero, List.set_cons_succ])
        refine wpAnyH_take (i := 6) (v := ?_) rfl (by kernel_rfl) (by kernel_rfl) (by kernel_rfl) (fun _ _ _ h => h) (Or.inl ⟨by kernel_rfl, ?_⟩) (by assumption) ?_
        rotate_left
        · (intro w hSw; (try dsimp only at hSw); go_simp; try (first | with_reducible rfl | (simp [*]; done) | (simp; omega)))
        (try simp only [Act.put, List.getElem_toArray, List.getElem_cons_succ, List.getElem_cons_zero, List.setIfInBounds_toArray, List.set_cons_zero, List.set_cons_succ])
        refine wpAnyH_take (i := 7) (v := ?_) rfl (by kernel_rfl) (by kernel_rfl) (by kernel_rfl) (fun _ _ _ h => h) (Or.inl ⟨by kernel_rfl, ?_⟩) (by assumption) ?_
        rotate_left
        · (intro w hSw; (try dsimp only at hSw); go_simp; try (first | with_reducible rfl | (simp [*]; done) | (simp; omega)))
        (try simp only [Act.put, List.getElem_toArray, List.getElem_cons_succ, List.getElem_cons_zero, List.setIfInBounds_toArray, List.set_cons_zero, List.set_cons_succ])
        refine wpAnyH_take (i := 8) (v := .bool false) rfl (by kernel_rfl) (by kernel_rfl) (by kernel_rfl) (fun _ _ _ h => h) (Or.inl ⟨by kernel_rfl, ?_⟩) (by assumption) ?_
        · (intro w hSw; (try dsimp only at hSw); go_simp; try (first | with_reducible rfl | (simp [*]; done) | (simp; omega)))
        (try simp only [Act.put, List.getElem_toArray, List.getElem_cons_succ, List.getElem_cons_zero, List.setIfInBounds_toArray, List.set_cons_zero, List.set_cons_succ])
        refine wpAnyH_take (i := 9) (v := ?_) rfl (by kernel_rfl) (by kernel_rfl) (by kernel_rfl) (fun _ _ _ h => h) (Or.inl ⟨by kernel_rfl, ?_⟩) (by assumption) ?_
        rotate_left
        · (intro w hSw; (try dsimp only at hSw); go_simp; try (first | with_reducible rfl | (simp [*]; done) | (simp; omega)))
        (try simp only [Act.put, List.getElem_toArray, List.getElem_cons_succ, List.getElem_cons_zero, List.setIfInBounds_toArray, List.set_cons_zero, List.set_cons_succ])
        refine wpAnyH_take (i := 10) (v := ?_) rfl (by kernel_rfl) (by kernel_rfl) (by kernel_rfl) (fun _ _ _ h => h) (Or.inl ⟨by kernel_rfl, ?_⟩) (by assumption) ?_
        rotate_left
        · (intro w hSw; (try dsimp only at hSw); go_simp; try (first | with_reducible rfl | (simp [*]; done) | (simp; omega)))
        (try simp only [Act.put, List.getElem_toArray, List.getElem_cons_succ, List.getElem_cons_zero, List.setIfInBounds_toArray, List.set_cons_zero, List.set_cons_succ])
        refine wpAnyH_take (i := 11) (v := undef) rfl (by kernel_rfl) (by kernel_rfl) (by kernel_rfl) (fun _ _ _ h => h) (Or.inr ⟨by kernel_rfl, rfl⟩) (by assumption) ?_
        (try simp only [Act.put, List.getElem_toArray, List.getElem_cons_succ, List.getElem_cons_zero, List.setIfInBounds_toArray, List.set_cons_zero, List.set_cons_succ])
        refine wpAnyH_take (i := 12) (v := undef) rfl (by kernel_rfl) (by kernel_rfl) (by kernel_rfl) (fun _ _ _ h => h) (Or.inr ⟨by kernel_rfl, rfl⟩) (by assumption) ?_
        (try simp only [Act.put, List.getElem_toArray, List.getElem_cons_succ, List.getElem_cons_zero, List.setIfInBounds_toArray, List.set_cons_zero, List.set_cons_succ])
        refine wpAnyH_take (i := 13) (v := undef) rfl (by kernel_rfl) (by kernel_rfl) (by kernel_rfl) (fun _ _ _ h => h) (Or.inr ⟨by kernel_rfl, rfl⟩) (by assumption) ?_
        (try simp only [Act.put, List.getElem_toArray, List.getElem_cons_succ, List.getElem_cons_zero, List.setIfInBounds_toArray, List.set_cons_zero, List.set_cons_succ])
        refine wpAnyH_take (i := 14) (v := undef) rfl (by kernel_rfl) (by kernel_rfl) (by kernel_rfl) (fun _ _ _ h => h) (Or.inr ⟨by kernel_rfl, rfl⟩) (by assumption) ?_
        (try simp only [Act.put, List.getElem_toArray, List.getElem_cons_succ, List.getElem_cons_zero, List.setIfInBounds_toArray, List.set_cons_zero, List.set_cons_succ])
        refine wpAnyH_take (i := 15) (v := undef) rfl (by kernel_rfl) (by kernel_rfl) (by kernel_rfl) (fun _ _ _ h => h) (Or.inr ⟨by kernel_rfl, rfl⟩) (by assumption) ?_
        (try simp only [Act.put, List.getElem_toArray, List.getElem_cons_succ, List.getElem_cons_zero, List.setIfInBounds_toArray, List.set_cons_zero, List.set_cons_succ])
        refine wpAnyH_take (i := 16) (v := undef) rfl (by kernel_rfl) (by kernel_rfl) (by kernel_rfl) (fun _ _ _ h => h) (Or.inr ⟨by kernel_rfl, rfl⟩) (by assumption) ?_
        (try simp only [Act.put, List.getElem_toArray, List.getElem_cons_succ, List.getElem_cons_zero, List.setIfInBounds_toArray, List.set_cons_zero, List.set_cons_succ])
        refine wpAnyH_take (i := 17) (v := undef) rfl (by kernel_rfl) (by kernel_rfl) (by kernel_rfl) (fun _ _ _ h => h) (Or.inr ⟨by kernel_rfl, rfl⟩) (by assumption) ?_
        (try simp only [Act.put, List.getElem_toArray, List.getElem_cons_succ, List.getElem_cons_zero, List.setIfInBounds_toArray, List.set_cons_zero, List.set_cons_succ])
        refine wpAnyH_take (i := 18) (v := undef) rfl (by kernel_rfl) (by kernel_rfl) (by kernel_rfl) (fun _ _ _ h => h) (Or.inr ⟨by kernel_rfl, rfl⟩) (by assumption) ?_
        (try simp only [Act.put, List.getElem_toArray, List.getElem_cons_succ, List.getElem_cons_zero, List.setIfInBounds_toArray, List.set_cons_zero, List.set_cons_succ])
        refine wpAnyH_take (i := 19) (v := undef) rfl (by kernel_rfl) (by kernel_rfl) (by kernel_rfl) (fun _ _ _ h => h) (Or.inr ⟨by kernel_rfl, rfl⟩) (by assumption) ?_
        (try simp only [Act.put, List.getElem_toArray, List.getElem_cons_succ, List.getElem_cons_zero, List.setIfInBounds_toArray, List.set_cons_zero, List.set_cons_succ])
        refine wpAnyH_take (i := 20) (v := undef) rfl (by kernel_rfl) (by kernel_rfl) (by kernel_rfl) (fun _ _ _ h => h) (Or.inr ⟨by kernel_rfl, rfl⟩) (by assumption) ?_
        (try simp only [Act.put, List.getElem_toArray, List.getElem_cons_succ, List.getElem_cons_zero, List.setIfInBounds_toArray, List.set_cons_zero, List.set_cons_succ])
        refine wpAnyH_take (i := 21) (v := undef) rfl (by kernel_rfl) (by kernel_rfl) (by kernel_rfl) (fun _ _ _ h => h) (Or.inr ⟨by kernel_rfl, rfl⟩) (by assumption) ?_
        (try simp only [Act.put, List.getElem_toArray, List.getElem_cons_succ, List.getElem_cons_zero, List.setIfInBounds_toArray, List.set_cons_zero, List.set_cons_succ])
        refine wpAnyH_take (i := 22) (v := undef) rfl (by kernel_rfl) (by kernel_rfl) (by kernel_rfl) (fun _ _ _ h => h) (Or.inr ⟨by kernel_rfl, rfl⟩) (by assumption) ?_
        (try simp only [Act.put, List.getElem_toArray, List.getElem_cons_succ, List.getElem_cons_zero, List.setIfInBounds_toArray, List.set_cons_zero, List.set_cons_succ])
        refine wpAnyH_take (i := 23) (v := undef) rfl (by kernel_rfl) (by kernel_rfl) (by kernel_rfl) (fun _ _ _ h => h) (Or.inr ⟨by kernel_rfl, rfl⟩) (by assumption) ?_
        (try simp only [Act.put, List.getElem_toArray, List.getElem_cons_succ, List.getElem_cons_zero, List.setIfInBounds_toArray, List.set_cons_zero, List.set_cons_succ])
        refine wpAnyH_take (i := 24) (v := undef) rfl (by kernel_rfl) (by kernel_rfl) (by kernel_rfl) (fun _ _ _ h => h) (Or.inr ⟨by kernel_rfl, rfl⟩) (by assumption) ?_
        (try simp only [Act.put, List.getElem_toArray, List.getElem_cons_succ, List.getElem_cons_zero, List.setIfInBounds_toArray, List.set_cons_zero, List.set_cons_succ])
        refine wpAnyH_take (i := 25) (v := ?_) rfl (by kernel_rfl) (by kernel_rfl) (by kernel_rfl) (fun _ _ _ h => h) (Or.inl ⟨by kernel_rfl, ?_⟩) (by assumption) ?_
        rotate_left
        · (intro w hSw; (try dsimp only at hSw); go_simp; try (first | with_reducible rfl | (simp [*]; done) | (simp; omega)))
        (try simp only [Act.put, List.getElem_toArray, List.getElem_cons_succ, List.getElem_cons_zero, List.setIfInBounds_toArray, List.set_cons_zero, List.set_cons_succ])
        refine wpAnyH_done (by kernel_rfl) ?_ _
        have hle := HC.out.le
        rw [(HN ()).1, (HN ()).2] at hle
        obtain ⟨pc, hpc⟩ : ∃ pc, p - i = pc := ⟨_, rfl⟩
        have hwpc : IntKind.i64.wrap ((p : Int) - (i : Int)) = (pc : Int) := by
          rw [IntKind.wrap_i64]
          omega
        have hpcc : (pc : Int) ≤ cv := by omega
        have hpc0 : (0 : Int) ≤ pc := by omega
        have hi0 : (0 : Int) ≤ i := by omega
        have hiqI : (i : Int) ≤ q := by omega
        have hicu : (i : Int) ≤ cu := by omega
        have hqcuI : (q : Int) ≤ cu := by omega
        have HJ : Hid (∀ w3 s1 s2, w.grownBy w3 none → Ints w3 s1 (V.take pc) → Ints w3 s2 (U.drop i) → Calls Tryd.prog 59 #[.slice (some ⟨w3.heap.size, 0, none⟩) 2 2] (w3.alloc (.cells #[s1, s2] 22)) fun e w' => ∃ v', e = .returned v' ∧ Own w' w.heap.size v' (sh (V ++ U)) ∧ w.grownBy w' none) := by
          intro w3 s1 s2 hg h1 h2
          refine (rJoined_two w3 s1 s2 _ _ h1 h2 (by rw [List.length_append, List.length_take, List.length_drop, (HN ()).1, (HN ()).2]; omega)).mono ?_
          rintro e w' ⟨v', rfl, hO, hG'⟩
          have e2 : V.take pc ++ U.drop i = sh (V ++ U) := by
            have := can_glue HC.out HRed.out.1 HRed.out.2
            rwa [(HN ()).1, hpc] at this
          rw [e2] at hO
          exact ⟨v', rfl, hO.mono hg.size, grownBy_trans hg hG'⟩
        have HWay : (∃ B9 off9, ab' = some ⟨B9, off9, none⟩ ∧ ¬ cu = i ∧ Hid (∀ w3, w.grownBy w3 none → Ints w3 (.slice (some ⟨B9, off9 + i, none⟩) (q - i) (cu - i)) (U.drop i))) ∨ (∃ a9, ab' = some a9 ∧ cu = i ∧ i = q ∧ Hid (∀ w3, w.grownBy w3 none → Ints w3 (.slice (some a9) 0 0) (U.drop i))) ∨ (ab' = none ∧ q = 0 ∧ cu = 0 ∧ i = 0 ∧ Hid (∀ w3, w.grownBy w3 none → Ints w3 (.slice none 0 0) (U.drop i))) := by
          have ht := fun w3 (hg : w.grownBy w3 none) => (HU.out.kept hg).tailN (HN ()).2 i hle.2
          rcases HU.out with ⟨e, e2⟩ | ⟨B9, off9, c9, e, _, _⟩ | ⟨e2, a9, e⟩
          · obtain ⟨e3, e4, e5⟩ := Value.slice.inj e
            exact .inr (.inr ⟨e3, e4, e5, by omega, fun w3 hg => (ht w3 hg).2.2 (by omega)⟩)
          · obtain ⟨e3, e4, e5⟩ := Value.slice.inj e
            by_cases h8 : cu = i
            · exact .inr (.inl ⟨_, e3, h8, by omega, fun w3 hg => (ht w3 hg).2.1 (by omega) _⟩)
            · exact .inl ⟨B9, off9, e3, h8, fun w3 hg => (ht w3 hg).1 B9 off9 e3⟩
          · obtain ⟨e3, e4, e5⟩ := Value.slice.inj e
            exact .inr (.inl ⟨a9, e3, by omega, by omega, fun w3 hg => (ht w3 hg).2.1 (by omega) a9⟩)
        have HV1 : Hid (∀ w3, w.grownBy w3 none → Ints w3 (.slice ab pc cv) (V.take pc)) := fun w3 hg => (HV.out.kept hg).headN pc (by rw [(HN ()).1]; omega)
        clear HR1 HR2 HLv HLu HU HV HRed
        rcases HWay with ⟨B9, off9, e9, h8, HU2⟩ | ⟨a9, e9, h8, h7, HU2⟩ | ⟨e9, h6, h8, h7, HU2⟩
        all_goals cases e9
        all_goals try subst h7
        all_goals try subst h8
        all_goals try subst h6
        all_goals have hwp : IntKind.i64.wrap (p : Int) = (p : Int) := by rw [IntKind.wrap_i64]; omega
        all_goals try (have hpc9 : p = pc := by omega; subst hpc9)
        all_goals (
          go_wp2_with fail
          go_region_held3 (fun _ => True) (trivial) (first
            | (go_at_call 59; refine (HJ.out _ _ _ (grow_drew (grow_drew HG.out)) (HV1.out _ (grow_drew (grow_drew HG.out))) (HU2.out _ (grow_drew (grow_drew HG.out)))).mono ?_; rintro e w9 ⟨v9, rfl, hO9, hG9⟩; have HO9 : Hid (Own w9 w.heap.size v9 (sh (V ++ U))) := hO9; have HG9 : Hid (w.grownBy w9 none) := hG9; clear hO9 hG9)
            | fail)
          all_goals (
            go_wp2_with fail
            go_ret
            exact ⟨_, rfl, HO9.out, HG9.out⟩))
    · have HC : Hid (Can V U i) := ⟨HP.out, fun h => h1 (by rw [← (HN ()).1]; exact h.1)⟩
      have hd1 : decide (i < p) = false := by simpa using h1
      have h1I : ¬ (i : Int) < p := by omega
      go_wp2_with fail
      refine wp_region_held_drew (S := fun _ => True) (by kernel_rfl) (trivial) (fun hHeld => ?_)
      refine wpAnyH_take (i := 0) (v := ?_) rfl (by kernel_rfl) (by kernel_rfl) (by kernel_rfl) (fun _ _ _ h => h) (Or.inl ⟨by kernel_rfl, ?_⟩) (by assumption) ?_
      rotate_left
      · (intro w hSw; (try dsimp only at hSw); go_simp; try (first | with_reducible rfl | (simp [*]; done) | (simp; omega)))
      (try simp only [Act.put, List.getElem_toArray, List.getElem_cons_succ, List.getElem_cons_zero, List.setIfInBounds_toArray, List.set_cons_zero, List.set_cons_succ])
      refine wpAnyH_take (i := 1) (v := ?_) rfl (by kernel_rfl) (by kernel_rfl) (by kernel_rfl) (fun _ _ _ h => h) (Or.inl ⟨by kernel_rfl, ?_⟩) (by assumption) ?_
      rotate_left
      · (intro w hSw; (try dsimp only at hSw); go_simp; try (first | with_reducible rfl | (simp [*]; done) | (simp; omega)))
      (try simp only [Act.put, List.getElem_toArray, List.getElem_cons_succ, List.getElem_cons_zero, List.setIfInBounds_toArray, List.set_cons_zero, List.set_cons_succ])
      refine wpAnyH_take (i := 2) (v := ?_) rfl (by kernel_rfl) (by kernel_rfl) (by kernel_rfl) (fun _ _ _ h => h) (Or.inl ⟨by kernel_rfl, ?_⟩) (by assumption) ?_
      rotate_left
      · (intro w hSw; (try dsimp only at hSw); go_simp; try (first | with_reducible rfl | (simp [*]; done) | (simp; omega)))
      (try simp only [Act.put, List.getElem_toArray, List.getElem_cons_succ, List.getElem_cons_zero, List.setIfInBounds_toArray, List.set_cons_zero, List.set_cons_succ])
      refine wpAnyH_take (i := 3) (v := .bool false) rfl (by kernel_rfl) (by kernel_rfl) (by kernel_rfl) (fun _ _ _ h => h) (Or.inl ⟨by kernel_rfl, ?_⟩) (by assumption) ?_
      · (intro w hSw; (try dsimp only at hSw); go_simp; try (first | with_reducible rfl | (simp [*]; done) | (simp; omega)))
      (try simp only [Act.put, List.getElem_toArray, List.getElem_cons_succ, List.getElem_cons_zero, List.setIfInBounds_toArray, List.set_cons_zero, List.set_cons_succ])
      refine wpAnyH_take (i := 4) (v := ?_) rfl (by kernel_rfl) (by kernel_rfl) (by kernel_rfl) (fun _ _ _ h => h) (Or.inl ⟨by kernel_rfl, ?_⟩) (by assumption) ?_
      rotate_left
      · (intro w hSw; (try dsimp only at hSw); go_simp; try (first | with_reducible rfl | (simp [*]; done) | (simp; omega)))
      (try simp only [Act.put, List.getElem_toArray, List.getElem_cons_succ, List.getElem_cons_zero, List.setIfInBounds_toArray, List.set_cons_zero, List.set_cons_succ])
      refine wpAnyH_take (i := 5) (v := undef) rfl (by kernel_rfl) (by kernel_rfl) (by kernel_rfl) (fun _ _ _ h => h) (Or.inr ⟨by kernel_rfl, rfl⟩) (by assumption) ?_
      (try simp only [Act.put, List.getElem_toArray, List.getElem_cons_succ, List.getElem_cons_zero, List.setIfInBounds_toArray, List.set_cons_zero, List.set_cons_succ])
      refine wpAnyH_take (i := 6) (v := undef) rfl (by kernel_rfl) (by kernel_rfl) (by kernel_rfl) (fun _ _ _ h => h) (Or.inr ⟨by kernel_rfl, rfl⟩) (by assumption) ?_
      (try simp only [Act.put, List.getElem_toArray, List.getElem_cons_succ, List.getElem_cons_zero, List.setIfInBounds_toArray, List.set_cons_zero, List.set_cons_succ])
      refine wpAnyH_take (i := 7) (v := undef) rfl (by kernel_rfl) (by kernel_rfl) (by kernel_rfl) (fun _ _ _ h => h) (Or.inr ⟨by kernel_rfl, rfl⟩) (by assumption) ?_
      (try simp only [Act.put, List.getElem_toArray, List.getElem_cons_succ, List.getElem_cons_zero, List.setIfInBounds_toArray, List.set_cons_zero, List.set_cons_succ])
      refine wpAnyH_take (i := 8) (v := undef) rfl (by kernel_rfl) (by kernel_rfl) (by kernel_rfl) (fun _ _ _ h => h) (Or.inr ⟨by kernel_rfl, rfl⟩) (by assumption) ?_
      (try simp only [Act.put, List.getElem_toArray, List.getElem_cons_succ, List.getElem_cons_zero, List.setIfInBounds_toArray, List.set_cons_zero, List.set_cons_succ])
      refine wpAnyH_take (i := 9) (v := ?_) rfl (by kernel_rfl) (by kernel_rfl) (by kernel_rfl) (fun _ _ _ h => h) (Or.inl ⟨by kernel_rfl, ?_⟩) (by assumption) ?_
      rotate_left
      · (intro w hSw; (try dsimp only at hSw); go_simp; try (first | with_reducible rfl | (simp [*]; done) | (simp; omega)))
      (try simp only [Act.put, List.getElem_toArray, List.getElem_cons_succ, List.getElem_cons_zero, List.setIfInBounds_toArray, List.set_cons_zero, List.set_cons_succ])
      refine wpAnyH_take (i := 10) (v := ?_) rfl (by kernel_rfl) (by kernel_rfl) (by kernel_rfl) (fun _ _ _ h => h) (Or.inl ⟨by kernel_rfl, ?_⟩) (by assumption) ?_
      rotate_left
      · (intro w hSw; (try dsimp only at hSw); go_simp; try (first | with_reducible rfl | (simp [*]; done) | (simp; omega)))
      (try simp only [Act.put, List.getElem_toArray, List.getElem_cons_succ, List.getElem_cons_zero, List.setIfInBounds_toArray, List.set_cons_zero, List.set_cons_succ])
      refine wpAnyH_take (i := 11) (v := undef) rfl (by kernel_rfl) (by kernel_rfl) (by kernel_rfl) (fun _ _ _ h => h) (Or.inr ⟨by kernel_rfl, rfl⟩) (by assumption) ?_
      (try simp only [Act.put, List.getElem_toArray, List.getElem_cons_succ, List.getElem_cons_zero, List.setIfInBounds_toArray, List.set_cons_zero, List.set_cons_succ])
      refine wpAnyH_take (i := 12) (v := undef) rfl (by kernel_rfl) (by kernel_rfl) (by kernel_rfl) (fun _ _ _ h => h) (Or.inr ⟨by kernel_rfl, rfl⟩) (by assumption) ?_
      (try simp only [Act.put, List.getElem_toArray, List.getElem_cons_succ, List.getElem_cons_zero, List.setIfInBounds_toArray, List.set_cons_zero, List.set_cons_succ])
      refine wpAnyH_take (i := 13) (v := undef) rfl (by kernel_rfl) (by kernel_rfl) (by kernel_rfl) (fun _ _ _ h => h) (Or.inr ⟨by kernel_rfl, rfl⟩) (by assumption) ?_
      (try simp only [Act.put, List.getElem_toArray, List.getElem_cons_succ, List.getElem_cons_zero, List.setIfInBounds_toArray, List.set_cons_zero, List.set_cons_succ])
      refine wpAnyH_take (i := 14) (v := undef) rfl (by kernel_rfl) (by kernel_rfl) (by kernel_rfl) (fun _ _ _ h => h) (Or.inr ⟨by kernel_rfl, rfl⟩) (by assumption) ?_
      (try simp only [Act.put, List.getElem_toArray, List.getElem_cons_succ, List.getElem_cons_zero, List.setIfInBounds_toArray, List.set_cons_zero, List.set_cons_succ])
      refine wpAnyH_take (i := 15) (v := undef) rfl (by kernel_rfl) (by kernel_rfl) (by kernel_rfl) (fun _ _ _ h => h) (Or.inr ⟨by kernel_rfl, rfl⟩) (by assumption) ?_
      (try simp only [Act.put, List.getElem_toArray, List.getElem_cons_succ, List.getElem_cons_zero, List.setIfInBounds_toArray, List.set_cons_zero, List.set_cons_succ])
      refine wpAnyH_take (i := 16) (v := undef) rfl (by kernel_rfl) (by kernel_rfl) (by kernel_rfl) (fun _ _ _ h => h) (Or.inr ⟨by kernel_rfl, rfl⟩) (by assumption) ?_
      (try simp only [Act.put, List.getElem_toArray, List.getElem_cons_succ, List.getElem_cons_zero, List.setIfInBounds_toArray, List.set_cons_zero, List.set_cons_succ])
      refine wpAnyH_take (i := 17) (v := undef) rfl (by kernel_rfl) (by kernel_rfl) (by kernel_rfl) (fun _ _ _ h => h) (Or.inr ⟨by kernel_rfl, rfl⟩) (by assumption) ?_
      (try simp only [Act.put, List.getElem_toArray, List.getElem_cons_succ, List.getElem_cons_zero, List.setIfInBounds_toArray, List.set_cons_zero, List.set_cons_succ])
      refine wpAnyH_take (i := 18) (v := undef) rfl (by kernel_rfl) (by kernel_rfl) (by kernel_rfl) (fun _ _ _ h => h) (Or.inr ⟨by kernel_rfl, rfl⟩) (by assumption) ?_
      (try simp only [Act.put, List.getElem_toArray, List.getElem_cons_succ, List.getElem_cons_zero, List.setIfInBounds_toArray, List.set_cons_zero, List.set_cons_succ])
      refine wpAnyH_take (i := 19) (v := undef) rfl (by kernel_rfl) (by kernel_rfl) (by kernel_rfl) (fun _ _ _ h => h) (Or.inr ⟨by kernel_rfl, rfl⟩) (by assumption) ?_
      (try simp only [Act.put, List.getElem_toArray, List.getElem_cons_succ, List.getElem_cons_zero, List.setIfInBounds_toArray, List.set_cons_zero, List.set_cons_succ])
      refine wpAnyH_take (i := 20) (v := undef) rfl (by kernel_rfl) (by kernel_rfl) (by kernel_rfl) (fun _ _ _ h => h) (Or.inr ⟨by kernel_rfl, rfl⟩) (by assumption) ?_
      (try simp only [Act.put, List.getElem_toArray, List.getElem_cons_succ, List.getElem_cons_zero, List.setIfInBounds_toArray, List.set_cons_zero, List.set_cons_succ])
      refine wpAnyH_take (i := 21) (v := undef) rfl (by kernel_rfl) (by kernel_rfl) (by kernel_rfl) (fun _ _ _ h => h) (Or.inr ⟨by kernel_rfl, rfl⟩) (by assumption) ?_
      (try simp only [Act.put, List.getElem_toArray, List.getElem_cons_succ, List.getElem_cons_zero, List.setIfInBounds_toArray, List.set_cons_zero, List.set_cons_succ])
      refine wpAnyH_take (i := 22) (v := undef) rfl (by kernel_rfl) (by kernel_rfl) (by kernel_rfl) (fun _ _ _ h => h) (Or.inr ⟨by kernel_rfl, rfl⟩) (by assumption) ?_
      (try simp only [Act.put, List.getElem_toArray, List.getElem_cons_succ, List.getElem_cons_zero, List.setIfInBounds_toArray, List.set_cons_zero, List.set_cons_succ])
      refine wpAnyH_take (i := 23) (v := undef) rfl (by kernel_rfl) (by kernel_rfl) (by kernel_rfl) (fun _ _ _ h => h) (Or.inr ⟨by kernel_rfl, rfl⟩) (by assumption) ?_
      (try simp only [Act.put, List.getElem_toArray, List.getElem_cons_succ, List.getElem_cons_zero, List.setIfInBounds_toArray, List.set_cons_zero, List.set_cons_succ])
      refine wpAnyH_take (i := 24) (v := undef) rfl (by kernel_rfl) (by kernel_rfl) (by kernel_rfl) (fun _ _ _ h => h) (Or.inr ⟨by kernel_rfl, rfl⟩) (by assumption) ?_
      (try simp only [Act.put, List.getElem_toArray, List.getElem_cons_succ, List.getElem_cons_zero, List.setIfInBounds_toArray, List.set_cons_zero, List.set_cons_succ])
      refine wpAnyH_take (i := 25) (v := ?_) rfl (by kernel_rfl) (by kernel_rfl) (by kernel_rfl) (fun _ _ _ h => h) (Or.inl ⟨by kernel_rfl, ?_⟩) (by assumption) ?_
      rotate_left
      · (intro w hSw; (try dsimp only at hSw); go_simp; try (first | with_reducible rfl | (simp [*]; done) | (simp; omega)))
      (try simp only [Act.put, List.getElem_toArray, List.getElem_cons_succ, List.getElem_cons_zero, List.setIfInBounds_toArray, List.set_cons_zero, List.set_cons_succ])
      refine wpAnyH_done (by kernel_rfl) ?_ _
      have hle := HC.out.le
      rw [(HN ()).1, (HN ()).2] at hle
      obtain ⟨pc, hpc⟩ : ∃ pc, p - i = pc := ⟨_, rfl⟩
      have hwpc : IntKind.i64.wrap ((p : Int) - (i : Int)) = (pc : Int) := by
        rw [IntKind.wrap_i64]
        omega
      have hpcc : (pc : Int) ≤ cv := by omega
      have hpc0 : (0 : Int) ≤ pc := by omega
      have hi0 : (0 : Int) ≤ i := by omega
      have hiqI : (i : Int) ≤ q := by omega
      have hicu : (i : Int) ≤ cu := by omega
      have hqcuI : (q : Int) ≤ cu := by omega
      have HJ : Hid (∀ w3 s1 s2, w.grownBy w3 none → Ints w3 s1 (V.take pc) → Ints w3 s2 (U.drop i) → Calls Tryd.prog 59 #[.slice (some ⟨w3.heap.size, 0, none⟩) 2 2] (w3.alloc (.cells #[s1, s2] 22)) fun e w' => ∃ v', e = .returned v' ∧ Own w' w.heap.size v' (sh (V ++ U)) ∧ w.grownBy w' none) := by
        intro w3 s1 s2 hg h1 h2
        refine (rJoined_two w3 s1 s2 _ _ h1 h2 (by rw [List.length_append, List.length_take, List.length_drop, (HN ()).1, (HN ()).2]; omega)).mono ?_
        rintro e w' ⟨v', rfl, hO, hG'⟩
        have e2 : V.take pc ++ U.drop i = sh (V ++ U) := by
          have := can_glue HC.out HRed.out.1 HRed.out.2
          rwa [(HN ()).1, hpc] at this
        rw [e2] at hO
        exact ⟨v', rfl, hO.mono hg.size, grownBy_trans hg hG'⟩
      have HWay : (∃ B9 off9, ab' = some ⟨B9, off9, none⟩ ∧ ¬ cu = i ∧ Hid (∀ w3, w.grownBy w3 none → Ints w3 (.slice (some ⟨B9, off9 + i, none⟩) (q - i) (cu - i)) (U.drop i))) ∨ (∃ a9, ab' = some a9 ∧ cu = i ∧ i = q ∧ Hid (∀ w3, w.grownBy w3 none → Ints w3 (.slice (some a9) 0 0) (U.drop i))) ∨ (ab' = none ∧ q = 0 ∧ cu = 0 ∧ i = 0 ∧ Hid (∀ w3, w.grownBy w3 none → Ints w3 (.slice none 0 0) (U.drop i))) := by
        have ht := fun w3 (hg : w.grownBy w3 none) => (HU.out.kept hg).tailN (HN ()).2 i hle.2
        rcases HU.out with ⟨e, e2⟩ | ⟨B9, off9, c9, e, _, _⟩ | ⟨e2, a9, e⟩
        · obtain ⟨e3, e4, e5⟩ := Value.slice.inj e
          exact .inr (.inr ⟨e3, e4, e5, by omega, fun w3 hg => (ht w3 hg).2.2 (by omega)⟩)
        · obtain ⟨e3, e4, e5⟩ := Value.slice.inj e
          by_cases h8 : cu = i
          · exact .inr (.inl ⟨_, e3, h8, by omega, fun w3 hg => (ht w3 hg).2.1 (by omega) _⟩)
          · exact .inl ⟨B9, off9, e3, h8, fun w3 hg => (ht w3 hg).1 B9 off9 e3⟩
        · obtain ⟨e3, e4, e5⟩ := Value.slice.inj e
          exact .inr (.inl ⟨a9, e3, by omega, by omega, fun w3 hg => (ht w3 hg).2.1 (by omega) a9⟩)
      have HV1 : Hid (∀ w3, w.grownBy w3 none → Ints w3 (.slice ab pc cv) (V.take pc)) := fun w3 hg => (HV.out.kept hg).headN pc (by rw [(HN ()).1]; omega)
      clear HR1 HR2 HLv HLu HU HV HRed
      rcases HWay with ⟨B9, off9, e9, h8, HU2⟩ | ⟨a9, e9, h8, h7, HU2⟩ | ⟨e9, h6, h8, h7, HU2⟩
      all_goals cases e9
      all_goals try subst h7
      all_goals try subst h8
      all_goals try subst h6
      all_goals have hwp : IntKind.i64.wrap (p : Int) = (p : Int) := by rw [IntKind.wrap_i64]; omega
      all_goals try (have hpc9 : p = pc := by omega; subst hpc9)
      all_goals (
        go_wp2_with fail
        go_region_held3 (fun _ => True) (trivial) (first
          | (go_at_call 59; refine (HJ.out _ _ _ (grow_drew (grow_drew HG.out)) (HV1.out _ (grow_drew (grow_drew HG.out))) (HU2.out _ (grow_drew (grow_drew HG.out)))).mono ?_; rintro e w9 ⟨v9, rfl, hO9, hG9⟩; have HO9 : Hid (Own w9 w.heap.size v9 (sh (V ++ U))) := hO9; have HG9 : Hid (w.grownBy w9 none) := hG9; clear hO9 hG9)
          | fail)
        all_goals (
          go_wp2_with fail
          go_ret
          exact ⟨_, rfl, HO9.out, HG9.out⟩))
end Go.Proofs.YthldipnfaiobaaaDoor
