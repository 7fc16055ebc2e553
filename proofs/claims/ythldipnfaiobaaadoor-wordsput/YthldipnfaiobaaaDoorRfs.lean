/-
  The document's Short.
-/
import Derived.Test.YthldipnfaiobaaaDoorRoo
namespace Go.Proofs.YthldipnfaiobaaaDoor
open Go.RowKit Go.Lib Go.Sort
set_option linter.unusedVariables false
set_option linter.unusedSimpArgs false
set_option maxHeartbeats 3200000
set_option maxRecDepth 1000000
theorem rShort_any (w : World) (v : Value) (L : List Int) (h : Ints w v L) (hl : L.length ≤ 1000000) (hL : L.any noL = false) :
    Calls Tryd.prog 22 #[v] w fun e w' => ∃ v', e = .returned v' ∧ Own w' w.heap.size v' (sh L) ∧ w.grownBy w' none := by
  obtain ⟨ab, c, rfl, HR⟩ := h.reads
  have HR1 : Hid (∀ w', w.grownBy w' none → ∀ i, i < L.length → ∃ B off, ab = some ⟨B, off, none⟩ ∧ w'.cell? ⟨B, off + i, none⟩ = some (.int .i64 (L[i]?.getD 0)) ∧ L.length ≤ c) := HR
  have HL : Hid (∀ x ∈ L, noL x = false) := fun x hx => by simpa using List.any_eq_false.1 hL x hx
  obtain ⟨n, hn⟩ : ∃ n, L.length = n := ⟨_, rfl⟩
  have HN : Unit → L.length = n := fun _ => hn
  have hnI : (n : Int) ≤ 1000000 := by omega
  rw [hn] at HR1 ⊢
  clear HR h hl hn hL
  go_enter Tryd.func22, Tryd.ntmps22
  go_wp2
  go_loopw [3, 4] (fun s t wr => ∃ (i : Nat) (K : List Int), i ≤ n ∧ t = .int .i64 (i : Int) ∧ sh (L.take i) = K ∧ Own wr w.heap.size s K ∧ w.grownBy wr none) (fun _ t _ => match t with | .int _ i => n - i.toNat | _ => 0)
  case atStart => exact ⟨0, [], by omega, rfl, rfl, Own.nil _ _, grow0 _⟩
  case round =>
    obtain ⟨i, K, hi, rfl, hK, hO, hG⟩ := hrel
    have HK : Hid (sh (L.take i) = K) := hK
    have HG : Hid (w.grownBy wr none) := hG
    have HKl : Hid (K.length ≤ i) := by
      show K.length ≤ i
      rw [← HK.out]
      have := sh_len (L.take i)
      simp at this
      omega
    have HKm : Hid (∀ x ∈ K, noL x = false) := fun x hx => by
      rw [← HK.out] at hx
      exact HL.out x (List.mem_of_mem_take (sh_mem hx))
    clear hK
    by_cases hlt : i < n
    · obtain ⟨B, off, rfl, hc, hnc⟩ := HR1.out wr HG.out i hlt
      have hlt' : i < L.length := by rw [HN ()]; exact hlt
      have hx : L[i]?.getD 0 = L[i] := by rw [List.getElem?_eq_getElem hlt']; rfl
      have HT : Hid (sh (L.take (i + 1)) = push K (L[i]?.getD 0)) := by
        show sh (L.take (i + 1)) = push K (L[i]?.getD 0)
        rw [List.take_succ_eq_append_getElem hlt', sh_snoc, HK.out, hx]
      have hxn := noL_no (HL.out _ (List.getElem_mem hlt'))
      rw [← hx] at hxn
      clear hx
      generalize L[i]?.getD 0 = x at *
      obtain ⟨_, hx1, hx2⟩ := hxn
      have hltI : (i : Int) < n := by omega
      obtain ⟨bb, cc, rfl⟩ := hO.form
      have HO : Hid (Own wr w.heap.size (.slice bb K.length cc) K) := hO
      have HS : Hid (w.heap.size ≤ wr.heap.size) := hG.size
      obtain ⟨m, hm⟩ : ∃ m, K.length = m := ⟨_, rfl⟩
      have HM : Unit → K.length = m := fun _ => hm
      rw [hm] at HO HKl ⊢
      clear hm hO hG
      have hmi : m ≤ i := HKl.out
      have hmI : (m : Int) ≤ i := by omega
      by_cases hm0 : m = 0
      · subst hm0
        go_wp2_with fail
        refine wp_region_held_drew (S := fun _ => True) (by kernel_rfl) (trivial) (fun hHeld => ?_)
        refine wpAnyH_take (i := 0) (v := ?_) rfl (by kernel_rfl) (by kernel_rfl) (by kernel_rfl) (fun _ _ _ h => h) (Or.inl ⟨by kernel_rfl, ?_⟩) (by assumption) ?_
        rotate_left
        · (intro w hSw; (try dsimp only at hSw); go_simp; try (first | with_reducible rfl | (simp [*]; done) | (simp; omega)))
        (try simp only [Act.put, List.getElem_toArray, List.getElem_cons_succ, List.getElem_cons_zero, List.setIfInBounds_toArray, List.set_cons_zero, List.set_cons_succ])
        refine wpAnyH_take (i := 1) (v := ?_) rfl (by kernel_rfl) (by kernel_rfl) (by kernel_rfl) (fun _ _ _ h => h) (Or.inl ⟨by kernel_rfl, ?_⟩) (by assumption) ?_
        rotate_left
        · (intro w hSw; (try dsimp only at hSw); go_simp; try (first | with_reducible rfl | (simp [*]; done) | (simp; omega)))
        (try simp only [Act.put, List.getElem_toArray, List.getElem_cons_succ, List.getElem_cons_zero, List.setIfInBounds_toArray, List.set_cons_zero, List.set_cons_succ])
        refine wpAnyH_take (i := 2) (v := .bool false) rfl (by kernel_rfl) (by kernel_rfl) (by kernel_rfl) (fun _ _ _ h => h) (Or.inl ⟨by kernel_rfl, ?_⟩) (by assumption) ?_
        · (intro w hSw; (try dsimp only at hSw); go_simp; try (first | with_reducible rfl | (simp [*]; done) | (simp; omega)))
        (try simp only [Act.put, List.getElem_toArray, List.getElem_cons_succ, List.getElem_cons_zero, List.setIfInBounds_toArray, List.set_cons_zero, List.set_cons_succ])
        refine wpAnyH_take (i := 3) (v := ?_) rfl (by kernel_rfl) (by kernel_rfl) (by kernel_rfl) (fun _ _ _ h => h) (Or.inl ⟨by kernel_rfl, ?_⟩) (by assumption) ?_
        rotate_left
        · (intro w hSw; (try dsimp only at hSw); go_simp; try (first | with_reducible rfl | (simp [*]; done) | (simp; omega)))
        (try simp only [Act.put, List.getElem_toArray, List.getElem_cons_succ, List.getElem_cons_zero, List.setIfInBounds_toArray, List.set_cons_zero, List.set_cons_succ])
        refine wpAnyH_take (i := 4) (v := undef) rfl (by kernel_rfl) (by kernel_rfl) (by kernel_rfl) (fun _ _ _ h => h) (Or.inr ⟨by kernel_rfl, rfl⟩) (by assumption) ?_
        (try simp only [Act.put, List.getElem_toArray, List.getElem_cons_succ, List.getElem_cons_zero, List.setIfInBounds_toArray, List.set_cons_zero, List.set_cons_succ])
        refine wpAnyH_take (i := 5) (v := undef) rfl (by kernel_rfl) (by kernel_rfl) (by kernel_rfl) (fun _ _ _ h => h) (Or.inr ⟨by kernel_rfl, rfl⟩) (by assumption) ?_
        (try simp only [Act.put, List.getElem_toArray, List.getElem_cons_succ, List.getElem_cons_zero, List.setIfInBounds_toArray, List.set_cons_zero, List.set_cons_succ])
        refine wpAnyH_take (i := 6) (v := undef) rfl (by kernel_rfl) (by kernel_rfl) (by kernel_rfl) (fun _ _ _ h => h) (Or.inr ⟨by kernel_rfl, rfl⟩) (by assumption) ?_
        (try simp only [Act.put, List.getElem_toArray, List.getElem_cons_succ, List.getElem_cons_zero, List.setIfInBounds_toArray, List.set_cons_zero, List.set_cons_succ])
        refine wpAnyH_take (i := 7) (v := undef) rfl (by kernel_rfl) (by kernel_rfl) (by kernel_rfl) (fun _ _ _ h => h) (Or.inr ⟨by kernel_rfl, rfl⟩) (by assumption) ?_
        (try simp only [Act.put, List.getElem_toArray, List.getElem_cons_succ, List.getElem_cons_zero, List.setIfInBounds_toArray, List.set_cons_zero, List.set_cons_succ])
        refine wpAnyH_take (i := 8) (v := undef) rfl (by kernel_rfl) (by kernel_rfl) (by kernel_rfl) (fun _ _ _ h => h) (Or.inr ⟨by kernel_rfl, rfl⟩) (by assumption) ?_
        (try simp only [Act.put, List.getElem_toArray, List.getElem_cons_succ, List.getElem_cons_zero, List.setIfInBounds_toArray, List.set_cons_zero, List.set_cons_succ])
        refine wpAnyH_take (i := 9) (v := undef) rfl (by kernel_rfl) (by kernel_rfl) (by kernel_rfl) (fun _ _ _ h => h) (Or.inr ⟨by kernel_rfl, rfl⟩) (by assumption) ?_
        (try simp only [Act.put, List.getElem_toArray, List.getElem_cons_succ, List.getElem_cons_zero, List.setIfInBounds_toArray, List.set_cons_zero, List.set_cons_succ])
        refine wpAnyH_take (i := 10) (v := undef) rfl (by kernel_rfl) (by kernel_rfl) (by kernel_rfl) (fun _ _ _ h => h) (Or.inr ⟨by kernel_rfl, rfl⟩) (by assumption) ?_
        (try simp only [Act.put, List.getElem_toArray, List.getElem_cons_succ, List.getElem_cons_zero, List.setIfInBounds_toArray, List.set_cons_zero, List.set_cons_succ])
        refine wpAnyH_take (i := 11) (v := undef) rfl (by kernel_rfl) (by kernel_rfl) (by kernel_rfl) (fun _ _ _ h => h) (Or.inr ⟨by kernel_rfl, rfl⟩) (by assumption) ?_
        (try simp only [Act.put, List.getElem_toArray, List.getElem_cons_succ, List.getElem_cons_zero, List.setIfInBounds_toArray, List.set_cons_zero, List.set_cons_succ])
        refine wpAnyH_take (i := 12) (v := undef) rfl (by kernel_rfl) (by kernel_rfl) (by kernel_rfl) (fun _ _ _ h => h) (Or.inr ⟨by kernel_rfl, rfl⟩) (by assumption) ?_
        (try simp only [Act.put, List.getElem_toArray, List.getElem_cons_succ, List.getElem_cons_zero, List.setIfInBounds_toArray, List.set_cons_zero, List.set_cons_succ])
        refine wpAnyH_take (i := 13) (v := undef) rfl (by kernel_rfl) (by kernel_rfl) (by kernel_rfl) (fun _ _ _ h => h) (Or.inr ⟨by kernel_rfl, rfl⟩) (by assumption) ?_
        (try simp only [Act.put, List.getElem_toArray, List.getElem_cons_succ, List.getElem_cons_zero, List.setIfInBounds_toArray, List.set_cons_zero, List.set_cons_succ])
        refine wpAnyH_take (i := 14) (v := undef) rfl (by kernel_rfl) (by kernel_rfl) (by kernel_rfl) (fun _ _ _ h => h) (Or.inr ⟨by kernel_rfl, rfl⟩) (by assumption) ?_
        (try simp only [Act.put, List.getElem_toArray, List.getElem_cons_succ, List.getElem_cons_zero, List.setIfInBounds_toArray, List.set_cons_zero, List.set_cons_succ])
        refine wpAnyH_take (i := 15) (v := undef) rfl (by kernel_rfl) (by kernel_rfl) (by kernel_rfl) (fun _ _ _ h => h) (Or.inr ⟨by kernel_rfl, rfl⟩) (by assumption) ?_
        (try simp only [Act.put, List.getElem_toArray, List.getElem_cons_succ, List.getElem_cons_zero, List.setIfInBounds_toArray, List.set_cons_zero, List.set_cons_succ])
        refine wpAnyH_take (i := 16) (v := ?_) rfl (by kernel_rfl) (by kernel_rfl) (by kernel_rfl) (fun _ _ _ h => h) (Or.inl ⟨by kernel_rfl, ?_⟩) (by assumption) ?_
        rotate_left
        · (intro w hSw; (try dsimp only at hSw); go_simp; try (first | with_reducible rfl | (simp [*]; done) | (simp; omega)))
        (try simp only [Act.put, List.getElem_toArray, List.getElem_cons_succ, List.getElem_cons_zero, List.setIfInBounds_toArray, List.set_cons_zero, List.set_cons_succ])
        refine wpAnyH_done (by kernel_rfl) ?_ _
        go_wp2_with (at_builtin; refine wpList_append_int rfl _ _ rfl w.heap.size (.slice bb 0 cc) K x rfl (HO.out.kept0 (grownBy_trans (grow_drew (grow0 _)) (grow1 _ _))) (by rw [HM ()]; omega) (by have := HS.out; simp; omega) _ rfl (by simp) ?_)
        intro v' w' hO' hg' _
        have HO' : Hid (Own w' w.heap.size v' (K ++ [x])) := hO'
        have HG' : Hid (w.grownBy w' none) := grownBy_own (grownBy_trans (grow_drew HG.out) (grow1 _ _)) (HO.out.kept0 (grownBy_trans (grow_drew (grow0 _)) (grow1 _ _))) hg'
        clear hO' hg'
        go_wp2_with fail
        go_roundw
        case rel =>
          have hk0 : K = [] := List.length_eq_zero_iff.1 (HM ())
          subst hk0
          exact ⟨i + 1, [x], by omega, num_eq (by omega), by rw [HT.out]; rfl, HO'.out, HG'.out⟩
        case measure => simp; omega
      · obtain ⟨q, hq⟩ : ∃ q, m = q + 1 := ⟨m - 1, by omega⟩
        obtain ⟨g, rfl, hgb, hmc⟩ : ∃ g, bb = some ⟨g, 0, none⟩ ∧ w.heap.size ≤ g ∧ m ≤ cc := by
          rcases HO.out.cases with ⟨e, _⟩ | ⟨g, c', e, h1, h2⟩
          · cases e; omega
          · cases e; exact ⟨g, rfl, h1, by rw [← HM ()]; exact h2⟩
        have hcl := HO.out.cell q (by rw [HM ()]; omega)
        have hyn := noL_no (HKm.out (K[q]?.getD 0) (by rw [List.getElem?_eq_getElem (by rw [HM ()]; omega)]; exact List.getElem_mem _))
        have HP : Hid (push K x = if K[q]?.getD 0 + x = 0 then K.take q else K ++ [x]) := by
          show push K x = _
          unfold push
          rw [if_neg (by rw [HM ()]; omega), HM (), show m - 1 = q by omega]
        generalize K[q]?.getD 0 = y at *
        obtain ⟨_, hy1, hy2⟩ := hyn
        have hqm : (q : Int) < m := by omega
        have hwq : IntKind.i64.wrap ((m : Int) - 1) = (q : Int) := by
          rw [IntKind.wrap_i64]
          omega
        have hwx : IntKind.i64.wrap (-x) = -x := by
          rw [IntKind.wrap_i64]
          omega
        have hd : decide (0 < m) = true := by simp; omega
        have HQ : Unit → m = q + 1 := fun _ => hq
        have HQ1 : Hid ((m : Int) - 1 = q) := by show _ = _; omega
        have hqm2 : q < m := by omega
        clear hq
        by_cases hs : y + x = 0
        · have hsb : (y == -x) = true := by simp; omega
          have HP2 : Hid (push K x = K.take q) := by show _ = _; rw [HP.out, if_pos hs]
          clear hs
          go_wp2_with fail
          go_region_held3 (fun w' => w'.cell? ⟨g, q, none⟩ = some (Value.int .i64 y) ∧ w'.cell? ⟨B, off + i, none⟩ = some (Value.int .i64 x)) (first | (go_keep; done) | fail) (fail)
          all_goals (
            have hq1 := HQ1.out
            go_wp2_with fail
            go_roundw
            case rel =>
              have hl : (K.take q).length = q := by rw [List.length_take, HM ()]; have := HQ (); omega
              refine ⟨i + 1, K.take q, by omega, num_eq (by omega), by rw [HT.out, HP2.out], ?_, grow_drew HG.out⟩
              exact (HO.out.take q (by rw [HM ()]; have := HQ (); omega)).kept0 (grow_drew (grow0 _))
            case measure => simp; omega)
        · have hsb : (y == -x) = false := by simp; omega
          have HP2 : Hid (push K x = K ++ [x]) := by show _ = _; rw [HP.out, if_neg hs]
          clear hs
          go_wp2_with fail
          go_region_held3 (fun w' => w'.cell? ⟨g, q, none⟩ = some (Value.int .i64 y) ∧ w'.cell? ⟨B, off + i, none⟩ = some (Value.int .i64 x)) (first | (go_keep; done) | fail) (fail)
          go_wp2_with (at_builtin; refine wpList_append_int rfl _ _ rfl w.heap.size (.slice (some ⟨g, 0, none⟩) m cc) K x rfl (HO.out.kept0 (grownBy_trans (grow_drew (grow0 _)) (grow1 _ _))) (by rw [HM ()]; omega) (by have := HS.out; simp; omega) _ rfl (by simp) ?_)
          intro v' w' hO' hg' _
          have HO' : Hid (Own w' w.heap.size v' (K ++ [x])) := hO'
          have HG' : Hid (w.grownBy w' none) := grownBy_own (grownBy_trans (grow_drew HG.out) (grow1 _ _)) (HO.out.kept0 (grownBy_trans (grow_drew (grow0 _)) (grow1 _ _))) hg'
          clear hO' hg'
          go_wp2_with fail
          go_roundw
          case rel => exact ⟨i + 1, K ++ [x], by omega, num_eq (by omega), by rw [HT.out, HP2.out], HO'.out, HG'.out⟩
          case measure => simp; omega
    · have e : i = n := by omega
      subst e
      have HO : Hid (Own wr w.heap.size u3 K) := hO
      have hk : sh L = K := by
        have := HK.out
        rwa [← HN (), List.take_length] at this
      have HKe : Hid (sh L = K) := hk
      clear hO hG hk
      go_wp2
      go_ret
      exact ⟨_, rfl, by rw [HKe.out]; exact HO.out, HG.out⟩
end Go.Proofs.YthldipnfaiobaaaDoor
