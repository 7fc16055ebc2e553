/-
  Words turned on: of lists alone; the program's turned.
-/
import Derived.Test.YthldipnfaiobaabGreatDoorCnc
import Derived.Test.YthldipnfaiobaabGreatDoorKmp
namespace Go.Proofs.YthldipnfaiobaabGreatDoor
open Go.RowKit Go.Lib Go.Sort
set_option linter.unusedVariables false
set_option linter.unusedSimpArgs false
set_option maxHeartbeats 3200000
set_option maxRecDepth 1000000
def Turn (V W : List Int) : Prop := V.length = W.length ∧ (V.length = 0 ∨ ∃ i, i < V.length ∧ V.drop i ++ V.take i = W)
instance (V W : List Int) : Decidable (Turn V W) := by
  unfold Turn
  have : Decidable (∃ i, i < V.length ∧ V.drop i ++ V.take i = W) := Nat.decidableExistsLT _
  exact inferInstance
theorem turn_of {V W : List Int} {j : Nat} (hl : V.length = W.length) (h0 : 0 < V.length) (hj : j ≤ 2 * V.length) (h : W <:+ (V ++ V).take j) : Turn V W := by
  refine ⟨hl, .inr ?_⟩
  have hX : (V ++ V).length = 2 * V.length := by rw [List.length_append]; omega
  have hjl : ((V ++ V).take j).length = j := by rw [List.length_take, hX]; omega
  have hle := h.length_le
  rw [hjl] at hle
  have hW : W = ((V ++ V).take j).drop (j - W.length) := by
    have := List.suffix_iff_eq_drop.1 h
    rw [hjl] at this
    exact this
  obtain ⟨i, hi⟩ : ∃ i, j - W.length = i := ⟨_, rfl⟩
  have hij : j = i + V.length := by omega
  rw [hi] at hW
  have hW2 : W = ((V ++ V).drop i).take V.length := by
    rw [hW, List.drop_take]
    congr 1
    omega
  rcases Nat.lt_or_ge i V.length with hlt | hge
  · refine ⟨i, hlt, ?_⟩
    have e1 : (V.drop i).take V.length = V.drop i := List.take_of_length_le (by rw [List.length_drop]; omega)
    rw [hW2, List.drop_append_of_le_length (by omega), List.take_append, e1, List.length_drop, show V.length - (V.length - i) = i by omega]
  · obtain rfl : i = V.length := by omega
    refine ⟨0, h0, ?_⟩
    rw [hW2, List.drop_left, List.take_length]
    simp
theorem turn_suffix {V W : List Int} (h0 : 0 < V.length) (h : Turn V W) : ∃ j, j ≤ 2 * V.length ∧ W <:+ (V ++ V).take j := by
  obtain ⟨hl, h⟩ := h
  rcases h with h | ⟨i, hi, rfl⟩
  · omega
  · refine ⟨V.length + i, by omega, ⟨V.take i, ?_⟩⟩
    have e1 : V.take (V.length + i) = V := List.take_of_length_le (by omega)
    rw [← List.append_assoc, List.take_append_drop, List.take_append, e1, show V.length + i - V.length = i by omega]
theorem bd_whole {W T : List Int} : Bd W T W.length ↔ W <:+ T := by
  unfold Bd
  rw [List.take_length]
  exact ⟨fun h => h.2, fun h => ⟨Nat.le_refl _, h⟩⟩
theorem concat_two (w : World) (a b : Value) (A B : List Int) (ha : Ints w a A) (hb : Ints w b B) (hl : (A ++ B).length ≤ 1000000000) :
    Calls Tryz.prog 46 #[.slice (some ⟨w.heap.size, 0, none⟩) 2 2] (w.alloc (.cells #[a, b] 22)) fun e w' => ∃ v', e = .returned v' ∧ Own w' w.heap.size v' (A ++ B) ∧ w.grownBy w' none := by
  have ef : [A, B].flatten = A ++ B := by simp
  refine (concat_any _ _ [A, B] (intsL2 ha hb) (by simp) (by rw [ef]; exact hl)).mono ?_
  rintro e w' ⟨v', rfl, hO, hG⟩
  rw [ef] at hO
  exact ⟨v', rfl, hO.mono (grow1 w _).size, grownBy_trans (grow1 _ _) hG⟩
theorem turned_any (w : World) (v u : Value) (V W : List Int) (hV : Ints w v V) (hW : Ints w u W) (hl : V.length ≤ 100000) (hl2 : W.length ≤ 100000) :
    Calls Tryz.prog 27 #[v, u] w fun e w' => e = .returned (.bool (decide (Turn V W))) ∧ w.grownBy w' none := by
  have HV : Hid (Ints w v V) := hV
  have HW : Hid (Ints w u W) := hW
  obtain ⟨va, vc, rfl, _⟩ := hV.reads
  obtain ⟨ua, uc, rfl, _⟩ := hW.reads
  have HB := borders_any w _ W hW (by omega)
  obtain ⟨n, hn⟩ : ∃ n, V.length = n := ⟨_, rfl⟩
  obtain ⟨k, hk⟩ : ∃ k, W.length = k := ⟨_, rfl⟩
  have HN : Unit → V.length = n ∧ W.length = k := fun _ => ⟨hn, hk⟩
  have hnI : (n : Int) ≤ 100000 := by omega
  have hkI : (k : Int) ≤ 100000 := by omega
  rw [hn] at HV ⊢
  rw [hk] at HW HB ⊢
  clear hV hW hn hk
  obtain ⟨d, hd⟩ : ∃ d, decide (Turn V W) = d := ⟨_, rfl⟩
  have HD : Hid (decide (Turn V W) = d) := hd
  rw [hd]
  clear hd
  by_cases hnk : n = k
  · subst hnk
    by_cases h0 : n = 0
    · have HE : Hid (d = true) := by
        show _ = _
        rw [← HD.out]
        exact decide_eq_true ⟨by rw [(HN ()).1, (HN ()).2], .inl (by rw [(HN ()).1]; exact h0)⟩
      have HLen : Hid (V ++ V = []) := by
        show _ = _
        have : V = [] := List.length_eq_zero_iff.1 (by rw [(HN ()).1]; exact h0)
        rw [this]
        rfl
      subst h0
      have HCc : Hid (∀ w1, w.grownBy w1 none → Calls Tryz.prog 46 #[.slice (some ⟨w1.heap.size, 0, none⟩) 2 2] (w1.alloc (.cells #[.slice va 0 vc, .slice va 0 vc] 22)) fun e w' => ∃ a1 c1, e = .returned (.slice a1 0 c1) ∧ w1.grownBy w' none) := by
        intro w1 hg
        refine (concat_two w1 _ _ V V (HV.out.kept hg) (HV.out.kept hg) (by rw [HLen.out]; simp)).mono ?_
        rintro e w' ⟨v', rfl, hO, hG⟩
        rw [HLen.out] at hO
        obtain ⟨a1, c1, rfl⟩ := hO.form
        exact ⟨a1, c1, rfl, hG⟩
      go_enter Tryz.func27, Tryz.ntmps27
      go_wp2_with fail
      refine HB.mono ?_
      rintro e w1 ⟨E, rfl, hE, _, _, g1⟩
      have G1 : Hid (w.grownBy w1 none) := g1
      clear hE g1 HB
      go_wp2_with fail
      refine (HCc.out w1 G1.out).mono ?_
      rintro e w2 ⟨a1, c1, rfl, g2⟩
      have G2 : Hid (w.grownBy w2 none) := grownBy_trans G1.out g2
      clear g2
      go_wp2_with fail
      go_loopw [21] (fun s wr => s = .int .i64 0 ∧ w2 = wr) (fun _ _ => 0)
      case atStart => exact ⟨rfl, rfl⟩
      case round =>
        obtain ⟨rfl, rfl⟩ := hrel
        go_wp2_with fail
        go_ret
        exact ⟨ret_bool HE.out.symm, G2.out⟩
    · have H0 : Hid (0 < n) := by show 0 < n; omega
      have h0b : ((n : Int) == 0) = false := by simpa using (show (n : Int) ≠ 0 by omega)
      have HXl : Hid ((V ++ V).length = 2 * n) := by show _ = _; rw [List.length_append, (HN ()).1]; omega
      have HCc : Hid (∀ w1, w.grownBy w1 none → Calls Tryz.prog 46 #[.slice (some ⟨w1.heap.size, 0, none⟩) 2 2] (w1.alloc (.cells #[.slice va n vc, .slice va n vc] 22)) fun e w' => ∃ v', e = .returned v' ∧ Own w' w1.heap.size v' (V ++ V) ∧ w1.grownBy w' none) := fun w1 hg => concat_two w1 _ _ V V (HV.out.kept hg) (HV.out.kept hg) (by rw [HXl.out]; omega)
      have HYes : Hid (∀ j, j ≤ 2 * n → Lng W ((V ++ V).take j) n → d = true) := by
        intro j hj h
        rw [← HD.out]
        refine decide_eq_true (turn_of (j := j) (by rw [(HN ()).1, (HN ()).2]) (by rw [(HN ()).1]; exact H0.out) (by rw [(HN ()).1]; exact hj) ?_)
        have := h.1
        rw [← (HN ()).2] at this
        exact bd_whole.1 this
      have HNo : Hid ((∀ j, j ≤ 2 * n → ¬ Bd W ((V ++ V).take j) n) → d = false) := by
        intro h
        rw [← HD.out]
        refine decide_eq_false fun ht => ?_
        obtain ⟨j, hj, hs⟩ := turn_suffix (by rw [(HN ()).1]; exact H0.out) ht
        rw [(HN ()).1] at hj
        refine h j hj ?_
        rw [← (HN ()).2]
        exact bd_whole.2 hs
      obtain ⟨X, hX⟩ : ∃ X, V ++ V = X := ⟨_, rfl⟩
      rw [hX] at HXl HCc HYes HNo
      clear hX h0 HD
      go_enter Tryz.func27, Tryz.ntmps27
      go_wp2_with fail
      refine HB.mono ?_
      rintro e w1 ⟨E, rfl, hE, hEl, hEn, g1⟩
      have G1 : Hid (w.grownBy w1 none) := g1
      have HE : Hid (Own w1 w.heap.size (.slice (some ⟨w.heap.size, 0, none⟩) n n) E) := hE
      have HEn : Hid (E.length = n ∧ Ends W E n) := ⟨hEl, hEn⟩
      clear hE g1 HB hEl hEn
      go_wp2_with fail
      refine (HCc.out w1 G1.out).mono ?_
      rintro e w2 ⟨x, rfl, hO, g2⟩
      have G12 : Hid (w1.grownBy w2 none) := g2
      have G2 : Hid (w.grownBy w2 none) := grownBy_trans G1.out g2
      have HX : Hid (∀ i, i < 2 * n → ∃ B off, x = .slice (some ⟨B, off, none⟩) (2 * n) (2 * n) ∨ True) := fun i hi => ⟨0, 0, .inr trivial⟩
      obtain ⟨xa, xc, hxe, hxr⟩ := hO.ints.reads
      have HXr : Hid (∀ i, i < 2 * n → ∃ B off, xa = some ⟨B, off, none⟩ ∧ w2.cell? ⟨B, off + i, none⟩ = some (.int .i64 (X[i]?.getD 0)) ∧ 2 * n ≤ xc) := fun i hi => by
        have := hxr w2 (grow0 _) i (by rw [HXl.out]; exact hi)
        rw [HXl.out] at this
        exact this
      rw [HXl.out] at hxe
      subst hxe
      have HLg : Hid (∀ m i, m < n → i < 2 * n → Lng W (X.take i) m → Calls Tryz.prog 47 #[.slice ua n uc, .slice (some ⟨w.heap.size, 0, none⟩) n n, .int .i64 (m : Int), .int .i64 (X[i]?.getD 0)] w2 fun e w' => ∃ r : Nat, e = .returned (.int .i64 (r : Int)) ∧ Lng W (X.take (i + 1)) r ∧ r ≤ m + 1 ∧ w' = w2) := by
        intro m i hm hi hL
        have e : X.take (i + 1) = X.take i ++ [X[i]?.getD 0] := by
          have hi' : i < X.length := by rw [HXl.out]; exact hi
          rw [List.take_succ_eq_append_getElem hi', List.getElem?_eq_getElem hi']
          rfl
        rw [e]
        exact longer_any w2 _ _ W E (X.take i) m _ (HW.out.kept G2.out) (HE.out.ints.kept G12.out) (by rw [HEn.out.1, (HN ()).2]) (by rw [(HN ()).2]; omega) (by rw [(HN ()).2]; exact hm) (fun j hj => HEn.out.2 j (by omega)) hL
      obtain ⟨z, hz⟩ : ∃ z, 2 * n = z := ⟨_, rfl⟩
      rw [hz] at HXr HLg HYes HNo HXl ⊢
      have hzI : (z : Int) ≤ 200000 := by omega
      clear g2 hO hxr HX hz HCc
      go_wp2_with fail
      go_loopw [5, 21] (fun s t wr => ∃ (m i : Nat), i ≤ z ∧ m < n ∧ t = .int .i64 (i : Int) ∧ s = .int .i64 (m : Int) ∧ (Lng W (X.take i) m ∧ ∀ j, j < i → ¬ Bd W (X.take j) n) ∧ w2 = wr) (fun _ t _ => match t with | .int _ i => z - i.toNat | _ => 0)
      case atStart =>
        refine ⟨0, 0, by omega, H0.out, rfl, rfl, ⟨⟨Bd.zero _ _, fun b hb => ?_⟩, fun j hj => by omega⟩, rfl⟩
        have := hb.le
        simpa using this
      case round =>
        obtain ⟨m, i, hi, hm, rfl, rfl, hL, rfl⟩ := hrel
        have HL : Hid (Lng W (X.take i) m ∧ ∀ j, j < i → ¬ Bd W (X.take j) n) := hL
        have HNi : Hid (∀ j, j < i + 1 → ¬ Bd W (X.take j) n) := by
          intro j hj hb
          rcases Nat.lt_or_ge j i with h | h
          · exact hL.2 j h hb
          · obtain rfl : j = i := by omega
            have := hL.1.2 n hb
            omega
        clear hL
        by_cases hlt : i < z
        · obtain ⟨B, off, rfl, c1, hzc⟩ := HXr.out i hlt
          have hltI : (i : Int) < z := by omega
          have HC := HLg.out m i hm hlt HL.out.1
          generalize X[i]?.getD 0 = y at *
          go_wp2_with fail
          refine HC.mono ?_
          rintro e w3 ⟨r, rfl, hr, hrm, hw3⟩
          obtain rfl := hw3.symm
          have HLr : Hid (Lng W (X.take (i + 1)) r) := hr
          have hrI : (r : Int) ≤ 100001 := by omega
          clear hr
          by_cases hrn : r = n
          · have HEd : Hid (d = true) := HYes.out (i + 1) (by omega) (by rw [← hrn]; exact HLr.out)
            subst hrn
            go_wp2_with fail
            go_ret
            exact ⟨ret_bool HEd.out.symm, G2.out⟩
          · have hrb : ((r : Int) == n) = false := by simpa using (show (r : Int) ≠ n by omega)
            have hrl : r < n := by omega
            go_wp2_with fail
            go_roundw
            case rel => exact ⟨r, i + 1, by omega, hrl, num_eq (by omega), rfl, ⟨HLr.out, HNi.out⟩, trivial⟩
            case measure => simp; omega
        · have e : i = z := by omega
          subst e
          have HEd : Hid (d = false) := HNo.out fun j hj => HNi.out j (by omega)
          go_wp2_with fail
          go_ret
          exact ⟨ret_bool HEd.out.symm, G2.out⟩
  · have hnkb : ((n : Int) != k) = true := by simpa using (show (n : Int) ≠ k by omega)
    have HE : Hid (d = false) := by
      show _ = _
      rw [← HD.out]
      refine decide_eq_false fun h => hnk ?_
      have := h.1
      rwa [(HN ()).1, (HN ()).2] at this
    go_enter Tryz.func27, Tryz.ntmps27
    go_wp2_with fail
    go_ret
    exact ⟨ret_bool HE.out.symm, grow0 _⟩
end Go.Proofs.YthldipnfaiobaabGreatDoor
