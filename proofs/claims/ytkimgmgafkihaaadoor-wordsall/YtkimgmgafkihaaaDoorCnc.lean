/-
  slices.Grow of nothing, slices.Concat, slices.Clone; the program's around.
-/
import Derived.Test.YtkimgmgafkihaaaDoorPrt
import Derived.Lib.AppendZeros
import Derived.Lib.SliceRun
namespace Go.Proofs.YtkimgmgafkihaaaDoor
open Go.RowKit Go.Lib Go.Sort
set_option linter.unusedVariables false
set_option linter.unusedSimpArgs false
set_option maxHeartbeats 1600000
set_option maxRecDepth 1000000
theorem run_append_zeros (w : World) (n : Nat) (h0 : 0 < n) (hn : n ≤ 1000000000) (ty : TypeId) :
    ∃ c w', (Builtin.append_ #[34, 3] ty #[.slice none 0 0, .int .i64 (n : Int)]).run Tryd.prog w = .ok (.slice (some ⟨w.heap.size, 0, none⟩) n c) w' ∧ n ≤ c ∧ Own w' w.heap.size (.slice (some ⟨w.heap.size, 0, none⟩) 0 c) [] ∧ w.grownBy w' none := by
  obtain ⟨i0, hi, hz0, hz1, hz2⟩ := info_parts Tryd.info8
  refine ⟨_, _, run_append_nil_zeros (P := Tryd.prog) w 34 3 ty 3 i0 (.int .i64 0) .i64 .i64 Tryd.underlying34 Tryd.underlying3 hi hz0 n h0 (by rw [hz1]; omega) (by omega) (by rw [hz2]; omega), grownCap_ge _ _ _ _, ?_, ?_⟩
  · have hge := grownCap_ge w n 0 3
    have := World.ownsRow_made (base := w.heap.size) (e := 3) (size := 1) w.drew (Builtin.zeroCells (Value.int IntKind.i64 0).cells n ++ Builtin.zeroCells (Value.int IntKind.i64 0).cells (grownCap w n 0 3 - n)) (grownCap w n 0 3) (by simp) (grownCap_le_maxLen _ _ _ _ (by unfold maxLen; omega)) (by
      rw [Array.size_append, size_zeroCells, size_zeroCells]
      simp [Value.cells]
      omega)
    simpa [Own] using this
  · exact grownBy_trans (grow_drew (grow0 w)) (grow1 _ _)
theorem grow_nil (w : World) (n : Nat) (hn : n ≤ 1000000000) :
    Calls Tryd.prog 49 #[.slice none 0 0, .int .i64 (n : Int)] w fun e w' => ∃ v', e = .returned v' ∧ Own w' w.heap.size v' [] ∧ w.grownBy w' none := by
  have hnI : (n : Int) ≤ 1000000000 := by omega
  by_cases h0 : n = 0
  · subst h0
    go_enter Tryd.func49, Tryd.ntmps49
    go_wp2
    go_ret
    exact ⟨_, rfl, Own.nil _ _, grow0 _⟩
  · obtain ⟨c, w', hr, hc, hO, hG⟩ := run_append_zeros w n (by omega) hn 34
    have HO : Hid (Own w' w.heap.size (.slice (some ⟨w.heap.size, 0, none⟩) 0 c) []) := hO
    have HG : Hid (w.grownBy w' none) := hG
    have hp : (0 : Int) < n := by omega
    clear hO hG
    go_enter Tryd.func49, Tryd.ntmps49
    go_wp2_with (at_builtin; refine wpList_append_run _ rfl _ _ _ _ rfl _ _ rfl rfl _ _ hr ?_)
    clear hr
    go_wp2_with fail
    go_ret
    exact ⟨_, rfl, HO.out, HG.out⟩
theorem concat_any (w : World) (v : Value) (Ls : List (List Int)) (h : IntsL w v Ls) (hl : Ls.length ≤ 1000000) (hl2 : Ls.flatten.length ≤ 1000000000) :
    Calls Tryd.prog 41 #[v] w fun e w' => ∃ v', e = .returned v' ∧ Own w' w.heap.size v' Ls.flatten ∧ w.grownBy w' none := by
  obtain ⟨ab, c, rfl, HR⟩ := h.reads
  have HR1 : Hid (∀ w', w.grownBy w' none → ∀ i, i < Ls.length → ∃ B off u, ab = some ⟨B, off, none⟩ ∧ w'.cell? ⟨B, off + i, none⟩ = some u ∧ Ints w' u (Ls[i]?.getD []) ∧ Ls.length ≤ c) := HR
  have HL2 : Hid (Ls.flatten.length ≤ 1000000000) := hl2
  obtain ⟨n, hn⟩ : ∃ n, Ls.length = n := ⟨_, rfl⟩
  have HN : Unit → Ls.length = n := fun _ => hn
  have hnI : (n : Int) ≤ 1000000 := by omega
  rw [hn] at HR1 ⊢
  clear HR h hl hn hl2
  go_enter Tryd.func41, Tryd.ntmps41
  go_wp2
  go_loopw [3, 11] (fun s t wr => ∃ (i : Nat), i ≤ n ∧ t = .int .i64 (i : Int) ∧ s = .int .i64 (((Ls.take i).flatten.length : Nat) : Int) ∧ w = wr) (fun _ t _ => match t with | .int _ i => n - i.toNat | _ => 0)
  case atStart => exact ⟨0, by omega, rfl, rfl, rfl⟩
  case round =>
    obtain ⟨i, hi, rfl, rfl, rfl⟩ := hrel
    by_cases hlt : i < n
    · obtain ⟨B, off, u, rfl, hc, hu, hnc⟩ := HR1.out _ (grow0 _) i hlt
      have hlt' : i < Ls.length := by rw [HN ()]; exact hlt
      have HT : Hid ((Ls.take (i + 1)).flatten.length = (Ls.take i).flatten.length + (Ls[i]?.getD []).length) := by
        show _ = _
        rw [joined_snoc Ls i hlt', List.length_append]
      have HLen : Hid ((Ls.take i).flatten.length + (Ls[i]?.getD []).length ≤ 1000000000) := by
        have h1 := HL2.out
        have h2 := flatten_take_le Ls i hlt'
        show _ ≤ _
        omega
      have hltI : (i : Int) < n := by omega
      obtain ⟨ub, uc, rfl, _⟩ := hu.reads
      clear hu
      generalize Ls[i]?.getD [] = M at *
      obtain ⟨m2, hm2⟩ : ∃ m2, M.length = m2 := ⟨_, rfl⟩
      rw [hm2] at HLen HT hc
      generalize (Ls.take i).flatten.length = m at *
      have h1 := HLen.out
      have h1I : (m : Int) + m2 ≤ 1000000000 := by omega
      have hp : (0 : Int) ≤ m + m2 := by omega
      clear hm2
      go_wp2_with fail
      go_roundw
      case rel => exact ⟨i + 1, by omega, by simp, by rw [HT.out]; simp, trivial⟩
      case measure => simp; omega
    · have e : i = n := by omega
      subst e
      have HTt : Hid (Ls.take i = Ls) := by show _ = _; rw [← HN (), List.take_length]
      rw [HTt.out]
      have hm := HL2.out
      obtain ⟨m, hm2⟩ : ∃ m, Ls.flatten.length = m := ⟨_, rfl⟩
      rw [hm2] at hm ⊢
      clear hm2
      go_wp2_with fail
      refine (grow_nil _ m hm).mono ?_
      rintro e w2 ⟨v2, rfl, hO, hG⟩
      have HO0 : Hid (Own w2 w.heap.size v2 []) := hO
      have HG0 : Hid (w.grownBy w2 none) := hG
      clear hO hG hm
      go_wp2_with fail
      go_loopw [6, 27] (fun s t wr => ∃ (k : Nat), k ≤ i ∧ t = .int .i64 (k : Int) ∧ Own wr w.heap.size s (Ls.take k).flatten ∧ w.grownBy wr none) (fun _ t _ => match t with | .int _ k => i - k.toNat | _ => 0)
      case atStart => exact ⟨0, by omega, rfl, HO0.out, HG0.out⟩
      case round =>
        obtain ⟨k, hk, rfl, hO, hG⟩ := hrel
        have HG : Hid (w.grownBy wr none) := hG
        by_cases hlt2 : k < i
        · obtain ⟨B, off, u, rfl, hc, hu, hnc⟩ := HR1.out wr HG.out k hlt2
          have hlt' : k < Ls.length := by rw [HN ()]; exact hlt2
          have HT : Hid ((Ls.take (k + 1)).flatten = (Ls.take k).flatten ++ (Ls[k]?.getD [])) := joined_snoc Ls k hlt'
          have HLen : Hid ((Ls.take k).flatten.length + (Ls[k]?.getD []).length ≤ 1000000000000) := by
            have h1 := HL2.out
            have h2 := flatten_take_le Ls k hlt'
            show _ ≤ _
            omega
          have hltI : (k : Int) < i := by omega
          obtain ⟨bb, cc, rfl⟩ := hO.form
          have HO : Hid (Own wr w.heap.size (.slice bb (Ls.take k).flatten.length cc) (Ls.take k).flatten) := hO
          have HU : Hid (Ints wr u (Ls[k]?.getD [])) := hu
          obtain ⟨ub, uc, rfl, _⟩ := hu.reads
          have HS : Hid (w.heap.size ≤ wr.heap.size) := hG.size
          clear hO hG hu
          generalize (Ls.take k).flatten = K at *
          generalize Ls[k]?.getD [] = M at *
          obtain ⟨m3, hm3⟩ : ∃ m3, K.length = m3 := ⟨_, rfl⟩
          rw [hm3] at HO ⊢
          obtain ⟨m4, hm4⟩ : ∃ m4, M.length = m4 := ⟨_, rfl⟩
          rw [hm4] at HU hc
          clear hm3 hm4
          go_wp2_with (at_builtin; refine wpList_append_ints rfl _ _ rfl w.heap.size (.slice bb m3 cc) K rfl HO.out (.slice ub m4 uc) M rfl HU.out HLen.out HS.out ?_)
          intro v' w' hO' hg'
          have HO' : Hid (Own w' w.heap.size v' (K ++ M)) := hO'
          have HG' : Hid (w.grownBy w' none) := grownBy_own HG.out HO.out hg'
          clear hO' hg'
          go_wp2_with fail
          go_roundw
          case rel => exact ⟨k + 1, by omega, by simp, by rw [HT.out]; exact HO'.out, HG'.out⟩
          case measure => simp; omega
        · have e : k = i := by omega
          subst e
          have HO : Hid (Own wr w.heap.size u6 (Ls.take k).flatten) := hO
          clear hO hG
          go_wp2
          go_ret
          refine ⟨_, rfl, ?_, HG.out⟩
          have := HO.out
          rwa [← HN (), List.take_length] at this
theorem cell_new {w : World} {cs : Array Value} {t : TypeId} {j : Nat} {v : Value} (h : cs[j]? = some v) : (w.alloc (.cells cs t)).cell? ⟨w.heap.size, j, none⟩ = some v := by
  have := heap_alloc_new w (.cells cs t)
  unfold World.cell?
  simp only [this]
  exact h
theorem intsL1 {w : World} {a : Value} {A : List Int} (ha : Ints w a A) : IntsL (w.alloc (.cells #[a] 34)) (.slice (some ⟨w.heap.size, 0, none⟩) 1 1) [A] := by
  refine .inr ⟨w.heap.size, 0, 1, rfl, Nat.le_refl _, fun j hj => ?_⟩
  have h0 : j = 0 := by simp at hj; omega
  subst h0
  exact ⟨a, by rw [Nat.add_zero]; exact cell_new rfl, ha.kept (grow1 _ _)⟩
theorem intsL3 {w : World} {a b c : Value} {A B C : List Int} (ha : Ints w a A) (hb : Ints w b B) (hc : Ints w c C) : IntsL (w.alloc (.cells #[a, b, c] 34)) (.slice (some ⟨w.heap.size, 0, none⟩) 3 3) [A, B, C] := by
  refine .inr ⟨w.heap.size, 0, 3, rfl, Nat.le_refl _, fun j hj => ?_⟩
  have h0 : j = 0 ∨ j = 1 ∨ j = 2 := by simp at hj; omega
  rcases h0 with rfl | rfl | rfl
  · exact ⟨a, by rw [Nat.add_zero]; exact cell_new rfl, ha.kept (grow1 _ _)⟩
  · exact ⟨b, cell_new rfl, hb.kept (grow1 _ _)⟩
  · exact ⟨c, cell_new rfl, hc.kept (grow1 _ _)⟩
theorem around_any (w : World) (u v : Value) (A B : List Int) (hA : Ints w u A) (hB : Ints w v B) (hl : A.length + 2 * B.length ≤ 1000000) (hN : B.any noL = false) :
    Calls Tryd.prog 29 #[u, v] w fun e w' => ∃ v', e = .returned v' ∧ Own w' w.heap.size v' (inv B ++ A ++ B) ∧ w.grownBy w' none := by
  have HI := inverse_any w v B hB (by omega) hN
  have HA : Hid (Ints w u A) := hA
  have HB : Hid (Ints w v B) := hB
  have HF : Hid ([inv B, A, B].flatten = inv B ++ A ++ B) := by show _ = _; simp
  have HL : Hid ([inv B, A, B].flatten.length ≤ 1000000000) := by
    show _ ≤ _
    rw [HF.out]
    simp [inv_len]
    omega
  obtain ⟨ua, uc, rfl, _⟩ := hA.reads
  obtain ⟨va, vc, rfl, _⟩ := hB.reads
  generalize A.length = p at *
  generalize B.length = q at *
  clear hA hB hl hN
  go_enter Tryd.func29, Tryd.ntmps29
  go_wp2_with fail
  refine HI.mono ?_
  rintro e w2 ⟨rfl, hO, hG⟩
  have HO : Hid (Own w2 w.heap.size (.slice (some ⟨w.heap.size, 0, none⟩) q q) (inv B)) := hO
  have HG : Hid (w.grownBy w2 none) := hG
  clear hO hG
  go_wp2_with fail
  refine (concat_any _ _ _ (intsL3 HO.out.ints (HA.out.kept HG.out) (HB.out.kept HG.out)) (by simp) HL.out).mono ?_
  rintro e w3 ⟨v3, rfl, hO3, hG3⟩
  rw [HF.out] at hO3
  have HO3 : Hid (Own w3 w.heap.size v3 (inv B ++ A ++ B)) := hO3.mono (by have := HG.out.size; simp; omega)
  have HG3 : Hid (w.grownBy w3 none) := grownBy_trans HG.out (grownBy_trans (grow1 _ _) hG3)
  clear hO3 hG3
  go_wp2_with fail
  go_ret
  exact ⟨_, rfl, HO3.out, HG3.out⟩
theorem Own.empty (w : World) (t : Nat × Nat) : Own (w.alloc (.cells #[] 3)) w.heap.size (.slice (some ⟨w.heap.size, 0, none⟩) 0 0) [] :=
  World.ownsRow_made (base := w.heap.size) (e := 3) (size := 1) w #[] 0 (Nat.le_refl _) (by unfold maxLen; omega) rfl
theorem clone_any (w : World) (v : Value) (L : List Int) (h : Ints w v L) (hl : L.length ≤ 1000000) :
    Calls Tryd.prog 31 #[v] w fun e w' => ∃ v', e = .returned v' ∧ Own w' w.heap.size v' L ∧ w.grownBy w' none := by
  have HI0 : Hid (Ints w v L) := h
  rcases h.src with ⟨rfl, rfl⟩ | ⟨a, c, rfl, h5⟩
  · have hq : (binOp .eql 34 (.slice none 0 0) (.slice none 0 0)).run Tryd.prog w = .ok (.bool true) w := Lib.run_eql_slice_nil (P := Tryd.prog) w 34 3 none 0 0 0 0 Tryd.underlying34
    go_enter Tryd.func31, Tryd.ntmps31
    go_wp2
    go_ret
    exact ⟨_, rfl, Own.nil _ _, grow0 _⟩
  · have HI : Hid (Ints w (.slice (some a) L.length c) L) := HI0.out
    have HLen : Hid (([] : List Int).length + L.length ≤ 1000000000000) := by show _ ≤ _; simp; omega
    obtain ⟨n, hn⟩ : ∃ n, L.length = n := ⟨_, rfl⟩
    rw [hn] at HI hl ⊢
    clear hn HI0
    have hq : (binOp .eql 34 (.slice (some a) n c) (.slice none 0 0)).run Tryd.prog w = .ok (.bool false) w := Lib.run_eql_slice_nil (P := Tryd.prog) w 34 3 (some a) n c 0 0 Tryd.underlying34
    clear h h5
    go_enter Tryd.func31, Tryd.ntmps31
    go_wp2_with (at_builtin; refine wpList_append_ints rfl _ _ rfl w.heap.size (.slice (some ⟨w.heap.size, 0, none⟩) 0 0) [] rfl (Own.empty w (0, 0)) _ L rfl (HI.out.kept (grow1 _ _)) HLen.out (by simp) ?_)
    intro v' w' hO' hg'
    have HO' : Hid (Own w' w.heap.size v' L) := hO'
    have HG' : Hid (w.grownBy w' none) := grownBy_own (grow1 _ _) (Own.empty w (0, 0)) hg'
    clear hO' hg'
    go_wp2_with fail
    go_ret
    exact ⟨_, rfl, HO'.out, HG'.out⟩
end Go.Proofs.YtkimgmgafkihaaaDoor
