/-
  The program's put.
-/
import Derived.Test.YthldipnfaiobaaaDoorPua
import Derived.Test.YthldipnfaiobaaaDoorInv
namespace Go.Proofs.YthldipnfaiobaaaDoor
open Go.RowKit Go.Lib Go.Sort
set_option linter.unusedVariables false
set_option linter.unusedSimpArgs false
set_option maxHeartbeats 12800000
set_option maxRecDepth 1000000
theorem made_rows (n : Nat) : (madeCells (Value.slice none 0 0).cells (n * 1)).toList = List.replicate n (Value.slice none 0 0) := by
  rw [Nat.mul_one]
  apply List.ext_getElem
  · simp [madeCells]
  · intro i h1 h2
    simp [madeCells, Value.cells, Nat.mod_one]
theorem make_rows (w : World) (n : Nat) (hn : n ≤ 1000000) : ∃ w', (Instr.makeSlice 46 (.int .i64 (n : Int)) (.int .i64 (n : Int))).run Tryd.prog w = .ok (.slice (some ⟨w.heap.size, 0, none⟩) n n) w' ∧ Pc w' w.heap.size (.slice (some ⟨w.heap.size, 0, none⟩) n n) (List.replicate n []) ∧ w.grownBy w' none := by
  obtain ⟨i0, hi, hz0, hz1, hz2⟩ := info_parts Tryd.info24
  obtain ⟨w', h1, h2, h3⟩ := run_make_full (P := Tryd.prog) w w.heap.size 46 22 i0 (.slice none 0 0) 1 Tryd.underlying46 hi hz0 hz1 .i64 .i64 n (by rw [hz2]; omega) (by unfold maxLen; omega) (Nat.le_refl _)
  refine ⟨w', h1, ⟨List.replicate n (.slice none 0 0), by simp, ?_, fun j hj => ?_⟩, h3⟩
  · rw [List.length_replicate]
    rw [made_rows] at h2
    exact h2
  · have hj' : j < n := by simpa using hj
    rw [List.getElem?_replicate, List.getElem?_replicate, if_pos hj', if_pos hj']
    exact Fr.nil _ _
theorem Pc.mono {w : World} {base base' : Nat} {v : Value} {Ls : List (List Int)} (h : Pc w base v Ls) (hb : base' ≤ base) : Pc w base' v Ls := by
  obtain ⟨vs, hl, ho, hf⟩ := h
  refine ⟨vs, hl, ⟨ho.1, ?_⟩, hf⟩
  rcases ho.2 with h | ⟨g, cap, cur, e, hg, r⟩
  · exact .inl h
  · exact .inr ⟨g, cap, cur, e, Nat.le_trans hb hg, r⟩
theorem Pc.keptB {w w' : World} {base b2 : Nat} {v v' : Value} {Ls Ms : List (List Int)} (h : Pc w base v Ls) (k : Pc w b2 v' Ms) (hg : w.grownBy w' v'.ownBlock) (hne : v.ownBlock ≠ v'.ownBlock) : Pc w' base v Ls := by
  obtain ⟨vs, hl, ho, hf⟩ := h
  exact ⟨vs, hl, World.ownsRow.kept ho hg (.inr hne), fun j hj => (hf j hj).kept hg (k.far (hf j hj))⟩
theorem IntsL.take {w : World} {ab : Option Addr} {n c : Nat} {Ls : List (List Int)} (h : IntsL w (.slice ab n c) Ls) (k : Nat) (hk : k ≤ Ls.length) : IntsL w (.slice ab k c) (Ls.take k) := by
  rcases h with ⟨h | ⟨a, h⟩, rfl⟩ | ⟨B, off, c', e, hc, hel⟩
  · cases h
    obtain rfl : k = 0 := by simpa using hk
    exact .inl ⟨.inl rfl, rfl⟩
  · cases h
    obtain rfl : k = 0 := by simpa using hk
    exact .inl ⟨.inr ⟨a, rfl⟩, rfl⟩
  · obtain ⟨rfl, _, rfl⟩ := Value.slice.inj e
    have hl : (Ls.take k).length = k := by simp [hk]
    refine .inr ⟨B, off, c, by rw [hl], by omega, fun j hj => ?_⟩
    rw [hl] at hj
    obtain ⟨u, h1, h2⟩ := hel j (by omega)
    refine ⟨u, h1, ?_⟩
    rw [List.getElem?_take_of_lt hj]
    exact h2
theorem img_no {Ls : List (List Int)} (h : ∀ M ∈ Ls, M.any noL = false ∧ M.length ≤ 4096) (k : Int) : (∀ x ∈ img Ls k, noL x = false) ∧ (img Ls k).length ≤ 4096 := by
  have key : ∀ j : Nat, (Ls[j]?.getD []).any noL = false ∧ (Ls[j]?.getD []).length ≤ 4096 := by
    intro j
    rcases Nat.lt_or_ge j Ls.length with hj | hj
    · rw [List.getElem?_eq_getElem hj]
      exact h _ (List.getElem_mem hj)
    · rw [List.getElem?_eq_none hj]
      simp
  unfold img
  split
  · exact ⟨sh_letters (key _).1, Nat.le_trans (sh_len _) (key _).2⟩
  · exact ⟨inv_letters (sh_letters (key _).1), by rw [inv_len]; exact Nat.le_trans (sh_len _) (key _).2⟩
structure PtS (w wr : World) (g1 g2 k : Nat) (Ls : List (List Int)) (i : Nat) (A Bk : List (List Int)) : Prop where
  a : Pc wr w.heap.size (.slice (some ⟨g1, 0, none⟩) k k) A
  b : Pc wr w.heap.size (.slice (some ⟨g2, 0, none⟩) k k) Bk
  la : A.length = k
  lb : Bk.length = k
  each : ∀ j, j < i → A[j]?.getD [] = sh (Ls[j]?.getD []) ∧ Bk[j]?.getD [] = inv (sh (Ls[j]?.getD []))
  grown : w.grownBy wr none
theorem Pc.frz {w : World} {base g n c : Nat} {Ls : List (List Int)} (h : Pc w base (.slice (some ⟨g, 0, none⟩) n c) Ls) (j : Nat) : w.frozen? ⟨g, j, none⟩ = false := by
  rcases h.cases with ⟨e, _⟩ | ⟨g', c', e, _, _, _, hf⟩
  · cases e
  · obtain ⟨e1, _, _⟩ := Value.slice.inj e
    cases e1
    exact hf j
theorem getD_setL (l : List (List Int)) (i j : Nat) (x : List Int) (h : i < l.length) : (l.set i x)[j]?.getD [] = if i = j then x else l[j]?.getD [] := by
  rw [List.getElem?_set]
  split
  · rename_i e
    subst e
    rfl
  · rfl
theorem PtS.next {w wr w4 w6 : World} {g1 g2 k i : Nat} {Ls A Bk : List (List Int)} {x1 x2 : Value} {M : List Int} (h : PtS w wr g1 g2 k Ls i A Bk) (h12 : g1 ≠ g2) (hi : i < k) (hM : Ls[i]?.getD [] = M)
    (hg4 : wr.grownBy w4 none) (hx1 : Fr w4 0 x1 (sh M)) (hg6 : (w4.setCell ⟨g1, i, none⟩ x1).grownBy w6 none) (hx2 : Fr w6 0 x2 (inv (sh M))) : PtS w (w6.setCell ⟨g2, i, none⟩ x2) g1 g2 k Ls (i + 1) (A.set i (sh M)) (Bk.set i (inv (sh M))) := by
  have a4 := h.a.kept0 hg4
  have b4 := h.b.kept0 hg4
  have a5 := a4.set i x1 (sh M) hx1
  have b5 : Pc (w4.setCell ⟨g1, i, none⟩ x1) w.heap.size (.slice (some ⟨g2, 0, none⟩) k k) Bk := b4.keptB a4 (grownBy_setCell _ _ _ _) (by simp [Value.ownBlock]; omega)
  have a6 := a5.kept0 hg6
  have b6 := b5.kept0 hg6
  refine ⟨a6.keptB b6 (grownBy_setCell _ _ _ _) (by simp [Value.ownBlock]; omega), b6.set i x2 _ hx2, by rw [List.length_set]; exact h.la, by rw [List.length_set]; exact h.lb, fun j hj => ?_, ?_⟩
  · rw [getD_setL _ _ _ _ (by rw [h.la]; exact hi), getD_setL _ _ _ _ (by rw [h.lb]; exact hi)]
    by_cases e : i = j
    · subst e
      rw [if_pos rfl, if_pos rfl, hM]
      exact ⟨rfl, rfl⟩
    · rw [if_neg e, if_neg e]
      exact h.each j (by omega)
  · have hb1 : w.heap.size ≤ g1 := by
      rcases h.a.cases with ⟨e, _⟩ | ⟨g', c', e, hb, _⟩
      · cases e
      · obtain ⟨e1, _, _⟩ := Value.slice.inj e
        cases e1
        exact hb
    have hb2 : w.heap.size ≤ g2 := by
      rcases h.b.cases with ⟨e, _⟩ | ⟨g', c', e, hb, _⟩
      · cases e
      · obtain ⟨e1, _, _⟩ := Value.slice.inj e
        cases e1
        exact hb
    exact grown_set (grownBy_trans (grown_set (grownBy_trans h.grown hg4) hb1) hg6) hb2
theorem put_any (w : World) (v s : Value) (L : List Int) (Ls : List (List Int)) (h : Ints w v L) (hs : IntsL w s Ls) (hl : L.length ≤ 4096) (hls : Ls.length ≤ 1000) (hLn : ∀ x ∈ L, noL x = false) (hLs : ∀ M ∈ Ls, M.any noL = false ∧ M.length ≤ 4096) (hin : ∀ k ∈ L, max k (-k) ≤ (Ls.length : Int)) :
    Calls Tryd.prog 74 #[v, s] w fun e w' => PdQ w (L.map (img Ls)).flatten L.length e w' := by
  obtain ⟨sa, sc, rfl, HR⟩ := hs.reads
  obtain ⟨k, hk⟩ : ∃ k, min Ls.length 64 = k := ⟨_, rfl⟩
  have HS : Hid (∀ w1, w.grownBy w1 none → IntsL w1 (.slice sa k sc) (Ls.take k)) := fun w1 hg => (hs.kept hg).take k (by omega)
  have HTk : Hid ((Ls.take k).length = k ∧ ∀ j, j < k → (Ls.take k)[j]?.getD [] = Ls[j]?.getD []) := ⟨by rw [List.length_take]; omega, fun j hj => by rw [List.getElem?_take_of_lt hj]⟩
  have hsc : Ls.length ≤ sc ∧ (sa = none → Ls.length = 0) := by
    rcases hs with ⟨h | ⟨a, h⟩, rfl⟩ | ⟨B, off, c', e, hc, hel⟩
    · simp
    · simp
    · obtain ⟨e1, _, rfl⟩ := Value.slice.inj e
      exact ⟨hc, fun e => by rw [e1] at e; cases e⟩
  obtain ⟨n, hn⟩ : ∃ n, Ls.length = n := ⟨_, rfl⟩
  have HN : Unit → Ls.length = n := fun _ => hn
  rw [hn] at hsc ⊢
  have hnI : (n : Int) ≤ 1000 := by omega
  have hkI : min (n : Int) 64 = k := by omega
  have hk64 : (k : Int) ≤ 64 := by omega
  have hkn : (k : Int) ≤ n := by omega
  have hksc : (k : Int) ≤ sc := by omega
  have hk0 : (0 : Int) ≤ k := by omega
  obtain ⟨w1, hmk1', hP1', hG1'⟩ := make_rows w.drew k (by omega)
  have hmk1 : (Instr.makeSlice 46 (.int .i64 (k : Int)) (.int .i64 (k : Int))).run Tryd.prog w.drew = .ok (.slice (some ⟨w.heap.size, 0, none⟩) k k) w1 := hmk1'
  have hP1 : Pc w1 w.heap.size (.slice (some ⟨w.heap.size, 0, none⟩) k k) (List.replicate k []) := hP1'
  have hG1 : w.grownBy w1 none := grownBy_undrew hG1'
  obtain ⟨w2, hmk2, hP2, hG2⟩ := make_rows w1 k (by omega)
  have HNe : Hid (w.heap.size ≠ w1.heap.size) := by
    rcases hP1.cases with ⟨e, _⟩ | ⟨g, c, e, _, hlt, _⟩
    · cases e
    · obtain ⟨e1, _, _⟩ := Value.slice.inj e
      cases e1
      show _ ≠ _
      omega
  have HG02 : Hid (w.grownBy w2 none) := grownBy_trans hG1 hG2
  have HLs : Hid (∀ j : Nat, (Ls[j]?.getD []).any noL = false ∧ (Ls[j]?.getD []).length ≤ 4096) := by
    intro j
    rcases Nat.lt_or_ge j Ls.length with hj | hj
    · rw [List.getElem?_eq_getElem hj]
      exact hLs _ (List.getElem_mem hj)
    · rw [List.getElem?_eq_none hj]
      simp
  have HImg : Hid (∀ k, (∀ x ∈ img Ls k, noL x = false) ∧ (img Ls k).length ≤ 4096) := img_no hLs
  have HI : Hid (∀ w1, w.grownBy w1 none → Ints w1 v L) := fun w1 hg => h.kept hg
  have HLn : Hid (∀ i, i < L.length → noL (L[i]?.getD 0) = false ∧ max (L[i]?.getD 0) (-(L[i]?.getD 0)) ≤ (n : Int)) := by
    intro i hi
    rw [List.getElem?_eq_getElem hi]
    exact ⟨hLn _ (List.getElem_mem hi), by have := hin _ (List.getElem_mem hi); rw [hn] at this; exact this⟩
  have HLl : Hid (L.length ≤ 4096) := hl
  obtain ⟨va, vc, rfl, _⟩ := h.reads
  clear HR hs hmk1' hP1' hG1' h hl hls hLn hLs hin hn
  go_enter Tryd.func74, Tryd.ntmps74
  go_wp2_with fail
  go_region_held3 (fun _ => True) (trivial) (fail)
  all_goals go_wp2_with fail
  obtain ⟨g1, g2, h12, HA, HB, e1, e2⟩ : ∃ g1 g2, g1 ≠ g2 ∧ Hid (Pc w2 w.heap.size (.slice (some ⟨g1, 0, none⟩) k k) (List.replicate k [])) ∧ Hid (Pc w2 w.heap.size (.slice (some ⟨g2, 0, none⟩) k k) (List.replicate k [])) ∧ g1 = w.heap.size ∧ g2 = w1.heap.size := ⟨_, _, HNe.out, hP1.kept0 hG2, hP2.mono hG1.size, rfl, rfl⟩
  rw [← e1, ← e2]
  clear e1 e2
  rotate_left 1
  obtain ⟨g1, g2, h12, HA, HB, e1, e2⟩ : ∃ g1 g2, g1 ≠ g2 ∧ Hid (Pc w2 w.heap.size (.slice (some ⟨g1, 0, none⟩) k k) (List.replicate k [])) ∧ Hid (Pc w2 w.heap.size (.slice (some ⟨g2, 0, none⟩) k k) (List.replicate k [])) ∧ g1 = w1.heap.size ∧ g2 = w.heap.size := ⟨_, _, HNe.out.symm, hP2.mono hG1.size, hP1.kept0 hG2, rfl, rfl⟩
  rw [← e1, ← e2]
  clear e1 e2
  all_goals (
    clear hmk1 hmk2 hP1 hP2 hG1 hG2 HNe
    have HK64 : Hid (k ≤ 64) := by show k ≤ 64; omega
    go_loopw [25] (fun s wr => ∃ (i : Nat) (A Bk : List (List Int)), i ≤ k ∧ s = .int .i64 (i : Int) ∧ PtS w wr g1 g2 k Ls i A Bk) (fun s _ => match s with | .int _ i => k - i.toNat | _ => 0)
    case atStart => exact ⟨0, _, _, by omega, rfl, ⟨HA.out, HB.out, by simp, by simp, fun j hj => by omega, HG02.out⟩⟩
    case round =>
      obtain ⟨i, A, Bk, hi, rfl, hP⟩ := hrel
      have HP : Hid (PtS w wr g1 g2 k Ls i A Bk) := hP
      clear hP HA HB
      by_cases hlt : i < k
      · obtain ⟨ab', c', e', hrd⟩ := (HS.out wr HP.out.grown).reads
        rw [HTk.out.1] at e' hrd
        obtain ⟨rfl, _, rfl⟩ := Value.slice.inj e'
        obtain ⟨B, off, x, rfl, hc, hx, hkc⟩ := hrd wr (grow0 wr) i hlt
        rw [HTk.out.2 i hlt] at hx
        have hM0 : (Ls[i]?.getD []).any noL = false ∧ (Ls[i]?.getD []).length ≤ 4096 := HLs.out i
        have HNx : Hid (∀ M, Ls[i]?.getD [] = M → ∀ w4 w6 x1 x2, wr.grownBy w4 none → Fr w4 0 x1 (sh M) → (w4.setCell ⟨g1, i, none⟩ x1).grownBy w6 none → Fr w6 0 x2 (inv (sh M)) → PtS w (w6.setCell ⟨g2, i, none⟩ x2) g1 g2 k Ls (i + 1) (A.set i (sh M)) (Bk.set i (inv (sh M)))) := fun M hM w4 w6 x1 x2 h1 h2 h3 h4 => HP.out.next h12 hlt hM h1 h2 h3 h4
        have HNx2 : Hid (∀ w4 w6 x1 x2, wr.grownBy w4 none → Fr w4 0 x1 (sh (Ls[i]?.getD [])) → (w4.setCell ⟨g1, i, none⟩ x1).grownBy w6 none → Fr w6 0 x2 (inv (sh (Ls[i]?.getD []))) → PtS w (w6.setCell ⟨g2, i, none⟩ x2) g1 g2 k Ls (i + 1) (A.set i (sh (Ls[i]?.getD []))) (Bk.set i (inv (sh (Ls[i]?.getD []))))) := HNx.out _ rfl
        generalize Ls[i]?.getD [] = M at *
        have HX : Hid (Ints wr x M) := hx
        have HMn : Hid (M.any noL = false ∧ M.length ≤ 4096) := hM0
        have HSn : Hid (∀ x ∈ sh M, noL x = false) := sh_letters hM0.1
        have hltI : (i : Int) < k := by omega
        obtain ⟨xb, xc, rfl, _⟩ := hx.reads
        clear hrd e' hx hM0 HNx
        obtain ⟨ml, hml⟩ : ∃ ml, M.length = ml := ⟨_, rfl⟩
        rw [hml] at HX hc
        clear hml
        go_wp2_with fail
        refine (short_fr wr _ M HX.out (by have := HMn.out.2; omega) HMn.out.1).mono ?_
        rintro e w4 ⟨rfl, hF, hG⟩
        have G4 : Hid (wr.grownBy w4 none) := hG
        have HF : Hid (Fr w4 0 (.slice (some ⟨wr.heap.size, 0, none⟩) (sh M).length (sh M).length) (sh M)) := hF.mono (Nat.zero_le _)
        have HSl : Hid ((sh M).length ≤ 4096) := Nat.le_trans (sh_len M) HMn.out.2
        have a4 := HP.out.a.kept0 hG
        obtain ⟨y1, c1, _⟩ := a4.get i (by rw [HP.out.la]; exact hlt)
        have f1 := a4.frz i
        have HF5 : Hid (Ints (w4.setCell ⟨g1, i, none⟩ (.slice (some ⟨wr.heap.size, 0, none⟩) (sh M).length (sh M).length)) (.slice (some ⟨wr.heap.size, 0, none⟩) (sh M).length (sh M).length) (sh M)) := (HF.out.kept (grownBy_setCell _ _ _ _) (a4.far HF.out)).ints
        have HB5 : Hid (Pc (w4.setCell ⟨g1, i, none⟩ (.slice (some ⟨wr.heap.size, 0, none⟩) (sh M).length (sh M).length)) w.heap.size (.slice (some ⟨g2, 0, none⟩) k k) Bk) := (HP.out.b.kept0 hG).keptB a4 (grownBy_setCell _ _ _ _) (by simp [Value.ownBlock]; omega)
        have HIn : Hid (∀ w5, Ints w5 (.slice (some ⟨wr.heap.size, 0, none⟩) (sh M).length (sh M).length) (sh M) → Calls Tryd.prog 51 #[.slice (some ⟨wr.heap.size, 0, none⟩) (sh M).length (sh M).length] w5 fun e w' => e = .returned (.slice (some ⟨w5.heap.size, 0, none⟩) (sh M).length (sh M).length) ∧ Own w' w5.heap.size (.slice (some ⟨w5.heap.size, 0, none⟩) (sh M).length (sh M).length) (inv (sh M)) ∧ w5.grownBy w' none) := fun w5 h5 => inverse_any w5 _ _ h5 (by have := HSl.out; omega) (any_no HSn.out)
        obtain ⟨sl, hsl⟩ : ∃ sl, (sh M).length = sl := ⟨_, rfl⟩
        rw [hsl] at HF HF5 HB5 HIn ⊢
        clear hF hG a4 hsl
        go_wp2_with fail
        have HW5 : Hid (∀ w6 x2, (w4.setCell ⟨g1, i, none⟩ (.slice (some ⟨wr.heap.size, 0, none⟩) sl sl)).grownBy w6 none → Fr w6 0 x2 (inv (sh M)) → PtS w (w6.setCell ⟨g2, i, none⟩ x2) g1 g2 k Ls (i + 1) (A.set i (sh M)) (Bk.set i (inv (sh M)))) := fun w6 x2 h3 h4 => HNx2.out w4 w6 _ x2 G4.out HF.out h3 h4
        generalize w4.setCell ⟨g1, i, none⟩ (.slice (some ⟨wr.heap.size, 0, none⟩) sl sl) = w5 at *
        refine (HIn.out w5 HF5.out).mono ?_
        rintro e w6 ⟨rfl, hO6, hG6⟩
        have b6 := HB5.out.kept0 hG6
        obtain ⟨y2, c2, _⟩ := b6.get i (by rw [HP.out.lb]; exact hlt)
        have f2 := b6.frz i
        have HNx : Hid (PtS w (w6.setCell ⟨g2, i, none⟩ (.slice (some ⟨w5.heap.size, 0, none⟩) sl sl)) g1 g2 k Ls (i + 1) (A.set i (sh M)) (Bk.set i (inv (sh M)))) := HW5.out w6 _ hG6 (hO6.fr.mono (Nat.zero_le _))
        clear hO6 hG6 b6 c1 f1
        go_wp2_with fail
        go_roundw
        case rel => exact ⟨i + 1, _, _, by omega, num_eq (by omega), HNx.out⟩
        case measure => simp; omega
      · have e : i = k := by omega
        subst e
        obtain ⟨w3, hw3⟩ : ∃ w3, w3 = wr := ⟨_, rfl⟩
        subst hw3
        have HPa : Hid (∀ w', w3.grownBy w' none → ∀ j, j < i → ∃ u, w'.cell? ⟨g1, j, none⟩ = some u ∧ Fr w' 0 u (sh (Ls[j]?.getD []))) := by
          intro w' hg j hj
          obtain ⟨u, h1, h2⟩ := (HP.out.a.kept0 hg).get j (by rw [HP.out.la]; exact hj)
          rw [(HP.out.each j hj).1] at h2
          exact ⟨u, h1, h2⟩
        have HPb : Hid (∀ w', w3.grownBy w' none → ∀ j, j < i → ∃ u, w'.cell? ⟨g2, j, none⟩ = some u ∧ Fr w' 0 u (inv (sh (Ls[j]?.getD [])))) := by
          intro w' hg j hj
          obtain ⟨u, h1, h2⟩ := (HP.out.b.kept0 hg).get j (by rw [HP.out.lb]; exact hj)
          rw [(HP.out.each j hj).2] at h2
          exact ⟨u, h1, h2⟩
        have HGr : Hid (w.grownBy w3 none) := HP.out.grown
        have HEnd : Hid (∀ Ps s wz, PdS w3 (L.map (img Ls)).flatten L.length s Ps wz → PdQ w (L.map (img Ls)).flatten L.length (.returned s) wz) := fun Ps s wz hS => ⟨s, Ps, rfl, hS.pc.mono HGr.out.size, hS.eq, hS.len, hS.each, grownBy_trans HGr.out hS.grown⟩
        have HRd : Hid (∀ w', w3.grownBy w' none → ∀ q, q < L.length → ∃ B off, va = some ⟨B, off, none⟩ ∧ w'.cell? ⟨B, off + q, none⟩ = some (.int .i64 (L[q]?.getD 0)) ∧ L.length ≤ vc) := by
          intro w' hg q hq
          obtain ⟨ab', c', e', hrd⟩ := (HI.out w' (grownBy_trans HGr.out hg)).reads
          obtain ⟨rfl, _, rfl⟩ := Value.slice.inj e'
          obtain ⟨B, off, e2, h1, h2⟩ := hrd w' (grow0 w') q hq
          exact ⟨B, off, e2, h1, h2⟩
        obtain ⟨p, hp⟩ : ∃ p, L.length = p := ⟨_, rfl⟩
        have HPl : Unit → L.length = p := fun _ => hp
        rw [hp] at HLn HLl HEnd HRd ⊢
        have hpI : (p : Int) ≤ 4096 := by have := HLl.out; omega
        clear hp HP HS HTk hlt HI
        go_wp2_with fail
        go_loopw [9, 46] (fun s t wz => ∃ (q : Nat) (Ps : List (List Int)), q ≤ p ∧ t = .int .i64 (q : Int) ∧ PdS w3 ((L.take q).map (img Ls)).flatten q s Ps wz) (fun _ t _ => match t with | .int _ q => p - q.toNat | _ => 0)
        case atStart => exact ⟨0, [], by omega, rfl, ⟨Pc.nil _ _, rfl, by simp, by simp, grow0 _⟩⟩
        case round =>
          obtain ⟨q, Ps, hq, rfl, hS⟩ := hrel
          have HS : Hid (PdS w3 ((L.take q).map (img Ls)).flatten q u9 Ps wr) := hS
          clear hS
          by_cases hlt : q < p
          · obtain ⟨B, off, rfl, hc, hpc⟩ := HRd.out wr HS.out.grown q hlt
            have hlt' : q < L.length := by rw [HPl ()]; exact hlt
            have hlq := HLn.out q hlt
            have HT : Hid (((L.take (q + 1)).map (img Ls)).flatten = ((L.take q).map (img Ls)).flatten ++ img Ls (L[q]?.getD 0)) := by
              show _ = _
              rw [List.take_succ_eq_append_getElem hlt', List.map_append, List.flatten_append, List.getElem?_eq_getElem hlt']
              simp
            have HM : Hid (∀ x ∈ ((L.take q).map (img Ls)).flatten, noL x = false) := by
              intro x hx
              obtain ⟨l, hl, hxl⟩ := List.mem_flatten.1 hx
              obtain ⟨z, _, rfl⟩ := List.mem_map.1 hl
              exact (HImg.out z).1 x hxl
            have HTm : Hid (∀ u, Fr wr 0 u (img Ls (L[q]?.getD 0)) → Calls Tryd.prog 94 #[u9, u] wr fun e w' => ∃ v' Ps', e = .returned v' ∧ PdS w3 ((L.take (q + 1)).map (img Ls)).flatten (q + 1) v' Ps' w') := by
              intro u hu
              have hT := HS.out.times HM.out (HImg.out (L[q]?.getD 0)).1 (by have := (HImg.out (L[q]?.getD 0)).2; omega) (img_red Ls _) (grow0 wr) hu
              refine (ptimes_any wr w3.heap.size _ _ Ps _ hT (by have := HS.out.len; have := HLl.out; omega) HS.out.grown.size).mono ?_
              intro e w' hQ
              obtain ⟨v', Ps', rfl, hS'⟩ := HS.out.next (v' := .slice none 0 0) (grow0 wr) hQ
              exact ⟨v', Ps', rfl, hS'.swap (by rw [HT.out])⟩
            have hltI : (q : Int) < p := by omega
            obtain ⟨hb0, hb1, hb2⟩ := noL_no hlq.1
            have hb3 := hlq.2
            have hk64 := HK64.out
            have hkI2 := hkI
            obtain ⟨sb, sc9, rfl⟩ := HS.out.pc.form
            obtain ⟨pl, hpl⟩ : ∃ pl, Ps.length = pl := ⟨_, rfl⟩
            rw [hpl] at HS HTm ⊢
            clear hlq hpl HM HT
            have HImD : Hid (∀ j : Nat, (L[q]?.getD 0 - 1 = (j : Int) → 0 < L[q]?.getD 0 → img Ls (L[q]?.getD 0) = sh (Ls[j]?.getD [])) ∧ (-(L[q]?.getD 0) - 1 = (j : Int) → ¬ 0 < L[q]?.getD 0 → img Ls (L[q]?.getD 0) = inv (sh (Ls[j]?.getD [])))) := by
              intro j
              refine ⟨fun e h0 => ?_, fun e h0 => ?_⟩
              · unfold img
                rw [if_pos h0, show (L[q]?.getD 0 - 1).toNat = j by omega]
              · unfold img
                rw [if_neg h0, show (-(L[q]?.getD 0) - 1).toNat = j by omega]
            generalize L[q]?.getD 0 = y at *
            by_cases hy : 0 < y
            · obtain ⟨j, hj⟩ : ∃ j : Nat, y - 1 = (j : Int) := ⟨(y - 1).toNat, by omega⟩
              have hji : j < i := by omega
              have hjI : (j : Int) < i := by omega
              obtain ⟨u, cu, hu⟩ := HPa.out wr HS.out.grown j hji
              rw [← (HImD.out j).1 hj hy] at hu
              have HC := HTm.out u hu
              obtain ⟨ub, uc, rfl⟩ := hu.form
              generalize (img Ls y).length = ul at *
              clear hu HTm HImD
              go_wp2_with fail
              refine HC.mono ?_
              rintro e w4 ⟨v', Ps', rfl, hS'⟩
              have HS' : Hid (PdS w3 ((L.take (q + 1)).map (img Ls)).flatten (q + 1) v' Ps' w4) := hS'
              clear hS' HC
              go_wp2_with fail
              go_roundw
              case rel => exact ⟨q + 1, Ps', by omega, num_eq (by omega), HS'.out⟩
              case measure => simp; omega
            · obtain ⟨j, hj⟩ : ∃ j : Nat, -y - 1 = (j : Int) := ⟨(-y - 1).toNat, by omega⟩
              have hji : j < i := by omega
              have hjI : (j : Int) < i := by omega
              obtain ⟨u, cu, hu⟩ := HPb.out wr HS.out.grown j hji
              rw [← (HImD.out j).2 hj hy] at hu
              have HC := HTm.out u hu
              obtain ⟨ub, uc, rfl⟩ := hu.form
              generalize (img Ls y).length = ul at *
              clear hu HTm HImD
              go_wp2_with fail
              refine HC.mono ?_
              rintro e w4 ⟨v', Ps', rfl, hS'⟩
              have HS' : Hid (PdS w3 ((L.take (q + 1)).map (img Ls)).flatten (q + 1) v' Ps' w4) := hS'
              clear hS' HC
              go_wp2_with fail
              go_roundw
              case rel => exact ⟨q + 1, Ps', by omega, num_eq (by omega), HS'.out⟩
              case measure => simp; omega
          · have e : q = p := by omega
            subst e
            have HE2 : Hid (PdQ w (L.map (img Ls)).flatten q (.returned u9) wr) := by
              have := HS.out
              rw [← HPl (), List.take_length, HPl ()] at this
              exact HEnd.out Ps u9 wr this
            go_wp2_with fail
            go_ret
            rw [HPl ()]
            exact HE2.out)
end Go.Proofs.YthldipnfaiobaaaDoor
