/-
  The order of words, as the document has it: place, Cmp.
-/
import Derived.Test.YthldipnfaiobaaaDoorCmu
namespace Go.Proofs.YthldipnfaiobaaaDoor
open Go.RowKit Go.Lib Go.Sort
set_option linter.unusedVariables false
set_option linter.unusedSimpArgs false
set_option maxHeartbeats 1600000
set_option maxRecDepth 1000000
def plc (k : Int) : Int := if 0 < k then 2 * k - 2 else -2 * k - 1
theorem place_any (k : Int) (h : -64 ≤ k ∧ k ≤ 64) (w : World) : Calls Tryd.prog 72 #[.int .i64 k] w fun e w' => e = .returned (.int .i64 (plc k)) ∧ w' = w := by
  obtain ⟨h1, h2⟩ := h
  unfold plc
  by_cases h0 : 0 < k
  · rw [if_pos h0]
    go_enter Tryd.func72, Tryd.ntmps72
    go_wp2
    go_ret
    exact ⟨rfl, rfl⟩
  · rw [if_neg h0]
    go_enter Tryd.func72, Tryd.ntmps72
    go_wp2
    go_ret
    exact ⟨rfl, rfl⟩
theorem ordL_plc {k l : Int} (hk : k ≠ 0) (hl : l ≠ 0) : ordL k l = cmp3 (plc k) (plc l) := by
  unfold ordL cmp3 plc
  repeat' split
  all_goals omega
theorem rCmp_any (w : World) (v u : Value) (V U : List Int) (hV : Ints w v V) (hU : Ints w u U) (hl : V.length ≤ 1000000) (hl2 : U.length ≤ 1000000) (hVn : ∀ x ∈ V, noL x = false) (hUn : ∀ x ∈ U, noL x = false) :
    Calls Tryd.prog 40 #[v, u] w fun e w' => e = .returned (.int .i64 (cpL V U)) ∧ w.grownBy w' none := by
  obtain ⟨ab, c, rfl, HR⟩ := hV.reads
  obtain ⟨ub, uc, rfl, HR2⟩ := hU.reads
  have HRV : Hid (∀ w', w.grownBy w' none → ∀ i, i < V.length → ∃ B off, ab = some ⟨B, off, none⟩ ∧ w'.cell? ⟨B, off + i, none⟩ = some (.int .i64 (V[i]?.getD 0)) ∧ V.length ≤ c) := HR
  have HRU : Hid (∀ w', w.grownBy w' none → ∀ i, i < U.length → ∃ B off, ub = some ⟨B, off, none⟩ ∧ w'.cell? ⟨B, off + i, none⟩ = some (.int .i64 (U[i]?.getD 0)) ∧ U.length ≤ uc) := HR2
  have HVn : Hid (∀ i, i < V.length → noL (V[i]?.getD 0) = false) := fun i hi => by
    rw [List.getElem?_eq_getElem hi]
    exact hVn _ (List.getElem_mem hi)
  have HUn : Hid (∀ i, i < U.length → noL (U[i]?.getD 0) = false) := fun i hi => by
    rw [List.getElem?_eq_getElem hi]
    exact hUn _ (List.getElem_mem hi)
  have HCp : Hid (cpL V U = if cmp3 (V.length : Int) (U.length : Int) = 0 then cfL V U else cmp3 (V.length : Int) (U.length : Int)) := rfl
  obtain ⟨n, hn⟩ : ∃ n, V.length = n := ⟨_, rfl⟩
  obtain ⟨k, hk⟩ : ∃ k, U.length = k := ⟨_, rfl⟩
  have HN : Unit → V.length = n ∧ U.length = k := fun _ => ⟨hn, hk⟩
  have hnI : (n : Int) ≤ 1000000 := by omega
  have hkI : (k : Int) ≤ 1000000 := by omega
  rw [hn] at HRV HVn HCp ⊢
  rw [hk] at HRU HUn HCp ⊢
  clear HR HR2 hV hU hl hl2 hn hk hVn hUn
  by_cases hnk : n = k
  · subst hnk
    have HC0 : Hid (cpL V U = cfL V U) := by
      show _ = _
      rw [HCp.out, if_pos (by unfold cmp3; rw [if_neg (by omega), if_neg (by omega)])]
    clear HCp
    go_enter Tryd.func40, Tryd.ntmps40
    go_wp2_with fail
    go_loopw [5] (fun s wr => ∃ (i : Nat), i ≤ n ∧ s = .int .i64 (i : Int) ∧ cpL V U = cfL (V.drop i) (U.drop i) ∧ w.grownBy wr none) (fun s _ => match s with | .int _ i => n - i.toNat | _ => 0)
    case atStart => exact ⟨0, by omega, rfl, HC0.out, grow0 _⟩
    case round =>
      obtain ⟨i, hi, rfl, hz, hG⟩ := hrel
      have HZ : Hid (cpL V U = cfL (V.drop i) (U.drop i)) := hz
      have HG : Hid (w.grownBy wr none) := hG
      clear hz hG
      by_cases hlt : i < n
      · obtain ⟨B, off, rfl, c1, hnc⟩ := HRV.out wr HG.out i hlt
        have hlt' : i < V.length := by rw [(HN ()).1]; exact hlt
        have hltI : (i : Int) < n := by omega
        have eV : V.drop i = V[i]?.getD 0 :: V.drop (i + 1) := by rw [List.drop_eq_getElem_cons hlt', List.getElem?_eq_getElem hlt']; rfl
        have hx := noL_no (HVn.out i hlt)
        obtain ⟨B2, off2, rfl, c2, hkc⟩ := HRU.out wr HG.out i hlt
        have hlk' : i < U.length := by rw [(HN ()).2]; exact hlt
        have eU : U.drop i = U[i]?.getD 0 :: U.drop (i + 1) := by rw [List.drop_eq_getElem_cons hlk', List.getElem?_eq_getElem hlk']; rfl
        have hy := noL_no (HUn.out i hlt)
        have HO : Hid (cpL V U = if ordL (V[i]?.getD 0) (U[i]?.getD 0) = 0 then cfL (V.drop (i + 1)) (U.drop (i + 1)) else ordL (V[i]?.getD 0) (U[i]?.getD 0)) := by
          show _ = _
          rw [HZ.out, eV, eU]
          rfl
        generalize V[i]?.getD 0 = x at *
        generalize U[i]?.getD 0 = y at *
        rw [ordL_plc hx.1 hy.1] at HO
        have HX2 : Hid (-64 ≤ x ∧ x ≤ 64) := hx.2
        have HY2 : Hid (-64 ≤ y ∧ y ≤ 64) := hy.2
        clear eV eU hx hy HZ
        have HZc : Hid (wr.cell? ⟨B, off + i, none⟩ = some (Value.int .i64 x) ∧ wr.cell? ⟨B2, off2 + i, none⟩ = some (Value.int .i64 y)) := ⟨c1, c2⟩
        by_cases h1 : plc x < plc y
        · have HO2 : Hid (cpL V U = -1) := by
            show _ = _
            rw [HO.out]
            unfold cmp3
            rw [if_pos h1, if_neg (by decide)]
          clear HO
          go_wp2_with fail
          go_region_held3 (fun w' => w'.cell? ⟨B, off + i, none⟩ = some (Value.int .i64 x) ∧ w'.cell? ⟨B2, off2 + i, none⟩ = some (Value.int .i64 y)) (first | (go_keep; done) | fail) (first | (go_at_call 72; refine (place_any _ (by first | exact HX2.out | exact HY2.out) _).mono ?_; rintro e w' ⟨rfl, rfl⟩) | fail)
          all_goals (
            go_wp2_with fail
            go_ret
            exact ⟨ret_num HO2.out.symm, grow_drew HG.out⟩)
        · by_cases h2 : plc y < plc x
          · have HO2 : Hid (cpL V U = 1) := by
              show _ = _
              rw [HO.out]
              unfold cmp3
              rw [if_neg h1, if_pos h2, if_neg (by decide)]
            clear HO
            go_wp2_with fail
            go_region_held3 (fun w' => w'.cell? ⟨B, off + i, none⟩ = some (Value.int .i64 x) ∧ w'.cell? ⟨B2, off2 + i, none⟩ = some (Value.int .i64 y)) (first | (go_keep; done) | fail) (first | (go_at_call 72; refine (place_any _ (by first | exact HX2.out | exact HY2.out) _).mono ?_; rintro e w' ⟨rfl, rfl⟩) | fail)
            all_goals (
              go_wp2_with fail
              go_region_held3 (fun w' => w'.cell? ⟨B, off + i, none⟩ = some (Value.int .i64 x) ∧ w'.cell? ⟨B2, off2 + i, none⟩ = some (Value.int .i64 y)) (first | (go_keep; done) | fail) (first | (go_at_call 72; refine (place_any _ (by first | exact HX2.out | exact HY2.out) _).mono ?_; rintro e w' ⟨rfl, rfl⟩) | fail)
              all_goals (
                go_wp2_with fail
                go_ret
                exact ⟨ret_num HO2.out.symm, grow_drew (grow_drew HG.out)⟩))
          · have HO2 : Hid (cpL V U = cfL (V.drop (i + 1)) (U.drop (i + 1))) := by
              show _ = _
              rw [HO.out]
              unfold cmp3
              rw [if_neg h1, if_neg h2, if_pos rfl]
            clear HO
            go_wp2_with fail
            go_region_held3 (fun w' => w'.cell? ⟨B, off + i, none⟩ = some (Value.int .i64 x) ∧ w'.cell? ⟨B2, off2 + i, none⟩ = some (Value.int .i64 y)) (first | (go_keep; done) | fail) (first | (go_at_call 72; refine (place_any _ (by first | exact HX2.out | exact HY2.out) _).mono ?_; rintro e w' ⟨rfl, rfl⟩) | fail)
            all_goals (
              go_wp2_with fail
              go_region_held3 (fun w' => w'.cell? ⟨B, off + i, none⟩ = some (Value.int .i64 x) ∧ w'.cell? ⟨B2, off2 + i, none⟩ = some (Value.int .i64 y)) (first | (go_keep; done) | fail) (first | (go_at_call 72; refine (place_any _ (by first | exact HX2.out | exact HY2.out) _).mono ?_; rintro e w' ⟨rfl, rfl⟩) | fail)
              all_goals (
                go_wp2_with fail
                go_roundw
                case rel => exact ⟨i + 1, by omega, num_eq (by omega), HO2.out, grow_drew (grow_drew HG.out)⟩
                case measure => simp; omega))
      · have e : i = n := by omega
        subst e
        have HO2 : Hid (cpL V U = 0) := by
          show _ = _
          rw [HZ.out, List.drop_eq_nil_of_le (by rw [(HN ()).1]; omega), List.drop_eq_nil_of_le (by rw [(HN ()).2]; omega)]
          rfl
        go_wp2_with fail
        go_ret
        exact ⟨ret_num HO2.out.symm, HG.out⟩
  · have hnkb : ((n : Int) != k) = true := by simpa using (show (n : Int) ≠ k by omega)
    by_cases h1 : n < k
    · have h1I : (n : Int) < k := by omega
      have HO2 : Hid (cpL V U = -1) := by
        show _ = _
        rw [HCp.out]
        unfold cmp3
        rw [if_pos h1I, if_neg (by decide)]
      clear HCp
      go_enter Tryd.func40, Tryd.ntmps40
      go_wp2_with fail
      go_ret
      exact ⟨ret_num HO2.out.symm, grow0 _⟩
    · have h1I : ¬ (n : Int) < k := by omega
      have h2I : (k : Int) < n := by omega
      have HO2 : Hid (cpL V U = 1) := by
        show _ = _
        rw [HCp.out]
        unfold cmp3
        rw [if_neg h1I, if_pos h2I, if_neg (by decide)]
      clear HCp
      go_enter Tryd.func40, Tryd.ntmps40
      go_wp2_with fail
      go_ret
      exact ⟨ret_num HO2.out.symm, grow0 _⟩
end Go.Proofs.YthldipnfaiobaaaDoor
