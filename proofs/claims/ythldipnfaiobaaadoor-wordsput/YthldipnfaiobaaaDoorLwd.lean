/-
  The law's much.
-/
import Derived.Test.YthldipnfaiobaaaDoorLwa
namespace Go.Proofs.YthldipnfaiobaaaDoor
open Go.RowKit Go.Lib Go.Sort
set_option linter.unusedVariables false
set_option linter.unusedSimpArgs false
set_option maxHeartbeats 1600000
set_option maxRecDepth 1000000
def muchN (Ls : List (List Int)) : Nat := (Ls.map (fun L => min L.length 10000)).sum
theorem muchN_snoc (Ls : List (List Int)) (i : Nat) (h : i < Ls.length) : muchN (Ls.take (i + 1)) = muchN (Ls.take i) + min (Ls[i]?.getD []).length 10000 := by
  unfold muchN
  rw [List.take_succ_eq_append_getElem h, List.map_append, List.sum_append_nat, List.getElem?_eq_getElem h]
  simp
theorem muchN_le (Ls : List (List Int)) : muchN Ls ≤ 10000 * Ls.length := by
  induction Ls with
  | nil => simp [muchN]
  | cons a l ih =>
    simp only [muchN, List.map_cons, List.sum_cons, List.length_cons] at ih ⊢
    omega
theorem much_any (w : World) (v : Value) (Ls : List (List Int)) (h : IntsL w v Ls) (hl : Ls.length ≤ 1000000) (hl2 : ∀ L ∈ Ls, L.length ≤ 1000000000000000) :
    Calls Tryd.prog 9 #[v] w fun e w' => e = .returned (.bool (decide (9000 < muchN Ls))) ∧ w' = w := by
  obtain ⟨ab, c, rfl, HR⟩ := h.reads
  have HR1 : Hid (∀ i, i < Ls.length → ∃ B off u, ab = some ⟨B, off, none⟩ ∧ w.cell? ⟨B, off + i, none⟩ = some u ∧ Ints w u (Ls[i]?.getD []) ∧ Ls.length ≤ c) := fun i hi => HR w (grow0 w) i hi
  have HL2 : Hid (∀ L ∈ Ls, L.length ≤ 1000000000000000) := hl2
  obtain ⟨n, hn⟩ : ∃ n, Ls.length = n := ⟨_, rfl⟩
  have HN : Unit → Ls.length = n := fun _ => hn
  have hnI : (n : Int) ≤ 1000000 := by omega
  rw [hn] at HR1 ⊢
  clear HR h hl hn hl2
  go_enter Tryd.func9, Tryd.ntmps9
  go_wp2_with fail
  go_loopw [3, 4] (fun s t wr => ∃ (i : Nat), i ≤ n ∧ t = .int .i64 (i : Int) ∧ s = .int .i64 ((muchN (Ls.take i) : Nat) : Int) ∧ w = wr) (fun _ t _ => match t with | .int _ i => n - i.toNat | _ => 0)
  case atStart => exact ⟨0, by omega, rfl, rfl, rfl⟩
  case round =>
    obtain ⟨i, hi, rfl, rfl, rfl⟩ := hrel
    have hmb := muchN_le (Ls.take i)
    rw [List.length_take] at hmb
    by_cases hlt : i < n
    · obtain ⟨B, off, u, rfl, hc, hu, hnc⟩ := HR1.out i hlt
      have hlt' : i < Ls.length := by rw [HN ()]; exact hlt
      have HT : Hid (muchN (Ls.take (i + 1)) = muchN (Ls.take i) + min (Ls[i]?.getD []).length 10000) := muchN_snoc Ls i hlt'
      have hlen : (Ls[i]?.getD []).length ≤ 1000000000000000 := by
        rw [List.getElem?_eq_getElem hlt']
        exact HL2.out _ (List.getElem_mem hlt')
      have hltI : (i : Int) < n := by omega
      obtain ⟨ub, uc, rfl, _⟩ := hu.reads
      clear hu
      generalize Ls[i]?.getD [] = M at *
      obtain ⟨m2, hm2⟩ : ∃ m2, M.length = m2 := ⟨_, rfl⟩
      rw [hm2] at HT hc hlen
      generalize muchN (Ls.take i) = m at *
      have h1I : (m : Int) ≤ 10000000000 := by omega
      have hm2I : (m2 : Int) ≤ 1000000000000000 := by omega
      obtain ⟨z, hz⟩ : ∃ z, min m2 10000 = z := ⟨_, rfl⟩
      have hzI : min (m2 : Int) 10000 = z := by omega
      have hzb : (z : Int) ≤ 10000 := by omega
      rw [hz] at HT
      clear hm2 hz
      go_wp2_with fail
      go_roundw
      case rel => exact ⟨i + 1, by omega, num_eq (by omega), num_eq (by rw [HT.out]; omega), trivial⟩
      case measure => simp; omega
    · have e : i = n := by omega
      subst e
      have HTt : Hid (Ls.take i = Ls) := by show _ = _; rw [← HN (), List.take_length]
      rw [HTt.out] at hmb ⊢
      obtain ⟨m, hm⟩ : ∃ m, muchN Ls = m := ⟨_, rfl⟩
      have HMm : Unit → muchN Ls = m := fun _ => hm
      rw [hm] at hmb ⊢
      have h1I : (m : Int) ≤ 10000000000 := by omega
      clear hm
      go_wp2_with fail
      go_ret
      exact ⟨ret_bool (by rw [HMm ()]; simp; omega), rfl⟩
end Go.Proofs.YthldipnfaiobaaaDoor
