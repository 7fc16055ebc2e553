/-
  The laws' long, of fractions.
-/
import Derived.Test.YtdfliaogmlpefaaGreatDoorBunFre
namespace Go.Proofs.YtdfliaogmlpefaaGreatDoor
open Go.RowKit Go.Lib Go.Sort
set_option linter.unusedVariables false
set_option maxHeartbeats 3200000
set_option maxRecDepth 1000000
theorem longq_no (mo : Int) (hmo : mo ≤ 100000) (w : World) (v : Value) (l : List Q4) (h : DQ w v l) (hl : l.length ≤ 1000) (hs : ∀ p ∈ l, (p.2.1.size : Int) ≤ mo ∧ (p.2.2.2.size : Int) ≤ mo) :
    Calls Tryz.prog 9 #[.int .i64 mo, v] w fun e w' => e = .returned (.bool false) ∧ w.grownBy w' none := by
  have HS : Hid (∀ p ∈ l, (p.2.1.size : Int) ≤ mo ∧ (p.2.2.2.size : Int) ≤ mo) := hs
  obtain ⟨B, off, c, rfl, hc, hcs⟩ := h
  have HCS : Hid (∀ j p, l[j]? = some p → w.cell? ⟨B, off + j * 4, none⟩ = some (.bool p.1) ∧ w.cell? ⟨B, off + j * 4 + 1, none⟩ = some (.string p.2.1) ∧ w.cell? ⟨B, off + j * 4 + 2, none⟩ = some (.bool p.2.2.1) ∧ w.cell? ⟨B, off + j * 4 + 3, none⟩ = some (.string p.2.2.2)) := hcs
  obtain ⟨m, hn⟩ : ∃ m, l.length = m := ⟨_, rfl⟩
  have HN : Unit → l.length = m := fun _ => hn
  rw [hn] at hc hl ⊢
  have hnI : (m : Int) ≤ 1000 := by omega
  clear hs hcs hn hl
  go_enter Tryz.func9, Tryz.ntmps9
  go_wp2_with fail
  go_loopw [5] (fun t wr => ∃ k : Nat, k ≤ m ∧ t = .int .i64 (k : Int) ∧ w.grownBy wr none) (fun t _ => m - (RowKit.intOf t).toNat)
  case atStart => exact ⟨0, by omega, rfl, World.grownBy.refl _ _⟩
  case round =>
    obtain ⟨k, hk, rfl, hg⟩ := hrel
    have HG1 : Hid (w.grownBy wr none) := hg
    by_cases hk1 : k < m
    · have hkl : k < l.length := by rw [HN ()]; exact hk1
      have hp : l[k]? = some l[k] := List.getElem?_eq_getElem hkl
      have hcs := HCS.out k _ hp
      have hc1 := grownBy_cell hg hcs.2.1 (by simp)
      have hc3 := grownBy_cell hg hcs.2.2.2 (by simp)
      have hss := HS.out l[k] (List.getElem_mem hkl)
      generalize l[k] = p at *
      obtain ⟨pn, ps, pd, pt⟩ := p
      simp only at hc1 hc3 hss
      obtain ⟨s1, s2⟩ := hss
      have t1 : (ps.size : Int) ≤ 100000 := by omega
      have t2 : (pt.size : Int) ≤ 100000 := by omega
      clear hcs hp hg
      go_wp2_with fail
      go_roundw
      case rel => exact ⟨k + 1, by omega, rfl, HG1.out⟩
      case measure => simp [RowKit.intOf]; omega
    · obtain rfl : k = m := by omega
      clear hg
      go_wp2_with fail
      go_ret
      exact ⟨rfl, HG1.out⟩
theorem longq_yes (mo : Int) (hmo : mo ≤ 100000) (w : World) (v : Value) (l : List Q4) (h : DQ w v l) (hl : l.length ≤ 1000) (hz : ∀ p ∈ l, p.2.1.size ≤ maxLen ∧ p.2.2.2.size ≤ maxLen) (hs : ∃ p ∈ l, mo < (p.2.1.size : Int) ∨ mo < (p.2.2.2.size : Int)) :
    Calls Tryz.prog 9 #[.int .i64 mo, v] w fun e w' => e = .returned (.bool true) ∧ w.grownBy w' none := by
  have HS : Hid (∃ p ∈ l, mo < (p.2.1.size : Int) ∨ mo < (p.2.2.2.size : Int)) := hs
  have HZ : Hid (∀ p ∈ l, p.2.1.size ≤ maxLen ∧ p.2.2.2.size ≤ maxLen) := hz
  obtain ⟨B, off, c, rfl, hc, hcs⟩ := h
  have HCS : Hid (∀ j p, l[j]? = some p → w.cell? ⟨B, off + j * 4, none⟩ = some (.bool p.1) ∧ w.cell? ⟨B, off + j * 4 + 1, none⟩ = some (.string p.2.1) ∧ w.cell? ⟨B, off + j * 4 + 2, none⟩ = some (.bool p.2.2.1) ∧ w.cell? ⟨B, off + j * 4 + 3, none⟩ = some (.string p.2.2.2)) := hcs
  obtain ⟨m, hn⟩ : ∃ m, l.length = m := ⟨_, rfl⟩
  have HN : Unit → l.length = m := fun _ => hn
  rw [hn] at hc hl ⊢
  have hnI : (m : Int) ≤ 1000 := by omega
  clear hs hz hcs hn hl
  go_enter Tryz.func9, Tryz.ntmps9
  go_wp2_with fail
  go_loopw [5] (fun t wr => ∃ k : Nat, k ≤ m ∧ t = .int .i64 (k : Int) ∧ w.grownBy wr none ∧ Hid (∀ j p, j < k → l[j]? = some p → (p.2.1.size : Int) ≤ mo ∧ (p.2.2.2.size : Int) ≤ mo)) (fun t _ => m - (RowKit.intOf t).toNat)
  case atStart => exact ⟨0, by omega, rfl, World.grownBy.refl _ _, fun j p h => absurd h (by omega)⟩
  case round =>
    obtain ⟨k, hk, rfl, hg, hall⟩ := hrel
    have HG1 : Hid (w.grownBy wr none) := hg
    by_cases hk1 : k < m
    · have hkl : k < l.length := by rw [HN ()]; exact hk1
      have hp : l[k]? = some l[k] := List.getElem?_eq_getElem hkl
      have HP : Hid (l[k]? = some l[k]) := hp
      have hcs := HCS.out k _ hp
      have hc1 := grownBy_cell hg hcs.2.1 (by simp)
      have hc3 := grownBy_cell hg hcs.2.2.2 (by simp)
      have hzz := HZ.out l[k] (List.getElem_mem hkl)
      generalize l[k] = p at *
      obtain ⟨pn, ps, pd, pt⟩ := p
      simp only at hc1 hc3 hzz
      unfold maxLen at hzz
      have t1 : (ps.size : Int) ≤ 9223372036854775807 := by omega
      have t2 : (pt.size : Int) ≤ 9223372036854775807 := by omega
      clear hcs hp hg hzz
      by_cases s1 : (ps.size : Int) ≤ mo
      · by_cases s2 : (pt.size : Int) ≤ mo
        · go_wp2_with fail
          go_roundw
          case rel =>
            refine ⟨k + 1, by omega, rfl, HG1.out, fun j p hj hjp => ?_⟩
            by_cases e : j = k
            · subst e
              obtain rfl := Option.some.inj (HP.out.symm.trans hjp)
              exact ⟨s1, s2⟩
            · exact hall.out j p (by omega) hjp
          case measure => simp [RowKit.intOf]; omega
        · have s3 : mo + 1 ≤ (pt.size : Int) := by omega
          clear s2
          go_wp2_with fail
          go_ret
          exact ⟨rfl, HG1.out⟩
      · have s3 : mo + 1 ≤ (ps.size : Int) := by omega
        clear s1
        go_wp2_with fail
        go_ret
        exact ⟨rfl, HG1.out⟩
    · obtain rfl : k = m := by omega
      obtain ⟨p, hp, hf⟩ := HS.out
      obtain ⟨j, hj, rfl⟩ := List.getElem_of_mem hp
      have := hall.out j l[j] (by have := HN (); omega) (List.getElem?_eq_getElem hj)
      omega
end Go.Proofs.YtdfliaogmlpefaaGreatDoor
