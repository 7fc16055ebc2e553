/-
  Lists of whole numbers: may they all be? The program's checkAll, the laws' bad.
-/
import Derived.Test.YtmgbkcfocbbofabGreatDoorBunWds
namespace Go.Proofs.YtmgbkcfocbbofabGreatDoor
open Go.RowKit Go.Lib Go.Sort

/-- A slice of whole numbers that can be read. -/
def DW (w : World) (v : Value) (l : List (Bool × ByteArray)) : Prop :=
  ∃ B off c, v = .slice (some ⟨B, off, none⟩) l.length c ∧ l.length ≤ c ∧ ∀ j p, l[j]? = some p → w.cell? ⟨B, off + j * 2, none⟩ = some (.bool p.1) ∧ w.cell? ⟨B, off + j * 2 + 1, none⟩ = some (.string p.2)
theorem DW.kept {w w' : World} {v : Value} {l : List (Bool × ByteArray)} (h : DW w v l) (hg : w.grownBy w' none) : DW w' v l := by
  obtain ⟨B, off, c, rfl, hc, h⟩ := h
  exact ⟨B, off, c, rfl, hc, fun j p hj => ⟨grownBy_cell hg (h j p hj).1 (by simp), grownBy_cell hg (h j p hj).2 (by simp)⟩⟩
def mayAll (l : List (Bool × ByteArray)) : Bool := l.all fun p => may p.1 p.2
theorem mayAll_take (l : List (Bool × ByteArray)) (k : Nat) (p : Bool × ByteArray) (h : l[k]? = some p) : mayAll (l.take (k + 1)) = (mayAll (l.take k) && may p.1 p.2) := by
  rw [List.take_add_one, h]
  simp [mayAll, List.all_append]

set_option maxHeartbeats 1600000 in
set_option maxRecDepth 1000000 in
theorem checkAll_any (w : World) (v : Value) (l : List (Bool × ByteArray)) (h : DW w v l) (hl : l.length ≤ 1000000000) (hs : ∀ p ∈ l, p.2.size ≤ maxLen) :
    Calls Tryz.prog 47 #[v] w fun e w' => e = .returned (.int .i64 (if mayAll l = true then 0 else 2)) ∧ w.grownBy w' none := by
  obtain ⟨B, off, c, rfl, hc, h⟩ := h
  have HC : Hid (∀ j p, l[j]? = some p → w.cell? ⟨B, off + j * 2, none⟩ = some (.bool p.1) ∧ w.cell? ⟨B, off + j * 2 + 1, none⟩ = some (.string p.2)) := h
  obtain ⟨n, hn⟩ : ∃ n, l.length = n := ⟨_, rfl⟩
  have HN : Hid (l.length = n) := hn
  have HS : Hid (∀ p ∈ l, p.2.size ≤ maxLen) := hs
  rw [hn] at hc hl ⊢
  have hlI : (n : Int) ≤ 1000000000 := by omega
  obtain ⟨R, hR⟩ : ∃ R : Int, (if mayAll l = true then 0 else 2) = R := ⟨_, rfl⟩
  rw [hR]
  have HR1 : mayAll l = true → R = 0 := fun e => by rw [← hR, if_pos e]
  have HR2 : mayAll l = false → R = 2 := fun e => by rw [← hR, if_neg (by simp [e])]
  clear h hn hl hs hR
  go_enter Tryz.func47, Tryz.ntmps47
  go_wp2
  go_loopw [7] (fun s wr => ∃ k, k ≤ n ∧ s = .int .i64 k ∧ mayAll (l.take k) = true ∧ w.grownBy wr none) (fun s _ => n - (RowKit.intOf s).toNat)
  case atStart => exact ⟨0, by omega, rfl, rfl, World.grownBy.refl _ _⟩
  case round =>
    obtain ⟨k, hk, rfl, hm, hg⟩ := hrel
    have HM : Hid (mayAll (l.take k) = true) := hm
    have HG : Hid (w.grownBy wr none) := hg
    by_cases hk1 : k < n
    · have hkl : k < l.length := by have := HN.out; omega
      have hp : l[k]? = some l[k] := List.getElem?_eq_getElem hkl
      have hcs := HC.out k _ hp
      have hc1 := grownBy_cell hg hcs.1 (by simp)
      have hc2 := grownBy_cell hg hcs.2 (by simp)
      have hsz := HS.out l[k] (List.getElem_mem hkl)
      have HT : Hid (mayAll (l.take (k + 1)) = (mayAll (l.take k) && may l[k].1 l[k].2)) := mayAll_take l k _ hp
      have HL : Hid (mayAll l = false ∨ may l[k].1 l[k].2 = true) := by
        cases hb : may l[k].1 l[k].2
        · left
          have : mayAll l = false := by
            unfold mayAll
            rw [List.all_eq_false]
            exact ⟨l[k], List.getElem_mem hkl, by simp [hb]⟩
          exact this
        · right; rfl
      generalize l[k] = p at *
      obtain ⟨neg, mag⟩ := p
      clear hm hg hcs hp
      have hma := fun w => check_any neg mag hsz w
      cases hb : may neg mag
      · rw [chk_no hb] at hma
        have HMA : Hid (∀ w, Calls Tryz.prog 7 #[whole neg mag] w fun e w' => e = .returned (.int .i64 2) ∧ w' = w.alloc (wObj neg mag)) := hma
        have hml : R = 2 := by
          rcases HL.out with h | h
          · exact HR2 h
          · simp [hb] at h
        clear hma HR1 HR2
        go_wp2_with (go_at_call 7; refine (HMA.out _).mono ?_; rintro e w1 ⟨rfl, rfl⟩)
        go_ret
        exact ⟨ret_num (by rw [hml]), grownBy_trans HG.out (grow2 _ _ _)⟩
      · rw [chk_yes hb] at hma
        have HMA : Hid (∀ w, Calls Tryz.prog 7 #[whole neg mag] w fun e w' => e = .returned (.int .i64 0) ∧ w' = w.alloc (wObj neg mag)) := hma
        clear hma
        go_wp2_with (go_at_call 7; refine (HMA.out _).mono ?_; rintro e w1 ⟨rfl, rfl⟩)
        go_roundw
        case rel => exact ⟨k + 1, by omega, rfl, by rw [HT.out, HM.out, hb]; rfl, grownBy_trans HG.out (grow2 _ _ _)⟩
        case measure => simp [RowKit.intOf]; omega
    · obtain rfl : k = n := by omega
      have hml : R = 0 := by
        apply HR1
        have := HM.out
        rwa [← HN.out, List.take_length] at this
      clear hm hg HR1 HR2
      go_wp2
      go_ret
      exact ⟨ret_num (by rw [hml]), HG.out⟩
end Go.Proofs.YtmgbkcfocbbofabGreatDoor
