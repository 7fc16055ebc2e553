/-
  The letter behind a letter, the program's after, begin.
-/
import Derived.Test.YtkimgmgafkihaaaDoorInv
import Derived.Test.YtkimgmgafkihaaaDoorSht
namespace Go.Proofs.YtkimgmgafkihaaaDoor
open Go.RowKit Go.Lib Go.Sort
set_option linter.unusedVariables false
set_option linter.unusedSimpArgs false
set_option maxHeartbeats 1600000
set_option maxRecDepth 1000000
def Pil (w : World) (g : Nat) (L : List Int) : Prop := ∃ cur, w.heap[g]? = some (.cells cur 42 (0, 0)) ∧ cur.size = 4096 ∧ L.length ≤ 4096 ∧ ∀ j, j < L.length → cur[j]? = some (.int .i64 (L[j]?.getD 0))
theorem Pil.cell {w : World} {g : Nat} {L : List Int} (h : Pil w g L) (i : Nat) (hi : i < L.length) : w.cell? ⟨g, i, none⟩ = some (.int .i64 (L[i]?.getD 0)) := by
  obtain ⟨cur, hg, hs, hl, hc⟩ := h
  simp [World.cell?, hg, hc i hi]
theorem Pil.frozen {w : World} {g : Nat} {L : List Int} (h : Pil w g L) (i : Nat) : w.frozen? ⟨g, i, none⟩ = false := by
  obtain ⟨cur, hg, hs, hl, hc⟩ := h
  simp [World.frozen?, hg]
theorem Pil.set {w : World} {g : Nat} {L : List Int} (h : Pil w g L) (i : Nat) (x : Int) : Pil (w.setCell ⟨g, i, none⟩ (.int .i64 x)) g (L.set i x) := by
  obtain ⟨cur, hg, hs, hl, hc⟩ := h
  refine ⟨cur.setIfInBounds i (.int .i64 x), by simp [World.setCell, Array.getElem?_modify, hg], by simpa using hs, by simpa using hl, fun j hj => ?_⟩
  rw [List.length_set] at hj
  rw [Array.getElem?_setIfInBounds, List.getElem?_set]
  by_cases e : i = j
  · subst e
    rw [if_pos rfl, if_pos (by omega), if_pos rfl, if_pos hj]
    rfl
  · rw [if_neg e, if_neg e]
    exact hc j hj
theorem Pil.kept {w w' : World} {g : Nat} {L : List Int} {row : Option Nat} (h : Pil w g L) (hg : w.grownBy w' row) (hne : some g ≠ row) : Pil w' g L := by
  obtain ⟨cur, hh, r⟩ := h
  exact ⟨cur, (hg.block g (Array.getElem?_eq_some_iff.1 hh).1 hne).trans hh, r⟩
def aft (k : Int) : Int := if k < 0 then -k + 1 else -k
theorem after_any (k : Int) (h : -65 ≤ k ∧ k ≤ 65) (w : World) : Calls Tryd.prog 35 #[.int .i64 k] w fun e w' => e = .returned (.int .i64 (aft k)) ∧ w' = w := by
  obtain ⟨h1, h2⟩ := h
  have hw : IntKind.i64.wrap (k * -1) = -k := by rw [IntKind.wrap_i64]; omega
  unfold aft
  by_cases h0 : k < 0
  · rw [if_pos h0]
    have hb : decide (0 < -k) = true := decide_eq_true (by omega)
    have hb2 : 0 < -k := by omega
    have hw2 : IntKind.i64.wrap (-k + 1) = -k + 1 := by rw [IntKind.wrap_i64]; omega
    go_enter Tryd.func35, Tryd.ntmps35
    go_wp2_with fail
    go_ret
    exact ⟨rfl, rfl⟩
  · rw [if_neg h0]
    have hb : decide (0 < -k) = false := decide_eq_false (by omega)
    have hb2 : ¬ 0 < -k := by omega
    go_enter Tryd.func35, Tryd.ntmps35
    go_wp2_with fail
    go_ret
    exact ⟨rfl, rfl⟩
def fst1 (k : Int) : Int := if k = -1 then -1 else 1
theorem set_rep (L : List Int) (o i m : Nat) (x : Int) (hl : L.length = o + m) (hi : i < m) : (L.take o ++ List.replicate i x ++ L.drop (o + i)).set (o + i) x = L.take o ++ List.replicate (i + 1) x ++ L.drop (o + (i + 1)) := by
  have h1 : (L.take o ++ List.replicate i x).length = o + i := by simp; omega
  rw [List.set_append_right _ _ (by omega), h1, Nat.sub_self]
  rw [List.drop_eq_getElem_cons (by omega : o + i < L.length), List.set_cons_zero, List.replicate_succ', ← Nat.add_assoc]
  simp
theorem begin_own (w : World) (g n off m cc : Nat) (ad : Addr) (k : Int) (L : List Int) (hn : n = L.length) (hO : Pil w g L) (ho : off + m = n) (hnc : n ≤ 1000000) (had : m = 0 ∨ ad = ⟨g, off, none⟩) (hm : m ≤ cc) (hk : -64 ≤ k ∧ k ≤ 64) :
    Calls Tryd.prog 37 #[.slice (some ad) m cc, .int .i64 k] w fun e w' => e = .returned (.tuple #[]) ∧ Pil w' g (L.take off ++ List.replicate m (fst1 k)) ∧ w.grownBy w' (some g) := by
  have HL : Unit → L.length = off + m := fun _ => by omega
  have HO0 : Hid (Pil w g L) := hO
  have hmI : (m : Int) ≤ 1000000 := by omega
  have HAD : Hid (m = 0 ∨ ad = ⟨g, off, none⟩) := had
  clear hO hn had ho hnc
  obtain ⟨f, hf⟩ : ∃ f, fst1 k = f := ⟨_, rfl⟩
  have HF : Hid ((k + 1 == 0) = true ∧ f = -1 ∨ (k + 1 == 0) = false ∧ f = 1) := by
    show _ ∨ _
    subst hf
    unfold fst1
    by_cases h : k = -1
    · left; rw [if_pos h]; subst h; exact ⟨rfl, rfl⟩
    · right; rw [if_neg h]; exact ⟨by simp; omega, rfl⟩
  rw [hf]
  clear hf
  go_enter Tryd.func37, Tryd.ntmps37
  go_wp2_with fail
  refine (cancel_any k 1 hk ⟨by decide, by decide⟩ _).mono ?_
  rintro e w' ⟨rfl, hw⟩
  obtain rfl := hw.symm
  rcases HF.out with ⟨hb, rfl⟩ | ⟨hb, rfl⟩
  · rw [hb]
    clear hb HF
    go_wp2_with fail
    refine (after_any 1 ⟨by decide, by decide⟩ _).mono ?_
    rintro e w' ⟨rfl, hw⟩
    obtain rfl := hw.symm
    rw [show aft 1 = -1 from rfl]
    go_wp2_with fail
    go_loopw [13] (fun s wr => ∃ i : Nat, i ≤ m ∧ s = .int .i64 (i : Int) ∧ Pil wr g (L.take off ++ List.replicate i (-1) ++ L.drop (off + i)) ∧ w.grownBy wr (some g)) (fun s _ => match s with | .int _ i => m - i.toNat | _ => 0)
    case atStart => exact ⟨0, by omega, rfl, by simpa using HO0.out, World.grownBy.refl _ _⟩
    case round =>
      obtain ⟨i, hi, rfl, hO, hG⟩ := hrel
      have HG : Hid (w.grownBy wr (some g)) := hG
      have HO : Hid (Pil wr g (L.take off ++ List.replicate i (-1) ++ L.drop (off + i))) := hO
      clear hO hG
      by_cases hlt : i < m
      · have hltI : (i : Int) < m := by omega
        obtain rfl : ad = ⟨g, off, none⟩ := by rcases HAD.out with h | h; omega; exact h
        have hl : (L.take off ++ List.replicate i (-1) ++ L.drop (off + i)).length = off + m := by have := HL (); simp; omega
        have c1 := HO.out.cell (off + i) (by omega)
        have f1 := HO.out.frozen (off + i)
        have HO2 : Hid (Pil (wr.setCell ⟨g, off + i, none⟩ (.int .i64 (-1))) g (L.take off ++ List.replicate (i + 1) (-1) ++ L.drop (off + (i + 1)))) := by
          have := HO.out.set (off + i) (-1)
          rw [set_rep L off i m (-1) (HL ()) hlt] at this
          exact this
        clear hl
        go_wp2_with fail
        go_roundw
        case rel => exact ⟨i + 1, by omega, num_eq (by omega), HO2.out, grownBy_trans HG.out (grownBy_setCell _ _ _ _)⟩
        case measure => simp; omega
      · have hltI : ¬ (i : Int) < m := by omega
        have HE : Hid (Pil wr g (L.take off ++ List.replicate m (-1))) := by
          have h := HO.out
          obtain rfl : i = m := by omega
          rw [show off + i = L.length from (HL ()).symm, List.drop_length, List.append_nil] at h
          exact h
        go_wp2_with fail
        refine bodyPost_end (results_none rfl _ _ _) rfl ?_
        exact ⟨rfl, HE.out, HG.out⟩
  · rw [hb]
    clear hb HF
    go_wp2_with fail
    go_loopw [13] (fun s wr => ∃ i : Nat, i ≤ m ∧ s = .int .i64 (i : Int) ∧ Pil wr g (L.take off ++ List.replicate i 1 ++ L.drop (off + i)) ∧ w.grownBy wr (some g)) (fun s _ => match s with | .int _ i => m - i.toNat | _ => 0)
    case atStart => exact ⟨0, by omega, rfl, by simpa using HO0.out, World.grownBy.refl _ _⟩
    case round =>
      obtain ⟨i, hi, rfl, hO, hG⟩ := hrel
      have HG : Hid (w.grownBy wr (some g)) := hG
      have HO : Hid (Pil wr g (L.take off ++ List.replicate i 1 ++ L.drop (off + i))) := hO
      clear hO hG
      by_cases hlt : i < m
      · have hltI : (i : Int) < m := by omega
        obtain rfl : ad = ⟨g, off, none⟩ := by rcases HAD.out with h | h; omega; exact h
        have hl : (L.take off ++ List.replicate i 1 ++ L.drop (off + i)).length = off + m := by have := HL (); simp; omega
        have c1 := HO.out.cell (off + i) (by omega)
        have f1 := HO.out.frozen (off + i)
        have HO2 : Hid (Pil (wr.setCell ⟨g, off + i, none⟩ (.int .i64 1)) g (L.take off ++ List.replicate (i + 1) 1 ++ L.drop (off + (i + 1)))) := by
          have := HO.out.set (off + i) 1
          rw [set_rep L off i m 1 (HL ()) hlt] at this
          exact this
        clear hl
        go_wp2_with fail
        go_roundw
        case rel => exact ⟨i + 1, by omega, num_eq (by omega), HO2.out, grownBy_trans HG.out (grownBy_setCell _ _ _ _)⟩
        case measure => simp; omega
      · have hltI : ¬ (i : Int) < m := by omega
        have HE : Hid (Pil wr g (L.take off ++ List.replicate m 1)) := by
          have h := HO.out
          obtain rfl : i = m := by omega
          rw [show off + i = L.length from (HL ()).symm, List.drop_length, List.append_nil] at h
          exact h
        go_wp2_with fail
        refine bodyPost_end (results_none rfl _ _ _) rfl ?_
        exact ⟨rfl, HE.out, HG.out⟩
end Go.Proofs.YtkimgmgafkihaaaDoor
