/-
  The law's lent.
-/
import Derived.Test.YthldipnfaiobaaaDoorLwa
namespace Go.Proofs.YthldipnfaiobaaaDoor
open Go.RowKit Go.Lib Go.Sort
set_option linter.unusedVariables false
set_option linter.unusedSimpArgs false
set_option maxHeartbeats 1600000
set_option maxRecDepth 1000000
def Lent (w : World) (base : Nat) (v : Value) (L : List Int) : Prop := ∃ g c, v = .slice (some ⟨g, 0, none⟩) L.length c ∧ Own w base (.slice (some ⟨g, 0, none⟩) (L.length + 1) c) (L ++ [771])
theorem Lent.ints {w : World} {base : Nat} {v : Value} {L : List Int} (h : Lent w base v L) : Ints w v L := by
  obtain ⟨g, c, rfl, h⟩ := h
  have := (h.take L.length (by simp)).ints
  rwa [List.take_left'] at this
  rfl
theorem Lent.kept {w w' : World} {base : Nat} {v : Value} {L : List Int} {row : Option Nat} (h : Lent w base v L) (hg : w.grownBy w' row) (hr : v.ownBlock ≠ row) : Lent w' base v L := by
  obtain ⟨g, c, rfl, h⟩ := h
  exact ⟨g, c, rfl, h.kept hg (.inr hr)⟩
theorem Lent.kept0 {w w' : World} {base : Nat} {v : Value} {L : List Int} (h : Lent w base v L) (hg : w.grownBy w' none) : Lent w' base v L := by
  obtain ⟨g, c, rfl, h⟩ := h
  exact ⟨g, c, rfl, h.kept0 hg⟩
theorem lent_any (w : World) (v : Value) (L : List Int) (h : Ints w v L) (hl : L.length ≤ 100000) :
    Calls Tryd.prog 11 #[v] w fun e w' => ∃ v', e = .returned v' ∧ Lent w' w.heap.size v' L ∧ w.grownBy w' none := by
  have HI : Hid (Ints w v L) := h
  obtain ⟨va, vc, rfl, _⟩ := h.reads
  obtain ⟨n, hn⟩ : ∃ n, L.length = n := ⟨_, rfl⟩
  have HN : Unit → L.length = n := fun _ => hn
  have hnI : (n : Int) ≤ 100000 := by omega
  rw [hn] at HI ⊢
  clear h hl hn
  go_enter Tryd.func11, Tryd.ntmps11
  go_wp2_with (at_builtin; refine wpList_append_ints rfl _ _ rfl w.heap.size (.slice none 0 0) [] rfl (Own.nil _ _) _ L rfl HI.out (by have := HN (); simp; omega) (Nat.le_refl _) ?_)
  intro v1 w1 hO1 hg1
  have HG1 : Hid (w.grownBy w1 none) := hg1
  obtain ⟨ab, cc, rfl⟩ := hO1.form
  have HO1 : Hid (Own w1 w.heap.size (.slice ab ([] ++ L).length cc) ([] ++ L)) := hO1
  clear hO1 hg1
  go_wp2_with (at_builtin; refine wpList_append_int rfl _ _ rfl w.heap.size _ ([] ++ L) 771 rfl (HO1.out.kept0 (grow1 _ _)) (by have := HN (); simp; omega) (by have := HG1.out.size; simp; omega) _ rfl (by simp) ?_)
  intro v2 w2 hO2 hg2 _
  have HG2 : Hid (w.grownBy w2 none) := grownBy_own (grownBy_trans HG1.out (grow1 _ _)) (HO1.out.kept0 (grow1 _ _)) hg2
  obtain ⟨g, c2, rfl, hgb, hc2⟩ : ∃ g c2, v2 = .slice (some ⟨g, 0, none⟩) (n + 1) c2 ∧ w.heap.size ≤ g ∧ n + 1 ≤ c2 := by
    rcases hO2.cases with ⟨_, e⟩ | ⟨g, c2, rfl, h1, h2⟩
    · simp at e
    · have e : (L ++ [(771 : Int)]).length = n + 1 := by have := HN (); simp; omega
      rw [e] at h2
      exact ⟨g, c2, by rw [← e], h1, h2⟩
  have HO2 : Hid (Own w2 w.heap.size (.slice (some ⟨g, 0, none⟩) (n + 1) c2) (L ++ [771])) := hO2
  clear hO2 hg2
  go_wp2_with fail
  go_ret
  exact ⟨_, rfl, ⟨g, c2, by rw [HN ()]; rfl, by rw [HN ()]; exact HO2.out⟩, HG2.out⟩
end Go.Proofs.YthldipnfaiobaaaDoor
