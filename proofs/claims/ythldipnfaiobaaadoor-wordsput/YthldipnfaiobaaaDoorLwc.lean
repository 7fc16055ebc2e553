/-
  The law's left.
-/
import Derived.Test.YthldipnfaiobaaaDoorLwb
namespace Go.Proofs.YthldipnfaiobaaaDoor
open Go.RowKit Go.Lib Go.Sort
set_option linter.unusedVariables false
set_option linter.unusedSimpArgs false
set_option maxHeartbeats 1600000
set_option maxRecDepth 1000000
theorem left_any (w : World) (m v : Value) (L : List Int) (base : Nat) (hm : Lent w base m L) (h : Ints w v L) (hl : L.length ≤ 100000) :
    Calls Tryd.prog 20 #[m, v] w fun e w' => e = .returned (.bool true) ∧ w.grownBy w' none := by
  have HS := rSame_any w m v L L hm.ints h (by omega) (by omega)
  rw [decide_eq_true (rfl : L = L)] at HS
  obtain ⟨g, c, rfl, hO⟩ := hm
  have HO : Hid (Own w base (.slice (some ⟨g, 0, none⟩) (L.length + 1) c) (L ++ [771])) := hO
  obtain ⟨va, vc, rfl, _⟩ := h.reads
  have hc1 : L.length + 1 ≤ c := by
    rcases hO.cases with ⟨e, _⟩ | ⟨g', c', e, _, h2⟩
    · cases e
    · obtain ⟨_, _, rfl⟩ := Value.slice.inj e
      simpa using h2
  have HCl : Hid (∀ w', w.grownBy w' none → w'.cell? ⟨g, L.length, none⟩ = some (.int .i64 771)) := by
    intro w' hg
    have := (HO.out.kept0 hg).cell L.length (by simp)
    simpa using this
  obtain ⟨n, hn⟩ : ∃ n, L.length = n := ⟨_, rfl⟩
  rw [hn] at HS HCl hc1 hl ⊢
  have hnI : (n : Int) ≤ 100000 := by omega
  have hncI : (n : Int) + 1 ≤ c := by omega
  clear h hn hO
  go_enter Tryd.func20, Tryd.ntmps20
  go_wp2_with fail
  refine HS.mono ?_
  rintro e w1 ⟨rfl, g1⟩
  have HG1 : Hid (w.grownBy w1 none) := g1
  have hcl := HCl.out w1 g1
  clear g1
  go_wp2_with fail
  go_ret
  exact ⟨rfl, HG1.out⟩
end Go.Proofs.YthldipnfaiobaaaDoor
