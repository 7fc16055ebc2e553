/-
  Arguments as a call finds them: a list of int, a list of such lists, an int. Of no one statement.
-/
import Derived.Test.YthldipnfaiobaabGreatDoorIng
import Derived.Test.YthldipnfaiobaabGreatDoorLaw
import Derived.WalkKit
import Derived.Deep.Slices
import Derived.ChangeMaps5
import Derived.ProofKit
import Derived.OpenShut
namespace Go.Proofs.YthldipnfaiobaabGreatDoor
open Go.ChangeAt Go.ChangeShapes Go.Deep Go.Lib Go.RowKit Go.WideShapes
set_option linter.unusedVariables false
set_option maxRecDepth 100000
theorem Tryz.cellsI1 : Tryz.prog.cellsOf 3 = 1 := by kernel_rfl
theorem Tryz.bytesI8 : Tryz.prog.bytesOf 3 = 8 := by kernel_rfl
theorem arg_ints {H : Type} {enc : TypeId × Value → H} {W : World} {fuel : Nat} {cs : List Value} {x : DataW H × List MemPlace} (h : DataW.trod enc Tryz.prog W 0 (fun _ => true) true fuel 22 cs = some x) :
    ∃ v L, cs = [v] ∧ Ints W v L ∧ ((x.1.weights Tryz.prog 22).all (· ≤ reachBytes) = true → L.length ≤ 1000000000000000) := by
  rcases open_slice Tryz.underlying22 h with ⟨rfl, rfl⟩ | ⟨a, n, m', m, k, D, Pl, rfl, _, hl, hm, hmm, rfl, hel⟩
  · exact ⟨_, [], rfl, .inl ⟨rfl, rfl⟩, fun _ => by simp⟩
  · simp only [if_true] at hmm
    subst hmm
    have hwt : (((DataW.slice ((List.range n).map D) ((List.range (m - n)).map fun j => D (n + j))) : DataW H).weights Tryz.prog 22).all (· ≤ reachBytes) = true → n ≤ 1000000000000000 := by
      intro hw
      simp only [DataW.weights, Tryz.underlying22, List.all_cons, Bool.and_eq_true, decide_eq_true_eq, List.length_map, List.length_range, Tryz.bytesI8] at hw
      have h1 := hw.1
      unfold reachBytes at h1
      omega
    rcases Nat.eq_zero_or_pos m with hc0 | hc0
    · subst hc0
      obtain rfl : n = 0 := by omega
      exact ⟨_, [], rfl, .inr (.inr ⟨rfl, a, rfl⟩), fun _ => by simp⟩
    · rw [Tryz.cellsI1] at hel
      have each : ∀ i, i < m → ∃ z : Int, W.cell? (a.add i) = some (.int .i64 z) := by
        intro i hi
        obtain ⟨cs', h1, h2⟩ := hel i hi
        obtain ⟨z, e0, _⟩ := DataW.trod_int Tryz.underlying3 h2
        subst e0
        obtain ⟨_, _, hc⟩ := World.cells?_some h1
        have c0 := hc 0 (by omega)
        refine ⟨z, ?_⟩
        rw [Nat.mul_one] at c0
        simpa [Addr.add] using c0
      obtain ⟨b, off, spot⟩ := a
      obtain ⟨z0, hc00⟩ := each 0 hc0
      have hspot : spot = none := by simpa [Addr.add] using World.cell?_spot hc00
      subst hspot
      obtain ⟨F, hF⟩ := choose_lt (α := Int) (p := fun i z => W.cell? ⟨b, off + i, none⟩ = some (.int .i64 z)) (n := n) (fun i hi => by
        obtain ⟨z, c0⟩ := each i (by omega)
        rw [Addr.add_lit] at c0
        exact ⟨z, c0⟩)
      refine ⟨_, (List.range n).map F, rfl, .inr (.inl ⟨b, off, m, by simp, by simpa using hl, fun j hj => ?_⟩), fun hw => by simpa using hwt hw⟩
      have hj' : j < n := by simpa using hj
      rw [hF j hj', List.getElem?_map, List.getElem?_range hj']
      rfl
end Go.Proofs.YthldipnfaiobaabGreatDoor
