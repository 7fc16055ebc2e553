/-
  Arguments as a call finds them: a list of int, a list of such lists, an int. Of no one statement.
-/
import Derived.Test.YthldipnfaiobaaaDoorIng
import Derived.Test.YthldipnfaiobaaaDoorLaw
import Derived.WalkKit
import Derived.Deep.Slices
import Derived.ChangeMaps5
import Derived.ProofKit
import Derived.OpenShut
namespace Go.Proofs.YthldipnfaiobaaaDoor
open Go.ChangeAt Go.ChangeShapes Go.Deep Go.Lib Go.RowKit Go.WideShapes
set_option linter.unusedVariables false
set_option maxRecDepth 100000
theorem Tryd.cellsI1 : Tryd.prog.cellsOf 3 = 1 := by kernel_rfl
theorem Tryd.cellsL1 : Tryd.prog.cellsOf 22 = 1 := by kernel_rfl
theorem Tryd.bytesI8 : Tryd.prog.bytesOf 3 = 8 := by kernel_rfl
theorem Tryd.bytesL24 : Tryd.prog.bytesOf 22 = 24 := by kernel_rfl
theorem arg_ints {H : Type} {enc : TypeId × Value → H} {W : World} {fuel : Nat} {cs : List Value} {x : DataW H × List MemPlace} (h : DataW.trod enc Tryd.prog W 0 (fun _ => true) true fuel 22 cs = some x) :
    ∃ v L, cs = [v] ∧ Ints W v L ∧ ((x.1.weights Tryd.prog 22).all (· ≤ reachBytes) = true → L.length ≤ 1000000000000000) := by
  rcases open_slice Tryd.underlying22 h with ⟨rfl, rfl⟩ | ⟨a, n, m', m, k, D, Pl, rfl, _, hl, hm, hmm, rfl, hel⟩
  · exact ⟨_, [], rfl, .inl ⟨rfl, rfl⟩, fun _ => by simp⟩
  · simp only [if_true] at hmm
    subst hmm
    have hwt : (((DataW.slice ((List.range n).map D) ((List.range (m - n)).map fun j => D (n + j))) : DataW H).weights Tryd.prog 22).all (· ≤ reachBytes) = true → n ≤ 1000000000000000 := by
      intro hw
      simp only [DataW.weights, Tryd.underlying22, List.all_cons, Bool.and_eq_true, decide_eq_true_eq, List.length_map, List.length_range, Tryd.bytesI8] at hw
      have h1 := hw.1
      unfold reachBytes at h1
      omega
    rcases Nat.eq_zero_or_pos m with hc0 | hc0
    · subst hc0
      obtain rfl : n = 0 := by omega
      exact ⟨_, [], rfl, .inr (.inr ⟨rfl, a, rfl⟩), fun _ => by simp⟩
    · rw [Tryd.cellsI1] at hel
      have each : ∀ i, i < m → ∃ z : Int, W.cell? (a.add i) = some (.int .i64 z) := by
        intro i hi
        obtain ⟨cs', h1, h2⟩ := hel i hi
        obtain ⟨z, e0, _⟩ := DataW.trod_int Tryd.underlying3 h2
        subst e0
        obtain ⟨_, _, hc⟩ := World.cells?_some h1
        have c0 := hc 0 (by omega)
        refine ⟨z, ?_⟩
        rw [Nat.mul_one] at c0
        simpa [Addr.add] using c0
      obtain ⟨b, off, spot⟩ := a
      obtain ⟨z0, hc00⟩ := each 0 hc0
      have hspot : spot = none := by simpa [Addr.add] using World.cell?_spot hc00
      subst hspot
      obtain ⟨F, hF⟩ := choose_lt (α := Int) (p := fun i z => W.cell? ⟨b, off + i, none⟩ = some (.int .i64 z)) (n := n) (fun i hi => by
        obtain ⟨z, c0⟩ := each i (by omega)
        rw [Addr.add_lit] at c0
        exact ⟨z, c0⟩)
      refine ⟨_, (List.range n).map F, rfl, .inr (.inl ⟨b, off, m, by simp, by simpa using hl, fun j hj => ?_⟩), fun hw => by simpa using hwt hw⟩
      have hj' : j < n := by simpa using hj
      rw [hF j hj', List.getElem?_map, List.getElem?_range hj']
      rfl
theorem weightsAll_mem {H : Type} {P : Program} {e : TypeId} {q : Nat → Bool} : ∀ {l : List (DataW H)}, (DataW.weightsAll P e l).all q = true → ∀ d ∈ l, (d.weights P e).all q = true
  | [], _, d, hd => by simp at hd
  | x :: r, h, d, hd => by
    simp only [DataW.weightsAll, List.all_append, Bool.and_eq_true] at h
    rcases List.mem_cons.1 hd with rfl | hd
    · exact h.1
    · exact weightsAll_mem h.2 d hd
theorem arg_intsL {H : Type} {enc : TypeId × Value → H} {W : World} {fuel : Nat} {cs : List Value} {x : DataW H × List MemPlace} (h : DataW.trod enc Tryd.prog W 0 (fun _ => true) true fuel 46 cs = some x) :
    ∃ v Ls, cs = [v] ∧ IntsL W v Ls ∧ ((x.1.weights Tryd.prog 46).all (· ≤ reachBytes) = true → Ls.length ≤ 1000000000000000 ∧ ∀ L ∈ Ls, L.length ≤ 1000000000000000) := by
  rcases open_slice Tryd.underlying46 h with ⟨rfl, rfl⟩ | ⟨a, n, m', m, k, D, Pl, rfl, _, hl, hm, hmm, rfl, hel⟩
  · exact ⟨_, [], rfl, .inl ⟨.inl rfl, rfl⟩, fun _ => by simp⟩
  · simp only [if_true] at hmm
    subst hmm
    have hwt : (((DataW.slice ((List.range n).map D) ((List.range (m - n)).map fun j => D (n + j))) : DataW H).weights Tryd.prog 46).all (· ≤ reachBytes) = true → n ≤ 1000000000000000 ∧ ∀ i, i < n → ((D i).weights Tryd.prog 22).all (· ≤ reachBytes) = true := by
      intro hw
      simp only [DataW.weights, Tryd.underlying46, List.all_cons, List.all_append, Bool.and_eq_true, decide_eq_true_eq, List.length_map, List.length_range, Tryd.bytesL24] at hw
      have h1 := hw.1
      unfold reachBytes at h1
      refine ⟨by omega, fun i hi => ?_⟩
      exact weightsAll_mem hw.2.1 (D i) (List.mem_map.2 ⟨i, List.mem_range.2 hi, rfl⟩)
    rcases Nat.eq_zero_or_pos m with hc0 | hc0
    · subst hc0
      obtain rfl : n = 0 := by omega
      exact ⟨_, [], rfl, .inl ⟨.inr ⟨a, rfl⟩, rfl⟩, fun _ => by simp⟩
    · rw [Tryd.cellsL1] at hel
      have each : ∀ i, i < m → ∃ u L, W.cell? (a.add i) = some u ∧ Ints W u L ∧ (((D i).weights Tryd.prog 22).all (· ≤ reachBytes) = true → L.length ≤ 1000000000000000) := by
        intro i hi
        obtain ⟨cs', h1, h2⟩ := hel i hi
        obtain ⟨u, L, e0, hI, hw⟩ := arg_ints h2
        subst e0
        obtain ⟨_, _, hc⟩ := World.cells?_some h1
        have c0 := hc 0 (by omega)
        refine ⟨u, L, ?_, hI, hw⟩
        rw [Nat.mul_one] at c0
        simpa [Addr.add] using c0
      obtain ⟨b, off, spot⟩ := a
      obtain ⟨u0, L0, hc00, _⟩ := each 0 hc0
      have hspot : spot = none := by simpa [Addr.add] using World.cell?_spot hc00
      subst hspot
      obtain ⟨F, hF⟩ := choose_lt (α := List Int) (p := fun i L => ∃ u, W.cell? ⟨b, off + i, none⟩ = some u ∧ Ints W u L ∧ (((D i).weights Tryd.prog 22).all (· ≤ reachBytes) = true → L.length ≤ 1000000000000000)) (n := n) (fun i hi => by
        obtain ⟨u, L, c0, h1, h2⟩ := each i (by omega)
        rw [Addr.add_lit] at c0
        exact ⟨L, u, c0, h1, h2⟩)
      refine ⟨_, (List.range n).map F, rfl, .inr ⟨b, off, m, by simp, by simpa using hl, fun j hj => ?_⟩, fun hw => ⟨by simpa using (hwt hw).1, fun L hL => ?_⟩⟩
      · have hj' : j < n := by simpa using hj
        obtain ⟨u, c0, h1, _⟩ := hF j hj'
        refine ⟨u, c0, ?_⟩
        rw [List.getElem?_map, List.getElem?_range hj']
        exact h1
      · obtain ⟨i, hi, rfl⟩ := List.mem_map.1 hL
        have hi' := List.mem_range.1 hi
        obtain ⟨u, _, _, h2⟩ := hF i hi'
        exact h2 ((hwt hw).2 i hi')
end Go.Proofs.YthldipnfaiobaaaDoor
