/-
  Proved: for every list of pairs of uint64 and every int WireLists answers true (lists of pairs are written and read by functions that are handed in, there and back; one fewer than there are is refused; behind bytes that end within a thing nothing is read; the list stays); no condition.
-/
import Derived.Test.YtanbnefdodkniaaLin
import Derived.Test.YtanbnefdodkniaaLaw
import Derived.SizedLaws
import Derived.Deep.Slices
namespace Go.Proofs.Ytanbnefdodkniaa.wireLists
open Go.ChangeShapes Go.WideShapes Go.ChangeAt Go.RowKit Go.Deep

theorem own : ownKnob Try.prog.godebug = none := by kernel_rfl
theorem Try.cells84 : Try.prog.cellsOf 84 = 2 := by kernel_rfl
theorem Try.bytes84 : Try.prog.bytesOf 84 = 16 := by kernel_rfl

/-- One pair of the list, read. -/
theorem pair_at {H : Type} {enc : TypeId × Value → H} {W : World} {n : Nat} {cs : List Value} {x : DataW H × List MemPlace} (h : DataW.trod enc Try.prog W 0 (fun _ => true) true n 84 cs = some x) :
    ∃ p : Nat × Nat, cs = [.int .u64 p.1, .int .u64 p.2] ∧ p.1 < 18446744073709551616 ∧ p.2 < 18446744073709551616 := by
  obtain ⟨xs, m, _, _, hl, hx, ha⟩ := DataW.trod_array Try.underlying84 h
  rw [Try.cells84] at hl
  rw [Try.cells22] at ha
  match cs, hl with
  | [c0, c1], _ =>
    have h0 := ha 0 (by omega)
    have h1 := ha 1 (by omega)
    simp at h0 h1
    rw [List.getElem?_eq_getElem (by omega)] at h0 h1
    obtain ⟨a, e0, _, wa⟩ := DataW.trod_int Try.underlying22 h0
    obtain ⟨b, e1, _, wb⟩ := DataW.trod_int Try.underlying22 h1
    have ba := bounds_u64 wa
    have bb := bounds_u64 wb
    simp at e0 e1
    subst e0 e1
    obtain ⟨a, rfl⟩ := Int.eq_ofNat_of_zero_le ba.1
    obtain ⟨b, rfl⟩ := Int.eq_ofNat_of_zero_le bb.1
    exact ⟨(a, b), rfl, by simp only []; omega, by simp only []; omega⟩

theorem walk (v0 : Value) (cut : Int) (W : World) (H : Type) (enc : TypeId × Value → H) (d0 : DataW H) (p0 : List MemPlace) (a0 : Option Addr) (len cap : Nat) (hv : v0 = .slice a0 len cap)
    (h0 : DataW.Trod enc Try.prog W 0 (fun _ => true) true 83 v0 d0 p0) (hsz : ∀ elems spare, d0 = .slice elems spare → (elems.length + spare.length) * 16 ≤ 140737488351232) :
    Calls Try.prog 7 #[v0, .int .i64 cut] W fun e w' => e = .returned (.bool true) ∧ Below W.heap.size W w' := by
  subst hv
  obtain ⟨fuel, hf⟩ := h0
  rcases open_slice Try.underlying83 hf with ⟨hcs, hx⟩ | ⟨a, len', cap', m, n, D, Pl, hcs, _, hl, hm, hmm, hx, hel⟩
  · simp [Value.cells] at hcs
    obtain ⟨rfl, rfl, rfl⟩ := hcs
    refine (lists_nil none 0 cut W).mono ?_
    rintro e w' ⟨rfl, hg⟩
    exact ⟨rfl, below_of_grownBy hg⟩
  · simp [Value.cells] at hcs
    obtain ⟨rfl, rfl, rfl⟩ := hcs
    simp only [Prod.mk.injEq] at hx
    have hreach := hsz _ _ hx.1
    simp only [if_true] at hmm
    subst hmm
    simp only [List.length_map, List.length_range] at hreach
    clear hx hf
    by_cases hl0 : len = 0
    · subst hl0
      refine (lists_nil (some a) m cut W).mono ?_
      rintro e w' ⟨rfl, hg⟩
      exact ⟨rfl, below_of_grownBy hg⟩
    · rw [Try.cells84] at hel
      have each : ∀ i, i < len → ∃ p : Nat × Nat, W.cell? (a.add (i * 2)) = some (.int .u64 p.1) ∧ W.cell? ((a.add (i * 2)).add 1) = some (.int .u64 p.2) ∧ p.1 < 18446744073709551616 ∧ p.2 < 18446744073709551616 := by
        intro i hi
        obtain ⟨cs', h1, h2⟩ := hel i (by omega)
        obtain ⟨p, rfl, hp1, hp2⟩ := pair_at h2
        obtain ⟨_, _, hc⟩ := World.cells?_some h1
        have c0 := hc 0 (by omega)
        have c1 := hc 1 (by omega)
        refine ⟨p, ?_, ?_, hp1, hp2⟩
        · simpa [Addr.add] using c0
        · simpa using c1
      obtain ⟨b, off, spot⟩ := a
      obtain ⟨p00, hc00, _⟩ := each 0 (by omega)
      have hspot : spot = none := by simpa [Addr.add] using World.cell?_spot hc00
      subst hspot
      obtain ⟨F, hF⟩ := choose_lt (α := Nat × Nat) (p := fun i p => W.cell? ⟨b, off + i * 2, none⟩ = some (.int .u64 p.1) ∧ W.cell? ⟨b, off + i * 2 + 1, none⟩ = some (.int .u64 p.2) ∧ p.1 < 18446744073709551616 ∧ p.2 < 18446744073709551616) (n := len) (fun i hi => by
        obtain ⟨p, c0, c1, hp⟩ := each i hi
        rw [Addr.add_lit] at c0 c1
        rw [Addr.add_lit] at c1
        exact ⟨p, c0, c1, hp⟩)
      have hlen : ((List.range len).map F).length = len := by simp
      have key := lists_some b off m ((List.range len).map F) cut W (fun p hp => by
          obtain ⟨i, hi, rfl⟩ := List.mem_map.1 hp
          exact ⟨(hF i (List.mem_range.1 hi)).2.2.1, (hF i (List.mem_range.1 hi)).2.2.2⟩) (by rw [hlen]; omega) (fun i p hp => by
          have hi : i < len := by have := (List.getElem?_eq_some_iff.1 hp).1; simpa using this
          rw [List.getElem?_map, List.getElem?_range hi] at hp
          simp at hp
          subst hp
          exact ⟨(hF i hi).1, (hF i hi).2.1⟩)
      rw [hlen] at key
      refine key.mono ?_
      rintro e w' ⟨rfl, hg⟩
      exact ⟨rfl, below_of_grownBy hg⟩

set_option maxRecDepth 100000 in
theorem lifted (os : Os) (started : os.Started) (H : Type) (enc : TypeId × Value → H) :
    ReturnsInHanded {} Try.checked os 7 .any (Rows.wireListsSpec.pre6 enc Try.prog Try.f7 Rows.wireListsRow.domain false) (Rows.wireListsSpec.post enc Try.prog Try.f7 false true false false) := by
  refine returnsInHanded_of_change_sized (C := Try.checked) own started (by kernel_rfl) Try.func7
    (ChangeSpec.witness6 (enc := enc) (C := Try.checked) false ⟨#[], #[.slice none 0 0, .int .i64 0], []⟩ 8 (by kernel_rfl) (by kernel_rfl) (by kernel_rfl) (by kernel_rfl)) ?_
  intro W base args ds gs before hval0 hW _ hsz0 _
  have hsz : (DataW.weightsEach Try.prog (Try.f7.params.toList ++ Rows.wireListsSpec.plain.varTypes Try.prog) (ds ++ gs)).all (· ≤ reachBytes) = true := hsz0
  clear hsz0
  have hval : ∀ (j : Nat) t v, Try.f7.params[j]? = some t → args[j]? = some v → Value.okWide Try.prog W .any base t v := hval0
  have hW' := hW
  obtain ⟨p, q, hA0, hV, rfl, _, _⟩ := hW
  have hA : DataW.TrodAll enc Try.prog W 0 (fun _ => true) true Try.f7.params.toList args.toList ds p := hA0
  rw [Try.params7] at hA hval hsz
  obtain ⟨v0, v1, d0, d1, p0, p1, rfl, rfl, rfl, h0, h1⟩ := trodAll_two hA
  obtain ⟨rfl, rfl⟩ := trodVars_none hV
  obtain ⟨cut, rfl, rfl, rfl, wm⟩ := open_int Try.underlying3 (hval 1 3 v1 rfl rfl) h1
  obtain ⟨a0, len, cap, hv0⟩ := okWide_slice Try.underlying83 (hval 0 83 v0 rfl rfl)
  clear hA0 hval0
  simp only [List.append_nil] at hW'
  refine (walk v0 cut W H enc d0 p0 a0 len cap hv0 h0 (fun elems spare hd => by
    subst hd
    have := sized_slice hsz (j := 0) (t := 83) (e := 84) rfl rfl Try.underlying83
    rw [Try.bytes84] at this
    simpa [reachBytes] using this)).mono fun e W' ⟨he, hg⟩ => ?_
  subst he
  exact ⟨_, rfl, post_law (by kernel_rfl) (by kernel_rfl) rfl rfl Try.underlying4 (by simpa using hW') rfl hg⟩

theorem over : Rows.wireListsRow.holds Try.pinned (OpenSpec.ofChange Rows.wireListsSpec) :=
  OpenClaim.holds_of_wide 7 Try.f7 rfl rfl rfl rfl rfl rfl rfl ⟨rfl, rfl, rfl, rfl, rfl⟩ rfl rfl rfl rfl rfl (by kernel_rfl) Try.func7 (by kernel_rfl)
    (of_decide_eq_true (by kernel_rfl)) (by unfold Func.isWrapper; first | (rw [if_pos (by decide +kernel)]; kernel_rfl) | (rw [if_neg (by decide +kernel)]; exact ⟨rfl, rfl⟩))
    (fun os started H enc _ => lifted os started H enc)
end Go.Proofs.Ytanbnefdodkniaa.wireLists

namespace Go.Proofs.Ytanbnefdodkniaa
theorem wireLists_holds : Rows.WireListsSaid := wireLists.over
#print axioms wireLists_holds
end Go.Proofs.Ytanbnefdodkniaa
