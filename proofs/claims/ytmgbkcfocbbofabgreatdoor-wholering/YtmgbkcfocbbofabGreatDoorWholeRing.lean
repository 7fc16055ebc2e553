/-
  Proved: for any three numbers and any shift WholeRing answers true (sums and products do not hang on order or grouping, a product with a sum is the sum of the products, differences and shifts lead back, the order is the difference's sign, a text is read as the number), the card tied; no condition beyond the listed tables of the library's.
-/
import Derived.Test.YtmgbkcfocbbofabGreatDoorRng
import Derived.Test.YtmgbkcfocbbofabGreatDoorLaw
import Derived.Test.YtmgbkcfocbbofabGreatDoorTie
import Derived.Test.YtmgbkcfocbbofabGreatDoorCards
import Derived.WalkKit
import Derived.ProofKit
import Derived.OpenShut
import Derived.LaidMore
import Derived.Lay
import Derived.SevenTiedAt
import Derived.Stop.Joined
import Derived.Stop.LaidErr
import Derived.Lib.LaidTab
import Derived.ChangeMaps5
namespace Go.Proofs.YtmgbkcfocbbofabGreatDoor.wholeRing
open Go.ChangeShapes Go.WideShapes Go.ChangeAt Go.RowKit Go.Lib
set_option linter.unusedVariables false

theorem own : ownKnob Tryz.prog.godebug = none := by kernel_rfl

theorem Tryz.cellsW : Tryz.prog.cellsOf 23 = 2 := by kernel_rfl
theorem Tryz.cellsB : Tryz.prog.cellsOf 4 = 1 := by kernel_rfl
theorem Tryz.cellsS : Tryz.prog.cellsOf 9 = 1 := by kernel_rfl
theorem Tryz.cellsF : Tryz.prog.cellsOf 25 = 7 := by kernel_rfl
theorem Tryz.cellsI : Tryz.prog.cellsOf 3 = 1 := by kernel_rfl
theorem list7 {α : Type} {l : List α} (h : l.length = 7) : ∃ a b c d e f g, l = [a, b, c, d, e, f, g] := by
  match l, h with
  | [a, b, c, d, e, f, g], _ => exact ⟨a, b, c, d, e, f, g, rfl⟩
theorem list2 {α : Type} {l : List α} (h : l.length = 2) : ∃ a b, l = [a, b] := by
  match l, h with
  | [a, b], _ => exact ⟨a, b, rfl⟩

/-- A whole number as an argument. -/
theorem wn_at {H : Type} {enc : TypeId × Value → H} {W : World} {n : Nat} {cs : List Value} {x : DataW H × List MemPlace} (h : DataW.trod enc Tryz.prog W 0 (fun _ => true) true n 23 cs = some x) :
    ∃ (a : Bool) (s : ByteArray), cs = [.bool a, .string s] ∧ s.size ≤ maxLen := by
  obtain ⟨xs, m, _, _, hl, hx, hat⟩ := DataW.trod_struct Tryz.underlying23 h
  rw [Tryz.cellsW] at hl
  obtain ⟨c0, c1, rfl⟩ := list2 hl
  have h0 := hat 0 _ rfl
  have h1 := hat 1 _ rfl
  simp [Tryz.cellsB, Tryz.cellsS] at h0 h1
  simp at hx
  rw [List.getElem?_eq_getElem (by omega)] at h0 h1
  obtain ⟨b, e0, _⟩ := DataW.trod_bool Tryz.underlying4 h0
  obtain ⟨s, e1, _, hs⟩ := DataW.trod_string Tryz.underlying9 h1
  simp at e0 e1
  subst e0 e1
  exact ⟨b, s, rfl, hs⟩

/-- Three whole numbers and a number as an argument. -/
theorem four_at {H : Type} {enc : TypeId × Value → H} {W : World} {n : Nat} {cs : List Value} {x : DataW H × List MemPlace} (h : DataW.trod enc Tryz.prog W 0 (fun _ => true) true n 25 cs = some x) :
    ∃ (a b c : Bool) (s t u : ByteArray) (k : Int), cs = [.bool a, .string s, .bool b, .string t, .bool c, .string u, .int .i64 k] ∧ s.size ≤ maxLen ∧ t.size ≤ maxLen ∧ u.size ≤ maxLen ∧ -9223372036854775808 ≤ k ∧ k ≤ 9223372036854775807 := by
  obtain ⟨xs, m, _, _, hl, hx, hat⟩ := DataW.trod_struct Tryz.underlying25 h
  rw [Tryz.cellsF] at hl
  obtain ⟨c0, c1, c2, c3, c4, c5, c6, rfl⟩ := list7 hl
  have h0 := hat 0 _ rfl
  have h1 := hat 1 _ rfl
  have h2 := hat 2 _ rfl
  have h3 := hat 3 _ rfl
  simp [Tryz.cellsW, Tryz.cellsI] at h0 h1 h2 h3
  simp at hx
  rw [List.getElem?_eq_getElem (by omega)] at h0 h1 h2 h3
  obtain ⟨a, s, e0, ha⟩ := wn_at h0
  obtain ⟨b, t, e1, hb⟩ := wn_at h1
  obtain ⟨c, u, e2, hc⟩ := wn_at h2
  obtain ⟨k, e3, _, hk⟩ := DataW.trod_int Tryz.underlying3 h3
  have bk := bounds_i64 hk
  simp at e0 e1 e2 e3
  obtain ⟨rfl, rfl⟩ := e0
  obtain ⟨rfl, rfl⟩ := e1
  obtain ⟨rfl, rfl⟩ := e2
  subst e3
  exact ⟨a, b, c, s, t, u, k, rfl, ha, hb, hc, bk.1, bk.2⟩
/-- What the listed table holds. -/
theorem tab_of {W : World} (h : laidMetH Tryz.prog Rows.wholeRingRow.laid W) : Lib.TabIs Tryz.prog W "internal/strconv.uint64pow10" .u64 Lib.pow10Tab := by
  rw [MakeChecks.laidMetH_plain _ _ _ (by kernel_rfl)] at h
  have h2 := laidMet.tail (laidMet.tail h)
  have e : (Rows.laid_internal_strconv_uint64pow10 : DataW Unit) = Lib.tabData .u64 Lib.pow10Tab := by kernel_rfl
  rw [e] at h2
  exact Lib.tabIs_of_head (g := 1) (by kernel_rfl) (by kernel_rfl) Tryz.underlying152 Tryz.underlying92 (by kernel_rfl) (by kernel_rfl) h2

set_option maxRecDepth 100000 in
theorem lifted (os : Os) (started : os.Started) (H : Type) (enc : TypeId × Value → H) :
    ReturnsInHanded {} Tryz.checked os 3 .any (fun w args => (Rows.wholeRingSpec.pre enc Tryz.prog Tryz.f3 Rows.wholeRingRow.domain false w args ∧ laidMetH Tryz.prog Rows.wholeRingRow.laid w) ∧ sizedMet enc Tryz.prog Tryz.f3 (OpenSpec.ofChange Rows.wholeRingSpec) false w args)
      (Rows.wholeRingSpec.post enc Tryz.prog Tryz.f3 false true false false) := by
  refine returnsInHanded_of_change_and (C := Tryz.checked) (X := fun w _ => laidMetH Tryz.prog Rows.wholeRingRow.laid w) (fun _ _ _ hh h => h.of_heap hh) own started (by kernel_rfl) Tryz.func3
    (ChangeSpec.witness_shaped (enc := enc) (C := Tryz.checked) (os := os) (X := fun w _ => laidMetH Tryz.prog Rows.wholeRingRow.laid w) false (World.laidAll Tryz.prog os Rows.wholeRingRow.laid) #[.agg #[.bool false, .string ⟨#[]⟩, .bool false, .string ⟨#[]⟩, .bool false, .string ⟨#[]⟩, .int .i64 0]] 8 (World.laidAll_os _ _ _)
      (World.shaped_of_ZipB (by kernel_rfl) (by kernel_rfl)) (by kernel_rfl) (by kernel_rfl) (by kernel_rfl)
      (by rw [MakeChecks.laidMetH_plain _ _ _ (by kernel_rfl)]; exact laidMet_laidAll _ (by kernel_rfl) (by kernel_rfl))) ?_
  intro W base args ds gs before hval0 hW hc _ hL _
  have hval : ∀ (j : Nat) t v, Tryz.f3.params[j]? = some t → args[j]? = some v → Value.okWide Tryz.prog W .any base t v := hval0
  have hW' := hW
  obtain ⟨p, q, hA0, hV, rfl, _, _⟩ := hW
  have hA : DataW.TrodAll enc Tryz.prog W 0 (fun _ => true) true Tryz.f3.params.toList args.toList ds p := hA0
  rw [Tryz.params3] at hA hval
  obtain ⟨v0, vs0, d0, ds0, p0, q0, hargs, rfl, rfl, t0, r0⟩ := trodAll_cons hA
  obtain ⟨rfl, rfl, rfl⟩ := trodAll_nil r0
  obtain rfl : args = #[v0] := by cases args; simp_all
  obtain ⟨rfl, rfl⟩ := trodVars_none hV
  obtain ⟨cs, rfl, hcs⟩ := okWide_struct Tryz.underlying25 (hval 0 25 v0 rfl rfl)
  obtain ⟨fuel, hf⟩ := t0
  obtain ⟨na, nb, nc, sa, sb, sc, k, hcl, ha, hb, hcc, hk0, hk1⟩ := four_at hf
  have hcs2 : cs = #[.bool na, .string sa, .bool nb, .string sb, .bool nc, .string sc, .int .i64 k] := by
    apply Array.toList_inj.1
    simpa [Value.cells] using hcl
  subst hcs2
  clear hA0 hval0
  simp only [List.append_nil] at hW'
  refine (ring_any na nb nc sa sb sc ha hb hcc k hk0 hk1 W (tab_of hL)).mono fun e W' ⟨he, hg⟩ => ?_
  subst he
  exact ⟨_, rfl, post_law (by kernel_rfl) (by kernel_rfl) rfl rfl Tryz.underlying4 hW' rfl (below_of_grownBy hg)⟩

theorem holds : Rows.WholeRingSaid :=
  OpenClaim.holds_of_wide 3 Tryz.f3 rfl rfl rfl rfl rfl rfl rfl ⟨rfl, rfl, rfl, rfl, rfl⟩ rfl rfl rfl rfl rfl (by kernel_rfl) Tryz.func3 (by kernel_rfl)
    (of_decide_eq_true (by kernel_rfl)) (by unfold Func.isWrapper; first | (rw [if_pos (by decide +kernel)]; kernel_rfl) | (rw [if_neg (by decide +kernel)]; exact ⟨rfl, rfl⟩))
    (fun os started H enc _ => lifted os started H enc)

theorem card : Rows.WholeRingCardSaid :=
  Claim7.holds_tied_plain_at .later [] [.data, .data, .data, .data, .pinned] true Rows.wholeRingCard.stood.harness false holds (fun _ h => by cases h) (by kernel_rfl) (fun _ h => by cases h) wholeRing_row_tie rfl ⟨rfl, rfl⟩ (by kernel_rfl) rfl
    (fun f fn hf hfn => by
      obtain rfl : f = 3 := Option.some.inj ((show Tryz.prog.funcNamed Rows.wholeRingRow.func = some 3 by kernel_rfl).symm.trans hf) |>.symm
      obtain rfl : fn = Tryz.f3 := (Option.some.inj (Tryz.func3.symm.trans hfn)).symm
      exact ⟨by kernel_rfl, fun j t ht => by
        rw [Tryz.params3] at ht
        have hm : t ∈ [25] := by simpa using Array.mem_of_getElem? ht
        have hall : ([25].all fun u => !Tryz.prog.wantsStandIn u) = true := by kernel_rfl
        exact (show Tryz.prog.wantsStandIn t = false by simpa using List.all_eq_true.1 hall t hm)⟩)
    (by kernel_rfl)
end Go.Proofs.YtmgbkcfocbbofabGreatDoor.wholeRing

namespace Go.Proofs.YtmgbkcfocbbofabGreatDoor
theorem wholeRing_holds : Rows.WholeRingCardSaid := wholeRing.card
#print axioms wholeRing_holds
end Go.Proofs.YtmgbkcfocbbofabGreatDoor
