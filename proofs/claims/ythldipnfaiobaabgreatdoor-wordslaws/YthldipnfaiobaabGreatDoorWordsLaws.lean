/-
  Proved: for any three lists of int WordsLaws answers true (products do not hang on brackets nor on what is short; a word and its inverse are nothing; a word is its core by what it is conjugated by, and the power of its root; conjugates are alike; what commutes has one root, up to the inverse; texts lead back), the card tied; no condition beyond the listed variables of the library's.
-/
import Derived.Test.YthldipnfaiobaabGreatDoorWld
import Derived.Test.YthldipnfaiobaabGreatDoorFra
import Derived.Test.YthldipnfaiobaabGreatDoorTie
import Derived.Test.YthldipnfaiobaabGreatDoorCards
import Derived.WalkKit
import Derived.Deep.Slices
import Derived.ChangeMaps5
import Derived.ProofKit
import Derived.OpenShut
import Derived.LaidMore
import Derived.Lay
import Derived.SevenTiedAt
import Derived.Stop.Joined
import Derived.Stop.LaidErr
import Derived.Lib.LaidTab
namespace Go.Proofs.YthldipnfaiobaabGreatDoor.wordsLaws
open Go.ChangeAt Go.ChangeShapes Go.Deep Go.Lib Go.RowKit Go.WideShapes
set_option linter.unusedVariables false

theorem own : ownKnob Tryz.prog.godebug = none := by kernel_rfl
theorem Tryz.cellsES : Tryz.prog.cellsOf 135 = 1 := by kernel_rfl
theorem Tryz.cellsSt : Tryz.prog.cellsOf 9 = 1 := by kernel_rfl
theorem Tryz.gSyn : Tryz.prog.globalNamed "strconv.ErrSyntax" = some 2 := by kernel_rfl
theorem Tryz.gRan : Tryz.prog.globalNamed "strconv.ErrRange" = some 3 := by kernel_rfl
theorem Tryz.gSynT : (Tryz.prog.globals[2]?).map (·.type) = some 85 := by kernel_rfl
theorem Tryz.gRanT : (Tryz.prog.globals[3]?).map (·.type) = some 85 := by kernel_rfl
theorem Tryz.starE : "*" ++ "errors.errorString" = "*errors.errorString" := by decide
theorem Tryz.rowE (u : TypeId) (h : Tryz.prog.typeName? 3 u = some "*errors.errorString") : u = 133 :=
  typeName_ptr_named (nm := "errors.errorString") (by rw [Tryz.starE]; kernel_rfl) (by kernel_rfl) (by decide) u (by rw [Tryz.starE]; exact h)
/-- What the listed table holds. -/
theorem tab_of {W : World} (h : laidMetH Tryz.prog Rows.wordsLawsRow.laid W) : Lib.TabIs Tryz.prog W "internal/strconv.uint64pow10" .u64 Lib.pow10Tab := by
  rw [MakeChecks.laidMetH_plain _ _ _ (by kernel_rfl)] at h
  have h2 := laidMet.tail (laidMet.tail h)
  have e : (Rows.laid_internal_strconv_uint64pow10 : DataW Unit) = Lib.tabData .u64 Lib.pow10Tab := by kernel_rfl
  rw [e] at h2
  exact Lib.tabIs_of_head (g := 1) (by kernel_rfl) (by kernel_rfl) Tryz.underlying120 Tryz.underlying95 (by kernel_rfl) (by kernel_rfl) h2

/-- What the listed errors are. -/
theorem errs_of {W : World} (h : laidMetH Tryz.prog Rows.wordsLawsRow.laid W) : Errs W := by
  rw [MakeChecks.laidMetH_plain _ _ _ (by kernel_rfl)] at h
  have h2 := laidMet.tail (laidMet.tail (laidMet.tail h))
  obtain ⟨a1, s1, hv1, _⟩ := laid_sentinel h2 Tryz.gRan Tryz.gRanT Tryz.underlying85 Tryz.rowE Tryz.underlying133 Tryz.underlying135 rfl rfl Tryz.underlying9 Tryz.cellsES Tryz.cellsSt
  obtain ⟨a2, s2, hv2, _⟩ := laid_sentinel (laidMet.tail h2) Tryz.gSyn Tryz.gSynT Tryz.underlying85 Tryz.rowE Tryz.underlying133 Tryz.underlying135 rfl rfl Tryz.underlying9 Tryz.cellsES Tryz.cellsSt
  exact ⟨⟨_, by simpa using World.var?_cell Tryz.gSyn hv2 0, .inr ⟨_, _, rfl⟩⟩, _, by simpa using World.var?_cell Tryz.gRan hv1 0, .inr ⟨_, _, rfl⟩⟩

set_option maxRecDepth 100000 in
theorem lifted (os : Os) (started : os.Started) (H : Type) (enc : TypeId × Value → H) :
    ReturnsInHanded {} Tryz.checked os 3 .any (fun w args => (Rows.wordsLawsSpec.pre enc Tryz.prog Tryz.f3 Rows.wordsLawsRow.domain false w args ∧ laidMetH Tryz.prog Rows.wordsLawsRow.laid w) ∧ sizedMet enc Tryz.prog Tryz.f3 (OpenSpec.ofChange Rows.wordsLawsSpec) false w args)
      (Rows.wordsLawsSpec.post enc Tryz.prog Tryz.f3 false true false false) := by
  refine returnsInHanded_of_change_and (C := Tryz.checked) (X := fun w _ => laidMetH Tryz.prog Rows.wordsLawsRow.laid w) (fun _ _ _ hh h => h.of_heap hh) own started (by kernel_rfl) Tryz.func3
    (ChangeSpec.witness_shaped (enc := enc) (C := Tryz.checked) (os := os) (X := fun w _ => laidMetH Tryz.prog Rows.wordsLawsRow.laid w) false (World.laidAll Tryz.prog os Rows.wordsLawsRow.laid) #[.slice none 0 0, .slice none 0 0, .slice none 0 0] 8 (World.laidAll_os _ _ _)
      (World.shaped_of_ZipB (by kernel_rfl) (by kernel_rfl)) (by kernel_rfl) (by kernel_rfl) (by kernel_rfl)
      (by rw [MakeChecks.laidMetH_plain _ _ _ (by kernel_rfl)]; exact laidMet_laidAll _ (by kernel_rfl) (by kernel_rfl))) ?_
  intro W base args ds gs before hval0 hW hc hwt hL _
  have hval : ∀ (j : Nat) t v, Tryz.f3.params[j]? = some t → args[j]? = some v → Value.okWide Tryz.prog W .any base t v := hval0
  have hW' := hW
  obtain ⟨p, q, hA0, hV, rfl, _, _⟩ := hW
  have hA : DataW.TrodAll enc Tryz.prog W 0 (fun _ => true) true Tryz.f3.params.toList args.toList ds p := hA0
  rw [Tryz.params3] at hA hval
  obtain ⟨v0, vs0, d0, ds0, p0, q0, hargs, rfl, rfl, t0, r0⟩ := trodAll_cons hA
  obtain ⟨v1, vs1, d1, ds1, p1, q1, rfl, rfl, rfl, t1, r1⟩ := trodAll_cons r0
  obtain ⟨v2, vs2, d2, ds2, p2, q2, rfl, rfl, rfl, t2, r2⟩ := trodAll_cons r1
  obtain ⟨rfl, rfl, rfl⟩ := trodAll_nil r2
  obtain rfl : args = #[v0, v1, v2] := by cases args; simp_all
  obtain ⟨rfl, rfl⟩ := trodVars_none hV
  obtain ⟨ao, n, c, rfl⟩ := okWide_slice Tryz.underlying22 (hval 0 22 v0 rfl rfl)
  obtain ⟨ao1, n1, c1, rfl⟩ := okWide_slice Tryz.underlying22 (hval 1 22 v1 rfl rfl)
  obtain ⟨ao2, n2, c2, rfl⟩ := okWide_slice Tryz.underlying22 (hval 2 22 v2 rfl rfl)
  obtain ⟨fuel, hf⟩ := t0
  obtain ⟨fuel1, hf1⟩ := t1
  obtain ⟨fuel2, hf2⟩ := t2
  obtain ⟨u, L, eu, hI, hb⟩ := arg_ints hf
  obtain ⟨u1, L1, eu1, hI1, hb1⟩ := arg_ints hf1
  obtain ⟨u2, L2, eu2, hI2, hb2⟩ := arg_ints hf2
  simp [Value.cells] at eu eu1 eu2
  subst eu eu1 eu2
  have hw2 := hwt
  rw [show Tryz.checked.prog = Tryz.prog from rfl, Tryz.params3] at hw2
  simp only [List.cons_append, List.nil_append, DataW.weightsEach, List.all_append, Bool.and_eq_true] at hw2
  have hbb := hb hw2.1
  have hbb1 := hb1 hw2.2.1
  have hbb2 := hb2 hw2.2.2.1
  clear hA0 hval0
  simp only [List.append_nil] at hW'
  refine (wlaws_any W _ _ _ L L1 L2 hI hI1 hI2 hbb hbb1 hbb2 (errs_of hL) (tab_of hL)).mono fun e W' ⟨he, hg⟩ => ?_
  subst he
  exact ⟨_, rfl, post_law (by kernel_rfl) (by kernel_rfl) rfl rfl Tryz.underlying4 hW' rfl (below_of_grownBy hg)⟩

theorem holds : Rows.WordsLawsSaid :=
  OpenClaim.holds_of_wide 3 Tryz.f3 rfl rfl rfl rfl rfl rfl rfl ⟨rfl, rfl, rfl, rfl, rfl⟩ rfl rfl rfl rfl rfl (by kernel_rfl) Tryz.func3 (by kernel_rfl)
    (of_decide_eq_true (by kernel_rfl)) (by unfold Func.isWrapper; first | (rw [if_pos (by decide +kernel)]; kernel_rfl) | (rw [if_neg (by decide +kernel)]; exact ⟨rfl, rfl⟩))
    (fun os started H enc _ => lifted os started H enc)

theorem card : Rows.WordsLawsCardSaid :=
  Claim7.holds_tied_plain_at .later [] [.data, .data, .data, .sentinel, .sentinel] true Rows.wordsLawsCard.stood.harness true holds (fun _ h => by cases h) (by kernel_rfl) (fun _ h => by cases h) wordsLaws_row_tie rfl ⟨rfl, rfl⟩ (by kernel_rfl) rfl
    (fun f fn hf hfn => by
      obtain rfl : f = 3 := Option.some.inj ((show Tryz.prog.funcNamed Rows.wordsLawsRow.func = some 3 by kernel_rfl).symm.trans hf) |>.symm
      obtain rfl : fn = Tryz.f3 := (Option.some.inj (Tryz.func3.symm.trans hfn)).symm
      exact ⟨by kernel_rfl, fun j t ht => by
        rw [Tryz.params3] at ht
        have hm : t ∈ [22, 22, 22] := by simpa using Array.mem_of_getElem? ht
        have hall : ([22, 22, 22].all fun u => !Tryz.prog.wantsStandIn u) = true := by kernel_rfl
        exact (show Tryz.prog.wantsStandIn t = false by simpa using List.all_eq_true.1 hall t hm)⟩)
    (by kernel_rfl)
end Go.Proofs.YthldipnfaiobaabGreatDoor.wordsLaws

namespace Go.Proofs.YthldipnfaiobaabGreatDoor
theorem wordsLaws_holds : Rows.WordsLawsCardSaid := wordsLaws.card
#print axioms wordsLaws_holds
end Go.Proofs.YthldipnfaiobaabGreatDoor
