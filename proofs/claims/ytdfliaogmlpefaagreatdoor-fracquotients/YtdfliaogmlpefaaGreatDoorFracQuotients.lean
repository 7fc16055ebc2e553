/-
  Proved: for any fraction, any list of whole numbers and any number FracQuotients answers true (the quotients that are gone over, left early and once more, are the document's; what a list of quotients makes, or the refusal, is the document's; the list stays), the card tied; no condition beyond the listed tables of the library's.
-/
import Derived.Test.YtdfliaogmlpefaaGreatDoorBunWlc
import Derived.Test.YtdfliaogmlpefaaGreatDoorLaw
import Derived.Test.YtdfliaogmlpefaaGreatDoorTie
import Derived.Test.YtdfliaogmlpefaaGreatDoorCards
import Derived.WalkKit
import Derived.Deep.Slices
import Derived.ChangeMaps5
import Derived.ProofKit
import Derived.OpenShut
import Derived.LaidMore
import Derived.Lay
import Derived.SevenTiedAt
import Derived.Stop.Joined
import Derived.Stop.LaidErr
import Derived.Lib.LaidTab
namespace Go.Proofs.YtdfliaogmlpefaaGreatDoor.fracQuotients
open Go.ChangeAt Go.ChangeShapes Go.Deep Go.Lib Go.RowKit Go.WideShapes
set_option linter.unusedVariables false

theorem own : ownKnob Tryz.prog.godebug = none := by kernel_rfl

theorem Tryz.cellsW : Tryz.prog.cellsOf 23 = 2 := by kernel_rfl
theorem Tryz.cellsB : Tryz.prog.cellsOf 4 = 1 := by kernel_rfl
theorem Tryz.cellsS : Tryz.prog.cellsOf 9 = 1 := by kernel_rfl
theorem list2 {α : Type} {l : List α} (h : l.length = 2) : ∃ a b, l = [a, b] := by
  match l, h with
  | [a, b], _ => exact ⟨a, b, rfl⟩

/-- A whole number as an argument. -/
theorem wn_at {H : Type} {enc : TypeId × Value → H} {W : World} {n : Nat} {cs : List Value} {x : DataW H × List MemPlace} (h : DataW.trod enc Tryz.prog W 0 (fun _ => true) true n 23 cs = some x) :
    ∃ (a : Bool) (s : ByteArray), cs = [.bool a, .string s] ∧ s.size ≤ maxLen := by
  obtain ⟨xs, m, _, _, hl, hx, hat⟩ := DataW.trod_struct Tryz.underlying23 h
  rw [Tryz.cellsW] at hl
  obtain ⟨c0, c1, rfl⟩ := list2 hl
  have h0 := hat 0 _ rfl
  have h1 := hat 1 _ rfl
  simp [Tryz.cellsB, Tryz.cellsS] at h0 h1
  simp at hx
  rw [List.getElem?_eq_getElem (by omega)] at h0 h1
  obtain ⟨b, e0, _⟩ := DataW.trod_bool Tryz.underlying4 h0
  obtain ⟨s, e1, _, hs⟩ := DataW.trod_string Tryz.underlying9 h1
  simp at e0 e1
  subst e0 e1
  exact ⟨b, s, rfl, hs⟩

theorem Tryz.cellsQ : Tryz.prog.cellsOf 25 = 4 := by kernel_rfl
theorem list4 {α : Type} {l : List α} (h : l.length = 4) : ∃ a b c d, l = [a, b, c, d] := by
  match l, h with
  | [a, b, c, d], _ => exact ⟨a, b, c, d, rfl⟩
/-- A fraction as an argument. -/
theorem fq_at {H : Type} {enc : TypeId × Value → H} {W : World} {n : Nat} {cs : List Value} {x : DataW H × List MemPlace} (h : DataW.trod enc Tryz.prog W 0 (fun _ => true) true n 25 cs = some x) :
    ∃ (a : Bool) (s : ByteArray) (b : Bool) (t : ByteArray), cs = [.bool a, .string s, .bool b, .string t] ∧ s.size ≤ maxLen ∧ t.size ≤ maxLen := by
  obtain ⟨xs, m, _, _, hl, hx, hat⟩ := DataW.trod_struct Tryz.underlying25 h
  rw [Tryz.cellsQ] at hl
  obtain ⟨c0, c1, c2, c3, rfl⟩ := list4 hl
  have h0 := hat 0 _ rfl
  have h1 := hat 1 _ rfl
  simp [Tryz.cellsW] at h0 h1
  simp at hx
  rw [List.getElem?_eq_getElem (by omega)] at h0 h1
  obtain ⟨a, s, e0, hs⟩ := wn_at h0
  obtain ⟨b, t, e1, ht⟩ := wn_at h1
  simp at e0 e1
  obtain ⟨rfl, rfl⟩ := e0
  obtain ⟨rfl, rfl⟩ := e1
  exact ⟨a, s, b, t, rfl, hs, ht⟩

/-- A list as an argument. -/
theorem list_at {H : Type} {enc : TypeId × Value → H} {W : World} {fuel : Nat} {ao : Option Addr} {n c : Nat} {x : DataW H × List MemPlace} (h : DataW.trod enc Tryz.prog W 0 (fun _ => true) true fuel 48 (Value.slice ao n c).cells.toList = some x) :
    ∃ l : List (Bool × ByteArray), SrcW W ao n l ∧ n ≤ c ∧ (ao = none → c = 0) ∧ c ≤ 9223372036854775807 ∧ ∀ p ∈ l, p.2.size ≤ maxLen := by
  rcases open_slice Tryz.underlying48 h with ⟨hcs, _⟩ | ⟨a, len, cap, m, k, D, Pl, hcs, _, hl, hm, hmm, _, hel⟩
  · simp [Value.cells] at hcs
    obtain ⟨rfl, rfl, rfl⟩ := hcs
    exact ⟨[], ⟨rfl, .inl rfl⟩, by omega, fun _ => rfl, by omega, by simp⟩
  · simp [Value.cells] at hcs
    obtain ⟨rfl, rfl, rfl⟩ := hcs
    unfold maxLen at hm
    simp only [if_true] at hmm
    subst hmm
    rcases Nat.eq_zero_or_pos n with hn | hn
    · subst hn
      exact ⟨[], ⟨rfl, .inl rfl⟩, hl, fun e => (by cases e), hm, by simp⟩
    · rw [Tryz.cellsW] at hel
      have each : ∀ i, i < n → ∃ p : Bool × ByteArray, W.cell? (a.add (i * 2)) = some (.bool p.1) ∧ W.cell? ((a.add (i * 2)).add 1) = some (.string p.2) ∧ p.2.size ≤ maxLen := by
        intro i hi
        obtain ⟨cs', h1, h2⟩ := hel i (by omega)
        obtain ⟨b, s, rfl, hs⟩ := wn_at h2
        obtain ⟨_, _, hc⟩ := World.cells?_some h1
        have c0 := hc 0 (by omega)
        have c1 := hc 1 (by omega)
        refine ⟨(b, s), ?_, ?_, hs⟩
        · simpa [Addr.add] using c0
        · simpa using c1
      obtain ⟨b, off, spot⟩ := a
      obtain ⟨p00, hc00, _⟩ := each 0 hn
      have hspot : spot = none := by simpa [Addr.add] using World.cell?_spot hc00
      subst hspot
      obtain ⟨F, hF⟩ := choose_lt (α := Bool × ByteArray) (p := fun i p => W.cell? ⟨b, off + i * 2, none⟩ = some (.bool p.1) ∧ W.cell? ⟨b, off + i * 2 + 1, none⟩ = some (.string p.2) ∧ p.2.size ≤ maxLen) (n := n) (fun i hi => by
        obtain ⟨p, c0, c1, hp⟩ := each i hi
        rw [Addr.add_lit] at c0 c1
        rw [Addr.add_lit] at c1
        exact ⟨p, c0, c1, hp⟩)
      refine ⟨(List.range n).map F, ⟨by simp, .inr ⟨b, off, rfl, fun i p hp => ?_⟩⟩, hl, fun e => (by cases e), hm, fun p hp => ?_⟩
      · have hi : i < n := by have := (List.getElem?_eq_some_iff.1 hp).1; simpa using this
        rw [List.getElem?_map, List.getElem?_range hi] at hp
        simp at hp
        subst hp
        exact ⟨(hF i hi).1, (hF i hi).2.1⟩
      · obtain ⟨i, hi, rfl⟩ := List.mem_map.1 hp
        exact (hF i (List.mem_range.1 hi)).2.2
set_option maxRecDepth 100000 in
/-- How long a list's reading is. -/
theorem list_w {H : Type} {enc : TypeId × Value → H} {W : World} {fuel : Nat} {ao : Option Addr} {n c : Nat} {x : DataW H × List MemPlace} (h : DataW.trod enc Tryz.prog W 0 (fun _ => true) true fuel 48 (Value.slice ao n c).cells.toList = some x) (hw : (x.1.weights Tryz.prog 48).all (· ≤ reachBytes) = true) : (n + 1) * 24 ≤ 140737488355328 := by
  have hby : Tryz.prog.bytesOf 23 = 24 := by kernel_rfl
  rcases open_slice Tryz.underlying48 h with ⟨hcs, _⟩ | ⟨a, len, cap, m, k, D, Pl, hcs, _, hl, hm, hmm, rfl, hel⟩
  · simp [Value.cells] at hcs
    omega
  · simp [Value.cells] at hcs
    obtain ⟨rfl, rfl, rfl⟩ := hcs
    simp only [if_true] at hmm
    subst hmm
    simp only [DataW.weights, Tryz.underlying48, List.all_cons, Bool.and_eq_true, decide_eq_true_eq, List.length_map, List.length_range, hby] at hw
    have h1 := hw.1
    unfold reachBytes at h1
    omega
/-- What the listed table holds. -/
theorem tab_of {W : World} (h : laidMetH Tryz.prog Rows.fracQuotientsRow.laid W) : Lib.TabIs Tryz.prog W "internal/strconv.uint64pow10" .u64 Lib.pow10Tab := by
  rw [MakeChecks.laidMetH_plain _ _ _ (by kernel_rfl)] at h
  have h2 := laidMet.tail (laidMet.tail h)
  have e : (Rows.laid_internal_strconv_uint64pow10 : DataW Unit) = Lib.tabData .u64 Lib.pow10Tab := by kernel_rfl
  rw [e] at h2
  exact Lib.tabIs_of_head (g := 1) (by kernel_rfl) (by kernel_rfl) Tryz.underlying212 Tryz.underlying101 (by kernel_rfl) (by kernel_rfl) h2

set_option maxRecDepth 100000 in
theorem lifted (os : Os) (started : os.Started) (H : Type) (enc : TypeId × Value → H) :
    ReturnsInHanded {} Tryz.checked os 5 .any (fun w args => (Rows.fracQuotientsSpec.pre enc Tryz.prog Tryz.f5 Rows.fracQuotientsRow.domain false w args ∧ laidMetH Tryz.prog Rows.fracQuotientsRow.laid w) ∧ sizedMet enc Tryz.prog Tryz.f5 (OpenSpec.ofChange Rows.fracQuotientsSpec) false w args)
      (Rows.fracQuotientsSpec.post enc Tryz.prog Tryz.f5 false true false false) := by
  refine returnsInHanded_of_change_and (C := Tryz.checked) (X := fun w _ => laidMetH Tryz.prog Rows.fracQuotientsRow.laid w) (fun _ _ _ hh h => h.of_heap hh) own started (by kernel_rfl) Tryz.func5
    (ChangeSpec.witness_shaped (enc := enc) (C := Tryz.checked) (os := os) (X := fun w _ => laidMetH Tryz.prog Rows.fracQuotientsRow.laid w) false (World.laidAll Tryz.prog os Rows.fracQuotientsRow.laid) #[.agg #[.bool false, .string ⟨#[]⟩, .bool false, .string ⟨#[]⟩], .slice none 0 0, .int .i64 0] 8 (World.laidAll_os _ _ _)
      (World.shaped_of_ZipB (by kernel_rfl) (by kernel_rfl)) (by kernel_rfl) (by kernel_rfl) (by kernel_rfl)
      (by rw [MakeChecks.laidMetH_plain _ _ _ (by kernel_rfl)]; exact laidMet_laidAll _ (by kernel_rfl) (by kernel_rfl))) ?_
  intro W base args ds gs before hval0 hW hc hwt hL _
  have hval : ∀ (j : Nat) t v, Tryz.f5.params[j]? = some t → args[j]? = some v → Value.okWide Tryz.prog W .any base t v := hval0
  have hW' := hW
  obtain ⟨p, q, hA0, hV, rfl, _, _⟩ := hW
  have hA : DataW.TrodAll enc Tryz.prog W 0 (fun _ => true) true Tryz.f5.params.toList args.toList ds p := hA0
  rw [Tryz.params5] at hA hval
  obtain ⟨v0, vs0, d0, ds0, p0, q0, hargs, rfl, rfl, t0, r0⟩ := trodAll_cons hA
  obtain ⟨v1, vs1, d1, ds1, p1, q1, rfl, rfl, rfl, t1, r1⟩ := trodAll_cons r0
  obtain ⟨v2, vs2, d2, ds2, p2, q2, rfl, rfl, rfl, t2, r2⟩ := trodAll_cons r1
  obtain ⟨rfl, rfl, rfl⟩ := trodAll_nil r2
  obtain rfl : args = #[v0, v1, v2] := by cases args; simp_all
  obtain ⟨rfl, rfl⟩ := trodVars_none hV
  obtain ⟨cs, rfl, hcs⟩ := okWide_struct Tryz.underlying25 (hval 0 25 v0 rfl rfl)
  obtain ⟨ao, n, c, rfl⟩ := okWide_slice Tryz.underlying48 (hval 1 48 v1 rfl rfl)
  obtain ⟨lv, rfl, rfl, rfl, wk⟩ := open_int Tryz.underlying3 (hval 2 3 v2 rfl rfl) t2
  obtain ⟨fuel, hf⟩ := t0
  obtain ⟨n1, s1, e1, u1, hcl, z1, z2⟩ := fq_at hf
  have hcs2 : cs = #[.bool n1, .string s1, .bool e1, .string u1] := by
    apply Array.toList_inj.1
    simpa [Value.cells] using hcl
  subst hcs2
  obtain ⟨fuel1, hf1⟩ := t1
  obtain ⟨l, hS, hnc, hx0, hc9, hs⟩ := list_at hf1
  have hnb : (n + 1) * 24 ≤ 140737488355328 := by
    refine list_w hf1 ?_
    have hw2 := hwt
    rw [show Tryz.checked.prog = Tryz.prog from rfl, Tryz.params5] at hw2
    simp only [List.cons_append, List.nil_append, DataW.weightsEach, List.all_append, Bool.and_eq_true] at hw2
    exact hw2.2.1
  clear hA0 hval0
  simp only [List.append_nil] at hW'
  refine (qlaw_any n1 e1 s1 u1 z1 z2 ao n c l lv W hS hnc hx0 hnb hs (tab_of hL)).mono fun e W' ⟨he, hg⟩ => ?_
  subst he
  exact ⟨_, rfl, post_law (by kernel_rfl) (by kernel_rfl) rfl rfl Tryz.underlying4 hW' rfl (below_of_grownBy hg)⟩

theorem holds : Rows.FracQuotientsSaid :=
  OpenClaim.holds_of_wide 5 Tryz.f5 rfl rfl rfl rfl rfl rfl rfl ⟨rfl, rfl, rfl, rfl, rfl⟩ rfl rfl rfl rfl rfl (by kernel_rfl) Tryz.func5 (by kernel_rfl)
    (of_decide_eq_true (by kernel_rfl)) (by unfold Func.isWrapper; first | (rw [if_pos (by decide +kernel)]; kernel_rfl) | (rw [if_neg (by decide +kernel)]; exact ⟨rfl, rfl⟩))
    (fun os started H enc _ => lifted os started H enc)

theorem card : Rows.FracQuotientsCardSaid :=
  Claim7.holds_tied_plain_at .later [] [.data, .data, .data, .data, .pinned] true Rows.fracQuotientsCard.stood.harness false holds (fun _ h => by cases h) (by kernel_rfl) (fun _ h => by cases h) fracQuotients_row_tie rfl ⟨rfl, rfl⟩ (by kernel_rfl) rfl
    (fun f fn hf hfn => by
      obtain rfl : f = 5 := Option.some.inj ((show Tryz.prog.funcNamed Rows.fracQuotientsRow.func = some 5 by kernel_rfl).symm.trans hf) |>.symm
      obtain rfl : fn = Tryz.f5 := (Option.some.inj (Tryz.func5.symm.trans hfn)).symm
      exact ⟨by kernel_rfl, fun j t ht => by
        rw [Tryz.params5] at ht
        have hm : t ∈ [25, 48, 3] := by simpa using Array.mem_of_getElem? ht
        have hall : ([25, 48, 3].all fun u => !Tryz.prog.wantsStandIn u) = true := by kernel_rfl
        exact (show Tryz.prog.wantsStandIn t = false by simpa using List.all_eq_true.1 hall t hm)⟩)
    (by kernel_rfl)
end Go.Proofs.YtdfliaogmlpefaaGreatDoor.fracQuotients

namespace Go.Proofs.YtdfliaogmlpefaaGreatDoor
theorem fracQuotients_holds : Rows.FracQuotientsCardSaid := fracQuotients.card
#print axioms fracQuotients_holds
end Go.Proofs.YtdfliaogmlpefaaGreatDoor
