/-
  Proved: for any two uint64 numbers WireOrders answers true (the form of a greater number is longer, or as long and greater byte by byte); no condition.
-/
import Derived.Test.YtanbnefdodkniaaOrd
import Derived.Test.YtanbnefdodkniaaLaw
import Derived.WalkKit
import Derived.ProofKit
import Derived.OpenShut
namespace Go.Proofs.Ytanbnefdodkniaa.wireOrders
open Go.ChangeShapes Go.WideShapes Go.ChangeAt Go.RowKit
set_option linter.unusedVariables false      -- a walk need not use every 'w<i>' (that an integer argument fits its kind)

theorem own : ownKnob Try.prog.godebug = none := by kernel_rfl

theorem len_own {w : World} {base : Nat} {v : Value} {n : Nat} {xs : List Value} (h : w.ownsRow base 5 1 v n xs) : ∃ ao c, v = .slice ao n c := by
  rcases h.2 with ⟨rfl, rfl⟩ | ⟨g, cap, cur, rfl, _⟩
  · exact ⟨_, _, rfl⟩
  · exact ⟨_, _, rfl⟩

set_option maxHeartbeats 4000000 in
set_option maxRecDepth 1000000 in
theorem orders_any (a b : Nat) (ha : a < 18446744073709551616) (hb : b < 18446744073709551616) (w : World) :
    Calls Try.prog 6 #[.int .u64 a, .int .u64 b] w fun e w' => e = .returned (.bool true) ∧ w.grownBy w' none := by
  have la := numF_len a
  have lb := numF_len b
  have hO := num_order a b ha hb
  have hI := num_inj a b ha hb
  rw [← strOf_toList, ← strOf_toList] at hI hO
  go_enter Try.func6, Try.ntmps6
  go_wp2_with fail
  refine (num_forms a ha w).mono ?_
  rintro e w1 ⟨va, rfl, hFa⟩
  go_wp2_with fail
  refine (num_forms b hb w1).mono ?_
  rintro e w2 ⟨vb, rfl, hFb⟩
  have g2 := grownBy_trans hFa.2 hFb.2
  have hoa := Src.kept hFa.1 hFb.2 (by intro g _ e; cases e)
  have ca := conv_src (src_own hoa)
  have cb := conv_src (src_own hFb.1)
  obtain ⟨aa, na, rfl⟩ := len_own hoa
  obtain ⟨ab, nb, rfl⟩ := len_own hFb.1
  clear hFa hFb hoa
  generalize hla : (numF a).length = l at *
  generalize hlb : (numF b).length = m at *
  generalize strOf (numF a) = x at *
  generalize strOf (numF b) = y at *
  clear hla hlb
  rcases hO with ⟨h1, h2⟩ | ⟨h1, h2⟩ | ⟨rfl, h2⟩
  · go_wp2_with (go_at_call 30; refine (known_any w2).mono ?_; rintro e w3 ⟨rfl, g3⟩)
    go_ret
    exact ⟨rfl, grownBy_trans g2 g3⟩
  · go_wp2_with (go_at_call 30; refine (known_any w2).mono ?_; rintro e w3 ⟨rfl, g3⟩)
    go_ret
    exact ⟨rfl, grownBy_trans g2 g3⟩
  · go_wp2_with (go_at_call 30; refine (known_any w2).mono ?_; rintro e w3 ⟨rfl, g3⟩)
    go_ret
    exact ⟨rfl, grownBy_trans g2 g3⟩

theorem walk (a0 : Int) (a1 : Int) (w0 : (Lit.int .u64 a0).wf = true) (w1 : (Lit.int .u64 a1).wf = true) (w : World) :
    Calls Try.prog 6 #[.int .u64 a0, .int .u64 a1] w fun e w' => e = .returned (.bool true) ∧ Below w.heap.size w w' := by
  have b0 := bounds_u64 w0
  have b1 := bounds_u64 w1
  obtain ⟨a, rfl⟩ := Int.eq_ofNat_of_zero_le b0.1
  obtain ⟨b, rfl⟩ := Int.eq_ofNat_of_zero_le b1.1
  refine (orders_any a b (by omega) (by omega) w).mono ?_
  rintro e w' ⟨rfl, hg⟩
  exact ⟨rfl, below_of_grownBy hg⟩

/-! ### THE ROW's STEP: WRITTEN OUT: LEAVE IT -/
set_option maxRecDepth 100000 in
theorem lifted (os : Os) (started : os.Started) (H : Type) (enc : TypeId × Value → H) :
    ReturnsInHanded {} Try.checked os 6 .any (Rows.wireOrdersSpec.pre6 enc Try.prog Try.f6 Rows.wireOrdersRow.domain false) (Rows.wireOrdersSpec.post enc Try.prog Try.f6 false true false false) := by
  refine returnsInHanded_of_change (C := Try.checked) own started (by kernel_rfl) Try.func6
    (ChangeSpec.witness6 (enc := enc) (C := Try.checked) false ⟨#[], #[.int .u64 0, .int .u64 0], []⟩ 8 (by kernel_rfl) (by kernel_rfl) (by kernel_rfl) (by kernel_rfl)) ?_
  intro W base args ds gs before hval0 hW hcnd _
  have hval : ∀ (j : Nat) t v, Try.f6.params[j]? = some t → args[j]? = some v → Value.okWide Try.prog W .any base t v := hval0
  have hW' := hW
  obtain ⟨p, q, hA0, hV, rfl, hfz, hnd⟩ := hW
  have hA : DataW.TrodAll enc Try.prog W 0 (fun _ => true) true Try.f6.params.toList args.toList ds p := hA0
  rw [Try.params6] at hA hval
  obtain ⟨v0, vs0, d0, ds0, p0, q0, hargs, rfl, rfl, h0, r0⟩ := trodAll_cons hA
  obtain ⟨v1, vs1, d1, ds1, p1, q1, rfl, rfl, rfl, h1, r1⟩ := trodAll_cons r0
  obtain ⟨rfl, rfl, rfl⟩ := trodAll_nil r1
  obtain rfl : args = #[v0, v1] := by cases args; simp_all
  obtain ⟨rfl, rfl⟩ := trodVars_none hV
  obtain ⟨a0, rfl, rfl, rfl, w0⟩ := open_int Try.underlying22 (hval 0 22 v0 rfl rfl) h0
  obtain ⟨a1, rfl, rfl, rfl, w1⟩ := open_int Try.underlying22 (hval 1 22 v1 rfl rfl) h1
  clear hA0 hval0
  simp only [List.append_nil] at hW'
  refine (walk a0 a1 w0 w1 W).mono fun e W' ⟨he, hg⟩ => ?_
  subst he
  exact ⟨_, rfl, post_law (by kernel_rfl) (by kernel_rfl) rfl rfl Try.underlying4 hW' rfl hg⟩

theorem over : Rows.wireOrdersRow.holds Try.pinned (OpenSpec.ofChange Rows.wireOrdersSpec) :=
  OpenClaim.holds_of_wide 6 Try.f6 rfl rfl rfl rfl rfl rfl rfl ⟨rfl, rfl, rfl, rfl, rfl⟩ rfl rfl rfl rfl rfl (by kernel_rfl) Try.func6 (by kernel_rfl)
    (of_decide_eq_true (by kernel_rfl)) (by unfold Func.isWrapper; first | (rw [if_pos (by decide +kernel)]; kernel_rfl) | (rw [if_neg (by decide +kernel)]; exact ⟨rfl, rfl⟩))
    (fun os started H enc _ => lifted os started H enc)

/-- ████ THE STATEMENT ████ -/
theorem proved : Rows.WireOrdersSaid :=
  over
end Go.Proofs.Ytanbnefdodkniaa.wireOrders

namespace Go.Proofs.Ytanbnefdodkniaa
theorem wireOrders_holds : Rows.WireOrdersSaid := wireOrders.proved
#print axioms wireOrders_holds
end Go.Proofs.Ytanbnefdodkniaa
