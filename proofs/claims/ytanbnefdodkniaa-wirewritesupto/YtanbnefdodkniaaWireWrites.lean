/-
  Proved: for every Things WireWrites answers true (the form of any number, signed one, float, complex number, text, whole number, fraction, exact complex number, plain or not; what is told is new each time), where the argument is of bulk at most 1048576.
-/
import Derived.Test.YtanbnefdodkniaaWwc
import Derived.Test.YtanbnefdodkniaaLaw
import Derived.JoinedCond
import Derived.SizedLaws
import Derived.Deep.Slices
namespace Go.Proofs.Ytanbnefdodkniaa.wireWrites
open Go.ChangeShapes Go.WideShapes Go.ChangeAt Go.RowKit Go.Deep

theorem own : ownKnob Try.prog.godebug = none := by kernel_rfl
theorem Try.cells4 : Try.prog.cellsOf 4 = 1 := by kernel_rfl
theorem Try.cells9 : Try.prog.cellsOf 9 = 1 := by kernel_rfl
theorem Try.cells2 : Try.prog.cellsOf 2 = 1 := by kernel_rfl
theorem Try.cells24 : Try.prog.cellsOf 24 = 2 := by kernel_rfl
theorem Try.cells26 : Try.prog.cellsOf 26 = 4 := by kernel_rfl
theorem Try.cells28 : Try.prog.cellsOf 28 = 8 := by kernel_rfl
theorem Try.cells30 : Try.prog.cellsOf 30 = 13 := by kernel_rfl

theorem list2 {l : List Value} (h : l.length = 2) : ∃ a b, l = [a, b] := by
  match l, h with
  | [a, b], _ => exact ⟨a, b, rfl⟩
theorem list4 {l : List Value} (h : l.length = 4) : ∃ a b c d, l = [a, b, c, d] := by
  match l, h with
  | [a, b, c, d], _ => exact ⟨a, b, c, d, rfl⟩
theorem list8 {l : List Value} (h : l.length = 8) : ∃ a b c d e f g i, l = [a, b, c, d, e, f, g, i] := by
  match l, h with
  | [a, b, c, d, e, f, g, i], _ => exact ⟨a, b, c, d, e, f, g, i, rfl⟩
theorem list13 {l : List Value} (h : l.length = 13) : ∃ a b c d e f g i j k m n o, l = [a, b, c, d, e, f, g, i, j, k, m, n, o] := by
  match l, h with
  | [a, b, c, d, e, f, g, i, j, k, m, n, o], _ => exact ⟨a, b, c, d, e, f, g, i, j, k, m, n, o, rfl⟩

/-- A part's bulk is at most the whole's. -/
theorem part_le {H : Type} {d : DataW H} {l : List (DataW H)} (h : d ∈ l) : Rows.uptoBulk d ≤ Rows.uptoBulkAll l := by
  induction l with
  | nil => cases h
  | cons x r ih =>
    simp only [Rows.uptoBulkAll]
    cases List.mem_cons.1 h with
    | inl e => subst e; omega
    | inr e => have := ih e; omega
theorem agg_le {H : Type} {d : DataW H} {l : List (DataW H)} (h : d ∈ l) : Rows.uptoBulk d ≤ Rows.uptoBulk (.agg l) := by
  have := part_le h
  simp only [Rows.uptoBulk]
  omega
theorem str_le {H : Type} (s : ByteArray) : s.size ≤ Rows.uptoBulk (DataW.lit (H := H) (.string s.data.toList)) := by
  have e : s.data.toList.length = s.size := by rw [Array.length_toList]; rfl
  simp only [Rows.uptoBulk]
  omega

section
variable {H : Type} {enc : TypeId × Value → H} {W : World}

theorem wn_at {n : Nat} {cs : List Value} {x : DataW H × List MemPlace} (h : DataW.trod enc Try.prog W 0 (fun _ => true) true n 24 cs = some x) :
    ∃ a : WN, cs = [.bool a.1, .string a.2] ∧ a.2.size ≤ Rows.uptoBulk x.1 := by
  obtain ⟨xs, m, _, hxx, hl, hx, hat⟩ := DataW.trod_struct Try.underlying24 h
  rw [Try.cells24] at hl
  obtain ⟨c0, c1, rfl⟩ := list2 hl
  have h0 := hat 0 _ rfl
  have h1 := hat 1 _ rfl
  simp [Try.cells4, Try.cells9] at h0 h1
  simp at hx
  rw [List.getElem?_eq_getElem (by omega)] at h0 h1
  obtain ⟨b, e0, _⟩ := DataW.trod_bool Try.underlying4 h0
  obtain ⟨s, e1, eT, _⟩ := DataW.trod_string Try.underlying9 h1
  simp at e0 e1
  subst e0 e1
  refine ⟨(b, s), rfl, ?_⟩
  rw [hxx]
  refine Nat.le_trans (str_le (H := H) s) (agg_le ?_)
  rw [List.mem_map]
  exact ⟨xs[1], List.getElem_mem _, by rw [eT]⟩
theorem fn_at {n : Nat} {cs : List Value} {x : DataW H × List MemPlace} (h : DataW.trod enc Try.prog W 0 (fun _ => true) true n 26 cs = some x) :
    ∃ a b : WN, cs = [.bool a.1, .string a.2, .bool b.1, .string b.2] ∧ a.2.size ≤ Rows.uptoBulk x.1 ∧ b.2.size ≤ Rows.uptoBulk x.1 := by
  obtain ⟨xs, m, _, hxx, hl, hx, hat⟩ := DataW.trod_struct Try.underlying26 h
  rw [Try.cells26] at hl
  obtain ⟨c0, c1, c2, c3, rfl⟩ := list4 hl
  have h0 := hat 0 _ rfl
  have h1 := hat 1 _ rfl
  simp [Try.cells24] at h0 h1
  simp at hx
  rw [List.getElem?_eq_getElem (by omega)] at h0 h1
  obtain ⟨a, e0, ha⟩ := wn_at h0
  obtain ⟨b, e1, hb⟩ := wn_at h1
  simp at e0 e1
  obtain ⟨rfl, rfl⟩ := e0
  obtain ⟨rfl, rfl⟩ := e1
  refine ⟨a, b, rfl, ?_, ?_⟩
  · rw [hxx]; exact Nat.le_trans ha (agg_le (List.mem_map.2 ⟨_, List.getElem_mem _, rfl⟩))
  · rw [hxx]; exact Nat.le_trans hb (agg_le (List.mem_map.2 ⟨_, List.getElem_mem _, rfl⟩))
theorem gn_at {n : Nat} {cs : List Value} {x : DataW H × List MemPlace} (h : DataW.trod enc Try.prog W 0 (fun _ => true) true n 28 cs = some x) :
    ∃ a b c d : WN, cs = [.bool a.1, .string a.2, .bool b.1, .string b.2, .bool c.1, .string c.2, .bool d.1, .string d.2] ∧ (a.2.size ≤ Rows.uptoBulk x.1 ∧ b.2.size ≤ Rows.uptoBulk x.1) ∧ c.2.size ≤ Rows.uptoBulk x.1 ∧ d.2.size ≤ Rows.uptoBulk x.1 := by
  obtain ⟨xs, m, _, hxx, hl, hx, hat⟩ := DataW.trod_struct Try.underlying28 h
  rw [Try.cells28] at hl
  obtain ⟨c0, c1, c2, c3, c4, c5, c6, c7, rfl⟩ := list8 hl
  have h0 := hat 0 _ rfl
  have h1 := hat 1 _ rfl
  simp [Try.cells26] at h0 h1
  simp at hx
  rw [List.getElem?_eq_getElem (by omega)] at h0 h1
  obtain ⟨a, b, e0, ha, hb⟩ := fn_at h0
  obtain ⟨c, d, e1, hc, hd⟩ := fn_at h1
  simp at e0 e1
  obtain ⟨rfl, rfl, rfl, rfl⟩ := e0
  obtain ⟨rfl, rfl, rfl, rfl⟩ := e1
  have q0 : Rows.uptoBulk (xs[0].1) ≤ Rows.uptoBulk x.1 := by rw [hxx]; exact agg_le (List.mem_map.2 ⟨_, List.getElem_mem _, rfl⟩)
  have q1 : Rows.uptoBulk (xs[1].1) ≤ Rows.uptoBulk x.1 := by rw [hxx]; exact agg_le (List.mem_map.2 ⟨_, List.getElem_mem _, rfl⟩)
  exact ⟨a, b, c, d, rfl, ⟨by omega, by omega⟩, by omega, by omega⟩
theorem things_at {n : Nat} {cs : List Value} {x : DataW H × List MemPlace} (h : DataW.trod enc Try.prog W 0 (fun _ => true) true n 30 cs = some x) :
    ∃ (N : Nat) (S : Int) (X Y : Nat) (T : ByteArray) (a b c d : WN), cs = (thingsB N S X Y T a b c d).toList ∧
      N < 18446744073709551616 ∧ -9223372036854775808 ≤ S ∧ S ≤ 9223372036854775807 ∧ X < 18446744073709551616 ∧ Y < 18446744073709551616 ∧
      T.size ≤ Rows.uptoBulk x.1 ∧ (a.2.size ≤ Rows.uptoBulk x.1 ∧ b.2.size ≤ Rows.uptoBulk x.1) ∧ c.2.size ≤ Rows.uptoBulk x.1 ∧ d.2.size ≤ Rows.uptoBulk x.1 := by
  obtain ⟨xs, m, _, hxx, hl, hx, hat⟩ := DataW.trod_struct Try.underlying30 h
  rw [Try.cells30] at hl
  obtain ⟨c0, c1, c2, c3, c4, c5, c6, c7, c8, c9, c10, c11, c12, rfl⟩ := list13 hl
  have h0 := hat 0 _ rfl
  have h1 := hat 1 _ rfl
  have h2 := hat 2 _ rfl
  have h3 := hat 3 _ rfl
  have h4 := hat 4 _ rfl
  have h5 := hat 5 _ rfl
  simp [Try.cells28, Try.cells22, Try.cells2, Try.cells9] at h0 h1 h2 h3 h4 h5
  simp at hx
  rw [List.getElem?_eq_getElem (by omega)] at h0 h1 h2 h3 h4 h5
  obtain ⟨N, e0, _, w0⟩ := DataW.trod_int Try.underlying22 h0
  obtain ⟨S, e1, _, w1⟩ := DataW.trod_int Try.underlying2 h1
  obtain ⟨X, e2, _, w2⟩ := DataW.trod_int Try.underlying22 h2
  obtain ⟨Y, e3, _, w3⟩ := DataW.trod_int Try.underlying22 h3
  obtain ⟨T, e4, eT, _⟩ := DataW.trod_string Try.underlying9 h4
  obtain ⟨a, b, c, d, e5, ⟨ha, hb⟩, hc, hd⟩ := gn_at h5
  have b0 := bounds_u64 w0
  have b1 := bounds_i64 w1
  have b2 := bounds_u64 w2
  have b3 := bounds_u64 w3
  obtain ⟨N, rfl⟩ := Int.eq_ofNat_of_zero_le b0.1
  obtain ⟨X, rfl⟩ := Int.eq_ofNat_of_zero_le b2.1
  obtain ⟨Y, rfl⟩ := Int.eq_ofNat_of_zero_le b3.1
  simp at e0 e1 e2 e3 e4 e5
  obtain ⟨rfl, rfl, rfl, rfl, rfl, rfl, rfl, rfl⟩ := e5
  subst e0 e1 e2 e3 e4
  have q5 : Rows.uptoBulk (xs[5].1) ≤ Rows.uptoBulk x.1 := by rw [hxx]; exact agg_le (List.mem_map.2 ⟨_, List.getElem_mem _, rfl⟩)
  have q4 : T.size ≤ Rows.uptoBulk x.1 := by
    rw [hxx]
    refine Nat.le_trans (str_le (H := H) T) (agg_le ?_)
    rw [List.mem_map]
    exact ⟨xs[4], List.getElem_mem _, by rw [eT]⟩
  exact ⟨N, S, X, Y, T, a, b, c, d, rfl, by omega, by omega, by omega, by omega, by omega, q4, ⟨by omega, by omega⟩, by omega, by omega⟩
end

theorem progW (a : WN) (h : a.2.size ≤ 1048576) : WritesP 20 (wv a) (plainW a.1 a.2) (wholeF a.1 a.2) := fun w => by
  cases hp : plainW a.1 a.2
  · refine (Whole_no a.1 a.2 (by unfold maxLen; omega) hp w).mono ?_
    rintro e w' ⟨rfl, hg⟩
    exact ⟨_, 2, rfl, hg, .inl ⟨rfl, ⟨_, _, rfl⟩, rfl⟩⟩
  · refine (Whole_yes a.1 a.2 hp w).mono ?_
    rintro e w' ⟨v, rfl, hF⟩
    exact ⟨v, 0, rfl, hF.2, .inr ⟨rfl, rfl, fun _ g => hF.src.far g⟩⟩
theorem progF (a b : WN) (ha : a.2.size ≤ 1048576) (hb : b.2.size ≤ 1048576) : WritesP 21 (fv a b) (plainFr a b) (fracF a b) := fun w => by
  cases hp : plainFr a b
  · refine (Frac_no a b (by unfold maxLen; omega) (by unfold maxLen; omega) hp w).mono ?_
    rintro e w' ⟨rfl, hg⟩
    exact ⟨_, 2, rfl, hg, .inl ⟨rfl, ⟨_, _, rfl⟩, rfl⟩⟩
  · refine (Frac_yes a b hp w).mono ?_
    rintro e w' ⟨v, rfl, hF⟩
    exact ⟨v, 0, rfl, hF.2, .inr ⟨rfl, rfl, fun _ g => hF.src.far g⟩⟩
theorem progG (a b c d : WN) (ha : a.2.size ≤ 1048576) (hb : b.2.size ≤ 1048576) (hc : c.2.size ≤ 1048576) (hd : d.2.size ≤ 1048576) : WritesP 22 (gv a b c d) (plainG a b c d) (gaussF a b c d) := fun w => by
  cases hp : plainG a b c d
  · refine (Gauss_no a b c d w (by unfold maxLen; omega) (by unfold maxLen; omega) (by unfold maxLen; omega) (by unfold maxLen; omega) hp).mono ?_
    rintro e w' ⟨rfl, hg⟩
    exact ⟨_, 2, rfl, hg, .inl ⟨rfl, ⟨_, _, rfl⟩, rfl⟩⟩
  · refine (Gauss_yes a b c d w hp).mono ?_
    rintro e w' ⟨v, rfl, hF⟩
    exact ⟨v, 0, rfl, hF.2, .inr ⟨rfl, rfl, fun _ g => hF.src.far g⟩⟩

theorem writes_any (N : Nat) (S : Int) (X Y : Nat) (T : ByteArray) (a b c d : WN) (w : World) (hN : N < 18446744073709551616) (hS0 : -9223372036854775808 ≤ S) (hS1 : S ≤ 9223372036854775807) (hX : X < 18446744073709551616) (hY : Y < 18446744073709551616)
    (hT : T.size ≤ 1048576) (ha : a.2.size ≤ 1048576) (hb : b.2.size ≤ 1048576) (hc : c.2.size ≤ 1048576) (hd : d.2.size ≤ 1048576) :
    Calls Try.prog 3 #[.agg (thingsB N S X Y T a b c d)] w fun e w' => e = .returned (.bool true) ∧ w.grownBy w' none := by
  have C56 : Writes 16 (.complex .f64 X Y) (strOf (fB (bitsF X)) ++ strOf (fB (bitsF Y))) := by
    rw [← strOf_append]
    exact writes_of (fun w => complex_any X Y w)
  exact writes_head N S X Y T a b c d w (strOf (numF N)) (strOf (numF (fold S))) (strOf (fB (bitsF X))) (strOf (fB (bitsF Y))) (strOf (textF T)) hN
    (writes_of (fun w => refnum_any N hN w)) (writes_of (fun w => signed_any S hS0 hS1 w)) (writes_of (fun w => dsignedW S hS0 hS1 w)) (writes_of (fun w => float_any X w)) (writes_of (fun w => dfloatW X hX w))
    C56 (writes_of (fun w => dfloatW X hX w)) (writes_of (fun w => dfloatW Y hY w)) (writes_of (fun w => text_any T (by omega) w)) (writes_of (fun w => dtextW T hT w))
    (plainW a.1 a.2) (plainFr a b) (plainG a b c d) (wholeF a.1 a.2) (fracF a b) (gaussF a b c d) (progW a ha) (progF a b ha hb) (progG a b c d ha hb hc hd)
    (fun w => dplainWhole a.1 a.2 (by unfold maxLen; omega) w) (writesD_of (fun w => dwholeW a.1 a.2 ha w)) (fun w => dplainFrac a b (by unfold maxLen; omega) (by unfold maxLen; omega) w) (writesD_of (fun w => dfracW a b ha hb w))
    (fun w => dplainG a b c d (by unfold maxLen; omega) (by unfold maxLen; omega) (by unfold maxLen; omega) (by unfold maxLen; omega) w) (writesD_of (fun w => dgaussW a b c d ha hb hc hd w))
    rfl (by rw [strOf_size, fB_len]; omega) (by rw [strOf_size, fB_len]; omega)

set_option maxRecDepth 100000 in
theorem lifted (os : Os) (started : os.Started) (H : Type) (enc : TypeId × Value → H) (F : Stop.Interp) :
    ReturnsInHanded {} Try.checked os 3 .any ((Rows.OpenSpec.upto Rows.wireWritesSpec).pre6 enc Try.prog Try.f3 Rows.wireWritesUptoRow.domain false) (((Rows.OpenSpec.upto Rows.wireWritesSpec).at F).post enc Try.prog Try.f3 false true false false) := by
  refine returnsInHanded_of_cond (C := Try.checked) (s := Rows.OpenSpec.upto Rows.wireWritesSpec) (k := Rows.uptoSmall) rfl own started (by kernel_rfl) Try.func3
    (OpenSpec.witness (enc := enc) (C := Try.checked) (s := Rows.OpenSpec.upto Rows.wireWritesSpec) (k := Rows.uptoSmall) rfl false ⟨#[], #[.agg #[.int .u64 0, .int .i64 0, .int .u64 0, .int .u64 0, .string ⟨#[]⟩, .bool false, .string ⟨#[]⟩, .bool false, .string ⟨#[]⟩, .bool false, .string ⟨#[]⟩, .bool false, .string ⟨#[]⟩]], []⟩ 8 (by kernel_rfl) (by kernel_rfl) (by kernel_rfl)
      (x := ([.agg [.lit (.int .u64 0), .lit (.int .i64 0), .lit (.int .u64 0), .lit (.int .u64 0), .lit (.string []), .agg [.agg [.agg [.lit (.bool false), .lit (.string [])], .agg [.lit (.bool false), .lit (.string [])]], .agg [.agg [.lit (.bool false), .lit (.string [])], .agg [.lit (.bool false), .lit (.string [])]]]]], [], [])) (by kernel_rfl) rfl (by kernel_rfl)) ?_
  intro W base args ds gs before hval0 hW _ hk _
  have hval : ∀ (j : Nat) t v, Try.f3.params[j]? = some t → args[j]? = some v → Value.okWide Try.prog W .any base t v := hval0
  have hW' := hW
  obtain ⟨p, q, hA0, hV, rfl, _, _⟩ := hW
  have hA : DataW.TrodAll enc Try.prog W 0 (fun _ => true) true Try.f3.params.toList args.toList ds p := hA0
  rw [Try.params3] at hA hval
  obtain ⟨v0, vs0, d0, ds0, p0, q0, hargs, rfl, rfl, h0, r0⟩ := trodAll_cons hA
  obtain ⟨rfl, rfl, rfl⟩ := trodAll_nil r0
  obtain rfl : args = #[v0] := by cases args; simp_all
  obtain ⟨rfl, rfl⟩ := trodVars_none hV
  obtain ⟨cs, rfl, hcs⟩ := okWide_struct Try.underlying30 (hval 0 30 v0 rfl rfl)
  clear hA0 hval0
  simp only [List.append_nil] at hW' hk
  have hbulk : Rows.uptoBulkAll [d0] ≤ 1048576 := of_decide_eq_true hk
  simp only [Rows.uptoBulkAll] at hbulk
  obtain ⟨fuel, hf⟩ := h0
  obtain ⟨N, S, X, Y, T, a, b, c, d, hcells, hN, hS0, hS1, hX, hY, hT, ⟨ha, hb⟩, hc, hd⟩ := things_at hf
  simp only [] at hT ha hb hc hd
  have ecs : cs = thingsB N S X Y T a b c d := by
    have : cs.toList = (thingsB N S X Y T a b c d).toList := by simpa [Value.cells] using hcells
    exact Array.toList_inj.1 this
  subst ecs
  refine (writes_any N S X Y T a b c d W hN hS0 hS1 hX hY (by omega) (by omega) (by omega) (by omega) (by omega)).mono fun e W' ⟨he, hg⟩ => ?_
  subst he
  exact ⟨_, rfl, post_law (by kernel_rfl) (by kernel_rfl) rfl rfl Try.underlying4 hW' rfl (below_of_grownBy hg)⟩

theorem over : Rows.WireWritesUptoSaid :=
  OpenClaim.holds_of_cond 3 Try.f3 rfl rfl rfl rfl rfl rfl rfl ⟨rfl, rfl, rfl, rfl, rfl⟩ rfl rfl rfl rfl rfl (by kernel_rfl) Try.func3 (by kernel_rfl)
    (of_decide_eq_true (by kernel_rfl)) (by unfold Func.isWrapper; first | (rw [if_pos (by decide +kernel)]; kernel_rfl) | (rw [if_neg (by decide +kernel)]; exact ⟨rfl, rfl⟩))
    (fun os started H enc _ F => lifted os started H enc F)
end Go.Proofs.Ytanbnefdodkniaa.wireWrites

namespace Go.Proofs.Ytanbnefdodkniaa
theorem wireWrites_holds : Rows.WireWritesUptoSaid := wireWrites.over
#print axioms wireWrites_holds
end Go.Proofs.Ytanbnefdodkniaa
