/-
  Proved: for every Things and every slice of bytes WireBack answers true (what was written, one behind the other, is read as it was; a byte less ends within it; what any bytes are read as is written as they were); no condition.
-/
import Derived.Test.YtanbnefdodkniaaBkw
import Derived.Test.YtanbnefdodkniaaWte
import Derived.Test.YtanbnefdodkniaaLaw
import Derived.SizedLaws
import Derived.Deep.Slices
namespace Go.Proofs.Ytanbnefdodkniaa.wireBack
open Go.ChangeShapes Go.WideShapes Go.ChangeAt Go.RowKit Go.Deep

theorem own : ownKnob Try.prog.godebug = none := by kernel_rfl
theorem Try.cells4 : Try.prog.cellsOf 4 = 1 := by kernel_rfl
theorem Try.cells9 : Try.prog.cellsOf 9 = 1 := by kernel_rfl
theorem Try.cells2 : Try.prog.cellsOf 2 = 1 := by kernel_rfl
theorem Try.cells5 : Try.prog.cellsOf 5 = 1 := by kernel_rfl
theorem Try.cells24 : Try.prog.cellsOf 24 = 2 := by kernel_rfl
theorem Try.cells26 : Try.prog.cellsOf 26 = 4 := by kernel_rfl
theorem Try.cells28 : Try.prog.cellsOf 28 = 8 := by kernel_rfl
theorem Try.cells30 : Try.prog.cellsOf 30 = 13 := by kernel_rfl
theorem Try.bytes5 : Try.prog.bytesOf 5 = 1 := by kernel_rfl

theorem list2 {l : List Value} (h : l.length = 2) : ∃ a b, l = [a, b] := by
  match l, h with
  | [a, b], _ => exact ⟨a, b, rfl⟩
theorem list4 {l : List Value} (h : l.length = 4) : ∃ a b c d, l = [a, b, c, d] := by
  match l, h with
  | [a, b, c, d], _ => exact ⟨a, b, c, d, rfl⟩
theorem list8 {l : List Value} (h : l.length = 8) : ∃ a b c d e f g i, l = [a, b, c, d, e, f, g, i] := by
  match l, h with
  | [a, b, c, d, e, f, g, i], _ => exact ⟨a, b, c, d, e, f, g, i, rfl⟩
theorem list13 {l : List Value} (h : l.length = 13) : ∃ a b c d e f g i j k m n o, l = [a, b, c, d, e, f, g, i, j, k, m, n, o] := by
  match l, h with
  | [a, b, c, d, e, f, g, i, j, k, m, n, o], _ => exact ⟨a, b, c, d, e, f, g, i, j, k, m, n, o, rfl⟩

section
variable {H : Type} {enc : TypeId × Value → H} {W : World}

theorem wn_at {n : Nat} {cs : List Value} {x : DataW H × List MemPlace} (h : DataW.trod enc Try.prog W 0 (fun _ => true) true n 24 cs = some x) :
    ∃ a : WN, cs = [.bool a.1, .string a.2] ∧ a.2.size ≤ maxLen := by
  obtain ⟨xs, m, _, _, hl, hx, hat⟩ := DataW.trod_struct Try.underlying24 h
  rw [Try.cells24] at hl
  obtain ⟨c0, c1, rfl⟩ := list2 hl
  have h0 := hat 0 _ rfl
  have h1 := hat 1 _ rfl
  simp [Try.cells4, Try.cells9] at h0 h1
  simp at hx
  rw [List.getElem?_eq_getElem (by omega)] at h0 h1
  obtain ⟨b, e0, _⟩ := DataW.trod_bool Try.underlying4 h0
  obtain ⟨s, e1, _, hs⟩ := DataW.trod_string Try.underlying9 h1
  simp at e0 e1
  subst e0 e1
  exact ⟨(b, s), rfl, hs⟩
theorem fn_at {n : Nat} {cs : List Value} {x : DataW H × List MemPlace} (h : DataW.trod enc Try.prog W 0 (fun _ => true) true n 26 cs = some x) :
    ∃ a b : WN, cs = [.bool a.1, .string a.2, .bool b.1, .string b.2] ∧ a.2.size ≤ maxLen ∧ b.2.size ≤ maxLen := by
  obtain ⟨xs, m, _, _, hl, hx, hat⟩ := DataW.trod_struct Try.underlying26 h
  rw [Try.cells26] at hl
  obtain ⟨c0, c1, c2, c3, rfl⟩ := list4 hl
  have h0 := hat 0 _ rfl
  have h1 := hat 1 _ rfl
  simp [Try.cells24] at h0 h1
  simp at hx
  rw [List.getElem?_eq_getElem (by omega)] at h0 h1
  obtain ⟨a, e0, ha⟩ := wn_at h0
  obtain ⟨b, e1, hb⟩ := wn_at h1
  simp at e0 e1
  obtain ⟨rfl, rfl⟩ := e0
  obtain ⟨rfl, rfl⟩ := e1
  exact ⟨a, b, rfl, ha, hb⟩
theorem gn_at {n : Nat} {cs : List Value} {x : DataW H × List MemPlace} (h : DataW.trod enc Try.prog W 0 (fun _ => true) true n 28 cs = some x) :
    ∃ a b c d : WN, cs = [.bool a.1, .string a.2, .bool b.1, .string b.2, .bool c.1, .string c.2, .bool d.1, .string d.2] ∧ a.2.size ≤ maxLen ∧ b.2.size ≤ maxLen ∧ c.2.size ≤ maxLen ∧ d.2.size ≤ maxLen := by
  obtain ⟨xs, m, _, _, hl, hx, hat⟩ := DataW.trod_struct Try.underlying28 h
  rw [Try.cells28] at hl
  obtain ⟨c0, c1, c2, c3, c4, c5, c6, c7, rfl⟩ := list8 hl
  have h0 := hat 0 _ rfl
  have h1 := hat 1 _ rfl
  simp [Try.cells26] at h0 h1
  simp at hx
  rw [List.getElem?_eq_getElem (by omega)] at h0 h1
  obtain ⟨a, b, e0, ha, hb⟩ := fn_at h0
  obtain ⟨c, d, e1, hc, hd⟩ := fn_at h1
  simp at e0 e1
  obtain ⟨rfl, rfl, rfl, rfl⟩ := e0
  obtain ⟨rfl, rfl, rfl, rfl⟩ := e1
  exact ⟨a, b, c, d, rfl, ha, hb, hc, hd⟩
theorem things_at {n : Nat} {cs : List Value} {x : DataW H × List MemPlace} (h : DataW.trod enc Try.prog W 0 (fun _ => true) true n 30 cs = some x) :
    ∃ (N : Nat) (S : Int) (X Y : Nat) (T : ByteArray) (a b c d : WN) (parts : List (DataW H)), cs = (thingsB N S X Y T a b c d).toList ∧
      N < 18446744073709551616 ∧ -9223372036854775808 ≤ S ∧ S ≤ 9223372036854775807 ∧ X < 18446744073709551616 ∧ Y < 18446744073709551616 ∧
      a.2.size ≤ maxLen ∧ b.2.size ≤ maxLen ∧ c.2.size ≤ maxLen ∧ d.2.size ≤ maxLen ∧ x.1 = .agg parts ∧ parts[4]? = some (.lit (.string T.data.toList)) := by
  obtain ⟨xs, m, _, hxx, hl, hx, hat⟩ := DataW.trod_struct Try.underlying30 h
  rw [Try.cells30] at hl
  obtain ⟨c0, c1, c2, c3, c4, c5, c6, c7, c8, c9, c10, c11, c12, rfl⟩ := list13 hl
  have h0 := hat 0 _ rfl
  have h1 := hat 1 _ rfl
  have h2 := hat 2 _ rfl
  have h3 := hat 3 _ rfl
  have h4 := hat 4 _ rfl
  have h5 := hat 5 _ rfl
  simp [Try.cells28, Try.cells22, Try.cells2, Try.cells9] at h0 h1 h2 h3 h4 h5
  simp at hx
  rw [List.getElem?_eq_getElem (by omega)] at h0 h1 h2 h3 h4 h5
  obtain ⟨N, e0, _, w0⟩ := DataW.trod_int Try.underlying22 h0
  obtain ⟨S, e1, _, w1⟩ := DataW.trod_int Try.underlying2 h1
  obtain ⟨X, e2, _, w2⟩ := DataW.trod_int Try.underlying22 h2
  obtain ⟨Y, e3, _, w3⟩ := DataW.trod_int Try.underlying22 h3
  obtain ⟨T, e4, eT, _⟩ := DataW.trod_string Try.underlying9 h4
  obtain ⟨a, b, c, d, e5, ha, hb, hc, hd⟩ := gn_at h5
  have b0 := bounds_u64 w0
  have b1 := bounds_i64 w1
  have b2 := bounds_u64 w2
  have b3 := bounds_u64 w3
  obtain ⟨N, rfl⟩ := Int.eq_ofNat_of_zero_le b0.1
  obtain ⟨X, rfl⟩ := Int.eq_ofNat_of_zero_le b2.1
  obtain ⟨Y, rfl⟩ := Int.eq_ofNat_of_zero_le b3.1
  simp at e0 e1 e2 e3 e4 e5
  obtain ⟨rfl, rfl, rfl, rfl, rfl, rfl, rfl, rfl⟩ := e5
  subst e0 e1 e2 e3 e4
  refine ⟨N, S, X, Y, T, a, b, c, d, xs.map (·.1), rfl, by omega, by omega, by omega, by omega, by omega, ha, hb, hc, hd, by rw [hxx], ?_⟩
  rw [List.getElem?_map, List.getElem?_eq_getElem (by omega), eT]
  rfl
theorem bytes_at {n : Nat} {cs : List Value} {x : DataW H × List MemPlace} (h : DataW.trod enc Try.prog W 0 (fun _ => true) true n 5 cs = some x) :
    ∃ u : Int, cs = [.int .u8 u] ∧ 0 ≤ u ∧ u ≤ 255 := by
  obtain ⟨u, e, _, wu⟩ := DataW.trod_int Try.underlying5 h
  exact ⟨u, e, bounds_u8 wu⟩

theorem written_at (v0 : Value) (d0 : DataW H) (p0 : List MemPlace) (a0 : Option Addr) (len cap : Nat) (hv : v0 = .slice a0 len cap)
    (h0 : DataW.Trod enc Try.prog W 0 (fun _ => true) true 33 v0 d0 p0) (hsz : ∀ elems spare, d0 = .slice elems spare → elems.length + spare.length ≤ 140737488351232) :
    ∀ w', W.grownBy w' none → Calls Try.prog 44 #[v0] w' fun e w'' => e = .returned (.bool true) ∧ w'.grownBy w'' none := by
  subst hv
  obtain ⟨fuel, hf⟩ := h0
  rcases open_slice Try.underlying33 hf with ⟨hcs, hx⟩ | ⟨a, len', cap', m, n, D, Pl, hcs, _, hl, hm, hmm, hx, hel⟩
  · simp [Value.cells] at hcs
    obtain ⟨rfl, rfl, rfl⟩ := hcs
    exact fun w' _ => written_nil w'
  · simp [Value.cells] at hcs
    obtain ⟨rfl, rfl, rfl⟩ := hcs
    simp only [Prod.mk.injEq] at hx
    have hreach := hsz _ _ hx.1
    simp only [if_true] at hmm
    subst hmm
    simp only [List.length_map, List.length_range] at hreach
    clear hx hf
    by_cases hl0 : len = 0
    · subst hl0
      exact fun w' _ => written_empty a _ w'
    · rw [Try.cells5] at hel
      have each : ∀ i, i < len → ∃ u : Int, W.cell? (a.add i) = some (.int .u8 u) ∧ 0 ≤ u ∧ u ≤ 255 := by
        intro i hi
        obtain ⟨cs', h1, h2⟩ := hel i (by omega)
        obtain ⟨u, rfl, hu⟩ := bytes_at h2
        obtain ⟨_, _, hc⟩ := World.cells?_some h1
        have c0 := hc 0 (by omega)
        exact ⟨u, by simpa [Addr.add] using c0, hu⟩
      obtain ⟨b, off, spot⟩ := a
      obtain ⟨u00, hc00, _⟩ := each 0 (by omega)
      have hspot : spot = none := by simpa [Addr.add] using World.cell?_spot hc00
      subst hspot
      obtain ⟨F, hF⟩ := choose_lt (α := Int) (p := fun i u => W.cell? ⟨b, off + i, none⟩ = some (.int .u8 u) ∧ 0 ≤ u ∧ u ≤ 255) (n := len) (fun i hi => by
        obtain ⟨u, c0, hu⟩ := each i hi
        rw [Addr.add_lit] at c0
        exact ⟨u, c0, hu⟩)
      have hlen : ((List.range len).map F).length = len := by simp
      intro w' hg
      have key := written_some b off _ ((List.range len).map F) w' (by rw [hlen]; omega) (by rw [hlen]; exact hl) (fun x hx => by
          obtain ⟨i, hi, rfl⟩ := List.mem_map.1 hx
          exact (hF i (List.mem_range.1 hi)).2) (src_far (fun j u hu => by
          have hj : j < len := by have := (List.getElem?_eq_some_iff.1 hu).1; simpa using this
          rw [List.getElem?_map, List.getElem?_map, List.getElem?_range hj] at hu
          simp at hu
          subst hu
          exact (hF j hj).1) hg)
      rw [hlen] at key
      exact key
end

set_option maxRecDepth 100000 in
theorem lifted (os : Os) (started : os.Started) (H : Type) (enc : TypeId × Value → H) :
    ReturnsInHanded {} Try.checked os 5 .any (Rows.wireBackSpec.pre6 enc Try.prog Try.f5 Rows.wireBackRow.domain false) (Rows.wireBackSpec.post enc Try.prog Try.f5 false true false false) := by
  refine returnsInHanded_of_change_sized (C := Try.checked) own started (by kernel_rfl) Try.func5
    (ChangeSpec.witness6 (enc := enc) (C := Try.checked) false ⟨#[], #[.agg #[.int .u64 0, .int .i64 0, .int .u64 0, .int .u64 0, .string ⟨#[]⟩, .bool false, .string ⟨#[]⟩, .bool false, .string ⟨#[]⟩, .bool false, .string ⟨#[]⟩, .bool false, .string ⟨#[]⟩], .slice none 0 0], []⟩ 8 (by kernel_rfl) (by kernel_rfl) (by kernel_rfl) (by kernel_rfl)) ?_
  intro W base args ds gs before hval0 hW _ hsz0 _
  have hsz : (DataW.weightsEach Try.prog (Try.f5.params.toList ++ Rows.wireBackSpec.plain.varTypes Try.prog) (ds ++ gs)).all (· ≤ reachBytes) = true := hsz0
  clear hsz0
  have hval : ∀ (j : Nat) t v, Try.f5.params[j]? = some t → args[j]? = some v → Value.okWide Try.prog W .any base t v := hval0
  have hW' := hW
  obtain ⟨p, q, hA0, hV, rfl, _, _⟩ := hW
  have hA : DataW.TrodAll enc Try.prog W 0 (fun _ => true) true Try.f5.params.toList args.toList ds p := hA0
  rw [Try.params5] at hA hval hsz
  obtain ⟨v0, v1, d0, d1, p0, p1, rfl, rfl, rfl, h0, h1⟩ := trodAll_two hA
  obtain ⟨rfl, rfl⟩ := trodVars_none hV
  obtain ⟨cs, rfl, hcs⟩ := okWide_struct Try.underlying30 (hval 0 30 v0 rfl rfl)
  obtain ⟨a0, len, cap, hv1⟩ := okWide_slice Try.underlying33 (hval 1 33 v1 rfl rfl)
  clear hA0 hval0
  obtain ⟨fuel, hf⟩ := h0
  obtain ⟨N, S, X, Y, T, a, b, c, d, parts, hcells, hN, hS0, hS1, hX, hY, ha, hb, hc, hd, hparts, h4⟩ := things_at hf
  have ecs : cs = thingsB N S X Y T a b c d := by
    have : cs.toList = (thingsB N S X Y T a b c d).toList := by simpa [Value.cells] using hcells
    exact Array.toList_inj.1 this
  subst ecs
  have hd0 : d0 = .agg parts := hparts
  have hT : T.size ≤ 140737488351232 := by
    subst hd0
    have hm : T.data.toList.length ∈ DataW.weights Try.prog 30 (.agg parts : DataW H) := by
      simp only [DataW.weights, Try.underlying30]
      exact DataW.weights_mem_each (j := 4) (t := 9) rfl h4 _ (by simp [DataW.weights])
    have := List.all_eq_true.1 hsz _ (DataW.weights_mem_each (j := 0) (t := 30) rfl rfl _ hm)
    have h2 := of_decide_eq_true this
    simpa [reachBytes] using h2
  have hw := written_at v1 d1 p1 a0 len cap hv1 h1 (fun elems spare hd => by
    subst hd
    have := sized_slice hsz (j := 1) (t := 33) (e := 5) rfl rfl Try.underlying33
    rw [Try.bytes5] at this
    simpa [reachBytes] using this)
  simp only [List.append_nil] at hW'
  refine (back_any N S X Y T a b c d v1 W hN hS0 hS1 hX hY hT ha hb hc hd hw).mono fun e W' ⟨he, hg⟩ => ?_
  subst he
  exact ⟨_, rfl, post_law (by kernel_rfl) (by kernel_rfl) rfl rfl Try.underlying4 (by simpa using hW') rfl (below_of_grownBy hg)⟩

theorem over : Rows.wireBackRow.holds Try.pinned (OpenSpec.ofChange Rows.wireBackSpec) :=
  OpenClaim.holds_of_wide 5 Try.f5 rfl rfl rfl rfl rfl rfl rfl ⟨rfl, rfl, rfl, rfl, rfl⟩ rfl rfl rfl rfl rfl (by kernel_rfl) Try.func5 (by kernel_rfl)
    (of_decide_eq_true (by kernel_rfl)) (by unfold Func.isWrapper; first | (rw [if_pos (by decide +kernel)]; kernel_rfl) | (rw [if_neg (by decide +kernel)]; exact ⟨rfl, rfl⟩))
    (fun os started H enc _ => lifted os started H enc)
end Go.Proofs.Ytanbnefdodkniaa.wireBack

namespace Go.Proofs.Ytanbnefdodkniaa
theorem wireBack_holds : Rows.WireBackSaid := wireBack.over
#print axioms wireBack_holds
end Go.Proofs.Ytanbnefdodkniaa
