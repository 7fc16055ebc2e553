/-
  Proved: for every slice of bytes and every script of calls WireReads answers true (any bytes, read call by call: what is answered, how far it is; they stay, and are not kept), where the arguments are together of bulk at most 1048576.
-/
import Derived.Test.YtanbnefdodkniaaRlw
import Derived.Test.YtanbnefdodkniaaLaw
import Derived.JoinedCond
import Derived.SizedLaws
import Derived.Deep.Slices
namespace Go.Proofs.Ytanbnefdodkniaa.wireReads
open Go.ChangeShapes Go.WideShapes Go.ChangeAt Go.RowKit Go.Deep

theorem own : ownKnob Try.prog.godebug = none := by kernel_rfl
theorem Try.cells5 : Try.prog.cellsOf 5 = 1 := by kernel_rfl
theorem Try.cells63 : Try.prog.cellsOf 63 = 2 := by kernel_rfl
theorem Try.cells3 : Try.prog.cellsOf 3 = 1 := by kernel_rfl

theorem list2 {l : List Value} (h : l.length = 2) : ∃ a b, l = [a, b] := by
  match l, h with
  | [a, b], _ => exact ⟨a, b, rfl⟩

theorem one_le {H : Type} (d : DataW H) : 1 ≤ Rows.uptoBulk d := by
  cases d with
  | lit l => cases l <;> simp [Rows.uptoBulk]
  | nil => simp [Rows.uptoBulk]
  | ptr d => simp [Rows.uptoBulk]
  | slice elems spare => simp [Rows.uptoBulk]
  | agg parts => simp [Rows.uptoBulk]
  | iface t d => simp [Rows.uptoBulk]
  | map entries => simp [Rows.uptoBulk]
  | held h => simp [Rows.uptoBulk]
theorem length_le {H : Type} (l : List (DataW H)) : l.length ≤ Rows.uptoBulkAll l := by
  induction l with
  | nil => simp [Rows.uptoBulkAll]
  | cons x r ih => have := one_le x; simp only [Rows.uptoBulkAll, List.length_cons]; omega

section
variable {H : Type} {enc : TypeId × Value → H} {W : World}

theorem byte_at {n : Nat} {cs : List Value} {x : DataW H × List MemPlace} (h : DataW.trod enc Try.prog W 0 (fun _ => true) true n 5 cs = some x) :
    ∃ u : Int, cs = [.int .u8 u] ∧ 0 ≤ u ∧ u ≤ 255 := by
  obtain ⟨u, e, _, wu⟩ := DataW.trod_int Try.underlying5 h
  exact ⟨u, e, bounds_u8 wu⟩
theorem op_at {n : Nat} {cs : List Value} {x : DataW H × List MemPlace} (h : DataW.trod enc Try.prog W 0 (fun _ => true) true n 63 cs = some x) :
    ∃ kind most : Int, cs = [.int .i64 kind, .int .i64 most] ∧ most ≤ 9223372036854775807 := by
  obtain ⟨xs, m, _, _, hl, hx, hat⟩ := DataW.trod_struct Try.underlying63 h
  rw [Try.cells63] at hl
  obtain ⟨c0, c1, rfl⟩ := list2 hl
  have h0 := hat 0 _ rfl
  have h1 := hat 1 _ rfl
  simp [Try.cells3] at h0 h1
  simp at hx
  rw [List.getElem?_eq_getElem (by omega)] at h0 h1
  obtain ⟨a, e0, _, w0⟩ := DataW.trod_int Try.underlying3 h0
  obtain ⟨b, e1, _, w1⟩ := DataW.trod_int Try.underlying3 h1
  have b1 := bounds_i64 w1
  simp at e0 e1
  subst e0 e1
  exact ⟨a, b, rfl, by omega⟩

/-- The bytes, as the walk wants them. -/
theorem bytes_of (v0 : Value) (d0 : DataW H) (p0 : List MemPlace) (a0 : Option Addr) (len cap : Nat) (hv : v0 = .slice a0 len cap)
    (h0 : DataW.Trod enc Try.prog W 0 (fun _ => true) true 33 v0 d0 p0) (hsz : Rows.uptoBulk d0 ≤ 1048576) : ∃ L, Bts W v0 L := by
  subst hv
  obtain ⟨fuel, hf⟩ := h0
  rcases open_slice Try.underlying33 hf with ⟨hcs, hx⟩ | ⟨a, len', cap', m, n, D, Pl, hcs, _, hl, hm, hmm, hx, hel⟩
  · simp [Value.cells] at hcs
    obtain ⟨rfl, rfl, rfl⟩ := hcs
    exact ⟨[], bts_empty none 0⟩
  · simp [Value.cells] at hcs
    obtain ⟨rfl, rfl, rfl⟩ := hcs
    simp only [Prod.mk.injEq] at hx
    simp only [if_true] at hmm
    subst hmm
    rw [hx.1] at hsz
    have hlen : len ≤ 1048576 := by
      simp only [Rows.uptoBulk] at hsz
      have q1 := length_le ((List.range len).map D)
      simp at q1
      omega
    clear hx hf
    by_cases hl0 : len = 0
    · subst hl0
      exact ⟨[], bts_empty _ _⟩
    · rw [Try.cells5] at hel
      have each : ∀ i, i < len → ∃ u : Int, W.cell? (a.add i) = some (.int .u8 u) ∧ 0 ≤ u ∧ u ≤ 255 := by
        intro i hi
        obtain ⟨cs', h1, h2⟩ := hel i (by omega)
        obtain ⟨u, rfl, hu⟩ := byte_at h2
        obtain ⟨_, _, hc⟩ := World.cells?_some h1
        have c0 := hc 0 (by omega)
        exact ⟨u, by simpa [Addr.add] using c0, hu⟩
      obtain ⟨b, off, spot⟩ := a
      obtain ⟨u00, hc00, _⟩ := each 0 (by omega)
      have hspot : spot = none := by simpa [Addr.add] using World.cell?_spot hc00
      subst hspot
      obtain ⟨F, hF⟩ := choose_lt (α := Int) (p := fun i u => W.cell? ⟨b, off + i, none⟩ = some (.int .u8 u) ∧ 0 ≤ u ∧ u ≤ 255) (n := len) (fun i hi => by
        obtain ⟨u, c0, hu⟩ := each i hi
        rw [Addr.add_lit] at c0
        exact ⟨u, c0, hu⟩)
      have hlen' : ((List.range len).map F).length = len := by simp
      have key := bts_some (W := W) (b := b) (off := off) (cap := m) (L := (List.range len).map F) (by rw [hlen']; exact hlen) (by rw [hlen']; exact hl) hm (fun x hx => by
          obtain ⟨i, hi, rfl⟩ := List.mem_map.1 hx
          exact (hF i (List.mem_range.1 hi)).2) (by intro e; have : ((List.range len).map F).length = 0 := by rw [e]; rfl
                                                    omega) (fun j hj => by
          rw [hlen'] at hj
          rw [(hF j hj).1, List.getElem?_map, List.getElem?_range hj]
          rfl)
      rw [hlen'] at key
      exact ⟨_, key⟩

/-- The script, as the walk wants it. -/
theorem script_of (v0 : Value) (d0 : DataW H) (p0 : List MemPlace) (a0 : Option Addr) (len cap : Nat) (hv : v0 = .slice a0 len cap)
    (h0 : DataW.Trod enc Try.prog W 0 (fun _ => true) true 55 v0 d0 p0) : ∃ n, Scr W v0 n := by
  subst hv
  obtain ⟨fuel, hf⟩ := h0
  rcases open_slice Try.underlying55 hf with ⟨hcs, hx⟩ | ⟨a, len', cap', m, n, D, Pl, hcs, _, hl, hm, hmm, hx, hel⟩
  · simp [Value.cells] at hcs
    obtain ⟨rfl, rfl, rfl⟩ := hcs
    exact ⟨0, ⟨.inl ⟨_, _, rfl, rfl⟩⟩⟩
  · simp [Value.cells] at hcs
    obtain ⟨rfl, rfl, rfl⟩ := hcs
    simp only [if_true] at hmm
    subst hmm
    clear hx hf
    by_cases hl0 : len = 0
    · subst hl0
      exact ⟨0, ⟨.inl ⟨_, _, rfl, rfl⟩⟩⟩
    · rw [Try.cells63] at hel
      have each : ∀ i, i < len → ∃ kind most : Int, most ≤ 9223372036854775807 ∧ W.cell? (a.add (i * 2)) = some (.int .i64 kind) ∧ W.cell? ((a.add (i * 2)).add 1) = some (.int .i64 most) := by
        intro i hi
        obtain ⟨cs', h1, h2⟩ := hel i (by omega)
        obtain ⟨kind, most, rfl, hmo⟩ := op_at h2
        obtain ⟨_, _, hc⟩ := World.cells?_some h1
        have c0 := hc 0 (by omega)
        have c1 := hc 1 (by omega)
        refine ⟨kind, most, hmo, ?_, ?_⟩
        · simpa [Addr.add] using c0
        · simpa using c1
      obtain ⟨b, off, spot⟩ := a
      obtain ⟨k00, m00, _, hc00, _⟩ := each 0 (by omega)
      have hspot : spot = none := by simpa [Addr.add] using World.cell?_spot hc00
      subst hspot
      unfold maxLen at hm
      refine ⟨len, ⟨.inr ⟨b, off, m, rfl, by omega, fun i hi => ?_⟩⟩⟩
      obtain ⟨kind, most, hmo, c0, c1⟩ := each i hi
      rw [Addr.add_lit] at c0 c1
      rw [Addr.add_lit] at c1
      exact ⟨kind, most, hmo, c0, c1⟩
end

set_option maxRecDepth 100000 in
theorem lifted (os : Os) (started : os.Started) (H : Type) (enc : TypeId × Value → H) (F : Stop.Interp) :
    ReturnsInHanded {} Try.checked os 4 .any ((Rows.OpenSpec.upto Rows.wireReadsSpec).pre6 enc Try.prog Try.f4 Rows.wireReadsUptoRow.domain false) (((Rows.OpenSpec.upto Rows.wireReadsSpec).at F).post enc Try.prog Try.f4 false true false false) := by
  refine returnsInHanded_of_cond (C := Try.checked) (s := Rows.OpenSpec.upto Rows.wireReadsSpec) (k := Rows.uptoSmall) rfl own started (by kernel_rfl) Try.func4
    (OpenSpec.witness (enc := enc) (C := Try.checked) (s := Rows.OpenSpec.upto Rows.wireReadsSpec) (k := Rows.uptoSmall) rfl false ⟨#[], #[.slice none 0 0, .slice none 0 0], []⟩ 8 (by kernel_rfl) (by kernel_rfl) (by kernel_rfl)
      (x := ([.nil, .nil], [], [])) (by kernel_rfl) rfl (by kernel_rfl)) ?_
  intro W base args ds gs before hval0 hW _ hk _
  have hval : ∀ (j : Nat) t v, Try.f4.params[j]? = some t → args[j]? = some v → Value.okWide Try.prog W .any base t v := hval0
  have hW' := hW
  obtain ⟨p, q, hA0, hV, rfl, _, _⟩ := hW
  have hA : DataW.TrodAll enc Try.prog W 0 (fun _ => true) true Try.f4.params.toList args.toList ds p := hA0
  rw [Try.params4] at hA hval
  obtain ⟨v0, v1, d0, d1, p0, p1, rfl, rfl, rfl, h0, h1⟩ := trodAll_two hA
  obtain ⟨rfl, rfl⟩ := trodVars_none hV
  obtain ⟨a0, len, cap, hv0⟩ := okWide_slice Try.underlying33 (hval 0 33 v0 rfl rfl)
  obtain ⟨a1, len1, cap1, hv1⟩ := okWide_slice Try.underlying55 (hval 1 55 v1 rfl rfl)
  clear hA0 hval0
  simp only [List.append_nil] at hW' hk
  have hbulk : Rows.uptoBulkAll [d0, d1] ≤ 1048576 := of_decide_eq_true hk
  simp only [Rows.uptoBulkAll] at hbulk
  obtain ⟨L, hB⟩ := bytes_of v0 d0 p0 a0 len cap hv0 h0 (by omega)
  obtain ⟨n, hS⟩ := script_of v1 d1 p1 a1 len1 cap1 hv1 h1
  refine (reads_any W v0 v1 L n hB hS).mono fun e W' ⟨he, hg⟩ => ?_
  subst he
  exact ⟨_, rfl, post_law (by kernel_rfl) (by kernel_rfl) rfl rfl Try.underlying4 hW' rfl (below_of_grownBy hg)⟩

theorem over : Rows.WireReadsUptoSaid :=
  OpenClaim.holds_of_cond 4 Try.f4 rfl rfl rfl rfl rfl rfl rfl ⟨rfl, rfl, rfl, rfl, rfl⟩ rfl rfl rfl rfl rfl (by kernel_rfl) Try.func4 (by kernel_rfl)
    (of_decide_eq_true (by kernel_rfl)) (by unfold Func.isWrapper; first | (rw [if_pos (by decide +kernel)]; kernel_rfl) | (rw [if_neg (by decide +kernel)]; exact ⟨rfl, rfl⟩))
    (fun os started H enc _ F => lifted os started H enc F)
end Go.Proofs.Ytanbnefdodkniaa.wireReads

namespace Go.Proofs.Ytanbnefdodkniaa
theorem wireReads_holds : Rows.WireReadsUptoSaid := wireReads.over
#print axioms wireReads_holds
end Go.Proofs.Ytanbnefdodkniaa
