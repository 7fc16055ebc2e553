/-
  The program's cutBy, of digits that the call owns: divided in their place by a digit.
-/
import Derived.Test.YtmgbkcfocbbofabGreatDoorCnt
import Derived.Test.YtmgbkcfocbbofabGreatDoorBunMor
import Derived.Test.YtmgbkcfocbbofabGreatDoorCdg
import Derived.Test.YtmgbkcfocbbofabGreatDoorSht
namespace Go.Proofs.YtmgbkcfocbbofabGreatDoor
open Go.RowKit Go.Lib Go.Sort Go.Shelf
attribute [local go_sem] Oper.semAt_some

theorem nv_drop_succ (L : List Nat) (q : Nat) (h : q < L.length) : nv B32 (L.drop q) = L[q]?.getD 0 + B32 * nv B32 (L.drop (q + 1)) := by
  rw [List.drop_eq_getElem_cons h, nv, List.getElem?_eq_getElem h]
  rfl
/-- One digit of a division by a digit. -/
theorem div_step (X d b : Nat) (hb : 0 < b) : (d + B32 * X) / b = B32 * (X / b) + (X % b * B32 + d) / b ∧ (d + B32 * X) % b = (X % b * B32 + d) % b := by
  have e : d + B32 * X = (X % b * B32 + d) + b * (B32 * (X / b)) := by
    have h := Nat.div_add_mod X b
    have : B32 * X = B32 * (b * (X / b)) + B32 * (X % b) := by rw [← Nat.mul_add, h]
    rw [this, Nat.mul_left_comm B32 b, Nat.mul_comm B32 (X % b)]
    omega
  rw [e]
  exact ⟨by rw [Nat.add_mul_div_left _ _ hb, Nat.add_comm], Nat.add_mul_mod_self_left _ _ _⟩
theorem div_lt32 (r d b : Nat) (hr : r < b) (hd : d < 4294967296) : (r * 4294967296 + d) / b < 4294967296 := by
  rw [Nat.div_lt_iff_lt_mul (by omega)]
  have : (r + 1) * 4294967296 ≤ b * 4294967296 := Nat.mul_le_mul_right _ hr
  rw [Nat.mul_comm 4294967296]
  omega

/-- What stands behind t of cutBy's rounds. -/
def CbI (w : World) (base b : Nat) (v : Value) (L : List Nat) (t : Nat) (W : World) : Prop :=
  ∃ M : List Nat, M.length = L.length ∧ (∀ j, j + t < L.length → M[j]?.getD 0 = L[j]?.getD 0) ∧ (∀ x ∈ M, x < B32) ∧ nv B32 (M.drop (L.length - t)) = nv B32 (L.drop (L.length - t)) / b ∧ Row W base v M ∧
    W.heap[w.heap.size]? = some (.cells #[v] 52 (0, 0)) ∧ W.heap[w.heap.size + 1]? = some (.cells #[.int .u32 (b : Int)] 55 (0, 0)) ∧
    W.heap[w.heap.size + 2]? = some (.cells #[.int .u64 ((nv B32 (L.drop (L.length - t)) % b : Nat) : Int)] 92 (0, 0)) ∧ W.heap[w.heap.size + 3]? = some (.cells #[v] 52 (0, 0)) ∧ w.grownBy W v.ownBlock
theorem row_obj {w : World} {base g : Nat} {v : Value} {L : List Nat} (h : Row w base v L) (hg : v.ownBlock = some g) : ∃ o : Obj, w.heap[g]? = some o ∧ o.isCells = true := by
  rcases h.2 with ⟨rfl, _⟩ | ⟨g', cap, cur, rfl, hb, hgg, _⟩
  · cases hg
  · cases hg
    exact ⟨_, hgg, rfl⟩
theorem CbI_own (w : World) (base b : Nat) (v : Value) (L : List Nat) (B : Nat) (hB : w.heap.size ≤ B) : OwnFrom B (CbI w base b v L) := by
  rintro t W W' row ⟨M, hM, h0, hr, hv, hR, h1, h2, h3, h4, hg⟩ hgr hrow
  have hne : v.ownBlock = none ∨ v.ownBlock ≠ row := by
    cases hvb : v.ownBlock with
    | none => exact .inl rfl
    | some g =>
      right
      intro e
      obtain ⟨_, o, ho, hc⟩ := hrow g e.symm
      obtain ⟨o', ho', hc'⟩ := row_obj hR hvb
      rw [ho] at ho'
      cases ho'
      rw [hc] at hc'
      exact absurd hc' (by simp)
  refine ⟨M, hM, h0, hr, hv, hR.kept hgr hne, own_cells hgr hrow h1 rfl, own_cells hgr hrow h2 rfl, own_cells hgr hrow h3 rfl, own_cells hgr hrow h4 rfl, hgr.os.trans hg.os, hgr.tape.trans hg.tape, hgr.output.trans hg.output, Nat.le_trans hg.size hgr.size, fun i hi hn => ?_⟩
  exact (hgr.block i (Nat.lt_of_lt_of_le hi hg.size) (fun e => by have := (hrow i e.symm).1; omega)).trans (hg.block i hi hn)

/-- The round's step, once for all: the digit is written, the rest goes on. -/
theorem CbI.step {w W W2 : World} {base b g n cp t q : Nat} {L : List Nat} (hb : 0 < b) (hrL : ∀ x ∈ L, x < B32) (h : CbI w base b (.slice (some ⟨g, 0, none⟩) n cp) L t W) (hq : q + t + 1 = L.length) (hgw : g < w.heap.size) (R : Nat) (hR : R = nv B32 (L.drop (L.length - t)) % b)
    (hW2 : W2 = ((W.setCell ⟨g, q, none⟩ (.int .u32 (((R * 4294967296 + L[q]?.getD 0) / b : Nat) : Int))).setCell ⟨w.heap.size + 2, 0, none⟩ (.int .u64 (((R * 4294967296 + L[q]?.getD 0) % b : Nat) : Int)))) :
    CbI w base b (.slice (some ⟨g, 0, none⟩) n cp) L (t + 1) W2 := by
  obtain ⟨M, hM, h0, hr, hv, hRow, h1, h2, h3, h4, hg⟩ := h
  have hd : L[q]?.getD 0 < 4294967296 := d4_rng hrL q
  have e1 : L.length - (t + 1) = q := by omega
  have e2 : L.length - t = q + 1 := by omega
  have hRb : R < b := by rw [hR]; exact Nat.mod_lt _ hb
  have hlt := div_lt32 R (L[q]?.getD 0) b hRb hd
  have hst := div_step (nv B32 (L.drop (q + 1))) (L[q]?.getD 0) b hb
  rw [e2] at hv hR
  rw [← hR] at hst
  have hB : (B32 : Nat) = 4294967296 := rfl
  have l1 := (Array.getElem?_eq_some_iff.1 h1).1
  have l2 := (Array.getElem?_eq_some_iff.1 h2).1
  have l3 := (Array.getElem?_eq_some_iff.1 h3).1
  have l4 := (Array.getElem?_eq_some_iff.1 h4).1
  have k1 := grownBy_setCell W g q (.int .u32 (((R * 4294967296 + L[q]?.getD 0) / b : Nat) : Int))
  have k2 := grownBy_setCell (W.setCell ⟨g, q, none⟩ (.int .u32 (((R * 4294967296 + L[q]?.getD 0) / b : Nat) : Int))) (w.heap.size + 2) 0 (.int .u64 (((R * 4294967296 + L[q]?.getD 0) % b : Nat) : Int))
  have hR1 := hRow.set q ((R * 4294967296 + L[q]?.getD 0) / b)
  have b3 : (W.setCell ⟨g, q, none⟩ (.int .u32 (((R * 4294967296 + L[q]?.getD 0) / b : Nat) : Int))).heap[w.heap.size + 2]? = _ := (k1.block _ l3 (by intro e; injection e with e; omega)).trans h3
  have keep : ∀ i, i < W.heap.size → i ≠ g → i ≠ w.heap.size + 2 → W2.heap[i]? = W.heap[i]? := fun i hi n1 n2 => by
    rw [hW2]
    exact (k2.block i (Nat.lt_of_lt_of_le hi k1.size) (by intro e; injection e with e; exact n2 e)).trans (k1.block i hi (by intro e; injection e with e; exact n1 e))
  refine ⟨M.set q ((R * 4294967296 + L[q]?.getD 0) / b), by simp [hM], fun j hj => ?_, set_rng hr hlt, ?_, ?_, (keep _ l1 (by omega) (by omega)).trans h1, (keep _ l2 (by omega) (by omega)).trans h2, ?_, (keep _ l4 (by omega) (by omega)).trans h4, ?_⟩
  · rw [List.getElem?_set_ne (by omega)]
    exact h0 j (by omega)
  · rw [e1, nv_drop_succ L q (by omega), nv_drop_succ _ q (by simp; omega), hst.1, List.getElem?_set_self (by omega), List.drop_set_of_lt (by omega), hv]
    simp only [Option.getD_some, hB]
    omega
  · rw [hW2]
    exact hR1.kept k2 (.inr (by simp [Value.ownBlock]; omega))
  · rw [hW2, e1, nv_drop_succ L q (by omega), hst.2]
    generalize W.setCell ⟨g, q, none⟩ (.int .u32 (((R * 4294967296 + L[q]?.getD 0) / b : Nat) : Int)) = W3 at *
    simp [World.setCell, Array.getElem?_modify, b3, hB]
  · rw [hW2]
    have hgg : w.grownBy W (some g) := hg
    show w.grownBy _ (some g)
    exact ⟨(k2.os.trans k1.os).trans hgg.os, (k2.tape.trans k1.tape).trans hgg.tape, (k2.output.trans k1.output).trans hgg.output, Nat.le_trans hgg.size (Nat.le_trans k1.size k2.size), fun i hi hn =>
      (k2.block i (Nat.lt_of_lt_of_le hi (Nat.le_trans hgg.size k1.size)) (by intro e; injection e with e; omega)).trans ((k1.block i (Nat.lt_of_lt_of_le hi hgg.size) hn).trans (hgg.block i hi hn))⟩

theorem CbI.drew {w W : World} {base b : Nat} {v : Value} {L : List Nat} {t : Nat} (h : CbI w base b v L t W) : CbI w base b v L t W.drew := by
  obtain ⟨M, hM, h0, hr, hv, hRow, h1, h2, h3, h4, hg⟩ := h
  exact ⟨M, hM, h0, hr, hv, hRow, h1, h2, h3, h4, grow_drew hg⟩
theorem set_over {W : World} {d : Nat} {v x y : Value} {t : TypeId} (h : W.heap[d]? = some (.cells #[v] t (0, 0))) (g q : Nat) (hne : g ≠ d) (u z : Value) :
    (((W.setCell ⟨d, 0, none⟩ x).setCell ⟨d, 0, none⟩ y).setCell ⟨g, q, none⟩ u).setCell ⟨d, 0, none⟩ z = (W.setCell ⟨g, q, none⟩ u).setCell ⟨d, 0, none⟩ z := by
  unfold World.setCell
  congr 1
  apply Array.ext_getElem?
  intro i
  simp only [Array.getElem?_modify]
  by_cases hi : d = i
  · subst hi
    simp [h, hne]
  · simp [hi]
theorem or32 (x y : Int) (h₀ : 0 ≤ x) (h₁ : x ≤ 4294967295) (h2 : 0 ≤ y) (h3 : y ≤ 4294967295) : bits .or .u64 (x * 4294967296) y = x * 4294967296 + y :=
  bits_join .u64 64 (by decide) wraps_u64 32 (x * 4294967296) y (by omega) (by omega) (by omega) h2 (by omega) (by omega)

set_option maxRecDepth 100000 in
set_option maxHeartbeats 8000000 in
theorem cutBy_row (w : World) (base b : Nat) (v : Value) (L : List Nat) (h : Row w base v L) (hrL : ∀ x ∈ L, x < B32) (hb0 : 0 < b) (hb1 : b < 4294967296) (hl : L.length ≤ 1000000000) :
    Calls Tryz.prog 32 #[v, .int .u32 (b : Int)] w fun e w' => ∃ K, e = .returned (.int .u32 ((nv B32 L % b : Nat) : Int)) ∧ K.length = L.length ∧ (∀ x ∈ K, x < B32) ∧ nv B32 K = nv B32 L / b ∧ Row w' base v K ∧ w.grownBy w' v.ownBlock := by
  have hR0 : ∀ W, w.grownBy W none → Row W base v L := fun W hg => h.kept hg (by cases v.ownBlock <;> simp)
  have hlt : ∀ g, v.ownBlock = some g → g < w.heap.size := fun g hg => by
    obtain ⟨o, ho, _⟩ := row_obj h hg
    exact (Array.getElem?_eq_some_iff.1 ho).1
  have HRL : Hid (∀ x ∈ L, x < B32) := hrL
  have HLT : Hid (∀ g, v.ownBlock = some g → g < w.heap.size) := hlt
  obtain ⟨ab, cp, rfl⟩ := h.d4.slice
  have hlI : (L.length : Int) ≤ 1000000000 := by omega
  clear h hrL hlt
  refine (callsIn_wide (n := 5)).1 ?_
  refine callsIn_of_wp_marks Tryz.func32 rfl trivial ?_ rfl
  simp only [Tryz.ntmps32, List.size_toArray, List.length_cons, List.length_nil, Nat.reduceAdd, Nat.reduceSub, Array.replicate_succ, Array.replicate_zero, List.push_toArray, List.append_toArray, List.nil_append, List.cons_append]
  gi_wp2
  refine ⟨trivial, ?_⟩
  refine (callsIn_wide.2 (backward_all _ _ _ _)).mono ?_
  rintro e w' ⟨rfl, rfl⟩
  gi_wp2
  refine wpIn_counted rfl (by omega) (gf := 87) (lb := #[.pointer (some ⟨w.heap.size + 1 + 1 + 1, 0, none⟩)]) rfl trivial (enters_of Tryz.func87 (by kernel_rfl) rfl)
    (encC L) L.length (fun _ => rfl) (CbI w base b (.slice ab L.length cp) L) (CbI_own w base b _ L _ (by simp; omega))
    ⟨L, rfl, fun _ _ => rfl, HRL.out, by simp [nv], hR0 _ (grow4 _ _ _ _ _), old_alloc _ _ (old_alloc _ _ (old_alloc _ _ (heap_alloc_new _ _))), old_alloc _ _ (old_alloc _ _ (heap_alloc2_new _ _ _)), by have := old_alloc _ (Obj.cells #[Value.slice ab L.length cp] 52) (at_alloc3 w (Obj.cells #[Value.slice ab L.length cp] 52) (Obj.cells #[Value.int IntKind.u32 (b : Int)] 55) (Obj.cells #[Value.int IntKind.u64 0] 92)); simpa [nv] using this, by have := heap_alloc_new (((w.alloc (Obj.cells #[Value.slice ab L.length cp] 52)).alloc (Obj.cells #[Value.int IntKind.u32 (b : Int)] 55)).alloc (Obj.cells #[Value.int IntKind.u64 0] 92)) (Obj.cells #[Value.slice ab L.length cp] 52); simpa using this, grownBy_any (grow4 _ _ _ _ _)⟩
    (back_hands Fence.wide (5 - 1) trivial rfl (by omega) (w.heap.size + 1 + 1 + 1) L cp ab hlI _ ?reads)
    (fun t => { tmps := #[.slice ab L.length cp, .int .u32 (b : Int), .pointer (some ⟨w.heap.size, 0, none⟩), .pointer (some ⟨w.heap.size + 1, 0, none⟩), .int .u32 0, .pointer (some ⟨w.heap.size + 1 + 1, 0, none⟩), .int .i64 ((L.length - 1 - t : Nat) : Int), .int .u32 ((L[L.length - 1 - t]?.getD 0 : Nat) : Int), .slice ab L.length cp, .func (.func 87) #[] #[.pointer (some ⟨w.heap.size + 1 + 1 + 1, 0, none⟩)], .int .i64 ((L.length - 1 - t : Nat) : Int), .int .u32 ((L[L.length - 1 - t]?.getD 0 : Nat) : Int), undef, undef, undef, undef, undef, undef, undef, undef, undef, undef, undef, undef, undef, undef, undef, undef, undef, undef, undef, undef], defers := [] }) ?assign ?body ?done
  case reads =>
    rintro t W ⟨M, hM, h0, hr, hv, hRow, h1, h2, h3, h4, hg⟩
    refine ⟨by simp [World.cell?, h4], fun q hq => ?_⟩
    rcases hRow.cases with ⟨_, e⟩ | ⟨g, c, e, _, hc⟩
    · rw [e] at hM; simp at hM; omega
    · obtain ⟨rfl, e2, rfl⟩ := Value.slice.inj e
      rw [hM] at hc
      refine ⟨g, 0, rfl, ?_, hc⟩
      have := Row.cell (by rw [← e2]; exact hRow) q (by omega)
      rw [h0 q (by omega)] at this
      rw [Nat.zero_add]
      exact this
  case assign =>
    intro l t W K hK
    simp only [encC]
    generalize ((L.length - 1 - t : Nat) : Int) = q at hK ⊢
    generalize ((L[L.length - 1 - t]?.getD 0 : Nat) : Int) = d at hK ⊢
    gi_wp2
    exact hK
  case body =>
    intro l t W ht hI
    have HI : Hid (CbI w base b (.slice ab L.length cp) L t W) := hI
    obtain ⟨M, hM, h0, hr, hv, hRow, h1, h2, h3, h4, hg⟩ := hI
    obtain ⟨q, hq⟩ : ∃ q, q + t + 1 = L.length := ⟨L.length - 1 - t, by omega⟩
    obtain ⟨g, rfl, hgw⟩ : ∃ g, ab = some ⟨g, 0, none⟩ ∧ g < w.heap.size := by
      rcases hRow.cases with ⟨_, e⟩ | ⟨g, c, e, _, hc⟩
      · rw [e] at hM; simp at hM; omega
      · obtain ⟨rfl, e2, rfl⟩ := Value.slice.inj e
        exact ⟨g, rfl, HLT.out g rfl⟩
    have hce := Row.cell (by rw [hM]; exact hRow) q (by omega)
    have hfe := hRow.frozen q
    have hLc : L.length ≤ cp := by
      rcases hRow.cases with ⟨e, _⟩ | ⟨g', c, e, _, hc⟩
      · cases e
      · obtain ⟨_, _, rfl⟩ := Value.slice.inj e
        omega
    have ST := fun W2 h => CbI.step (W2 := W2) hb0 HRL.out HI.out hq hgw _ rfl h
    have hRb : nv B32 (L.drop (L.length - t)) % b < b := Nat.mod_lt _ hb0
    have hd : L[q]?.getD 0 < 4294967296 := d4_rng HRL.out q
    have c1 : W.cell? ⟨w.heap.size, 0, none⟩ = some (.slice (some ⟨g, 0, none⟩) L.length cp) := by simp [World.cell?, h1]
    have c2 : W.cell? ⟨w.heap.size + 1, 0, none⟩ = some (.int .u32 (b : Int)) := by simp [World.cell?, h2]
    have c3 : W.cell? ⟨w.heap.size + 1 + 1, 0, none⟩ = some (.int .u64 ((nv B32 (L.drop (L.length - t)) % b : Nat) : Int)) := by simp [World.cell?, h3]
    have f3 : W.frozen? ⟨w.heap.size + 1 + 1, 0, none⟩ = false := by simp [World.frozen?, h3]
    rw [show L.length - 1 - t = q by omega]
    generalize nv B32 (L.drop (L.length - t)) % b = R at *
    generalize L[q]?.getD 0 = d at *
    obtain ⟨k, hk⟩ : ∃ k, L.length = k := ⟨_, rfl⟩
    have hor := or32 (R : Int) (d : Int) (by omega) (by omega) (by omega) (by omega)
    have HOV := fun u z => set_over (x := .int .u64 ((R : Int) * 4294967296)) (y := .int .u64 ((R : Int) * 4294967296 + d)) h3 g q (by omega) u z
    have ST2 : Hid (CbI w base b (.slice (some ⟨g, 0, none⟩) L.length cp) L (t + 1) (((((W.setCell ⟨w.heap.size + 2, 0, none⟩ (.int .u64 ((R : Int) * 4294967296))).setCell ⟨w.heap.size + 2, 0, none⟩ (.int .u64 ((R : Int) * 4294967296 + d))).setCell ⟨g, q, none⟩ (.int .u32 (((R * 4294967296 + d) / b : Nat) : Int))).setCell ⟨w.heap.size + 2, 0, none⟩ (.int .u64 (((R * 4294967296 + d) % b : Nat) : Int))).drew)) := (by
      refine CbI.drew ?_
      rw [HOV]
      exact ST _ rfl)
    have KO2 : Hid (∀ u z, KeepsOthers W (((((W.setCell ⟨w.heap.size + 2, 0, none⟩ (.int .u64 ((R : Int) * 4294967296))).setCell ⟨w.heap.size + 2, 0, none⟩ (.int .u64 ((R : Int) * 4294967296 + d))).setCell ⟨g, q, none⟩ u).setCell ⟨w.heap.size + 2, 0, none⟩ z).drew)) := fun u z =>
      ((((KeepsOthers.setCell _ _ _).trans (KeepsOthers.setCell _ _ _)).trans (KeepsOthers.setCell _ _ _)).trans (KeepsOthers.setCell _ _ _)).trans (KeepsOthers.drew _)
    have k1 : W.grownBy ((W.setCell ⟨w.heap.size + 1 + 1, 0, none⟩ (.int .u64 ((R : Int) * 4294967296))).setCell ⟨w.heap.size + 1 + 1, 0, none⟩ (.int .u64 ((R : Int) * 4294967296 + d))) (some (w.heap.size + 1 + 1)) := grownBy_trans (grownBy_setCell _ _ _ _) (grownBy_setCell _ _ _ _)
    have d1 := grownBy_cell k1 c1 (by intro e; injection e with e; omega)
    have d2 := grownBy_cell k1 c2 (by intro e; injection e with e; omega)
    have d3 : ((W.setCell ⟨w.heap.size + 1 + 1, 0, none⟩ (.int .u64 ((R : Int) * 4294967296))).setCell ⟨w.heap.size + 1 + 1, 0, none⟩ (.int .u64 ((R : Int) * 4294967296 + d))).cell? ⟨w.heap.size + 1 + 1, 0, none⟩ = some (.int .u64 ((R : Int) * 4294967296 + d)) := by
      have e : W.heap[w.heap.size + 1 + 1]? = some (.cells #[.int .u64 (R : Int)] 92 (0, 0)) := h3
      simp [World.cell?, World.setCell, Array.getElem?_modify, e]
    have g3 : ((W.setCell ⟨w.heap.size + 1 + 1, 0, none⟩ (.int .u64 ((R : Int) * 4294967296))).setCell ⟨w.heap.size + 1 + 1, 0, none⟩ (.int .u64 ((R : Int) * 4294967296 + d))).frozen? ⟨w.heap.size + 1 + 1, 0, none⟩ = false := by
      have e : W.heap[w.heap.size + 1 + 1]? = some (.cells #[.int .u64 (R : Int)] 92 (0, 0)) := h3
      simp [World.frozen?, World.setCell, Array.getElem?_modify, e]
    have hRW := hRow.kept k1 (.inr (by simp [Value.ownBlock]; omega))
    have d4 := Row.cell (by rw [hM]; exact hRW) q (by omega)
    have g4 := hRW.frozen q
    clear hRW hRow hr hv h0 h1 h2 h3 h4 hg hce hfe ST HOV k1 HI
    have hw0 : ((b : Int) == 0) = false := by rw [beq_eq_false_iff_ne]; omega
    have hw1 : (0 : Int) < b := by omega
    have hw2 : (b : Int) ≤ 4294967295 := by omega
    have hw3 : (R : Int) ≤ 4294967295 := by omega
    have hw4 : (d : Int) ≤ 4294967295 := by omega
    have hw5 : ¬ (b : Int) = 0 := by omega
    have hw6 : IntKind.u64.wrap (b : Int) = (b : Int) := by rw [IntKind.wrap_u64]; omega
    have hw7 : IntKind.u64.wrap (((R : Int) * 4294967296 + d).tdiv b) = (((R * 4294967296 + d) / b : Nat) : Int) := by
      rw [IntWalk.u64_quo _ _ (by omega)]
      simp
    clear hb1
    gi_wp2
    clear c1 c2 c3 f3
    generalize (W.setCell ⟨w.heap.size + 1 + 1, 0, none⟩ (.int .u64 ((R : Int) * 4294967296))).setCell ⟨w.heap.size + 1 + 1, 0, none⟩ (.int .u64 ((R : Int) * 4294967296 + d)) = W2 at *
    have hmx : Tryz.prog.follows .mixedOrders = true := by kernel_rfl
    have FIN : Hid (∀ act, roundTo (CbI w base b (.slice (some ⟨g, 0, none⟩) L.length cp) L) (t + 1) W Exit.normal act (((W2.setCell ⟨g, q, none⟩ (.int .u32 (((R : Int) * 4294967296 + d) / b % 4294967296))).setCell ⟨w.heap.size + 1 + 1, 0, none⟩ (.int .u64 (((R : Int) * 4294967296 + d) % b))).drew)) := (by
      intro act
      have hq32 := div_lt32 R d b hRb hd
      have e1 : ((R : Int) * 4294967296 + d) / b = (((R * 4294967296 + d) / b : Nat) : Int) := by simp
      have e2 : ((R : Int) * 4294967296 + d) % b = (((R * 4294967296 + d) % b : Nat) : Int) := by simp
      have hS2 := ST2.out
      rw [e1, e2]
      generalize (R * 4294967296 + d) / b = Y at hq32 hS2 ⊢
      rw [show (Y : Int) % 4294967296 = (Y : Int) by omega]
      exact ⟨KO2.out _ _, hS2⟩)
    clear ST2 KO2
    gi_region
    all_goals gi_wp2
    all_goals exact FIN.out _
  case done =>
    rintro D W hD' ⟨M, hM, h0, hr, hv, hRow, h1, h2, h3, h4, hg⟩ hK
    rw [Nat.sub_self, List.drop_zero, List.drop_zero] at hv
    rw [Nat.sub_self, List.drop_zero] at h3
    have hRb : nv B32 L % b < b := Nat.mod_lt _ hb0
    have HF : Hid (M.length = L.length ∧ (∀ x ∈ M, x < B32) ∧ nv B32 M = nv B32 L / b ∧ Row W base (.slice ab L.length cp) M ∧ w.grownBy W (Value.slice ab L.length cp).ownBlock) := ⟨hM, hr, hv, hRow, hg⟩
    have c3 : W.cell? ⟨w.heap.size + 1 + 1, 0, none⟩ = some (.int .u64 ((nv B32 L % b : Nat) : Int)) := by simp [World.cell?, h3]
    generalize hRR : nv B32 L % b = R at *
    have hRI : (R : Int) ≤ 4294967295 := by omega
    clear hM h0 hr hv hRow h1 h2 h3 h4 hg hRb
    gi_wp2
    refine ⟨by simp, .inl ⟨_, _, rfl, run_takeDeferred hK, ?_⟩⟩
    have kD := grownBy_putObj' W D (.deferred none)
    have hDs : w.heap.size ≤ D := by simp at hD'; omega
    obtain ⟨hM, hr, hv, hRow, hg⟩ := HF.out
    have hne : (Value.slice ab L.length cp).ownBlock = none ∨ (Value.slice ab L.length cp).ownBlock ≠ some D := by
      cases hvb : (Value.slice ab L.length cp).ownBlock with
      | none => exact .inl rfl
      | some g =>
        right
        intro e
        injection e with e
        have := HLT.out g hvb
        omega
    refine ⟨_, results_tmp rfl _ _ _, M, ?_, hM, hr, hv, hRow.kept kD hne, ?_⟩
    · exact ret_num (by rw [hRR])
    · exact ⟨kD.os.trans hg.os, kD.tape.trans hg.tape, kD.output.trans hg.output, Nat.le_trans hg.size kD.size, fun i hi hn => (kD.block i (Nat.lt_of_lt_of_le hi hg.size) (by intro e; injection e with e; omega)).trans (hg.block i hi hn)⟩
end Go.Proofs.YtmgbkcfocbbofabGreatDoor
