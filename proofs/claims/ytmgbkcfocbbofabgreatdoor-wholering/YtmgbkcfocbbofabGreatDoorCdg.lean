/-
  The program's cmpDigits: the order of two magnitudes.
-/
import Derived.Test.YtmgbkcfocbbofabGreatDoorBunMgm
import Derived.Test.YtmgbkcfocbbofabGreatDoorMgf
import Derived.Test.YtmgbkcfocbbofabGreatDoorBunMor
namespace Go.Proofs.YtmgbkcfocbbofabGreatDoor
open Go.RowKit Go.Lib Go.Sort Go.Shelf
attribute [local go_sem] Oper.semAt_some

/-- The highest place at which two of one length differ tells the order. -/
theorem top_differs {A B : List Nat} (ra : ∀ x ∈ A, x < B32) (x : Nat) (hx : x < A.length) (hs : ∀ j, x < j → A[j]?.getD 0 = B[j]?.getD 0) (hlt : A[x]?.getD 0 < B[x]?.getD 0) : nv B32 A < nv B32 B := by
  have e1 := nv_cut' A (x + 1)
  have e2 := nv_cut' B (x + 1)
  have e3 := nv_same (A.drop (x + 1)) (B.drop (x + 1)) (fun j => by rw [List.getElem?_drop, List.getElem?_drop]; exact hs _ (by omega))
  rw [nv_take_succ] at e1 e2
  rw [e3] at e1
  have h1 := nv_lt B32 (A.take x) (fun y hy => ra y (List.mem_of_mem_take hy))
  rw [List.length_take, Nat.min_eq_left (by omega)] at h1
  generalize B32 ^ (x + 1) * nv B32 (B.drop (x + 1)) = D at *
  have h2 : (A[x]?.getD 0 + 1) * B32 ^ x ≤ B[x]?.getD 0 * B32 ^ x := Nat.mul_le_mul_right _ hlt
  rw [Nat.add_mul, Nat.one_mul] at h2
  omega
theorem cmpN_top {A B : List Nat} (ra : ∀ x ∈ A, x < B32) (rb : ∀ x ∈ B, x < B32) (x : Nat) (hx : x < A.length) (hl : A.length = B.length) (hs : ∀ j, x < j → A[j]?.getD 0 = B[j]?.getD 0) (hne : A[x]?.getD 0 ≠ B[x]?.getD 0) :
    cmpN (nv B32 A) (nv B32 B) = cmpI ((A[x]?.getD 0 : Nat) : Int) ((B[x]?.getD 0 : Nat) : Int) := by
  rw [cmpI_nat]
  unfold cmpN
  rcases Nat.lt_or_ge (A[x]?.getD 0) (B[x]?.getD 0) with h | h
  · rw [if_pos h, if_pos (top_differs ra x hx hs h)]
  · have h1 : B[x]?.getD 0 < A[x]?.getD 0 := by omega
    have h2 := top_differs rb x (by omega) (fun j hj => (hs j hj).symm) h1
    rw [if_neg (by omega), if_neg (by omega), if_neg (by omega), if_neg (by omega)]
theorem cmpN_len {A B : List Nat} (ra : ∀ x ∈ A, x < B32) (rb : ∀ x ∈ B, x < B32) (tA : Trim A) (tB : Trim B) (hl : A.length ≠ B.length) : cmpN (nv B32 A) (nv B32 B) = cmpI (A.length : Int) (B.length : Int) := by
  rw [cmpI_nat]
  unfold cmpN
  rcases Nat.lt_or_ge A.length B.length with h | h
  · rw [if_pos h, if_pos (len_lt ra tB h)]
  · have h2 := len_lt rb tA (show B.length < A.length by omega)
    rw [if_neg (by omega), if_neg (by omega), if_neg (by omega), if_neg (by omega)]
theorem Down.above {k : Nat} {pre : List (Fin k)} {x : Fin k} (h : Down k (pre ++ [x])) {P : Nat → Prop} (hp : ∀ y ∈ pre, P y.1) : ∀ j, x.1 < j → j < k → P j := by
  intro j hj hjk
  have hx := h pre.length (by simp)
  simp at hx
  have ht : k - 1 - j < pre.length := by omega
  have := h (k - 1 - j) (by simp; omega)
  rw [List.getElem_append_left ht] at this
  have e : (pre[k - 1 - j]).1 = j := by omega
  rw [← e]
  exact hp _ (List.getElem_mem ht)

/-- What stands behind some rounds of cmpDigits: the places gone through are alike. -/
def cdI (w : World) (k : Nat) (A B : List Nat) (vb : Value) (pre : List (Fin k)) (W : World) : Prop :=
  (∀ x ∈ pre, A[x.1]?.getD 0 = B[x.1]?.getD 0) ∧ W.heap[w.heap.size]? = some (.cells #[vb] 52 (0, 0)) ∧ W.heap[w.heap.size + 1]? = some (.cells #[.int .i64 0] 3 (0, 0)) ∧ w.grownBy W none
/-- What stands where it has been left. -/
def cdX (w : World) (k : Nat) (A B : List Nat) (c : Code) (pre : List (Fin k)) (W : World) : Prop :=
  c = .ret ∧ ∃ p x, pre = p ++ [x] ∧ (∀ y ∈ p, A[y.1]?.getD 0 = B[y.1]?.getD 0) ∧ A[x.1]?.getD 0 ≠ B[x.1]?.getD 0 ∧ W.heap[w.heap.size + 1]? = some (.cells #[.int .i64 (cmpI ((A[x.1]?.getD 0 : Nat) : Int) ((B[x.1]?.getD 0 : Nat) : Int))] 3 (0, 0)) ∧ w.grownBy W none
theorem own_cells {B : Nat} {W W' : World} {row : Option Nat} (hg : W.grownBy W' row) (hr : ∀ r, row = some r → B ≤ r ∧ ∃ o : Obj, W.heap[r]? = some o ∧ o.isCells = false) {i : Nat} {o : Obj} (h : W.heap[i]? = some o) (hc : o.isCells = true) : W'.heap[i]? = some o := by
  refine (hg.block i (Array.getElem?_eq_some_iff.1 h).1 (fun e => ?_)).trans h
  obtain ⟨_, o', ho', hc'⟩ := hr i e.symm
  rw [h] at ho'
  cases ho'
  rw [hc] at hc'
  exact absurd hc' (by simp)
theorem own_grown {B : Nat} {w W W' : World} {row : Option Nat} (hB : w.heap.size ≤ B) (h : w.grownBy W none) (hg : W.grownBy W' row) (hr : ∀ r, row = some r → B ≤ r ∧ ∃ o : Obj, W.heap[r]? = some o ∧ o.isCells = false) : w.grownBy W' none :=
  ⟨hg.os.trans h.os, hg.tape.trans h.tape, hg.output.trans h.output, Nat.le_trans h.size hg.size, fun i hi hn => (hg.block i (Nat.lt_of_lt_of_le hi h.size) (fun e => by have := (hr i e.symm).1; omega)).trans (h.block i hi hn)⟩
theorem cdI_own (w : World) (k : Nat) (A B : List Nat) (vb : Value) (b : Nat) (hb : w.heap.size ≤ b) : OwnFrom b (cdI w k A B vb) := fun _ _ _ _ ⟨h0, h1, h2, h3⟩ hg hr =>
  ⟨h0, own_cells hg hr h1 rfl, own_cells hg hr h2 rfl, own_grown hb h3 hg hr⟩
theorem cdX_own (w : World) (k : Nat) (A B : List Nat) (c : Code) (b : Nat) (hb : w.heap.size ≤ b) : OwnFrom b (cdX w k A B c) := fun _ _ _ _ ⟨hc, p, x, e, h0, h1, h2, h3⟩ hg hr =>
  ⟨hc, p, x, e, h0, h1, own_cells hg hr h2 rfl, own_grown hb h3 hg hr⟩

theorem run_loadInt (w : World) (g : Nat) (v : Value) (hc : w.cell? ⟨g, 0, none⟩ = some v) : (loadVar 3 ⟨g, 0, none⟩).run Tryz.prog w = .ok v w := by
  have hagg : (isAgg 3).run Tryz.prog w = .ok false w := by
    unfold isAgg
    rw [Sem.run_bind, run_underlying Tryz.underlying3 w]
    rfl
  simp only [loadVar, Sem.run_bind, hagg, Result.andThen]
  show (load ⟨g, 0, none⟩).run Tryz.prog w = .ok v w
  rw [run_load, hc]
theorem res_int {fn : Func} {p : Tmp} (h : fn.results = #[.cell p 3]) (tmps : Array Value) (w : World) (g : Nat) (v : Value) (hp : tmps.getD p undef = .pointer (some ⟨g, 0, none⟩)) (hc : w.cell? ⟨g, 0, none⟩ = some v) :
    (results fn tmps).run Tryz.prog w = .ok v w := by
  have hp' : tmps[p]?.getD undef = .pointer (some ⟨g, 0, none⟩) := by simpa using hp
  simp [results, h, hp', asAddr, run_loadInt w g v hc]
set_option maxRecDepth 100000 in
set_option maxHeartbeats 4000000 in
theorem cmpDigits_any (w : World) (va vb : Value) (A B : List Nat) (hA : D4 w va A) (hB : D4 w vb B) (ra : ∀ x ∈ A, x < B32) (rb : ∀ x ∈ B, x < B32) (tA : Trim A) (tB : Trim B) (_la : A.length ≤ 100000000) (lb : B.length ≤ 100000000) :
    Calls Tryz.prog 58 #[va, vb] w fun e w' => e = .returned (.int .i64 (cmpN (nv B32 A) (nv B32 B))) ∧ w.grownBy w' none := by
  obtain ⟨aa, ca, rfl⟩ := hA.slice
  obtain ⟨ab, cb, rfl⟩ := hB.slice
  refine (callsIn_wide (n := 5)).1 ?_
  refine callsIn_of_wp_marks Tryz.func58 rfl trivial ?_ rfl
  simp only [Tryz.ntmps58, List.size_toArray, List.length_cons, List.length_nil, Nat.reduceAdd, Nat.reduceSub, Array.replicate_succ, Array.replicate_zero, List.push_toArray, List.append_toArray, List.nil_append, List.cons_append]
  by_cases hl : A.length = B.length
  · obtain ⟨k, hk⟩ : ∃ k, A.length = k := ⟨_, rfl⟩
    rw [hk] at hl _la hA ⊢
    rw [← hl] at hB lb ⊢
    have HK : Unit → A.length = k ∧ B.length = k := fun _ => ⟨hk, hl.symm⟩
    have hkI : (k : Int) ≤ 100000000 := by omega
    have HA : Hid (D4 w (.slice aa k ca) A) := hA
    have HB : Hid (D4 w (.slice ab k cb) B) := hB
    clear hA hB hk hl tA tB _la lb
    gi_wp2
    refine ⟨trivial, ?_⟩
    refine (callsIn_wide.2 (backward_all _ _ _ _)).mono ?_
    rintro e w' ⟨rfl, rfl⟩
    gi_wp2
    have hS := heap_alloc_new ((w.alloc (Obj.cells #[Value.slice ab k cb] 52)).alloc (Obj.cells #[Value.int IntKind.i64 0] 3)) (Obj.cells #[Value.slice aa k ca] 52)
    have hG0 := grow3 w (Obj.cells #[Value.slice ab k cb] 52) (Obj.cells #[Value.int IntKind.i64 0] 3) (Obj.cells #[Value.slice aa k ca] 52)
    have hM := at_alloc2 w (Obj.cells #[Value.slice ab k cb] 52) (Obj.cells #[Value.int IntKind.i64 0] 3) (Obj.cells #[Value.slice aa k ca] 52)
    have hA0 : (((w.alloc (Obj.cells #[Value.slice ab k cb] 52)).alloc (Obj.cells #[Value.int IntKind.i64 0] 3)).alloc (Obj.cells #[Value.slice aa k ca] 52)).heap[w.heap.size]? = some (Obj.cells #[Value.slice ab k cb] 52) := old_alloc _ _ (at_alloc1 _ _ _)
    have hsz : (((w.alloc (Obj.cells #[Value.slice ab k cb] 52)).alloc (Obj.cells #[Value.int IntKind.i64 0] 3)).alloc (Obj.cells #[Value.slice aa k ca] 52)).heap.size = w.heap.size + 3 := by simp
    simp only [World.size_alloc] at hS
    generalize ((w.alloc (Obj.cells #[Value.slice ab k cb] 52)).alloc (Obj.cells #[Value.int IntKind.i64 0] 3)).alloc (Obj.cells #[Value.slice aa k ca] 52) = V at *
    have hKw : ∀ i, (i < V.heap.size) → i < V.heap.size := fun i h => h
    refine wpIn_rangeFunc_ownF rfl (by omega) (gf := 87) (lb := #[.pointer (some ⟨w.heap.size + 1 + 1, 0, none⟩)]) rfl trivial (enters_of Tryz.func87 (by kernel_rfl) rfl)
      (back_stops Fence.wide (5 - 1) trivial rfl (by omega) (w.heap.size + 1 + 1) (fun i => i < V.heap.size) A k ca aa (by omega) V (HK ()).1 (by omega) (fun h0 b e => by have := (show D4 w (.slice (some b) k ca) A by rw [← e]; exact HA.out).blk h0 (HK ()).1; omega) hKw (by simp [World.cell?, hS]) (HA.out.kept hG0))
      (fun h k => KeepsIn.trans h k) (KeepsIn.put hKw) (Below.refl _ _) (fun _ => rfl)
      (cdI w k A B (.slice ab k cb)) (cdX w k A B) (cdI_own w k A B _ _ (by omega)) (fun c => cdX_own w k A B c _ (by omega))
      ⟨by simp, hA0, hM, hG0⟩
      (fun x => { tmps := #[.slice aa k ca, .slice ab k cb, undef, .pointer (some ⟨w.heap.size, 0, none⟩), .pointer (some ⟨w.heap.size + 1, 0, none⟩), .int .i64 (x.1 : Int), .int .u32 ((A[x.1]?.getD 0 : Nat) : Int), .slice aa k ca, .int .i64 k, .slice ab k cb, .int .i64 k, .bool false, undef, undef, undef, undef, undef, .slice aa k ca, .func (.func 87) #[] #[.pointer (some ⟨w.heap.size + 1 + 1, 0, none⟩)], .int .i64 (x.1 : Int), .int .u32 ((A[x.1]?.getD 0 : Nat) : Int), undef, undef, undef, undef, undef, undef, undef, undef, undef, undef, undef, undef], defers := [] }) ?assign ?body ?done ?stop
    case assign =>
      intro l x W K hK
      simp only [encD]
      generalize A[x.1]?.getD 0 = d at hK ⊢
      gi_wp2
      exact hK
    case body =>
      rintro l pre ⟨x, hx⟩ W hI hlen
      have HI : Hid (cdI w k A B (.slice ab k cb) pre W) := hI
      obtain ⟨i0, i1, i2, i3⟩ := hI
      have c1 : W.cell? ⟨w.heap.size, 0, none⟩ = some (.slice ab k cb) := by simp [World.cell?, i1]
      have c2 : W.cell? ⟨w.heap.size + 1, 0, none⟩ = some (.int .i64 0) := by simp [World.cell?, i2]
      have f2 : W.frozen? ⟨w.heap.size + 1, 0, none⟩ = false := by simp [World.frozen?, i2]
      obtain ⟨Bb, ob, hab, hcb, hkc⟩ : ∃ Bb ob, ab = some ⟨Bb, ob, none⟩ ∧ W.cell? ⟨Bb, ob + x, none⟩ = some (.int .u32 ((B[x]?.getD 0 : Nat) : Int)) ∧ k ≤ cb := by
        rcases HB.out with ⟨_, e⟩ | ⟨Bb, ob, c, e, hc, h⟩
        · have := (HK ()).2; rw [e] at this; simp at this; omega
        · obtain ⟨rfl, _, rfl⟩ := Value.slice.inj e
          have := (HK ()).2
          exact ⟨Bb, ob, rfl, grownBy_cell i3 (h x (by omega)) (by simp), by omega⟩
      subst hab
      have hxk : (x : Int) < k := by omega
      have HE : Hid (∀ y, A[x]?.getD 0 = y → B[x]?.getD 0 = y → cdI w k A B (.slice (some ⟨Bb, ob, none⟩) k cb) (pre ++ [⟨x, hx⟩]) W) := (by
        intro y h1 h2
        refine ⟨fun z hz => ?_, i1, i2, i3⟩
        rcases List.mem_append.1 hz with h | h
        · exact i0 z h
        · simp at h; subst h; exact h1.trans h2.symm)
      have HF : Hid (∀ y z, A[x]?.getD 0 = y → B[x]?.getD 0 = z → y ≠ z → cdX w k A B .ret (pre ++ [⟨x, hx⟩]) (W.setCell ⟨w.heap.size + 1, 0, none⟩ (.int .i64 (cmpI (y : Int) (z : Int))))) := (by
        intro y z h1 h2 hne
        refine ⟨rfl, pre, ⟨x, hx⟩, rfl, i0, by simp only; rw [h1, h2]; exact hne, ?_, grown_set i3 (by omega)⟩
        simp only
        rw [h1, h2]
        simp [World.setCell, Array.getElem?_modify, i2])
      simp only
      obtain ⟨y, hy⟩ : ∃ y, A[x]?.getD 0 = y := ⟨_, rfl⟩
      obtain ⟨z, hz⟩ : ∃ z, B[x]?.getD 0 = z := ⟨_, rfl⟩
      have HE2 := HE.out
      have HYZ : Unit → A[x]?.getD 0 = y ∧ B[x]?.getD 0 = z := fun _ => ⟨hy, hz⟩
      rw [hz] at hcb
      rw [hy]
      clear i0 i1 i2 i3 hy hz HE2
      by_cases he : y = z
      · subst he
        gi_wp2
        exact ⟨KeepsOthers.refl _, KeepsIn.refl _ _, HE.out y (HYZ ()).1 (HYZ ()).2⟩
      · have hne : ((y : Int) != (z : Int)) = true := by simpa using (show (y : Int) ≠ (z : Int) by omega)
        gi_wp2
        refine ⟨trivial, ?_⟩
        refine (CallsIn.inRound l (callsIn_wide.2 (compare_u32 _ _ _))).mono ?_
        rintro e w' ⟨rfl, rfl⟩
        gi_wp2
        exact ⟨KeepsOthers.setCell _ _ _, HF.out y z (HYZ ()).1 (HYZ ()).2 he⟩
    case stop =>
      rintro D c pre W hD' ⟨hdn, hp0⟩ ⟨rfl, p, x, rfl, hs, hne, hc, hg⟩ hK
      have hc1 : W.cell? ⟨w.heap.size + 1, 0, none⟩ = some (.int .i64 (cmpI ((A[x.1]?.getD 0 : Nat) : Int) ((B[x.1]?.getD 0 : Nat) : Int))) := by simp [World.cell?, hc]
      have htop := cmpN_top ra rb x.1 (by rw [(HK ()).1]; exact x.2) (by rw [(HK ()).1, (HK ()).2]) (by
        intro j hj
        rcases Nat.lt_or_ge j k with h | h
        · exact hdn.above (P := fun j => A[j]?.getD 0 = B[j]?.getD 0) hs j hj h
        · rw [List.getElem?_eq_none (by rw [(HK ()).1]; exact h), List.getElem?_eq_none (by rw [(HK ()).2]; exact h)]) hne
      rw [← htop] at hc1
      have hlt := (Array.getElem?_eq_some_iff.1 hc).1
      clear hc hs hne htop
      gi_wp2
      refine ⟨by simp, .inl ⟨_, _, rfl, run_takeDeferred hK, ?_⟩⟩
      have kD := grownBy_putObj' W D (.deferred none)
      refine ⟨_, res_int rfl _ _ (w.heap.size + 1) _ rfl (grownBy_cell kD hc1 (by intro e; injection e with e; omega)), rfl, ?_⟩
      exact ⟨kD.os.trans hg.os, kD.tape.trans hg.tape, kD.output.trans hg.output, Nat.le_trans hg.size kD.size, fun i hi hn => (kD.block i (Nat.lt_of_lt_of_le hi hg.size) (by intro e; injection e with e; omega)).trans (hg.block i hi hn)⟩
    case done =>
      rintro D ys W hD' ⟨hdn, hyl⟩ ⟨h0, h1, h2, h3⟩ hK
      have c2 : W.cell? ⟨w.heap.size + 1, 0, none⟩ = some (.int .i64 0) := by simp [World.cell?, h2]
      have f2 : W.frozen? ⟨w.heap.size + 1, 0, none⟩ = false := by simp [World.frozen?, h2]
      have heq : Unit → cmpN (nv B32 A) (nv B32 B) = 0 := fun _ => by
        have e : nv B32 A = nv B32 B := nv_same A B (by
          intro j
          rcases Nat.lt_or_ge j k with h | h
          · have hd := hdn (k - 1 - j) (by omega)
            have hj : (ys[k - 1 - j]'(by omega)).1 = j := by omega
            have := h0 _ (List.getElem_mem (show k - 1 - j < ys.length by omega))
            rw [hj] at this
            exact this
          · rw [List.getElem?_eq_none (by rw [(HK ()).1]; exact h), List.getElem?_eq_none (by rw [(HK ()).2]; exact h)])
        unfold cmpN
        rw [e, if_neg (by omega), if_pos rfl]
      have HW : Hid (W.heap[w.heap.size + 1]? = some (.cells #[.int .i64 0] 3 (0, 0))) := h2
      have HG : Hid (w.grownBy W none) := h3
      clear h0 h1 h2 h3
      gi_wp2
      refine ⟨by simp, .inl ⟨_, _, rfl, run_takeDeferred (w := W.setCell _ _) ?_, ?_⟩⟩
      · exact ((grownBy_setCell W (w.heap.size + 1) 0 _).block D (Array.getElem?_eq_some_iff.1 hK).1 (by intro e; injection e with e; omega)).trans hK
      · have kS := grownBy_setCell W (w.heap.size + 1) 0 (.int .i64 0)
        have kD := grownBy_putObj' (W.setCell ⟨w.heap.size + 1, 0, none⟩ (.int .i64 0)) D (.deferred none)
        have hc : (W.setCell ⟨w.heap.size + 1, 0, none⟩ (.int .i64 0)).cell? ⟨w.heap.size + 1, 0, none⟩ = some (.int .i64 0) := by
          simp [World.cell?, World.setCell, Array.getElem?_modify, HW.out]
        have hg := grown_set (i := 0) (v := .int .i64 0) HG.out (show w.heap.size ≤ w.heap.size + 1 by omega)
        refine ⟨_, res_int rfl _ _ (w.heap.size + 1) _ rfl (grownBy_cell kD hc (by intro e; injection e with e; omega)), ret_num (heq ()).symm, ?_⟩
        exact ⟨kD.os.trans hg.os, kD.tape.trans hg.tape, kD.output.trans hg.output, Nat.le_trans hg.size kD.size, fun i hi hn => (kD.block i (Nat.lt_of_lt_of_le hi hg.size) (by intro e; injection e with e; omega)).trans (hg.block i hi hn)⟩
  · have HN := cmpN_len ra rb tA tB hl
    have HN2 : Unit → cmpN (nv B32 A) (nv B32 B) = cmpI (A.length : Int) (B.length : Int) := fun _ => HN
    have HC := fun w => compare_int (A.length : Int) (B.length : Int) w
    have hne : ((A.length : Int) != (B.length : Int)) = true := by simpa using (show (A.length : Int) ≠ (B.length : Int) by omega)
    obtain ⟨p, hp⟩ : ∃ p, A.length = p := ⟨_, rfl⟩
    obtain ⟨q, hq⟩ : ∃ q, B.length = q := ⟨_, rfl⟩
    rw [hp, hq] at HN2 HC hne
    rw [hp, hq]
    obtain ⟨r, hr⟩ : ∃ r, cmpI (p : Int) (q : Int) = r := ⟨_, rfl⟩
    rw [hr] at HN2 HC
    clear HN hA hB ra rb tA tB _la lb hl hp hq hr
    gi_wp2
    refine ⟨trivial, ?_⟩
    refine (callsIn_wide.2 (HC _)).mono ?_
    rintro e w' ⟨rfl, rfl⟩
    gi_wp2
    refine ⟨_, res_int rfl _ _ (w.heap.size + 1) _ rfl (by have := heap_alloc2_new w (Obj.cells #[Value.slice ab q cb] 52) (Obj.cells #[Value.int IntKind.i64 r] 3); unfold World.cell?; simp only [this]; rfl), ?_⟩
    exact ⟨ret_num (HN2 ()).symm, grow2 _ _ _⟩
end Go.Proofs.YtmgbkcfocbbofabGreatDoor
