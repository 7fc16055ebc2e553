/-
  The program's magOf: digits as bytes, without noughts ahead.
-/
import Derived.Test.YtmgbkcfocbbofabGreatDoorBunMgm
import Derived.Test.YtmgbkcfocbbofabGreatDoorBwd
namespace Go.Proofs.YtmgbkcfocbbofabGreatDoor
open Go.RowKit Go.Lib Go.Sort Go.Shelf

set_option maxHeartbeats 1600000 in
set_option maxRecDepth 1000000 in
theorem trimByte_any (w : World) (B n cp : Nat) (l : List Nat) (hl : l.length = n) (hcp : n ≤ cp) (hc : ∀ j, j < n → w.cell? ⟨B, j, none⟩ = some (.int .u8 ((l[j]?.getD 0 : Nat) : Int))) (hn : (n : Int) ≤ 1000000000) :
    Calls Tryz.prog 108 #[.slice (some ⟨B, 0, none⟩) n cp, .int .u8 0] w fun e w' => ∃ s, e = .returned s ∧ Src w s (ints (l.dropWhile (· == 0))) ∧ w' = w := by
  have HC : Hid (∀ j, j < n → w.cell? ⟨B, j, none⟩ = some (.int .u8 ((l[j]?.getD 0 : Nat) : Int))) := hc
  have HL : Unit → l.length = n := fun _ => hl
  clear hc hl
  go_enter Tryz.func108, Tryz.ntmps108
  go_wp2_with fail
  go_loopw [0] (fun s wr => ∃ k q o c : Nat, k + q = n ∧ s = .slice (some ⟨B, o, none⟩) q c ∧ q ≤ c ∧ (0 < q → o = k) ∧ (l.drop k).dropWhile (· == 0) = l.dropWhile (· == 0) ∧ wr = w) (fun s _ => match s with | .slice _ n _ => n | _ => 0)
  case atStart => exact ⟨0, n, 0, cp, by omega, rfl, hcp, fun _ => rfl, by simp, rfl⟩
  case round =>
    obtain ⟨k, q, o, c, hkq, rfl, hqc, hok, hd, rfl⟩ := hrel
    have HD : Hid ((l.drop k).dropWhile (· == 0) = l.dropWhile (· == 0)) := hd
    clear hd
    rcases Nat.eq_zero_or_pos q with rfl | hq
    · have hnil : Unit → l.dropWhile (· == 0) = [] := fun _ => by rw [← HD.out, List.drop_eq_nil_of_le (by rw [HL ()]; omega)]; rfl
      go_wp2_with fail
      go_ret
      exact ⟨_, rfl, .inl ⟨rfl, by rw [hnil ()]; rfl⟩, rfl⟩
    · obtain rfl : o = k := hok hq
      clear hok
      obtain ⟨p, rfl⟩ : ∃ p, q = p + 1 := ⟨q - 1, by omega⟩
      have hx := HC.out o (by omega)
      have hcd : l.drop o = (l[o]?.getD 0) :: l.drop (o + 1) := by
        have : o < l.length := by rw [HL ()]; omega
        rw [List.drop_eq_getElem_cons this, List.getElem?_eq_getElem this]; rfl
      have HCD : Hid (l.drop o = (l[o]?.getD 0) :: l.drop (o + 1)) := hcd
      clear hcd
      have hpI : (p : Int) ≤ 1000000000 := by omega
      by_cases h0 : l[o]?.getD 0 = 0
      · rw [h0] at hx
        have h2 : Unit → (l.drop (o + 1)).dropWhile (· == 0) = l.dropWhile (· == 0) := fun _ => by
          rw [← HD.out, HCD.out, h0, List.dropWhile_cons_of_pos (by rfl)]
        go_wp2_with fail
        go_roundw
        case rel =>
          by_cases hc1 : c = 1
          · exact ⟨o + 1, p, o, c - 1, by omega, by rw [if_pos hc1], by omega, by omega, h2 (), trivial⟩
          · exact ⟨o + 1, p, o + 1, c - 1, by omega, by rw [if_neg hc1], by omega, fun _ => rfl, h2 (), trivial⟩
        case measure => simp
      · have h2 : Unit → l.dropWhile (· == 0) = l.drop o := fun _ => by
          rw [← HD.out, HCD.out, List.dropWhile_cons_of_neg (by simpa using h0)]
        have hz1 : (((l[o]?.getD 0 : Nat) : Int) == 0) = false := by
          rw [beq_eq_false_iff_ne]; omega
        clear h0
        obtain ⟨x, hxx⟩ : ∃ x : Int, ((l[o]?.getD 0 : Nat) : Int) = x := ⟨_, rfl⟩
        rw [hxx] at hx hz1
        go_wp2_with fail
        go_ret
        refine ⟨_, rfl, .inr ⟨B, o, c, ?_, ?_⟩, rfl⟩
        · rw [h2 (), ints_length, List.length_drop, HL (), show n - o = p + 1 by omega]; rfl
        · intro j u hj
          rw [h2 (), List.getElem?_map] at hj
          have hjl : j < (ints (l.drop o)).length := by
            rcases Nat.lt_or_ge j (ints (l.drop o)).length with h | h
            · exact h
            · rw [List.getElem?_eq_none h] at hj; cases hj
          rw [ints_length, List.length_drop, HL ()] at hjl
          rw [HC.out (o + j) (by omega), ← hj]
          have e : (ints (l.drop o))[j]? = some ((l[o + j]?.getD 0 : Nat) : Int) := by
            simp only [ints, List.getElem?_map, List.getElem?_drop]
            rw [List.getElem?_eq_getElem (show o + j < l.length by rw [HL ()]; omega)]
            rfl
          rw [e]
          rfl

set_option maxHeartbeats 1600000 in
set_option maxRecDepth 1000000 in
theorem trimLeft_any (w : World) (B n cp : Nat) (l : List Nat) (hl : l.length = n) (hcp : n ≤ cp) (hc : ∀ j, j < n → w.cell? ⟨B, j, none⟩ = some (.int .u8 ((l[j]?.getD 0 : Nat) : Int))) (hn : (n : Int) ≤ 1000000000) :
    Calls Tryz.prog 94 #[.slice (some ⟨B, 0, none⟩) n cp, .string ⟨#[0]⟩] w fun e w' => ∃ s, e = .returned s ∧ Src w s (ints (l.dropWhile (· == 0))) ∧ w.grownBy w' none := by
  have HT := trimByte_any w B n cp l hl hcp hc hn
  have HTH : Hid (Calls Tryz.prog 108 #[.slice (some ⟨B, 0, none⟩) n cp, .int .u8 0] w fun e w' => ∃ s, e = .returned s ∧ Src w s (ints (l.dropWhile (· == 0))) ∧ w' = w) := HT
  clear HT hc
  rcases Nat.eq_zero_or_pos n with rfl | h0
  · obtain rfl : l = [] := List.length_eq_zero_iff.1 hl
    go_enter Tryz.func94, Tryz.ntmps94
    go_wp2_with fail
    go_ret
    exact ⟨_, rfl, .inl ⟨rfl, rfl⟩, World.grownBy.refl _ _⟩
  · have hz1 : ((n : Int) == 0) = false := by rw [beq_eq_false_iff_ne]; omega
    clear hl
    go_enter Tryz.func94, Tryz.ntmps94
    go_wp2_with fail
    refine HTH.out.mono ?_
    rintro e w' ⟨s, rfl, hs, rfl⟩
    have HS : Hid (Src w' s (ints (l.dropWhile (· == 0)))) := hs
    clear hs
    go_wp2_with fail
    go_ret
    exact ⟨s, rfl, HS.out, World.grownBy.refl _ _⟩

attribute [local go_sem] Oper.semAt_some
/-- The digits at the places gone through, as bytes. -/
def gone {k : Nat} (L : List Nat) (pre : List (Fin k)) : List Nat := bytesOf4 (pre.map fun x => L[x.1]?.getD 0)
/-- What magOf's cell holds behind some rounds: the bytes so far, with room behind them. -/
def mgI (w : World) (k : Nat) (L : List Nat) (g m cap : Nat) (pre : List (Fin k)) (W : World) : Prop :=
  W.heap[m]? = some (.cells #[.slice (some ⟨g, 0, none⟩) (4 * pre.length) cap] 58 (0, 0)) ∧
  W.ownsRow w.heap.size 5 1 (.slice (some ⟨g, 0, none⟩) (4 * pre.length) cap) (4 * pre.length) ((ints (gone L pre)).map encB) ∧ w.grownBy W none ∧ w.heap.size + 3 ≤ W.heap.size

theorem makeC (w : World) (n : Nat) (hn : n ≤ 1000000000) :
    (Instr.makeSlice 58 (.int .i64 0) (.int .i64 n)).run Tryz.prog w = .ok (.slice (some ⟨w.heap.size, 0, none⟩) 0 n) (w.alloc (.cells ((ints (List.replicate n 0)).map encB).toArray 5)) := by
  obtain ⟨i0, hi, hz0, hz1, hz2⟩ := info_parts Tryz.info1
  have h := run_make (P := Tryz.prog) w 58 5 i0 _ Tryz.underlying58 hi hz0 .i64 .i64 0 n (by omega) (by omega) (by rw [hz2]; omega) (by omega)
  rw [hz1, made_one _ _ rfl] at h
  simpa [ints] using h
theorem row_new (w : World) (n : Nat) (hn : n ≤ 1000000000) {W : World} {g : Nat} (hg : W.heap[g]? = some (.cells ((ints (List.replicate n 0)).map encB).toArray 5 (0, 0))) (hb : w.heap.size ≤ g) :
    W.ownsRow w.heap.size 5 1 (.slice (some ⟨g, 0, none⟩) 0 n) 0 [] :=
  ⟨by simp, .inr ⟨g, n, _, rfl, hb, hg, by omega, by unfold maxLen; omega, by simp [ints], by simp⟩⟩
theorem Src.kept {w w' : World} {s : Value} {L : List Int} (h : Src w s L) (hg : w.grownBy w' none) : Src w' s L := by
  rcases h with h | ⟨b, off, c, e, h⟩
  · exact .inl h
  · exact .inr ⟨b, off, c, e, fun j u hj => grownBy_cell hg (h j u hj) (by simp)⟩
theorem cell_lt {w : World} {b o : Nat} {v : Value} (h : w.cell? ⟨b, o, none⟩ = some v) : b < w.heap.size := by
  unfold World.cell? at h
  cases hb : w.heap[b]? with
  | none => simp [hb] at h
  | some o => exact (Array.getElem?_eq_some_iff.1 hb).1
theorem D4.blk {w : World} {b : Addr} {k cp : Nat} {L : List Nat} (h : D4 w (.slice (some b) k cp) L) (hk : 0 < k) (hL : L.length = k) : b.block < w.heap.size := by
  rcases h with ⟨e, _⟩ | ⟨B, off, c, e, _, h⟩
  · cases e
  · cases e
    exact cell_lt (h 0 (by omega))
theorem mgI_own (w : World) (k : Nat) (L : List Nat) (g m cap B : Nat) (hB : w.heap.size ≤ B) : OwnFrom B (mgI w k L g m cap) := by
  intro s W W' row ⟨h1, h2, h3, h4⟩ hg hr
  have hne : ∀ (i : Nat) (o : Obj), W.heap[i]? = some o → o.isCells = true → row ≠ some i := by
    intro i o ho hc e
    obtain ⟨_, o', ho', hc'⟩ := hr i e
    rw [ho] at ho'
    cases ho'
    rw [hc] at hc'
    exact absurd hc' (by simp)
  refine ⟨(hg.block m (Array.getElem?_eq_some_iff.1 h1).1 (fun e => hne m _ h1 rfl e.symm)).trans h1, World.ownsRow.kept h2 hg ?_, ⟨hg.os.trans h3.os, hg.tape.trans h3.tape, hg.output.trans h3.output, Nat.le_trans h3.size hg.size, fun i hi hn => ?_⟩, Nat.le_trans h4 hg.size⟩
  · rcases h2.2 with ⟨e, _⟩ | ⟨g', cap', cur, e, hb, hgg, _⟩
    · cases e
    · cases e
      right
      intro e
      exact hne _ _ hgg rfl e.symm
  · refine (hg.block i (Nat.lt_of_lt_of_le hi h3.size) (fun e => ?_)).trans (h3.block i hi hn)
    have := (hr i e.symm).1
    omega
theorem four_cells {W : World} {B : Nat} {t : TypeId} {a b c d : Int} (h : W.heap[B]? = some (.cells #[.int .u8 a, .int .u8 b, .int .u8 c, .int .u8 d] t (0, 0))) :
    ∀ j u, [Value.int .u8 a, .int .u8 b, .int .u8 c, .int .u8 d][j]? = some u → W.cell? ((⟨B, 0, none⟩ : Addr).add j) = some u := by
  intro j u hj
  rw [Addr.add_lit, Nat.zero_add]
  simp only [World.cell?, h]
  simpa using hj
theorem gone_snoc {k : Nat} (L : List Nat) (pre : List (Fin k)) (x : Fin k) : gone L (pre ++ [x]) = gone L pre ++ be4 (L[x.1]?.getD 0) := by
  simp [gone, bytesOf4]
theorem gone_length {k : Nat} (L : List Nat) (pre : List (Fin k)) : (gone L pre).length = 4 * pre.length := by
  rw [gone, bytesOf4_length, List.length_map]
theorem gone_all {k : Nat} {L : List Nat} {ys : List (Fin k)} (hL : L.length = k) (hd : Down k ys) (hy : ys.length = k) : gone L ys = bytesOf4 L.reverse := by
  unfold gone
  congr 1
  apply List.ext_getElem?
  intro t
  rcases Nat.lt_or_ge t k with h | h
  · have h1 := hd t (by omega)
    rw [List.getElem?_map, List.getElem?_eq_getElem (show t < ys.length by omega), List.getElem?_reverse (by omega)]
    have e : (ys[t]'(by omega)).1 = L.length - 1 - t := by omega
    simp only [Option.map_some, e]
    rw [List.getElem?_eq_getElem (show L.length - 1 - t < L.length by omega)]
    rfl
  · rw [List.getElem?_eq_none (by simp; omega), List.getElem?_eq_none (by simp; omega)]
/-- Behind a round: four bytes more. -/
theorem mg_end {w W W1 W2 : World} {k : Nat} {L : List Nat} {g m cap : Nat} {pre : List (Fin k)} {x : Fin k} {d : Nat} (hm : m ≠ g) (hwm : w.heap.size ≤ m) (hwg : w.heap.size ≤ g) (hI : mgI w k L g m cap pre W) (hd : L[x.1]?.getD 0 = d) (h1 : W.grownBy W1 none)
    (h2 : W2.ownsRow w.heap.size 5 1 (.slice (some ⟨g, 0, none⟩) (4 * pre.length + 4) cap) (4 * pre.length + 4) ((ints (gone L pre)).map encB ++ (ints (be4 d)).map encB)) (hg : W1.grownBy W2 (some g)) {K : Nat → Prop} (hK : ∀ i, K i → i < W.heap.size ∧ i ≠ g ∧ i ≠ m) :
    KeepsOthers W (W2.setCell ⟨m, 0, none⟩ (.slice (some ⟨g, 0, none⟩) (4 * pre.length + 4) cap)) ∧ KeepsIn K W (W2.setCell ⟨m, 0, none⟩ (.slice (some ⟨g, 0, none⟩) (4 * pre.length + 4) cap)) ∧
      mgI w k L g m cap (pre ++ [x]) (W2.setCell ⟨m, 0, none⟩ (.slice (some ⟨g, 0, none⟩) (4 * pre.length + 4) cap)) := by
  obtain ⟨i1, i2, i3, i4⟩ := hI
  have lm := (Array.getElem?_eq_some_iff.1 i1).1
  have m1 := (h1.block m lm (by simp)).trans i1
  have m2 := (hg.block m (Nat.lt_of_lt_of_le lm h1.size) (by intro e; injection e with e; exact hm e)).trans m1
  have kS := grownBy_setCell W2 m 0 (.slice (some ⟨g, 0, none⟩) (4 * pre.length + 4) cap)
  have gc : ∀ o, W1.heap[g]? = some o → o.isCells = true := by
    intro o ho
    rcases i2.2 with ⟨e, _⟩ | ⟨g', cap', cur, e, hb, hgg, _⟩
    · cases e
    · cases e
      have := (h1.block g (Array.getElem?_eq_some_iff.1 hgg).1 (by simp)).trans hgg
      rw [this] at ho; cases ho; rfl
  have KO : KeepsOthers W (W2.setCell ⟨m, 0, none⟩ (.slice (some ⟨g, 0, none⟩) (4 * pre.length + 4) cap)) :=
    ((KeepsOthers.of_grownBy h1 (fun j o e => by cases e)).trans (KeepsOthers.of_grownBy hg (fun j o e ho => by cases e; exact gc o ho))).trans (KeepsOthers.setCell _ _ _)
  have all : ∀ i, i < W.heap.size → i ≠ g → i ≠ m → (W2.setCell ⟨m, 0, none⟩ (.slice (some ⟨g, 0, none⟩) (4 * pre.length + 4) cap)).heap[i]? = W.heap[i]? := fun i hi hgi hmi =>
    ((kS.block i (Nat.lt_of_lt_of_le hi (Nat.le_trans h1.size hg.size)) (by intro e; injection e with e; exact hmi e)).trans (hg.block i (Nat.lt_of_lt_of_le hi h1.size) (by intro e; injection e with e; exact hgi e))).trans (h1.block i hi (by simp))
  refine ⟨KO, fun i hi => all i (hK i hi).1 (hK i hi).2.1 (hK i hi).2.2, ?_, ?_, ⟨((kS.os.trans hg.os).trans h1.os).trans i3.os, ((kS.tape.trans hg.tape).trans h1.tape).trans i3.tape, ((kS.output.trans hg.output).trans h1.output).trans i3.output, Nat.le_trans i3.size (Nat.le_trans h1.size (Nat.le_trans hg.size kS.size)), fun i hi _ =>
    (all i (Nat.lt_of_lt_of_le hi i3.size) (by omega) (by omega)).trans (i3.block i hi (by simp))⟩, Nat.le_trans i4 (Nat.le_trans h1.size (Nat.le_trans hg.size kS.size))⟩
  · rw [List.length_append, List.length_singleton, Nat.mul_add, Nat.mul_one]
    simp [World.setCell, Array.getElem?_modify, m2]
  · rw [List.length_append, List.length_singleton, Nat.mul_add, Nat.mul_one, gone_snoc, hd]
    have e : (ints (gone L pre ++ be4 d)).map encB = (ints (gone L pre)).map encB ++ (ints (be4 d)).map encB := by simp [ints]
    rw [e]
    exact World.ownsRow.kept h2 kS (.inr (by intro e; injection e with e; exact hm e.symm))
set_option maxRecDepth 100000 in
set_option maxHeartbeats 4000000 in
theorem magOf_any (w : World) (ab : Option Addr) (k cp : Nat) (L : List Nat) (hL : L.length = k) (hd : D4 w (.slice ab k cp) L) (hr : ∀ x ∈ L, x < B32) (hk9 : (k : Int) ≤ 100000000) :
    Calls Tryz.prog 70 #[.slice ab k cp] w fun e w' => ∃ s, e = .returned (.string s) ∧ bN s = magN (nv B32 L) ∧ w.grownBy w' none := by
  have hmk := makeC w (4 * k) (by omega)
  rw [show ((4 * k : Nat) : Int) = 4 * (k : Int) by omega] at hmk
  refine (callsIn_wide (n := 5)).1 ?_
  refine callsIn_of_wp_marks Tryz.func70 rfl trivial ?_ rfl
  simp only [Tryz.ntmps70, List.size_toArray, List.length_cons, List.length_nil, Nat.reduceAdd, Nat.reduceSub, Array.replicate_succ, Array.replicate_zero, List.push_toArray, List.append_toArray, List.nil_append, List.cons_append]
  gi_wp2
  clear hmk
  refine ⟨trivial, ?_⟩
  refine (callsIn_wide.2 (backward_all _ _ _ _)).mono ?_
  rintro e w' ⟨rfl, rfl⟩
  gi_wp2
  have hS := heap_alloc_new ((w.alloc (Obj.cells (List.map encB (ints (List.replicate (4 * k) 0))).toArray 5)).alloc (Obj.cells #[Value.slice (some ⟨w.heap.size, 0, none⟩) 0 (4 * k)] 58)) (Obj.cells #[Value.slice ab k cp] 52)
  have hG0 := grow3 w (Obj.cells (List.map encB (ints (List.replicate (4 * k) 0))).toArray 5) (Obj.cells #[Value.slice (some ⟨w.heap.size, 0, none⟩) 0 (4 * k)] 58) (Obj.cells #[Value.slice ab k cp] 52)
  have hM := at_alloc2 w (Obj.cells (List.map encB (ints (List.replicate (4 * k) 0))).toArray 5) (Obj.cells #[Value.slice (some ⟨w.heap.size, 0, none⟩) 0 (4 * k)] 58) (Obj.cells #[Value.slice ab k cp] 52)
  have hA : (((w.alloc (Obj.cells (List.map encB (ints (List.replicate (4 * k) 0))).toArray 5)).alloc (Obj.cells #[Value.slice (some ⟨w.heap.size, 0, none⟩) 0 (4 * k)] 58)).alloc (Obj.cells #[Value.slice ab k cp] 52)).heap[w.heap.size]? = some (Obj.cells (List.map encB (ints (List.replicate (4 * k) 0))).toArray 5) := old_alloc _ _ (at_alloc1 _ _ _)
  have hsz : (((w.alloc (Obj.cells (List.map encB (ints (List.replicate (4 * k) 0))).toArray 5)).alloc (Obj.cells #[Value.slice (some ⟨w.heap.size, 0, none⟩) 0 (4 * k)] 58)).alloc (Obj.cells #[Value.slice ab k cp] 52)).heap.size = w.heap.size + 3 := by simp
  simp only [World.size_alloc] at hS
  generalize (((w.alloc (Obj.cells (List.map encB (ints (List.replicate (4 * k) 0))).toArray 5)).alloc (Obj.cells #[Value.slice (some ⟨w.heap.size, 0, none⟩) 0 (4 * k)] 58)).alloc (Obj.cells #[Value.slice ab k cp] 52)) = V at *
  have hKw : ∀ i, (i < w.heap.size ∨ i = w.heap.size + 1 + 1) → i < V.heap.size := by intro i hi; omega
  refine wpIn_rangeFunc_ownF rfl (by omega) (gf := 87) (lb := #[.pointer (some ⟨w.heap.size + 1 + 1, 0, none⟩)]) rfl trivial (enters_of Tryz.func87 (by kernel_rfl) rfl)
    (back_stops Fence.wide (5 - 1) trivial rfl (by omega) (w.heap.size + 1 + 1) (fun i => i < w.heap.size ∨ i = w.heap.size + 1 + 1) L k cp ab (by omega) V hL (.inr rfl) (fun h0 b e => .inl (by subst e; exact hd.blk h0 hL)) hKw (by simp [World.cell?, hS]) (hd.kept hG0))
    (fun h k => KeepsIn.trans h k) (KeepsIn.put hKw) (Below.refl _ _) (fun _ => rfl)
    (mgI w k L w.heap.size (w.heap.size + 1) (4 * k)) (fun _ _ _ => False) (mgI_own w k L _ _ _ _ (by omega)) (fun _ _ _ _ _ h _ _ => h)
    ⟨hM, row_new w (4 * k) (by omega) hA (Nat.le_refl _), hG0, by omega⟩
    (fun x => { tmps := #[.slice ab k cp, undef, .string ⟨#[]⟩, .pointer (some ⟨w.heap.size + 1, 0, none⟩), undef, .int .u32 ((L[x.1]?.getD 0 : Nat) : Int), .slice ab k cp, .int .i64 k, .int .i64 (4 * k), .slice (some ⟨w.heap.size, 0, none⟩) 0 (4 * k), .slice ab k cp, .func (.func 87) #[] #[.pointer (some ⟨w.heap.size + 1 + 1, 0, none⟩)], .int .i64 (x.1 : Int), .int .u32 ((L[x.1]?.getD 0 : Nat) : Int), undef, undef, undef, undef, undef, undef, undef, undef, undef, undef, undef, undef, undef, undef, undef, undef, undef], defers := [] }) ?assign ?body ?done ?stop
  case assign =>
    intro l x W K hK
    simp only [encD]
    generalize L[x.1]?.getD 0 = d at hK ⊢
    gi_wp2
    exact hK
  case stop =>
    rintro D c pre W _ _ h _
    exact h.elim
  case body =>
    rintro l pre x W hI hlen
    have HI : Hid (mgI w k L w.heap.size (w.heap.size + 1) (4 * k) pre W) := hI
    obtain ⟨i1, i2, i3, i4⟩ := hI
    have c1 : W.cell? ⟨w.heap.size + 1, 0, none⟩ = some (.slice (some ⟨w.heap.size, 0, none⟩) (4 * pre.length) (4 * k)) := by simp [World.cell?, i1]
    obtain ⟨d, hdd⟩ : ∃ d, L[x.1]?.getD 0 = d := ⟨_, rfl⟩
    have HD : Unit → L[x.1]?.getD 0 = d := fun _ => hdd
    have rD : d < 4294967296 := by rw [← hdd]; exact d4_rng hr x.1
    rw [hdd]
    have HM2 : Hid (∀ o W2, (W.alloc o).grownBy W2 (some w.heap.size) → W2.cell? ⟨w.heap.size + 1, 0, none⟩ = some (.slice (some ⟨w.heap.size, 0, none⟩) (4 * pre.length) (4 * k)) ∧ W2.frozen? ⟨w.heap.size + 1, 0, none⟩ = false) := (by
      intro o W2 hg
      have h2 := (hg.block (w.heap.size + 1) (by simp; have := (Array.getElem?_eq_some_iff.1 i1).1; omega) (by intro e; injection e with e; omega)).trans (old_alloc _ o i1)
      exact ⟨by simp [World.cell?, h2], by simp [World.frozen?, h2]⟩)
    clear hdd i1 i3
    obtain ⟨i0, hi, hz0, hz1, hz2⟩ := info_parts Tryz.info1
    have i2' : ∀ o, (W.alloc o).ownsRow w.heap.size 5 1 (.slice (some ⟨w.heap.size, 0, none⟩) (4 * pre.length) (4 * k)) (4 * pre.length) ((ints (gone L pre)).map encB) := fun o => World.ownsRow.kept i2 (World.grownBy_alloc _ o none) (.inr (by simp [Value.ownBlock]))
    have HO : Hid (∀ o, (W.alloc o).ownsRow w.heap.size 5 1 (.slice (some ⟨w.heap.size, 0, none⟩) (4 * pre.length) (4 * k)) (4 * pre.length) ((ints (gone L pre)).map encB)) := i2'
    clear i2 i2'
    gi_wp2_with (gi_at_builtin; refine wpListIn_append_fits _ rfl _ _ 58 rfl w.heap.size 5 i0 1 Tryz.underlying58 hi hz1 w.heap.size (4 * pre.length) (4 * k) _ rfl (HO.out _) ⟨W.heap.size, 0, none⟩ 4 4 _ rfl rfl (four_cells (heap_alloc_new _ _)) (by intro u hu; simp at hu; rcases hu with rfl | rfl | rfl | rfl <;> rfl) (by omega) ?_; intro W2 hO2 hG2; obtain ⟨hcm, hfm⟩ := HM2.out _ W2 hG2; have HO2 : Hid _ := hO2; clear hO2)
    have e4 : [Value.int .u8 ((d : Int) / 16777216), .int .u8 ((d : Int) / 65536 % 256), .int .u8 ((d : Int) / 256 % 256), .int .u8 ((d : Int) % 256)] = (ints (be4 d)).map encB := by
      simp only [be4, ints, List.map_cons, List.map_nil, encB]
      rw [show (d : Int) / 16777216 = ((d / 16777216 % 256 : Nat) : Int) by omega, show (d : Int) / 65536 % 256 = ((d / 65536 % 256 : Nat) : Int) by omega, show (d : Int) / 256 % 256 = ((d / 256 % 256 : Nat) : Int) by omega, show (d : Int) % 256 = ((d % 256 : Nat) : Int) by omega]
    have hO2 := HO2.out
    rw [e4] at hO2
    refine mg_end (by omega) (by omega) (Nat.le_refl _) HI.out (HD ()) (grow1 _ _) hO2 hG2 ?_
    intro i hi
    have := HI.out.2.2.2
    omega
  case done =>
    rintro D ys W hD' ⟨hdn, hyl⟩ ⟨h1, h2, h3, h4⟩ hK
    rw [hyl] at h1 h2
    rw [gone_all hL hdn hyl] at h2
    have c1 : W.cell? ⟨w.heap.size + 1, 0, none⟩ = some (.slice (some ⟨w.heap.size, 0, none⟩) (4 * k) (4 * k)) := by simp [World.cell?, h1]
    have hcs : ∀ j, j < 4 * k → W.cell? ⟨w.heap.size, j, none⟩ = some (.int .u8 (((bytesOf4 L.reverse)[j]?.getD 0 : Nat) : Int)) := by
      intro j hj
      have hl : j < (bytesOf4 L.reverse).length := by rw [bytesOf4_length, List.length_reverse]; omega
      have := World.ownsRow.cells h2 (g := w.heap.size) rfl j (.int .u8 (((bytesOf4 L.reverse)[j]?.getD 0 : Nat) : Int)) (by simp [ints, hl, encB])
      rw [Addr.add_lit, Nat.zero_add] at this
      exact this
    have HT := trimLeft_any W w.heap.size (4 * k) (4 * k) (bytesOf4 L.reverse) (by rw [bytesOf4_length, List.length_reverse]; omega) (Nat.le_refl _) hcs (by omega)
    clear hcs h1 h2
    gi_wp2
    refine ⟨trivial, ?_⟩
    refine (callsIn_wide.2 HT).mono ?_
    rintro e W' ⟨s, rfl, hs, hg⟩
    have hcv := conv_src (hs.kept hg)
    have hK' : W'.heap[D]? = some (Obj.deferred (some [])) := (hg.block D (Array.getElem?_eq_some_iff.1 hK).1 (by simp)).trans hK
    have HG : Hid (w.grownBy W' none) := grownBy_trans h3 hg
    clear hs hg h3 hK
    gi_wp2
    refine ⟨by simp, .inl ⟨_, _, rfl, run_takeDeferred hK', ?_⟩⟩
    have kD := grownBy_putObj' W' D (.deferred none)
    have h5 := HG.out
    refine ⟨_, results_tmp rfl _ _ _, _, rfl, ?_, ?_⟩
    · rw [bN_strOf _ (fun y hy => bytesOf4_rng L.reverse y (List.dropWhile_sublist _ |>.subset hy)), magN_drop0 _ (bytesOf4_rng _), val_bytesOf4 L hr]
    · exact ⟨kD.os.trans h5.os, kD.tape.trans h5.tape, kD.output.trans h5.output, Nat.le_trans h5.size kD.size, fun i hi hn => (kD.block i (Nat.lt_of_lt_of_le hi h5.size) (by intro e; injection e with e; omega)).trans (h5.block i hi hn)⟩
end Go.Proofs.YtmgbkcfocbbofabGreatDoor
