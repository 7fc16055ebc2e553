/-
  What wire.Signed and wire.Whole answer.
-/
import Derived.Test.YtanbnefdodkniaaTxt
import Derived.Lib.Zigzag
import Derived.Lib.AppendStr
import Derived.Deep.RegionHeld3
namespace Go.Proofs.Ytanbnefdodkniaa
open Go.RowKit Go.Lib Go.Sort

/-- A new form: a slice of the call's own that bears these bytes; nothing old has turned. -/
def Forms (w w' : World) (v : Value) (L : List Int) : Prop := w'.ownsRow w.heap.size 5 1 v L.length (L.map encB) ∧ w.grownBy w' none

theorem num_forms (n : Nat) (hn : n < 18446744073709551616) (w : World) :
    Calls Try.prog 10 #[.int .u64 n] w fun e w' => ∃ v, e = .returned v ∧ Forms w w' v (numF n) := by
  refine (number_any n hn w).mono ?_
  rintro e w' ⟨v, rfl, _, h1, h2⟩
  exact ⟨v, rfl, h1, grownBy_of_below h2⟩

def fold (x : Int) : Nat := if 0 ≤ x then (2 * x).toNat else (-2 * x - 1).toNat

set_option maxHeartbeats 1600000 in
set_option maxRecDepth 1000000 in
theorem signed_any (x : Int) (h0 : -9223372036854775808 ≤ x) (h1 : x ≤ 9223372036854775807) (w : World) :
    Calls Try.prog 12 #[.int .i64 x] w fun e w' => ∃ v, e = .returned v ∧ Forms w w' v (numF (fold x)) := by
  have hlt : fold x < 18446744073709551616 := by unfold fold; split <;> omega
  by_cases hx : 0 ≤ x
  · have hz : fold x = (2 * x).toNat := by unfold fold; rw [if_pos hx]
    obtain ⟨n, rfl⟩ := Int.eq_ofNat_of_zero_le hx
    have h2 : (n : Int) * 2 = ((fold n : Nat) : Int) := by rw [hz]; omega
    have H2 : Hid ((n : Int) * 2 = ((fold n : Nat) : Int)) := h2
    clear h2 hz
    go_enter Try.func12, Try.ntmps12
    go_wp2_with (go_at_call 10; rw [H2.out]; refine (num_forms _ hlt _).mono ?_; rintro e w1 ⟨v, rfl, hF⟩)
    go_ret
    exact ⟨v, rfl, hF⟩
  · have hz := zigzag_neg h0 (by omega)
    have hz2 : zigzag x = fold x := by unfold zigzag fold; rw [if_neg hx]
    rw [hz2] at hz
    have hneg : x < 0 := by omega
    have HZ : Hid (bits .xor .u64 IntKind.u64.max (IntKind.u64.wrap (IntKind.u64.wrap x * 2)) = ((fold x : Nat) : Int)) := hz
    clear hz hz2
    go_enter Try.func12, Try.ntmps12
    go_wp2_with (go_at_call 10; rw [HZ.out]; refine (num_forms _ hlt _).mono ?_; rintro e w1 ⟨v, rfl, hF⟩)
    go_ret
    exact ⟨v, rfl, hF⟩

/-- A string's bytes as numbers. -/
def sB (s : ByteArray) : List Int := s.data.toList.map fun b => (b.toNat : Int)
theorem sB_cells (s : ByteArray) : (sB s).map encB = strCells s := by simp [sB, strCells, encB]
theorem sB_length (s : ByteArray) : (sB s).length = s.size := by unfold sB; rw [List.length_map, Array.length_toList]; rfl
theorem sB_rng (s : ByteArray) : ∀ x ∈ sB s, 0 ≤ x ∧ x ≤ 255 := by
  intro x hx
  simp only [sB, List.mem_map] at hx
  obtain ⟨b, _, rfl⟩ := hx
  have := b.toNat_lt
  omega
theorem empty_of_size {s : ByteArray} (h : s.size = 0) : s = ByteArray.empty := by
  apply ByteArray.ext
  apply Array.eq_empty_of_size_eq_zero
  exact h
theorem isEmpty_of {s : ByteArray} (h : ¬ s.size = 0) : s.toList.isEmpty = false := by
  rw [ByteArray.toList_eq, List.isEmpty_eq_false_iff]
  intro e
  apply h
  have : s.data.toList.length = 0 := by rw [e]; rfl
  rw [Array.length_toList] at this
  exact this

def plainW (neg : Bool) (mag : ByteArray) : Bool := if mag.size = 0 then !neg else decide (mag.size ≤ 16384) && (sB mag).head?.getD 0 != 0
theorem sB_head (s : ByteArray) (h : 0 < s.size) : (sB s).head?.getD 0 = (s[0].toNat : Int) := by
  have h1 : 0 < s.data.toList.length := by rw [Array.length_toList]; exact h
  have e : s[0] = s.data.toList[0] := rfl
  rw [e]
  unfold sB
  rw [List.head?_map, List.head?_eq_getElem?, List.getElem?_eq_getElem h1]
  rfl

abbrev whole (neg : Bool) (mag : ByteArray) : Value := .agg #[.bool neg, .string mag]
theorem ret_bool {a b : Bool} (h : a = b) : Ending.returned (.bool a) = .returned (.bool b) := by rw [h]

set_option maxHeartbeats 1600000 in
set_option maxRecDepth 1000000 in
theorem plainWhole_any (neg : Bool) (mag : ByteArray) (hm : mag.size ≤ maxLen) (w : World) :
    Calls Try.prog 59 #[whole neg mag] w fun e w' => e = .returned (.bool (plainW neg mag)) ∧ w.grownBy w' none := by
  unfold maxLen at hm
  by_cases h0 : mag.size = 0
  · obtain rfl := empty_of_size h0
    go_enter Try.func59, Try.ntmps59
    go_wp2
    go_ret
    exact ⟨rfl, World.grownBy_alloc _ _ _⟩
  · have he := isEmpty_of h0
    have hp : 0 < mag.size := by omega
    by_cases h1 : mag.size ≤ 16384
    · go_enter Try.func59, Try.ntmps59
      go_wp2
      go_ret
      refine ⟨ret_bool ?_, World.grownBy_alloc _ _ _⟩
      unfold plainW
      rw [if_neg h0, sB_head mag hp]
      simp [h1]
    · go_enter Try.func59, Try.ntmps59
      go_wp2
      go_ret
      refine ⟨ret_bool ?_, World.grownBy_alloc _ _ _⟩
      unfold plainW
      rw [if_neg h0]
      simp [h1]

/-- append of a string's bytes, as one step of a region that draws its order. -/
theorem step_append_str {P : Program} {ops : Array Oper} {o : Oper} {a : Act} {w : World} {K : Act → World → Prop} {Q : Exit → Act → World → Prop} {E : Prop}
    (hg : o.guard = none) (s x : Operand) (t u : TypeId) (hop : o.op = Op.call { callee := Callee.builtin Builtin.append, args := #[s, x], argTypes := #[t, u] })
    (base : Nat) (e : TypeId) (i : TypeInfo) (ht : P.underlying t = some (.slice e)) (hu : P.underlying u = some .string) (hi : P.info? e = some i) (hz : i.zero = some (.int .u8 0))
    (hsize : i.size = 1) (hby : i.bytes = 1)
    (v : Value) (n : Nat) (xs : List Value) (hs : a.eval s = v) (hown : w.ownsRow base e 1 v n xs) (str : ByteArray) (hx : a.eval x = .string str)
    (h63 : n + str.size ≤ maxLen) (hbytes : n + str.size ≤ 140737488355328) (hbase : base ≤ w.heap.size)
    (hK : ∀ v' w', w'.ownsRow base e 1 v' (n + str.size) (xs ++ strCells str) → w.grownBy w' v.ownBlock → K (a.put o.dst v') w') :
    if Region.wanted o (yielded ops a.tmps) = true then Oper.wp P o a w K Q else E := by
  have hw : Region.wanted o (yielded ops a.tmps) = true := by simp [Region.wanted, hg]
  rw [if_pos hw]
  obtain ⟨v', w', hr, h2, h3, _⟩ := run_append_own_string (P := P) w base t u o.type e i ht hu hi hz hsize hby v n xs hown str h63 hbytes hbase
  unfold Oper.wp
  simp [execOp, hop, resolve, invoke, builtin, hs, hx, hr, Result.andThen]
  exact hK v' w' h2 h3

theorem forms_str {w w1 w2 : World} {v v' : Value} {L : List Int} {s : ByteArray} (h : Forms w w1 v L) (ho : w2.ownsRow w.heap.size 5 1 v' (L.length + s.size) (L.map encB ++ strCells s)) (hg : w1.grownBy w2 v.ownBlock) :
    Forms w w2 v' (L ++ sB s) := by
  refine ⟨?_, ?_⟩
  · rw [List.length_append, List.map_append, sB_length, sB_cells]; exact ho
  · exact grownBy_of_below ((below_of_grownBy h.2).grown hg h.2.size (fun k hk => (h.1.lt k hk).1))

theorem Forms.cell {w w1 : World} {v : Value} {L : List Int} (h : Forms w w1 v L) {a : Addr} (ha : a.block < w.heap.size) : w1.cell? a = w.cell? a := World.cell?_of_block (h.2.block _ ha (by simp))
theorem Forms.cell2 {w w1 w2 : World} {v : Value} {L : List Int} (h : Forms w w1 v L) (hg : w1.grownBy w2 v.ownBlock) {a : Addr} (ha : a.block < w.heap.size) : w2.cell? a = w1.cell? a :=
  World.cell?_of_block (hg.block _ (Nat.lt_of_lt_of_le ha h.2.size) (fun e => by have := (h.1.lt _ e.symm).1; omega))

theorem ownsRow_base {w : World} {base base' : Nat} {v : Value} {n : Nat} {xs : List Value} (h : w.ownsRow base 5 1 v n xs) (hb : base' ≤ base) : w.ownsRow base' 5 1 v n xs := by
  refine ⟨h.1, ?_⟩
  rcases h.2 with hn | ⟨g, cap, cur, a, b, c⟩
  · exact .inl hn
  · exact .inr ⟨g, cap, cur, a, Nat.le_trans hb b, c⟩
theorem Forms.lift {w w1 w3 : World} {v : Value} {L : List Int} (h : Forms w1 w3 v L) (hg : w.grownBy w1 none) : Forms w w3 v L := ⟨ownsRow_base h.1 hg.size, grownBy_trans hg h.2⟩
theorem grownBy_drew {a b : World} {row : Option Nat} (h : a.grownBy b row) : a.grownBy b.drew row := ⟨h.os, h.tape, h.output, h.size, fun i hi hn => h.block i hi hn⟩

/-- The form of a whole number. -/
def wholeF (neg : Bool) (mag : ByteArray) : List Int := numF (2 * mag.size + if neg then 1 else 0) ++ sB mag

set_option maxHeartbeats 1600000 in
set_option maxRecDepth 1000000 in
theorem Whole_no (neg : Bool) (mag : ByteArray) (hm : mag.size ≤ maxLen) (hp : plainW neg mag = false) (w : World) :
    Calls Try.prog 20 #[whole neg mag] w fun e w' => e = .returned (.tuple #[.slice none 0 0, .int .i64 2]) ∧ w.grownBy w' none := by
  have H := fun w1 => plainWhole_any neg mag hm w1
  rw [hp] at H
  have HH : Hid (∀ w1, Calls Try.prog 59 #[whole neg mag] w1 fun e w' => e = .returned (.bool false) ∧ w1.grownBy w' none) := H
  clear H hp
  go_enter Try.func20, Try.ntmps20
  go_wp2_with (go_at_call 59; refine (HH.out _).mono ?_; rintro e w1 ⟨rfl, hg⟩)
  go_ret2
  exact ⟨rfl, grownBy_trans (World.grownBy_alloc _ _ _) hg⟩

theorem plainW_size {neg : Bool} {mag : ByteArray} (h : plainW neg mag = true) : mag.size ≤ 16384 := by
  unfold plainW at h
  split at h
  · omega
  · simp at h; exact h.1

set_option maxHeartbeats 1600000 in
set_option maxRecDepth 1000000 in
theorem Whole_yes (neg : Bool) (mag : ByteArray) (hp : plainW neg mag = true) (w : World) :
    Calls Try.prog 20 #[whole neg mag] w fun e w' => ∃ v, e = .returned (.tuple #[v, .int .i64 0]) ∧ Forms w w' v (wholeF neg mag) := by
  have hsz := plainW_size hp
  obtain ⟨i0, hi, hz0, hz1, hz2⟩ := info_parts Try.info5
  have H := fun w1 => plainWhole_any neg mag (by unfold maxLen; omega) w1
  rw [hp] at H
  have HH : Hid (∀ w1, Calls Try.prog 59 #[whole neg mag] w1 fun e w' => e = .returned (.bool true) ∧ w1.grownBy w' none) := H
  clear H hp
  cases neg
  · go_enter Try.func20, Try.ntmps20
    go_wp2_with (go_at_call 59; refine (HH.out _).mono ?_; rintro e w1 ⟨rfl, hg⟩; have hlt : w.heap.size < w1.heap.size := (by have := hg.size; simp at this; omega); have hb0 := hg.block w.heap.size (by simp) (by simp); have hc0 := (World.cell?_of_block (a := ⟨w.heap.size, 0, none⟩) hb0).trans (by simp : _ = some (Value.bool false)); have hc1 := (World.cell?_of_block (a := ⟨w.heap.size, 1, none⟩) hb0).trans (by simp : _ = some (Value.string mag)))
    go_region_held3 (fun w' => w'.cell? ⟨w.heap.size, 1, none⟩ = some (Value.string mag)) (first | go_keep | (rw [hF.cell2 hg3 (by simpa using hlt)]; assumption) | (rw [hF.cell (by simpa using hlt)]; assumption)) (first | (go_at_call 10; rw [show (2 : Int) * (mag.size : Int) = ((2 * mag.size + 0 : Nat) : Int) by omega]; refine (num_forms _ (by omega) _).mono ?_; rintro e w2 ⟨v, rfl, hF⟩) | (refine step_append_str rfl (.tmp 18) (.tmp 20) 33 9 (by rfl) w1.heap.size 5 i0 Try.underlying33 Try.underlying9 hi hz0 hz1 hz2 v (numF (2 * mag.size + 0)).length _ (by rfl) hF.1 mag (by rfl) (by have := numF_len (2 * mag.size + 0); unfold maxLen; omega) (by have := numF_len (2 * mag.size + 0); omega) (by have := hF.2.size; simpa using this) ?_; intro v' w3 ho hg3))
    go_wp2
    go_ret2
    exact ⟨v', rfl, (forms_str hF ho hg3).lift (grownBy_drew (grownBy_trans (World.grownBy_alloc _ _ _) hg))⟩
  · go_enter Try.func20, Try.ntmps20
    go_wp2_with (go_at_call 59; refine (HH.out _).mono ?_; rintro e w1 ⟨rfl, hg⟩; have hlt : w.heap.size < w1.heap.size := (by have := hg.size; simp at this; omega); have hb0 := hg.block w.heap.size (by simp) (by simp); have hc0 := (World.cell?_of_block (a := ⟨w.heap.size, 0, none⟩) hb0).trans (by simp : _ = some (Value.bool true)); have hc1 := (World.cell?_of_block (a := ⟨w.heap.size, 1, none⟩) hb0).trans (by simp : _ = some (Value.string mag)))
    go_region_held3 (fun w' => w'.cell? ⟨w.heap.size, 1, none⟩ = some (Value.string mag)) (first | go_keep | (rw [hF.cell2 hg3 (by simpa using hlt)]; assumption) | (rw [hF.cell (by simpa using hlt)]; assumption)) (first | (go_at_call 10; rw [show (2 : Int) * (mag.size : Int) + 1 = ((2 * mag.size + 1 : Nat) : Int) by omega]; refine (num_forms _ (by omega) _).mono ?_; rintro e w2 ⟨v, rfl, hF⟩) | (refine step_append_str rfl (.tmp 18) (.tmp 20) 33 9 (by rfl) w1.heap.size 5 i0 Try.underlying33 Try.underlying9 hi hz0 hz1 hz2 v (numF (2 * mag.size + 1)).length _ (by rfl) hF.1 mag (by rfl) (by have := numF_len (2 * mag.size + 1); unfold maxLen; omega) (by have := numF_len (2 * mag.size + 1); omega) (by have := hF.2.size; simpa using this) ?_; intro v' w3 ho hg3))
    go_wp2
    go_ret2
    exact ⟨v', rfl, (forms_str hF ho hg3).lift (grownBy_drew (grownBy_trans (World.grownBy_alloc _ _ _) hg))⟩
end Go.Proofs.Ytanbnefdodkniaa
