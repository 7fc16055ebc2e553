/-
  Floats written: the eight bytes of their bits.
-/
import Derived.Test.YtanbnefdodkniaaLst
import Derived.Laws.Cover2
import Derived.Laws.Cover3
import Derived.Laws.ShiftsVarLaws
namespace Go.Proofs.Ytanbnefdodkniaa
open Go.RowKit Go.Lib Go.Sort

theorem ext56 (x : Nat) (w : World) : (callFunc 56 #[.float .f64 x]).run Try.prog w = .ok (.value (.int .u64 x)) w := by
  rw [run_callFunc_extern Try.func56 (by kernel_rfl) (by kernel_rfl) (by kernel_rfl) (e := Extern.MathFloatBits.float64bits) (by kernel_rfl)]
  rfl
theorem ext9 (n : Int) (w : World) : (callFunc 9 #[.int .u64 n]).run Try.prog w = .ok (.value (.float .f64 n.toNat)) w := by
  rw [run_callFunc_extern Try.func9 (by kernel_rfl) (by kernel_rfl) (by kernel_rfl) (e := Extern.MathFloatBits.float64frombits) (by kernel_rfl)]
  rfl

attribute [local go_sem] ext56 ext9

/-- Is it a NaN? -/
def nanB (x : Nat) : Bool := FloatKind.f64.format.order x x != some Ordering.eq

set_option maxHeartbeats 1600000 in
set_option maxRecDepth 1000000 in
theorem isNaN_any (x : Nat) (w : World) : Calls Try.prog 57 #[.float .f64 x] w fun e w' => e = .returned (.bool (nanB x)) ∧ w' = w := by
  go_enter Try.func57, Try.ntmps57
  go_wp2
  go_ret
  exact ⟨rfl, rfl⟩

/-- The bits that are written. -/
def bitsF (x : Nat) : Nat := if nanB x then 9221120237041090560 else x

theorem made_zero (n : Nat) : (madeCells #[Value.int .u8 0] n).toList = (List.replicate n (0 : Int)).map encB := by
  apply List.ext_getElem
  · simp [madeCells]
  · intro i h1 h2
    simp [madeCells, Nat.mod_one, encB]

/-- A byte of a row of the call's own is written. -/
theorem own_set {w : World} {base g n cap : Nat} {L : List Int} (h : w.ownsRow base 5 1 (.slice (some ⟨g, 0, none⟩) n cap) n (L.map encB)) (k : Nat) (x : Int) :
    (w.setCell ⟨g, k, none⟩ (.int .u8 x)).ownsRow base 5 1 (.slice (some ⟨g, 0, none⟩) n cap) n ((L.set k x).map encB) := by
  refine ⟨by simpa using h.1, ?_⟩
  rcases h.2 with ⟨e, _⟩ | ⟨g', cap', cur, e, hb, hg, hn, hm, hs, ht⟩
  · cases e
  · injection e with e1 _ e3
    injection e1 with e1
    injection e1 with e1
    subst e1; subst e3
    refine .inr ⟨g, cap, cur.set! k (.int .u8 x), rfl, hb, ?_, hn, hm, by simpa using hs, ?_⟩
    · simp [World.setCell, Array.getElem?_modify, hg]
    · rw [List.map_set, ← ht]
      simp only [Array.set!_eq_setIfInBounds, Array.toList_setIfInBounds]
      rw [List.take_set]
theorem own_at {w : World} {base g n cap : Nat} {L : List Int} (h : w.ownsRow base 5 1 (.slice (some ⟨g, 0, none⟩) n cap) n (L.map encB)) (k : Nat) (hk : k < n) :
    w.cell? ⟨g, k, none⟩ = some (.int .u8 (L[k]?.getD 0)) ∧ w.frozen? ⟨g, k, none⟩ = false := by
  have hl : L.length = n := by simpa using h.1
  have h1 := h.cells (g := g) rfl k (.int .u8 (L[k]?.getD 0)) (by rw [List.getElem?_map, List.getElem?_eq_getElem (by omega)]; rfl)
  rw [Addr.add_lit, Nat.zero_add] at h1
  refine ⟨h1, ?_⟩
  rcases h.2 with ⟨e, _⟩ | ⟨g', cap', cur, e, hb, hg, _⟩
  · cases e
  · injection e with e1 _ e3
    injection e1 with e1
    injection e1 with e1
    subst e1
    simp [World.frozen?, hg]

/-- The bytes of some bits, the highest first. -/
def fb (x j : Nat) : Int := ((x / 2 ^ (56 - 8 * j) % 256 : Nat) : Int)
def fB (x : Nat) : List Int := (List.range 8).map (fb x)
def fK (x k : Nat) : List Int := (List.range 8).map fun j => if j < k then fb x j else 0
theorem fK_zero (x : Nat) : fK x 0 = List.replicate 8 0 := rfl
theorem fK_all (x : Nat) : fK x 8 = fB x := by
  unfold fK fB
  apply List.map_congr_left
  intro j hj
  rw [if_pos (List.mem_range.1 hj)]
theorem fK_set (x k : Nat) (hk : k < 8) : (fK x k).set k (fb x k) = fK x (k + 1) := by
  apply List.ext_getElem
  · simp [fK]
  · intro i h1 h2
    rw [List.getElem_set]
    simp only [fK, List.getElem_map, List.getElem_range]
    split
    · subst_vars; simp
    · rename_i hne
      by_cases hi : i < k
      · simp [hi, show i < k + 1 by omega]
      · simp [hi, show ¬ i < k + 1 by omega]

theorem fb_int (x j : Nat) : fb x j = (x : Int) / 2 ^ (56 - 8 * j) % 256 := by
  unfold fb
  simp
theorem fB_len (x : Nat) : (fB x).length = 8 := by simp [fB]
theorem fB_rng (x : Nat) : ∀ y ∈ fB x, 0 ≤ y ∧ y ≤ 255 := by
  intro y hy
  simp only [fB, List.mem_map] at hy
  obtain ⟨j, _, rfl⟩ := hy
  unfold fb
  omega

set_option maxHeartbeats 1600000 in
set_option maxRecDepth 1000000 in
theorem float_any (x : Nat) (w : World) :
    Calls Try.prog 14 #[.float .f64 x] w fun e w' => ∃ v, e = .returned v ∧ Forms w w' v (fB (bitsF x)) := by
  obtain ⟨i0, hi, hz0, hz1, hz2⟩ := info_parts Try.info5
  cases hn : nanB x
  · have HN : Hid (nanB x = false) := hn
    have HB : Hid (bitsF x = x) := by unfold bitsF; rw [hn]; rfl
    clear hn
    go_enter Try.func14, Try.ntmps14
    go_wp2_with (first | (go_at_call 57; refine (isNaN_any x w).mono ?_; rw [HN.out]; rintro e w ⟨rfl, rfl⟩) | (at_make; refine wpList_make_full _ rfl _ _ 33 rfl w.heap.size 5 i0 (.int .u8 0) 1 Try.underlying33 hi hz0 hz1 _ _ _ _ 8 rfl rfl (by decide) (by decide) (by rw [hz2]; decide) (by decide) (Nat.le_refl _) ?_; intro w1 ho1 hg1))
    go_loopw [13] (fun i wr => ∃ k : Nat, k ≤ 8 ∧ i = .int .i64 k ∧ wr.ownsRow w.heap.size 5 1 (.slice (some ⟨w.heap.size, 0, none⟩) 8 8) 8 ((fK x k).map encB) ∧ Below w.heap.size w wr) (fun i _ => 8 - (RowKit.intOf i).toNat)
    case atStart =>
      refine ⟨0, by omega, rfl, ?_, below_of_grownBy hg1⟩
      rw [fK_zero, ← made_zero]; exact ho1
    case round =>
      obtain ⟨k, hk, rfl, hown, hbl⟩ := hrel
      clear ho1 hg1
      by_cases hlt : k < 8
      · obtain ⟨c1, f1⟩ := own_at hown k hlt
        have HO : Hid (wr.ownsRow w.heap.size 5 1 (.slice (some ⟨w.heap.size, 0, none⟩) 8 8) 8 ((fK x k).map encB)) := hown
        clear hown
        go_wp2
        go_roundw
        case rel =>
          refine ⟨k + 1, by omega, by go_num, ?_, hbl.setCell (Nat.le_refl _) _⟩
          rw [← fK_set x k hlt]
          have := own_set HO.out k (fb x k)
          rw [fb_int] at this
          exact this
        case measure => simp [RowKit.intOf]; omega
      · obtain rfl : k = 8 := by omega
        go_wp2
        go_ret
        refine ⟨_, rfl, ?_, grownBy_of_below hbl⟩
        rw [HB.out, ← fK_all]
        exact hown
  · have HN : Hid (nanB x = true) := hn
    have HB : Hid (bitsF x = 9221120237041090560) := by unfold bitsF; rw [hn]; rfl
    clear hn
    go_enter Try.func14, Try.ntmps14
    go_wp2_with (first | (go_at_call 57; refine (isNaN_any x w).mono ?_; rw [HN.out]; rintro e w ⟨rfl, rfl⟩) | (at_make; refine wpList_make_full _ rfl _ _ 33 rfl w.heap.size 5 i0 (.int .u8 0) 1 Try.underlying33 hi hz0 hz1 _ _ _ _ 8 rfl rfl (by decide) (by decide) (by rw [hz2]; decide) (by decide) (Nat.le_refl _) ?_; intro w1 ho1 hg1))
    go_loopw [13] (fun i wr => ∃ k : Nat, k ≤ 8 ∧ i = .int .i64 k ∧ wr.ownsRow w.heap.size 5 1 (.slice (some ⟨w.heap.size, 0, none⟩) 8 8) 8 ((fK 9221120237041090560 k).map encB) ∧ Below w.heap.size w wr) (fun i _ => 8 - (RowKit.intOf i).toNat)
    case atStart =>
      refine ⟨0, by omega, rfl, ?_, below_of_grownBy hg1⟩
      rw [fK_zero, ← made_zero]; exact ho1
    case round =>
      obtain ⟨k, hk, rfl, hown, hbl⟩ := hrel
      clear ho1 hg1
      by_cases hlt : k < 8
      · obtain ⟨c1, f1⟩ := own_at hown k hlt
        have HO : Hid (wr.ownsRow w.heap.size 5 1 (.slice (some ⟨w.heap.size, 0, none⟩) 8 8) 8 ((fK 9221120237041090560 k).map encB)) := hown
        clear hown
        go_wp2
        go_roundw
        case rel =>
          refine ⟨k + 1, by omega, by go_num, ?_, hbl.setCell (Nat.le_refl _) _⟩
          rw [← fK_set 9221120237041090560 k hlt]
          have := own_set HO.out k (fb 9221120237041090560 k)
          rw [fb_int] at this
          exact this
        case measure => simp [RowKit.intOf]; omega
      · obtain rfl : k = 8 := by omega
        go_wp2
        go_ret
        refine ⟨_, rfl, ?_, grownBy_of_below hbl⟩
        rw [HB.out, ← fK_all]
        exact hown

/-- The document's Bits. -/
theorem bits_any (x : Nat) (w : World) : Calls Try.prog 58 #[.float .f64 x] w fun e w' => e = .returned (.int .u64 (bitsF x)) ∧ w' = w := by
  cases hn : nanB x
  · have h1 : (FloatKind.f64.format.order x x != some Ordering.eq) = false := hn
    have HB : Hid (bitsF x = x) := by unfold bitsF; rw [hn]; rfl
    clear hn
    go_enter Try.func58, Try.ntmps58
    go_wp2
    go_ret
    exact ⟨by rw [HB.out]; rfl, rfl⟩
  · have h1 : (FloatKind.f64.format.order x x != some Ordering.eq) = true := hn
    have HB : Hid (bitsF x = 9221120237041090560) := by unfold bitsF; rw [hn]; rfl
    clear hn
    go_enter Try.func58, Try.ntmps58
    go_wp2
    go_ret
    exact ⟨by rw [HB.out]; rfl, rfl⟩

set_option maxHeartbeats 1600000 in
set_option maxRecDepth 1000000 in
theorem like_any (x y : Nat) (w : World) : Calls Try.prog 40 #[.float .f64 x, .float .f64 y] w fun e w' => e = .returned (.bool (bitsF x == bitsF y)) ∧ w' = w := by
  go_enter Try.func40, Try.ntmps40
  go_wp2_with fail
  refine (bits_any x w).mono ?_
  rintro e w ⟨rfl, rfl⟩
  go_wp2_with fail
  refine (bits_any y w).mono ?_
  rintro e w ⟨rfl, rfl⟩
  go_wp2
  go_ret
  refine ⟨ret_bool ?_, rfl⟩
  rw [Bool.eq_iff_iff]; simp; omega

set_option maxHeartbeats 1600000 in
set_option maxRecDepth 1000000 in
theorem complex_any (x y : Nat) (w : World) :
    Calls Try.prog 16 #[.complex .f64 x y] w fun e w' => ∃ v, e = .returned v ∧ Forms w w' v (fB (bitsF x) ++ fB (bitsF y)) := by
  go_enter Try.func16, Try.ntmps16
  go_wp2_with fail
  refine (float_any x w).mono ?_
  rintro e w1 ⟨v1, rfl, hF1⟩
  go_wp2_with fail
  refine (float_any y w1).mono ?_
  rintro e w2 ⟨v2, rfl, hF2⟩
  have l1 := fB_len (bitsF x)
  have l2 := fB_len (bitsF y)
  have HO : Hid (w2.ownsRow w.heap.size 5 1 v1 (fB (bitsF x)).length ((fB (bitsF x)).map encB)) := Src.kept hF1.1 hF2.2 (by intro g _ e; cases e)
  have HS : Hid (Src w2 v2 (fB (bitsF y))) := hF2.src
  have HF1 : Hid (Forms w w1 v1 (fB (bitsF x)) ∧ w1.grownBy w2 none) := ⟨hF1, hF2.2⟩
  have HL : Hid ((fB (bitsF x)).length = 8 ∧ (fB (bitsF y)).length = 8) := ⟨l1, l2⟩
  clear hF1 hF2 l1 l2
  go_wp2_with (at_builtin; refine wpList_apps _ rfl _ _ rfl w.heap.size _ _ _ _ rfl rfl HO.out HS.out ?c1 ?c2 ?_)
  case c1 => rw [HL.out.1, HL.out.2]; decide
  case c2 => exact Nat.le_trans HF1.out.1.2.size HF1.out.2.size
  intro v3 w3 hA
  have F3 := Forms.app HF1.out.1 HF1.out.2 hA
  clear hA HO HS
  go_wp2
  go_ret
  exact ⟨v3, rfl, F3⟩
end Go.Proofs.Ytanbnefdodkniaa
