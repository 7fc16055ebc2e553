/-
  The chapter's rows that every statement asks besides: 'known' answers true.
-/
import Derived.Test.YtanbnefdodkniaaWri
namespace Go.Proofs.Ytanbnefdodkniaa
open Go.RowKit Go.Lib Go.Sort

theorem Number_val {w : World} {rb : Nat} {v : Value} {L : List Int} {k : Nat} (n c e : Nat) (h : Rdr w rb v L k) (hr : rdN 0 0 (L.drop k) = (n, c, e)) :
    Calls Try.prog 36 #[rp rb] w fun en w' => en = .returned (.tuple #[.int .u64 (if e = 0 then n else 0 : Nat), .int .i64 e]) ∧ Rdr w' rb v L (k + c) ∧ w.grownBy w' (some rb) := by
  have := Number_any w rb v L k h
  rw [hr] at this
  exact this
theorem Text_val {w : World} {rb : Nat} {v : Value} {L : List Int} {k : Nat} (most : Int) (X : List Int) (j : Nat) (h : Rdr w rb v L k) (hm1 : most ≤ 9223372036854775807) (hr : txt most L k = (X, j, 0)) :
    Calls Try.prog 39 #[rp rb, .int .i64 most] w fun en w' => en = .returned (.tuple #[.string (strOf X), .int .i64 0]) ∧ Rdr w' rb v L j ∧ w.grownBy w' (some rb) := by
  have := Text_any w rb v L k most h hm1
  rw [hr] at this
  exact this
/-- A slice of bytes laid in a new block. -/
theorem src_new (w : World) (L : List Int) (n : Nat) (hn : n = L.length) : Src (w.alloc (.cells (L.map encB).toArray 5)) (.slice (some ⟨w.heap.size, 0, none⟩) n n) L := by
  subst hn
  refine .inr ⟨w.heap.size, 0, _, rfl, fun j u hj => ?_⟩
  simp only [World.cell?, heap_alloc_new, Nat.zero_add]
  simp only [Option.isSome_none, Bool.false_eq_true, if_false]
  rw [← Array.getElem?_toList]
  exact hj
/-- A form, read as a string. -/
theorem Forms.src {w w1 : World} {v : Value} {L : List Int} (h : Forms w w1 v L) : Src w1 v L := by
  rcases h.1.2 with ⟨rfl, hn⟩ | ⟨g, cap, cur, rfl, _⟩
  · exact .inl ⟨rfl, List.eq_nil_of_length_eq_zero hn⟩
  · refine .inr ⟨g, 0, cap, rfl, fun j u hj => ?_⟩
    have := h.1.cells (g := g) rfl j u hj
    rwa [Addr.add_lit] at this

theorem Rdr.kept0 {w w' : World} {rb : Nat} {v : Value} {L : List Int} {k : Nat} (h : Rdr w rb v L k) (hg : w.grownBy w' none) : Rdr w' rb v L k := h.kept hg (by simp) (by cases v.ownBlock <;> simp)
theorem Rdr.far {w : World} {rb : Nat} {v : Value} {L : List Int} {k : Nat} (h : Rdr w rb v L k) : rb < w.heap.size ∧ ∀ g, v.ownBlock = some g → g < w.heap.size := ⟨h.lt, fun g hg => (h.own.lt g hg).2⟩
theorem Rdr.kept_far {w w' : World} {rb rb2 N : Nat} {v : Value} {L : List Int} {k : Nat} (hN : rb < N ∧ ∀ g, v.ownBlock = some g → g < N) (h : Rdr w rb v L k) (hg : w.grownBy w' (some rb2)) (h2 : N ≤ rb2) : Rdr w' rb v L k :=
  h.kept hg (by have := hN.1; intro e; cases e; omega) (by
    cases hv : v.ownBlock with
    | none => exact .inl rfl
    | some g => right; have := hN.2 g hv; intro e; cases e; omega)
theorem Src.kept {w w' : World} {v : Value} {L : List Int} {row : Option Nat} {base : Nat} (h : w.ownsRow base 5 1 v L.length (L.map encB)) (hg : w.grownBy w' row) (hne : ∀ g, v.ownBlock = some g → row ≠ some g) : w'.ownsRow base 5 1 v L.length (L.map encB) :=
  h.kept hg (by
    cases hv : v.ownBlock with
    | none => exact .inl rfl
    | some g => right; exact fun e => hne g hv e.symm)
theorem src_own {w : World} {base : Nat} {v : Value} {L : List Int} (h : w.ownsRow base 5 1 v L.length (L.map encB)) : Src w v L := by
  rcases h.2 with ⟨rfl, hn⟩ | ⟨g, cap, cur, rfl, _⟩
  · exact .inl ⟨rfl, List.eq_nil_of_length_eq_zero hn⟩
  · refine .inr ⟨g, 0, cap, rfl, fun j u hj => ?_⟩
    have := h.cells (g := g) rfl j u hj
    rwa [Addr.add_lit] at this
/-- A reader's step turns nothing that was there before the reader. -/
theorem grownBy_new {a b c : World} {rb : Nat} (h : a.grownBy b none) (hb : a.heap.size ≤ rb) (k : b.grownBy c (some rb)) : a.grownBy c none :=
  ⟨k.os.trans h.os, k.tape.trans h.tape, k.output.trans h.output, Nat.le_trans h.size k.size, fun i hi _ => (k.block i (Nat.lt_of_lt_of_le hi h.size) (by intro e; cases e; omega)).trans (h.block i hi (by simp))⟩

theorem k_ab : strOf [97, 98] = ⟨#[97, 98]⟩ := rfl
theorem k_35 : strOf [3, 5] = ⟨#[3, 5]⟩ := rfl
theorem k_1 : strOf [1] = ⟨#[1]⟩ := rfl
theorem k_128 : strOf [129, 0] = ⟨#[129, 0]⟩ := rfl

set_option maxHeartbeats 4000000 in
set_option maxRecDepth 1000000 in
theorem known_any (w : World) : Calls Try.prog 30 #[] w fun e w' => e = .returned (.bool true) ∧ w.grownBy w' none := by
  go_enter Try.func30, Try.ntmps30
  go_wp2_with fail
  refine (open_any _ [129, 0, 2, 97, 98] _ (src_new w [129, 0, 2, 97, 98] 5 rfl) (by simp) (by decide)).mono ?_
  rintro e w1 ⟨rb, v, rfl, hr, hb, hv, hg⟩
  have g1 : w.grownBy w1 none := grownBy_trans (World.grownBy_alloc _ _ _) hg
  have hb1 : w.heap.size ≤ rb := by simp at hb; omega
  clear hb hg hv
  go_wp2_with fail
  refine (Number_val 128 2 0 hr (by decide)).mono ?_
  rintro e w2 ⟨rfl, hr2, hg2⟩
  have g2 := grownBy_new g1 hb1 hg2
  clear hr hg2 g1
  go_wp2_with fail
  refine (Text_val 2 [97, 98] 5 hr2 (by decide) (by decide)).mono ?_
  rintro e w3 ⟨rfl, hr3, hg3⟩
  have g3 := grownBy_new g2 hb1 hg3
  clear hr2 hg3 g2
  go_wp2_with fail
  refine (Whole_yes true ⟨#[5]⟩ (by decide) w3).mono ?_
  rintro e w4 ⟨s4, rfl, hF4⟩
  have hr4 := hr3.kept0 hF4.2
  have g4 := grownBy_trans g3 hF4.2
  have ho4 : w4.ownsRow w3.heap.size 5 1 s4 [3, 5].length ([3, 5].map encB) := hF4.1
  have hs4 : ∀ g, s4.ownBlock = some g → w3.heap.size ≤ g ∧ g < w4.heap.size := ho4.lt
  clear hr3 hF4 g3
  have N4 := hr4.far
  go_wp2_with fail
  refine (open_any _ [128, 1] _ (src_new w4 [128, 1] 2 rfl) (by simp) (by decide)).mono ?_
  rintro e w5 ⟨rb5, v5, rfl, hq5, hb5, hv5, hg5⟩
  have g45 : w4.grownBy w5 none := grownBy_trans (World.grownBy_alloc _ _ _) hg5
  have hb5' : w4.heap.size ≤ rb5 := by simp at hb5; omega
  have hr5 := hr4.kept0 g45
  have ho5 := Src.kept ho4 g45 (by intro g _ e; cases e)
  have g5 := grownBy_trans g4 g45
  clear hr4 ho4 g45 hg5 hb5 hv5
  go_wp2_with fail
  refine (Number_val 0 0 111 hq5 (by decide)).mono ?_
  rintro e w6 ⟨rfl, hq6, hg6⟩
  have hr6 := Rdr.kept_far N4 hr5 hg6 hb5'
  have ho6 := Src.kept ho5 hg6 (by intro g hg e; cases e; have := (hs4 _ hg).2; omega)
  have g6 := grownBy_new g5 (by have := g4.size; omega) hg6
  have hn6 : w4.heap.size ≤ w6.heap.size := by have := hq6.lt; omega
  clear hr5 ho5 hg6 hq5 hq6 g5
  go_wp2_with fail
  refine (open_any _ [130, 128, 128, 128, 128, 128, 128, 128, 128, 0] _ (src_new w6 [130, 128, 128, 128, 128, 128, 128, 128, 128, 0] 10 rfl) (by simp) (by decide)).mono ?_
  rintro e w7 ⟨rb7, v7, rfl, hq7, hb7, hv7, hg7⟩
  have g67 : w6.grownBy w7 none := grownBy_trans (World.grownBy_alloc _ _ _) hg7
  have hb7' : w6.heap.size ≤ rb7 := by simp at hb7; omega
  have hr7 := hr6.kept0 g67
  have ho7 := Src.kept ho6 g67 (by intro g _ e; cases e)
  have g7 := grownBy_trans g6 g67
  clear hr6 ho6 g67 hg7 hb7 hv7
  go_wp2_with fail
  refine (Number_val 144115188075855872 0 111 hq7 (by decide)).mono ?_
  rintro e w8 ⟨rfl, hq8, hg8⟩
  have hr8 := Rdr.kept_far N4 hr7 hg8 (by omega)
  have ho8 := Src.kept ho7 hg8 (by intro g hg e; cases e; have := (hs4 _ hg).2; omega)
  have g8 := grownBy_new g7 (by have := g4.size; omega) hg8
  clear hr7 ho7 hg8 hq7 g7 g6 N4 hn6
  rw [k_ab]
  go_wp2_with (go_at_call 41; go_in)
  refine (left_any w8 rb v _ 5 hr8).mono ?_
  rintro e w9 ⟨rfl, q9, rfl⟩
  have hcv := conv_src (src_own (Src.kept ho8 (grownBy_drewN (World.grownBy.refl w8 none) q9) (by intro g _ e; cases e)))
  rw [k_35] at hcv
  have hq9 := hq8.drewN q9
  clear hr8 ho8 hq8
  go_wp2_with (go_at_call 41; go_in)
  refine (left_any _ rb7 v7 _ 0 hq9).mono ?_
  rintro e w10 ⟨rfl, q10, rfl⟩
  have g10 := grownBy_drewN g8 (q9 + q10)
  clear hcv hq9 g8
  go_wp2_with (go_at_call 41; go_in)
  refine (signed_any (-1) (by decide) (by decide) _).mono ?_
  rintro e w11 ⟨v11, rfl, hF11⟩
  have hcv := conv_src (L := [1]) hF11.src
  rw [k_1] at hcv
  have g11 := grownBy_trans g10 hF11.2
  clear hF11 g10
  go_wp2_with (go_at_call 41; go_in)
  refine (num_forms 128 (by decide) _).mono ?_
  rintro e w12 ⟨v12, rfl, hF12⟩
  have hcv := conv_src (L := [129, 0]) hF12.src
  rw [k_128] at hcv
  have g12 := grownBy_trans g11 hF12.2
  clear hF12 g11
  go_wp2
  go_ret
  exact ⟨rfl, g12⟩
#print axioms known_any
end Go.Proofs.Ytanbnefdodkniaa
