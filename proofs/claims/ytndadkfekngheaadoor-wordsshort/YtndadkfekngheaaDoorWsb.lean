/-
  The law WordsShort: its walk.
-/
import Derived.Test.YtndadkfekngheaaDoorWsa
namespace Go.Proofs.YtndadkfekngheaaDoor
open Go.RowKit Go.Lib Go.Sort
set_option linter.unusedVariables false
set_option linter.unusedSimpArgs false

theorem Lent.at {w : World} {base : Nat} {v : Value} {L : List Int} (h : Lent w base v L) : ∀ g, v.ownBlock = some g → base ≤ g ∧ g < w.heap.size := by
  obtain ⟨g, c, rfl, h⟩ := h
  intro k hk
  exact World.ownsRow.lt h k hk
set_option maxHeartbeats 3200000 in
set_option maxRecDepth 1000000 in
theorem wshort_much (w : World) (v : Value) (L : List Int) (h : Ints w v L) (hl : L.length ≤ 1000000000000000) (ht : Tab w) (hm : 9000 < min L.length 10000) :
    Calls Tryd.prog 3 #[v] w fun e w' => e = .returned (.bool true) ∧ w.grownBy w' none := by
  have HMu := much_any _ _ [L] (intsL1 h) (by simp) (by simpa using hl)
  rw [show muchN [L] = min L.length 10000 by simp [muchN], decide_eq_true hm] at HMu
  have HK := fun w' (hg : w.grownBy w' none) => known_any w' (ht.kept hg)
  obtain ⟨va, vc, rfl, _⟩ := h.reads
  clear h hl hm
  generalize L.length = n at *
  go_enter Tryd.func3, Tryd.ntmps3
  go_wp2_with fail
  refine HMu.mono ?_
  rintro e w1 ⟨rfl, rfl⟩
  go_wp2_with fail
  refine (HK _ (grow1 _ _)).mono ?_
  rintro e w2 ⟨rfl, g2⟩
  have G2 : Hid (w.grownBy w2 none) := grownBy_trans (grow1 _ _) g2
  clear g2
  go_wp2_with fail
  go_ret
  exact ⟨rfl, G2.out⟩
theorem grown_fr {w w1 w2 : World} {a : Value} {A : List Int} {base : Nat} (h : w.grownBy w1 none) (ha : Fr w1 base a A) (hb : w.heap.size ≤ base) (hg : w1.grownBy w2 a.ownBlock) : w.grownBy w2 none := by
  cases hv : a.ownBlock with
  | none => rw [hv] at hg; exact grownBy_trans h hg
  | some g => rw [hv] at hg; exact grownBy_new h (Nat.le_trans hb (ha.blk g hv).1) hg
theorem told_nil (w : World) (a b : Value) (r : Int) (base : Nat) (ha : Fr w base a []) (hb : Ints w b []) :
    Calls Tryd.prog 21 #[a, b, .int .i64 r, .slice none 0 0, .int .i64 r] w fun e w' => e = .returned (.bool true) ∧ w.grownBy w' a.ownBlock :=
  told_any w a b _ r [] (ha.mono (Nat.zero_le _)) hb (Ints.nil w) (.inl rfl) (.inl rfl) (by simp)
set_option maxHeartbeats 6400000 in
set_option maxRecDepth 1000000 in
theorem wshort_bad (w : World) (v : Value) (L : List Int) (h : Ints w v L) (hl : L.length ≤ 9000) (ht : Tab w) (r : Int) (hr : chk [L] = r) (hr0 : r ≠ 0) :
    Calls Tryd.prog 3 #[v] w fun e w' => e = .returned (.bool true) ∧ w.grownBy w' none := by
  have HMu := much_any _ _ [L] (intsL1 h) (by simp) (by simp; omega)
  rw [show muchN [L] = min L.length 10000 by simp [muchN], decide_eq_false (by omega)] at HMu
  have HT : Hid (Tab w) := ht
  have HI : Hid (Ints w v L) := h
  have HLeft : Hid (∀ w1 m base, w.grownBy w1 none → Lent w1 base m L → Calls Tryd.prog 20 #[m, v] w1 fun e w' => e = .returned (.bool true) ∧ w1.grownBy w' none) := fun w1 m base hg hm => left_any w1 m v L base hm (h.kept hg) (by omega)
  have HLent : Hid (∀ w1, w.grownBy w1 none → Calls Tryd.prog 11 #[v] w1 fun e w' => ∃ v', e = .returned v' ∧ Lent w' w1.heap.size v' L ∧ w1.grownBy w' none) := fun w1 hg => lent_any w1 v L (h.kept hg) (by omega)
  have HChk : Hid (∀ w1, w.grownBy w1 none → Calls Tryd.prog 12 #[v] w1 fun e w' => e = .returned (.int .i64 r) ∧ w' = w1) := fun w1 hg => by
    have := rCheck_any w1 v L (h.kept hg) (by omega)
    rw [hr] at this
    exact this
  have hlo : L.length ≤ 1000000000000 := by omega
  have HS : Hid (∀ w1 m, Ints w1 m L → Calls Tryd.prog 13 #[m] w1 fun e w' => ∃ v', e = .returned (.tuple #[v', .int .i64 r]) ∧ Fr w' w1.heap.size v' [] ∧ w1.grownBy w' none) := fun w1 m hm => (short_top w1 m L hm hlo).mono (by
    rintro e w' ⟨hg, v', rfl, hf⟩
    rw [hr, if_neg hr0] at hf
    exact ⟨v', by rw [hr], hf, hg⟩)
  have HIv : Hid (∀ w1 m, Ints w1 m L → Calls Tryd.prog 14 #[m] w1 fun e w' => ∃ v', e = .returned (.tuple #[v', .int .i64 r]) ∧ Fr w' w1.heap.size v' [] ∧ w1.grownBy w' none) := fun w1 m hm => (inverse_top w1 m L hm hlo).mono (by
    rintro e w' ⟨hg, v', rfl, hf⟩
    rw [hr, if_neg hr0] at hf
    exact ⟨v', by rw [hr], hf, hg⟩)
  have HCo : Hid (∀ w1 m, Ints w1 m L → Calls Tryd.prog 15 #[m] w1 fun e w' => e = .returned (.tuple #[.slice none 0 0, .slice none 0 0, .int .i64 r]) ∧ w1.grownBy w' none) := fun w1 m hm => (core_top w1 m L hm hlo).mono (by
    rintro e w' ⟨hg, u, v', rfl, hf⟩
    rw [hr] at hf ⊢
    rcases hf with ⟨_, rfl, rfl⟩ | ⟨_, e, _⟩
    · exact ⟨rfl, hg⟩
    · exact absurd e hr0)
  have HRo : Hid (∀ w1 m, Ints w1 m L → Calls Tryd.prog 16 #[m] w1 fun e w' => e = .returned (.tuple #[.slice none 0 0, .int .i64 0, .int .i64 r]) ∧ w1.grownBy w' none) := fun w1 m hm => (root_top w1 m L hm hlo).mono (by
    rintro e w' ⟨hg, u, n, e2, rfl, hf⟩
    rw [hr] at hf
    rcases hf with ⟨_, rfl, rfl, rfl⟩ | ⟨_, e, _⟩ | ⟨_, _, e, _⟩
    · exact ⟨rfl, hg⟩
    · exact absurd e hr0
    · exact absurd e hr0)
  have HTe : Hid (∀ w1 m, Ints w1 m L → Tab w1 → Calls Tryd.prog 17 #[m] w1 fun e w' => e = .returned (.tuple #[.string ⟨#[]⟩, .int .i64 r]) ∧ w1.grownBy w' none) := fun w1 m hm ht => (text_top w1 m L hm hlo ht).mono (by
    rintro e w' ⟨hg, rfl⟩
    rw [hr, if_neg hr0]
    exact ⟨rfl, hg⟩)
  have HCh : Hid (∀ w1 m, Ints w1 m L → Calls Tryd.prog 19 #[m] w1 fun e w' => e = .returned (.int .i64 r) ∧ w1.grownBy w' none) := fun w1 m hm => (check_any w1 m L hm hlo).mono (by
    rintro e w' ⟨rfl, hg⟩
    rw [hr]
    exact ⟨rfl, hg⟩)
  have HLl : Hid (L.length ≤ 9000) := hl
  have hrb : (r != 0) = true := by simpa using hr0
  obtain ⟨va, vc, rfl, _⟩ := h.reads
  have HN : Unit → True := fun _ => trivial
  clear h hl hlo hr hr0 ht
  generalize L.length = n at *
  go_enter Tryd.func3, Tryd.ntmps3
  go_wp2_with fail
  refine HMu.mono ?_
  rintro e w1 ⟨rfl, rfl⟩
  have G1 : Hid (w.grownBy (w.alloc (.cells #[.slice va n vc] 22)) none) := grow1 _ _
  generalize w.alloc (.cells #[.slice va n vc] 22) = w1 at *
  go_wp2_with fail
  refine (HLent.out w1 G1.out).mono ?_
  rintro e w2 ⟨m, rfl, hm, g2⟩
  have G2 : Hid (w.grownBy w2 none) := grownBy_trans G1.out g2
  have HM2 : Hid (Lent w2 w1.heap.size m L) := hm
  clear hm g2
  go_wp2_with fail
  refine (HChk.out w2 G2.out).mono ?_
  rintro e nw ⟨rfl, hw⟩
  obtain rfl := hw.symm
  clear hw
  go_wp2_with fail
  refine (HS.out w2 m HM2.out.ints).mono ?_
  rintro e w3 ⟨a, rfl, ha, g3⟩
  have G23 : Hid (w2.grownBy w3 none) := g3
  have HA3 : Hid (Fr w3 w2.heap.size a []) := ha
  clear ha g3
  go_wp2_with fail
  refine (HS.out w3 m (HM2.out.ints.kept G23.out)).mono ?_
  rintro e w4 ⟨b, rfl, hb, g4⟩
  have G24 : Hid (w2.grownBy w4 none) := grownBy_trans G23.out g4
  have HB4 : Hid (Fr w4 w3.heap.size b []) := hb
  have GS34 : Hid (w3.heap.size ≤ w4.heap.size) := g4.size
  have HA4 : Hid (Fr w4 w2.heap.size a []) := HA3.out.kept0 g4
  clear hb g4
  go_wp2_with fail
  refine (HIv.out w4 m (HM2.out.ints.kept G24.out)).mono ?_
  rintro e w5 ⟨c, rfl, hc, g5⟩
  have G25 : Hid (w2.grownBy w5 none) := grownBy_trans G24.out g5
  have HC5 : Hid (Fr w5 w4.heap.size c []) := hc
  have HA5 : Hid (Fr w5 w2.heap.size a []) := HA4.out.kept0 g5
  have HB5 : Hid (Fr w5 w3.heap.size b []) := HB4.out.kept0 g5
  clear hc g5
  go_wp2_with fail
  refine (HIv.out w5 m (HM2.out.ints.kept G25.out)).mono ?_
  rintro e w6 ⟨d, rfl, hd, g6⟩
  have G26 : Hid (w2.grownBy w6 none) := grownBy_trans G25.out g6
  have HD6 : Hid (Fr w6 w5.heap.size d []) := hd
  have HA6 : Hid (Fr w6 w2.heap.size a []) := HA5.out.kept0 g6
  have HB6 : Hid (Fr w6 w3.heap.size b []) := HB5.out.kept0 g6
  have HC6 : Hid (Fr w6 w4.heap.size c []) := HC5.out.kept0 g6
  clear hd g6
  go_wp2_with fail
  refine (HCo.out w6 m (HM2.out.ints.kept G26.out)).mono ?_
  rintro e w7 ⟨rfl, g7⟩
  have G67 : Hid (w6.grownBy w7 none) := g7
  clear g7
  go_wp2_with fail
  refine (HRo.out w7 m (HM2.out.ints.kept (grownBy_trans G26.out G67.out))).mono ?_
  rintro e w8 ⟨rfl, g8⟩
  have G68 : Hid (w6.grownBy w8 none) := grownBy_trans G67.out g8
  clear g8
  go_wp2_with fail
  refine (HTe.out w8 m (HM2.out.ints.kept (grownBy_trans G26.out G68.out)) (HT.out.kept (grownBy_trans G2.out (grownBy_trans G26.out G68.out)))).mono ?_
  rintro e w9 ⟨rfl, g9⟩
  have G69 : Hid (w6.grownBy w9 none) := grownBy_trans G68.out g9
  clear g9
  go_wp2_with fail
  refine (HCh.out w9 m (HM2.out.ints.kept (grownBy_trans G26.out G69.out))).mono ?_
  rintro e w10 ⟨rfl, g10⟩
  have G610 : Hid (w6.grownBy w10 none) := grownBy_trans G69.out g10
  clear g10
  go_wp2_with fail
  refine (num_any r _).mono ?_
  rintro e nw ⟨rfl, hw⟩
  obtain rfl := hw.symm
  clear hw
  go_wp2_with fail
  refine (HLeft.out w10 m w1.heap.size (grownBy_trans G2.out (grownBy_trans G26.out G610.out)) (HM2.out.kept0 (grownBy_trans G26.out G610.out))).mono ?_
  rintro e w11 ⟨rfl, g11⟩
  have G611 : Hid (w6.grownBy w11 none) := grownBy_trans G610.out g11
  have G11 : Hid (w.grownBy w11 none) := grownBy_trans G2.out (grownBy_trans G26.out G611.out)
  clear g11
  go_wp2_with fail
  refine (told_nil w11 a b r w2.heap.size (HA6.out.kept0 G611.out) (HB6.out.ints.kept G611.out)).mono ?_
  rintro e w12 ⟨rfl, g12⟩
  have G12 : Hid (w.grownBy w12 none) := grown_fr G11.out (HA6.out.kept0 G611.out) G2.out.size g12
  have HC12 : Hid (Fr w12 w4.heap.size c []) := (HC6.out.kept0 G611.out).kept g12 (by
    cases hv : c.ownBlock with
    | none => exact .inl rfl
    | some g =>
      right
      intro e2
      have e3 := (HA3.out.blk g e2.symm).2
      have e4 := (HC6.out.blk g hv).1
      have e5 := (HB4.out.kept0 (grow0 _))
      have e6 := GS34.out
      omega)
  clear g12
  go_wp2_with fail
  refine (told_nil w12 c d r w4.heap.size HC12.out HD6.out.ints.empty).mono ?_
  rintro e w13 ⟨rfl, g13⟩
  have G13 : Hid (w.grownBy w13 none) := grown_fr G12.out HC12.out (Nat.le_trans G2.out.size G24.out.size) g13
  clear g13
  go_wp2_with fail
  refine (num_any r _).mono ?_
  rintro e nw ⟨rfl, hw⟩
  obtain rfl := hw.symm
  clear hw
  go_wp2_with fail
  refine (num_any r _).mono ?_
  rintro e nw ⟨rfl, hw⟩
  obtain rfl := hw.symm
  clear hw
  go_wp2_with fail
  refine (num_any r _).mono ?_
  rintro e nw ⟨rfl, hw⟩
  obtain rfl := hw.symm
  clear hw
  go_wp2_with fail
  refine (known_any w13 (HT.out.kept G13.out)).mono ?_
  rintro e w14 ⟨rfl, g14⟩
  have G14 : Hid (w.grownBy w14 none) := grownBy_trans G13.out g14
  clear g14
  go_wp2_with fail
  go_ret
  exact ⟨rfl, G14.out⟩
end Go.Proofs.YtndadkfekngheaaDoor
