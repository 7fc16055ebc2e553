/-
  The law's 'most': the calls that are handed a bound; then step, whatever its kind.
-/
import Derived.Test.YtanbnefdodkniaaStq
namespace Go.Proofs.Ytanbnefdodkniaa
open Go.RowKit Go.Lib Go.Sort

/-- Numbers that the call owns, as a slice. -/
theorem own_nums {w : World} {base : Nat} {x : Value} {X : List Nat} (h : w.ownsRow base 22 1 x X.length (cellsN X)) :
    ∃ ao c, x = .slice ao X.length c ∧ (X = [] ∨ ∃ g, ao = some ⟨g, 0, none⟩ ∧ X.length ≤ c ∧ c ≤ maxLen ∧ ∀ j, j < X.length → w.cell? ⟨g, j, none⟩ = some (.int .u64 (X[j]?.getD 0 : Nat))) := by
  rcases h.2 with ⟨rfl, hn⟩ | ⟨g, cap, cur, rfl, hb, hg, hn, hm, hs, ht⟩
  · rw [hn]
    exact ⟨none, 0, rfl, .inl (List.eq_nil_of_length_eq_zero hn)⟩
  · refine ⟨_, cap, rfl, .inr ⟨g, rfl, hn, hm, fun j hj => ?_⟩⟩
    have := h.cells (g := g) rfl j (.int .u64 (X[j]?.getD 0 : Nat)) (by unfold cellsN; rw [List.getElem?_map, List.getElem?_eq_getElem hj]; rfl)
    rw [Addr.add_lit] at this
    simpa using this

set_option maxHeartbeats 1600000 in
set_option maxRecDepth 1000000 in
theorem most5_neg (W w : World) (rb db : Nat) (rv dv : Value) (L : List Int) (k : Nat) (most : Int) (h : Two W w rb db rv dv L k) (hm : most < 0) : Calls Try.prog 72 #[rp rb, rp db, opv 5 most] w (StepQ W rb db rv dv L) := by
  have h0 := h.al (opo 5 most)
  have H := Text_any _ rb rv L k most h0.r (by omega)
  have ht : txt most L k = ([], k, 2) := by unfold txt cnt; rw [if_pos hm]; rfl
  rw [ht] at H
  simp only [show ¬ (2 = 0) by omega, if_false] at H
  have HT : Hid (Two W (w.alloc (opo 5 most)) rb db rv dv L k) := h0
  have hrl := h.r.lt
  rw [strOf_nil] at H
  clear ht h h0
  go_enter Try.func72, Try.ntmps72
  go_wp2_with fail
  refine H.mono ?_
  rintro e1 w1 ⟨rfl, hr, hg⟩
  have M := HT.out.mid hr hg
  obtain ⟨p0, p1, _, _, _⟩ := kept2 (heap_alloc_new w (opo 5 most)) hg (by intro e; cases e; omega)
  have HM : Hid (Two W w1 rb db rv dv L k) := ⟨M.r, M.d, M.ne, M.own, M.far, M.base, M.rbl, M.dbl⟩
  clear M hr hg
  go_wp2_with (go_at_call 41; go_in)
  go_ret
  exact ⟨rfl, _, HM.out⟩

set_option maxHeartbeats 1600000 in
set_option maxRecDepth 1000000 in
theorem most5_pos (W w : World) (rb db : Nat) (rv dv : Value) (L : List Int) (k most : Nat) (h : Two W w rb db rv dv L k) (hm : most ≤ 9223372036854775807) : Calls Try.prog 72 #[rp rb, rp db, opv 5 most] w (StepQ W rb db rv dv L) := by
  have h0 := h.al (opo 5 most)
  have H := Text_n _ rb rv L k most h0.r hm
  have HD : Hid (∀ w1, DRdr w1 db dv L k → DReadsT w1 db most dv L (teR most L k).2.1 (.string (strOf (teR most L k).1)) (teR most L k).2.2) := fun w1 h1 => dtext w1 db most dv L k h1 hm
  have HT : Hid (Two W (w.alloc (opo 5 most)) rb db rv dv L k) := h0
  have hrl := h.r.lt
  clear h h0
  generalize strOf (teR most L k).1 = X at *
  generalize (teR most L k).2 = r at *
  obtain ⟨j, e⟩ := r
  simp only [] at H HD
  go_enter Try.func72, Try.ntmps72
  go_wp2_with fail
  refine H.mono ?_
  rintro e1 w1 ⟨rfl, hr, hg⟩
  have M := HT.out.mid hr hg
  obtain ⟨p0, p1, _, _, _⟩ := kept2 (heap_alloc_new w (opo 5 most)) hg (by intro e; cases e; omega)
  clear hr hg
  go_wp2_with fail
  refine (HD.out _ M.d).mono ?_
  rintro e2 w2 ⟨rfl, hd, hg2⟩
  have HM : Hid (Two W w2 rb db rv dv L j) := M.two hd hg2
  clear M hd hg2
  go_wp2_with (go_at_call 41; go_in)
  go_ret
  exact ⟨rfl, _, HM.out⟩

set_option maxHeartbeats 1600000 in
set_option maxRecDepth 1000000 in
theorem most9_neg (W w : World) (rb db : Nat) (rv dv : Value) (L : List Int) (k : Nat) (most : Int) (h : Two W w rb db rv dv L k) (hL : L.length ≤ 1048576) (hm : most < 0) : Calls Try.prog 72 #[rp rb, rp db, opv 9 most] w (StepQ W rb db rv dv L) := by
  have h0 := h.al (opo 9 most)
  have H := takeN_any _ rb rv L k most h0.r hL (by omega)
  have ht : tnR most L k = ([], k, 2) := by unfold tnR cnt; rw [if_pos hm]; rfl
  rw [ht] at H
  have HT : Hid (Two W (w.alloc (opo 9 most)) rb db rv dv L k) := h0
  have hrl := h.r.lt
  clear ht h h0
  go_enter Try.func72, Try.ntmps72
  go_wp2_with fail
  refine H.mono ?_
  rintro e1 w1 ⟨x, rfl, ho, hr, hg⟩
  have M := HT.out.mid hr hg
  obtain ⟨ao, c, rfl, _⟩ := own_nums ho
  obtain ⟨p0, p1, _, _, _⟩ := kept2 (heap_alloc_new w (opo 9 most)) hg (by intro e; cases e; omega)
  have HM : Hid (Two W w1 rb db rv dv L k) := ⟨M.r, M.d, M.ne, M.own, M.far, M.base, M.rbl, M.dbl⟩
  clear M hr hg ho
  simp only [List.length_nil]
  go_wp2_with (go_at_call 41; go_in)
  go_ret
  exact ⟨rfl, _, HM.out⟩

set_option maxHeartbeats 3200000 in
set_option maxRecDepth 1000000 in
theorem most9_pos (W w : World) (rb db : Nat) (rv dv : Value) (L : List Int) (k most : Nat) (h : Two W w rb db rv dv L k) (hL : L.length ≤ 1048576) (hm : most ≤ 9223372036854775807) : Calls Try.prog 72 #[rp rb, rp db, opv 9 most] w (StepQ W rb db rv dv L) := by
  have h0 := h.al (opo 9 most)
  have H := takeN_any _ rb rv L k most h0.r hL (by omega)
  have HD : Hid (∀ w1, DRdr w1 db dv L k → DReadsN w1 db most dv L (tnR most L k).2.1 (tnR most L k).1 (tnR most L k).2.2) := fun w1 h1 => dnumbers w1 db most dv L k h1 hL hm
  have HT : Hid (Two W (w.alloc (opo 9 most)) rb db rv dv L k) := h0
  have hrl := h.r.lt
  have hdl := h.d.lt
  clear h h0
  generalize tnR most L k = r at *
  obtain ⟨X, j, e⟩ := r
  simp only [] at H HD
  go_enter Try.func72, Try.ntmps72
  go_wp2_with fail
  refine H.mono ?_
  rintro e1 w1 ⟨x, rfl, ho, hr, hg⟩
  have M := HT.out.mid hr hg
  obtain ⟨p0, p1, _, _, _⟩ := kept2 (heap_alloc_new w (opo 9 most)) hg (by intro e; cases e; omega)
  clear hr hg
  go_wp2_with fail
  refine (HD.out _ M.d).mono ?_
  rintro e2 w2 ⟨y, rfl, ho2, hd, hg2⟩
  have ho1 : w2.ownsRow (w.alloc (opo 9 most)).heap.size 22 1 x X.length (cellsN X) := ho.kept hg2 (by
    cases hu : x.ownBlock with
    | none => exact .inl rfl
    | some g => right; have := (ho.lt g hu).1; simp at this; intro e; cases e; omega)
  have HM : Hid (Two W w2 rb db rv dv L j) := M.two hd hg2
  obtain ⟨ao, c, rfl, h1⟩ := own_nums ho1
  obtain ⟨bo, d, rfl, h2⟩ := own_nums ho2
  clear M hd hg2 ho ho1 ho2 p0 p1 HD H
  by_cases hX : X = []
  · subst hX
    clear h1 h2
    simp only [List.length_nil]
    go_wp2_with (go_at_call 41; go_in)
    go_loopw [15] (fun i wr => i = .int .i64 0 ∧ wr = w2) (fun _ _ => 0)
    case atStart => exact ⟨rfl, rfl⟩
    case round =>
      obtain ⟨rfl, rfl⟩ := hrel
      go_wp2
      go_ret
      exact ⟨rfl, _, HM.out⟩
  · obtain ⟨g1, rfl, hc1, hc2, H1⟩ := h1.resolve_left hX
    obtain ⟨g2, rfl, hd1, hd2, H2⟩ := h2.resolve_left hX
    clear h1 h2
    have HC1 : Hid (∀ j, j < X.length → w2.cell? ⟨g1, j, none⟩ = some (.int .u64 (X[j]?.getD 0 : Nat))) := H1
    have HC2 : Hid (∀ j, j < X.length → w2.cell? ⟨g2, j, none⟩ = some (.int .u64 (X[j]?.getD 0 : Nat))) := H2
    unfold maxLen at hc2 hd2
    have hlx : X.length ≤ 9223372036854775807 := by omega
    clear H1 H2
    obtain ⟨l, hl⟩ : ∃ l, X.length = l := ⟨_, rfl⟩
    rw [hl] at hc1 hd1 hlx HC1 HC2 ⊢
    clear hX hl
    go_wp2_with (go_at_call 41; go_in)
    go_loopw [15] (fun i wr => ∃ m q : Nat, m ≤ l ∧ i = .int .i64 m ∧ wr = w2.drewN q) (fun i _ => l - (RowKit.intOf i).toNat)
    case atStart => exact ⟨0, 0, Nat.zero_le _, rfl, rfl⟩
    case round =>
      obtain ⟨m, q, hml, rfl, rfl⟩ := hrel
      by_cases hlt : m < l
      · have a1 := HC1.out m hlt
        have a2 := HC2.out m hlt
        generalize X[m]?.getD 0 = y at *
        go_wp2
        go_quiet (fail)
        go_wp2
        go_roundw
        case rel => exact ⟨m + 1, _, by omega, by go_num, rfl⟩
        case measure => simp [RowKit.intOf]; omega
      · obtain rfl : m = l := by omega
        go_wp2
        go_ret
        exact ⟨rfl, _, HM.out.kept (grownBy_drewN (World.grownBy.refl _ _) _)⟩

set_option maxHeartbeats 1600000 in
set_option maxRecDepth 1000000 in
theorem most_else (W w : World) (rb db : Nat) (rv dv : Value) (L : List Int) (k : Nat) (kind most : Int) (h : Two W w rb db rv dv L k) (h5 : kind ≠ 5) (h9 : kind ≠ 9) : Calls Try.prog 72 #[rp rb, rp db, opv kind most] w (StepQ W rb db rv dv L) := by
  have q5 : (kind == 5) = false := by simpa using h5
  have q9 : (kind == 9) = false := by simpa using h9
  have HT : Hid (Two W (w.alloc (opo kind most)) rb db rv dv L k) := h.al _
  clear h
  go_enter Try.func72, Try.ntmps72
  go_wp2
  go_ret
  exact ⟨rfl, _, HT.out⟩

theorem most_any (W w : World) (rb db : Nat) (rv dv : Value) (L : List Int) (k : Nat) (kind most : Int) (h : Two W w rb db rv dv L k) (hL : L.length ≤ 1048576) (hm : most ≤ 9223372036854775807) : Calls Try.prog 72 #[rp rb, rp db, opv kind most] w (StepQ W rb db rv dv L) := by
  by_cases h5 : kind = 5
  · subst h5
    by_cases h0 : most < 0
    · exact most5_neg W w rb db rv dv L k most h h0
    · obtain ⟨m, rfl⟩ := Int.eq_ofNat_of_zero_le (show 0 ≤ most by omega)
      exact most5_pos W w rb db rv dv L k m h (by omega)
  · by_cases h9 : kind = 9
    · subst h9
      by_cases h0 : most < 0
      · exact most9_neg W w rb db rv dv L k most h hL h0
      · obtain ⟨m, rfl⟩ := Int.eq_ofNat_of_zero_le (show 0 ≤ most by omega)
        exact most9_pos W w rb db rv dv L k m h hL (by omega)
    · exact most_else W w rb db rv dv L k kind most h h5 h9

set_option maxHeartbeats 1600000 in
set_option maxRecDepth 1000000 in
theorem step_else (W w : World) (rb db : Nat) (rv dv : Value) (L : List Int) (k : Nat) (kind most : Int) (h : Two W w rb db rv dv L k) (hL : L.length ≤ 1048576) (hm : most ≤ 9223372036854775807)
    (h1 : (kind == 1) = false) (h2 : (kind == 2) = false) (h3 : (kind == 3) = false) (h4 : (kind == 4) = false) (h6 : (kind == 6) = false) (h7 : (kind == 7) = false) (h8 : (kind == 8) = false) :
    Calls Try.prog 32 #[rp rb, rp db, opv kind most] w (StepQ W rb db rv dv L) := by
  have H := most_any W _ rb db rv dv L k kind most (h.al (opo kind most)) hL hm
  clear h
  go_enter Try.func32, Try.ntmps32
  go_wp2_with (go_at_call 72; refine H.mono ?_; rintro e w1 ⟨rfl, hq⟩)
  go_ret
  exact ⟨rfl, hq⟩

theorem step_any (W w : World) (rb db : Nat) (rv dv : Value) (L : List Int) (k : Nat) (kind most : Int) (h : Two W w rb db rv dv L k) (hL : L.length ≤ 1048576) (hm : most ≤ 9223372036854775807) : Calls Try.prog 32 #[rp rb, rp db, opv kind most] w (StepQ W rb db rv dv L) := by
  by_cases h1 : kind = 1
  · subst h1; exact step1 W w rb db rv dv L k most h
  by_cases h2 : kind = 2
  · subst h2; exact step2 W w rb db rv dv L k most h
  by_cases h3 : kind = 3
  · subst h3; exact step3 W w rb db rv dv L k most h
  by_cases h4 : kind = 4
  · subst h4; exact step4 W w rb db rv dv L k most h
  by_cases h6 : kind = 6
  · subst h6; exact step6 W w rb db rv dv L k most h
  by_cases h7 : kind = 7
  · subst h7; exact step7 W w rb db rv dv L k most h
  by_cases h8 : kind = 8
  · subst h8; exact step8 W w rb db rv dv L k most h
  exact step_else W w rb db rv dv L k kind most h hL hm (by simpa using h1) (by simpa using h2) (by simpa using h3) (by simpa using h4) (by simpa using h6) (by simpa using h7) (by simpa using h8)
end Go.Proofs.Ytanbnefdodkniaa
