/-
  What Take answers of pairs.
-/
import Derived.Test.YtanbnefdodkniaaPar
namespace Go.Proofs.Ytanbnefdodkniaa
open Go.RowKit Go.Lib Go.Sort

theorem Try.info84 : (Try.prog.info? 84).map (fun i => (i.zero, i.size, i.bytes)) = some (some (.agg #[.int .u64 0, .int .u64 0]), 2, 16) := by kernel_rfl

/-- Pairs as cells. -/
def cellsP (P : List (Nat × Nat)) : List Value := P.flatMap fun p => [Value.int .u64 p.1, Value.int .u64 p.2]
theorem cellsP_len (P : List (Nat × Nat)) : (cellsP P).length = P.length * 2 := by
  induction P with
  | nil => rfl
  | cons p P ih => simp only [cellsP, List.flatMap_cons, List.length_append, List.length_cons, List.length_nil] at ih ⊢; omega
theorem cellsP_snoc (P : List (Nat × Nat)) (p : Nat × Nat) : cellsP (P ++ [p]) = cellsP P ++ [Value.int .u64 p.1, Value.int .u64 p.2] := by
  unfold cellsP; rw [List.flatMap_append]; simp

/-- What is inside Take: a closure of two captured variables. -/
def ReadsD (f c1 c2 : Nat) (w : World) (rb : Nat) (v : Value) (L : List Int) (j : Nat) (X : World → Value → Prop) (e : Nat) : Prop :=
  Calls Try.prog f #[rp rb, .pointer (some ⟨c1, 0, none⟩), .pointer (some ⟨c2, 0, none⟩)] w fun en w' => ∃ x, en = .returned (.tuple #[x, .int .i64 e]) ∧ X w' x ∧ Rdr w' rb v L j ∧ w.grownBy w' (some rb)
theorem ReadsD.out {f c1 c2 : Nat} {w : World} {rb : Nat} {v : Value} {L : List Int} {j : Nat} {X : World → Value → Prop} {e : Nat} (h : ReadsD f c1 c2 w rb v L j X e) :
  Calls Try.prog f #[rp rb, .pointer (some ⟨c1, 0, none⟩), .pointer (some ⟨c2, 0, none⟩)] w fun en w' => ∃ x, en = .returned (.tuple #[x, .int .i64 e]) ∧ X w' x ∧ Rdr w' rb v L j ∧ w.grownBy w' (some rb) := h

theorem own_grown {w wr w2 : World} {rb : Nat} {row : Option Nat} (h : w.grownBy wr (some rb)) (hg : wr.grownBy w2 row) (hr : ∀ g, row = some g → w.heap.size ≤ g) : w.grownBy w2 (some rb) :=
  ⟨hg.os.trans h.os, hg.tape.trans h.tape, hg.output.trans h.output, Nat.le_trans h.size hg.size, fun i hi hn => (hg.block i (Nat.lt_of_lt_of_le hi h.size) (fun e => by have := hr i e.symm; omega)).trans (h.block i hi hn)⟩

set_option maxHeartbeats 1600000 in
set_option maxRecDepth 1000000 in
theorem take1_err (w : World) (rb c1 c2 : Nat) (v : Value) (L : List Int) (j n e : Nat) (most : Int) (he : e ≠ 0) (hc1 : w.cell? ⟨c1, 0, none⟩ = some (.int .i64 most))
    (H : Calls Try.prog 84 #[rp rb, .int .i64 most] w fun en w' => en = .returned (.tuple #[.int .u64 n, .int .i64 e]) ∧ Rdr w' rb v L j ∧ w.grownBy w' (some rb)) :
    ReadsD 92 c1 c2 w rb v L j (fun _ x => x = .slice none 0 0) e := by
  have hne : ((e : Int) == 0) = false := by simpa using he
  go_enter Try.func92, Try.ntmps92
  go_wp2_with (go_at_call 84; refine H.mono ?_; rintro e w' ⟨rfl, hr, hg⟩)
  go_ret2
  exact ⟨_, rfl, rfl, hr, hg⟩

set_option maxHeartbeats 3200000 in
set_option maxRecDepth 1000000 in
theorem take1_ok (w : World) (rb c1 c2 : Nat) (v : Value) (L : List Int) (k0 n : Nat) (most : Int) (h : Rdr w rb v L k0) (hn : n ≤ 8796093022208) (hc1 : w.cell? ⟨c1, 0, none⟩ = some (.int .i64 most)) (hc2 : w.cell? ⟨c2, 0, none⟩ = some (.func (.func 48) #[] #[])) (hne : c2 ≠ rb) (k : Nat)
    (H : Calls Try.prog 84 #[rp rb, .int .i64 most] w fun en w' => en = .returned (.tuple #[.int .u64 n, .int .i64 0]) ∧ Rdr w' rb v L k ∧ w.grownBy w' (some rb)) :
    ReadsD 92 c1 c2 w rb v L (rdA L n [] k).2.1 (fun w' x => w'.ownsRow w.heap.size 84 2 x (rdA L n [] k).1.length (cellsP (rdA L n [] k).1)) (rdA L n [] k).2.2 := by
  obtain ⟨i1, hi, hz0, hz1, hz2⟩ := info_parts Try.info84
  have N0 := h.far
  have hlt2 : c2 < w.heap.size := World.block_lt_of_cell? w ⟨c2, 0, none⟩ hc2
  have HC2 : Hid (w.cell? ⟨c2, 0, none⟩ = some (.func (.func 48) #[] #[])) := hc2
  have HN0 : Hid (rb < w.heap.size ∧ ∀ g, v.ownBlock = some g → g < w.heap.size) := N0
  clear hc2 N0 h
  go_enter Try.func92, Try.ntmps92
  go_wp2_with (go_at_call 84; refine H.mono ?_; rintro e w' ⟨rfl, hr, hg⟩)
  go_loopw [8, 21] (fun x i wr => ∃ (m kk : Nat) (acc : List (Nat × Nat)), m ≤ n ∧ i = .int .u64 m ∧ acc.length = m ∧ wr.ownsRow w.heap.size 84 2 x m (cellsP acc) ∧ Rdr wr rb v L kk ∧ w.grownBy wr (some rb) ∧ rdA L (n - m) acc kk = rdA L n [] k)
    (fun _ i _ => n - (RowKit.intOf i).toNat)
  case atStart => exact ⟨0, k, [], Nat.zero_le _, rfl, rfl, World.ownsRow_nil _ _ _ _, hr, hg, rfl⟩
  case round =>
    obtain ⟨m, kk, acc, hm, rfl, hal, hown, hrr, hgr, heq⟩ := hrel
    have HE : Hid (rdA L (n - m) acc kk = rdA L n [] k) := heq
    have HAL : Hid (acc.length = m) := hal
    have hc2r := (cell_grown hgr (a := ⟨c2, 0, none⟩) hlt2 (by intro e; cases e; exact hne rfl)).trans HC2.out
    have hP := pair_any wr rb v L kk hrr
    clear heq hal hr hg H
    by_cases hlt : m < n
    · have hst : rdA L (n - m) acc kk = if (pR L kk).2.2 ≠ 0 then ([], (pR L kk).2.1, (pR L kk).2.2) else rdA L (n - (m + 1)) (acc ++ [(pR L kk).1]) (pR L kk).2.1 := by
        rw [show n - m = (n - (m + 1)) + 1 by omega]; rfl
      have HST : Hid (rdA L n [] k = if (pR L kk).2.2 ≠ 0 then ([], (pR L kk).2.1, (pR L kk).2.2) else rdA L (n - (m + 1)) (acc ++ [(pR L kk).1]) (pR L kk).2.1) := HE.out.symm.trans hst
      clear hst HE
      revert hP HST
      generalize pR L kk = r
      obtain ⟨⟨a, b⟩, j, e⟩ := r
      simp only []
      intro hP HST
      by_cases he : e = 0
      · subst he
        have HS2 : Hid (rdA L (n - (m + 1)) (acc ++ [(a, b)]) j = rdA L n [] k) := by have q := HST.out; rw [if_neg (by simp)] at q; exact q.symm
        clear HST
        go_wp2_with fail
        refine hP.out.mono ?_
        rintro e w2 ⟨rfl, hr2, hg2⟩
        have ho2 : w2.ownsRow w.heap.size 84 2 u8 m (cellsP acc) := hown.kept hg2 (by
          cases hu : u8.ownBlock with
          | none => exact .inl rfl
          | some g => right; have := (hown.lt g hu).1; have := HN0.out.1; intro e; cases e; omega)
        have g2 := grownBy_trans hgr hg2
        have hb2 := g2.size
        have HO : Hid (w2.ownsRow w.heap.size 84 2 u8 m (cellsP acc)) := ho2
        clear hown hrr hgr hg2 ho2 hP
        go_wp2_with (at_builtin; refine wpList_append_own _ rfl _ _ 83 rfl w.heap.size 84 i1 (.agg #[.int .u64 0, .int .u64 0]) 2 16 Try.underlying83 hi hz0 hz1 hz2 rfl (by decide) _ _ _ rfl ((HO.out.alloc _).alloc _) ⟨w2.heap.size + 1, 0, none⟩ 1 1 [.int .u64 a, .int .u64 b] (by first | rfl | simp) rfl ?d1 ?d2 ?d3 ?d4 ?d5 ?_)
        case d1 =>
          intro q u hq
          match q, hq with
          | 0, hq => simp at hq; subst hq; simp [Addr.add]
          | 1, hq => simp at hq; subst hq; simp [Addr.add]
        case d2 => intro u hu; simp at hu; rcases hu with rfl | rfl <;> rfl
        case d3 => unfold maxLen; omega
        case d4 => omega
        case d5 => simp; omega
        intro v' w3 ho3 hg3 _
        have R3 : Rdr w3 rb v L j := ((hr2.al _).al _).kept hg3 (by
          intro e; have := (HO.out.lt _ e).1; have := HN0.out.1; omega) (by
          cases hu : v.ownBlock with
          | none => exact .inl rfl
          | some g => right; intro e; have := (HO.out.lt _ e.symm).1; have := HN0.out.2 g hu; omega)
        have G3 : w.grownBy w3 (some rb) := own_grown (grownBy_trans (grownBy_trans g2 (World.grownBy_alloc _ _ _)) (World.grownBy_alloc _ _ _)) hg3 (fun g hg => (HO.out.lt g hg).1)
        clear hg3 g2 hr2 hc2r
        go_wp2
        go_roundw
        case rel => exact ⟨m + 1, j, acc ++ [(a, b)], by omega, by go_num, by simp [HAL.out], by rw [cellsP_snoc]; exact ho3, R3, G3, HS2.out⟩
        case measure => simp [RowKit.intOf]; omega
      · have hne2 : ((e : Int) == 0) = false := by simpa using he
        have HS2 : Hid (rdA L n [] k = ([], j, e)) := by have q := HST.out; rw [if_pos he] at q; exact q
        clear HST
        go_wp2_with (go_at_call 48; refine hP.out.mono ?_; rintro e w2 ⟨rfl, hr2, hg2⟩)
        go_ret2
        rw [HS2.out]
        exact ⟨_, rfl, World.ownsRow_nil _ _ _ _, hr2.al _, grownBy_trans (grownBy_trans hgr hg2) (World.grownBy_alloc _ _ _)⟩
    · obtain rfl : m = n := by omega
      go_wp2
      go_ret2
      have e1 : rdA L m [] k = (acc, kk, 0) := by rw [← HE.out, Nat.sub_self]; rfl
      rw [e1]
      refine ⟨_, rfl, ?_, hrr, hgr⟩
      simp only []
      rw [HAL.out]
      exact hown

theorem take1_any (w : World) (rb c1 c2 : Nat) (v : Value) (L : List Int) (k most : Nat) (h : Rdr w rb v L k) (hm : most ≤ 8796093022208) (hc1 : w.cell? ⟨c1, 0, none⟩ = some (.int .i64 most)) (hc2 : w.cell? ⟨c2, 0, none⟩ = some (.func (.func 48) #[] #[])) (hne : c2 ≠ rb) :
    ((cnt most L k).2.2 ≠ 0 ∧ ReadsD 92 c1 c2 w rb v L (cnt most L k).2.1 (fun _ x => x = .slice none 0 0) (cnt most L k).2.2) ∨
    ((cnt most L k).2.2 = 0 ∧ ReadsD 92 c1 c2 w rb v L (rdA L (cnt most L k).1 [] (cnt most L k).2.1).2.1 (fun w' x => w'.ownsRow w.heap.size 84 2 x (rdA L (cnt most L k).1 [] (cnt most L k).2.1).1.length (cellsP (rdA L (cnt most L k).1 [] (cnt most L k).2.1).1)) (rdA L (cnt most L k).1 [] (cnt most L k).2.1).2.2) := by
  have H := count_any w rb v L k most h (by omega)
  have hle : (cnt most L k).2.2 = 0 → (cnt most L k).1 ≤ most := by
    unfold cnt
    rw [if_neg (by omega)]
    split
    · rename_i h1; intro h2; exact absurd h2 h1
    · split
      · intro h2; simp at h2
      · rename_i h1; intro _; simp only []; omega
  by_cases he : (cnt most L k).2.2 = 0
  · right
    refine ⟨he, ?_⟩
    rw [he] at H
    exact take1_ok w rb c1 c2 v L k _ most h (by have := hle he; omega) hc1 hc2 hne _ H
  · left
    exact ⟨he, take1_err w rb c1 c2 v L _ _ _ most he hc1 H⟩

abbrev fo : Obj := .cells #[.func (.func 48) #[] #[]] 89
abbrev mo (most : Nat) : Obj := .cells #[.int .i64 most] 3

set_option maxHeartbeats 1600000 in
set_option maxRecDepth 1000000 in
theorem take_ok (w : World) (rb : Nat) (v : Value) (L : List Int) (k j most : Nat) (X : World → Value → Prop) (h : Rdr w rb v L k)
    (H : ReadsD 92 w.heap.size (w.heap.size + 1) ((w.alloc (mo most)).alloc fo) rb v L j X 0) :
    Calls Try.prog 47 #[rp rb, .int .i64 most, .func (.func 48) #[] #[]] w fun en w' => ∃ x, en = .returned (.tuple #[x, .int .i64 0]) ∧ X w' x ∧ Rdr w' rb v L j ∧ w.grownBy w' (some rb) := by
  have q := fun w => eql_fn_some w 89 Try.underlying89
  have h0 : Hid (Rdr ((w.alloc (mo most)).alloc fo) rb v L k) := (h.al _).al _
  have h1 := h0.out.c1
  go_enter Try.func47, Try.ntmps47
  go_wp2_with (first | (go_at_call 91; go_in) | (go_at_call 73; refine (there_any _ rb v L k h0.out).mono ?_; rintro e w' ⟨rfl, rfl⟩) | (go_at_call 92; refine H.out.mono ?_; rintro e w' ⟨x, rfl, hX, hr, hg⟩))
  go_ret2
  exact ⟨x, rfl, hX, hr, grownBy_trans (grownBy_trans (World.grownBy_alloc _ _ _) (World.grownBy_alloc _ _ _)) hg⟩
set_option maxHeartbeats 1600000 in
set_option maxRecDepth 1000000 in
theorem take_no (w : World) (rb : Nat) (v : Value) (L : List Int) (k j most e : Nat) (X : World → Value → Prop) (h : Rdr w rb v L k) (he : e ≠ 0)
    (H : ReadsD 92 w.heap.size (w.heap.size + 1) ((w.alloc (mo most)).alloc fo) rb v L j X e) :
    Calls Try.prog 47 #[rp rb, .int .i64 most, .func (.func 48) #[] #[]] w fun en w' => ∃ x, en = .returned (.tuple #[x, .int .i64 e]) ∧ x = .slice none 0 0 ∧ Rdr w' rb v L k ∧ w.grownBy w' (some rb) := by
  have q := fun w => eql_fn_some w 89 Try.underlying89
  have hne : ((e : Int) == 0) = false := by simpa using he
  have h0 : Hid (Rdr ((w.alloc (mo most)).alloc fo) rb v L k) := (h.al _).al _
  have h1 := h0.out.c1
  go_enter Try.func47, Try.ntmps47
  go_wp2_with (first | (go_at_call 91; go_in) | (go_at_call 73; refine (there_any _ rb v L k h0.out).mono ?_; rintro e w' ⟨rfl, rfl⟩) | (go_at_call 92; refine H.out.mono ?_; rintro e w' ⟨x, rfl, hX, hr, hg⟩; have hr1 := hr.fr 1; have hr0 := hr.c1))
  go_ret2
  exact ⟨_, rfl, rfl, hr.back (grownBy_trans (grownBy_trans (World.grownBy_alloc _ _ _) (World.grownBy_alloc _ _ _)) hg) h.le⟩

/-- What Take answers: the pairs, where the reader stands, the error. -/
def tR (most : Nat) (L : List Int) (k : Nat) : List (Nat × Nat) × Nat × Nat :=
  if (cnt most L k).2.2 ≠ 0 then ([], k, (cnt most L k).2.2)
  else if (rdA L (cnt most L k).1 [] (cnt most L k).2.1).2.2 ≠ 0 then ([], k, (rdA L (cnt most L k).1 [] (cnt most L k).2.1).2.2)
  else rdA L (cnt most L k).1 [] (cnt most L k).2.1

theorem take_any (w : World) (rb : Nat) (v : Value) (L : List Int) (k most : Nat) (h : Rdr w rb v L k) (hm : most ≤ 8796093022208) :
    Calls Try.prog 47 #[rp rb, .int .i64 most, .func (.func 48) #[] #[]] w fun en w' => ∃ x, en = .returned (.tuple #[x, .int .i64 (tR most L k).2.2]) ∧ w'.ownsRow w.heap.size 84 2 x (tR most L k).1.length (cellsP (tR most L k).1) ∧
      Rdr w' rb v L (tR most L k).2.1 ∧ w.grownBy w' (some rb) := by
  have hl := h.lt
  have T := take1_any ((w.alloc (mo most)).alloc fo) rb w.heap.size (w.heap.size + 1) v L k most ((h.al _).al _) hm (by simp) (by have := heap_alloc_new (w.alloc (mo most)) fo; simp at this; simp [World.cell?, this]) (by omega)
  have sz : w.heap.size ≤ ((w.alloc (mo most)).alloc fo).heap.size := by simp; omega
  unfold tR
  rcases T with ⟨he, T⟩ | ⟨he, T⟩
  · rw [if_pos he]
    refine (take_no w rb v L k _ most _ _ h he T).mono ?_
    rintro e w' ⟨x, rfl, rfl, hr, hg⟩
    exact ⟨_, rfl, World.ownsRow_nil _ _ _ _, hr, hg⟩
  · rw [if_neg (by simpa using he)]
    by_cases h2 : (rdA L (cnt most L k).1 [] (cnt most L k).2.1).2.2 = 0
    · rw [if_neg (by simpa using h2)]
      rw [h2] at T
      refine (take_ok w rb v L k _ most _ h T).mono ?_
      rintro e w' ⟨x, rfl, hx, hr, hg⟩
      refine ⟨x, by rw [h2]; rfl, ?_, hr, hg⟩
      refine ⟨hx.1, ?_⟩
      rcases hx.2 with hn | ⟨g, cap, cur, a, b, c⟩
      · exact .inl hn
      · exact .inr ⟨g, cap, cur, a, Nat.le_trans sz b, c⟩
    · rw [if_pos h2]
      refine (take_no w rb v L k _ most _ _ h h2 T).mono ?_
      rintro e w' ⟨x, rfl, rfl, hr, hg⟩
      exact ⟨_, rfl, World.ownsRow_nil _ _ _ _, hr, hg⟩
end Go.Proofs.Ytanbnefdodkniaa
