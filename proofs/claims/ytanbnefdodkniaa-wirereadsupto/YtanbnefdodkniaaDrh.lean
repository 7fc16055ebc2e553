/-
  Lists of numbers: what Take answers by Number; the document's Numbers.
-/
import Derived.Test.YtanbnefdodkniaaDrg
import Derived.Test.YtanbnefdodkniaaTak
namespace Go.Proofs.Ytanbnefdodkniaa
open Go.RowKit Go.Lib Go.Sort

theorem Try.info22 : (Try.prog.info? 22).map (fun i => (i.zero, i.size, i.bytes)) = some (some (.int .u64 0), 1, 8) := by kernel_rfl

/-- Numbers as cells. -/
def cellsN (P : List Nat) : List Value := P.map fun (n : Nat) => Value.int .u64 (n : Int)
theorem cellsN_len (P : List Nat) : (cellsN P).length = P.length := by simp [cellsN]
theorem cellsN_snoc (P : List Nat) (p : Nat) : cellsN (P ++ [p]) = cellsN P ++ [Value.int .u64 (p : Int)] := by simp [cellsN]

/-- Numbers read one behind the other. -/
def rdB (L : List Int) : Nat → List Nat → Nat → List Nat × Nat × Nat
  | 0, acc, k => (acc, k, 0)
  | n + 1, acc, k => if (nR L k).2.2 ≠ 0 then ([], (nR L k).2.1, (nR L k).2.2) else rdB L n (acc ++ [(nR L k).1]) (nR L k).2.1

theorem nR_le (L : List Int) (k : Nat) (hk : k ≤ L.length) : (nR L k).2.1 ≤ L.length := by
  have hcount := rdN_count (L.drop k) 0 0
  rw [List.length_drop] at hcount
  unfold nR
  simp only []
  omega

set_option maxHeartbeats 1600000 in
set_option maxRecDepth 1000000 in
theorem takeN1_err (w : World) (rb c1 c2 : Nat) (v : Value) (L : List Int) (j n e : Nat) (most : Int) (he : e ≠ 0) (hc1 : w.cell? ⟨c1, 0, none⟩ = some (.int .i64 most))
    (H : Calls Try.prog 84 #[rp rb, .int .i64 most] w fun en w' => en = .returned (.tuple #[.int .u64 n, .int .i64 e]) ∧ Rdr w' rb v L j ∧ w.grownBy w' (some rb)) :
    ReadsD 105 c1 c2 w rb v L j (fun _ x => x = .slice none 0 0) e := by
  have hne : ((e : Int) == 0) = false := by simpa using he
  go_enter Try.func105, Try.ntmps105
  go_wp2_with (go_at_call 84; refine H.mono ?_; rintro e w' ⟨rfl, hr, hg⟩)
  go_ret2
  exact ⟨_, rfl, rfl, hr, hg⟩

set_option maxHeartbeats 3200000 in
set_option maxRecDepth 1000000 in
theorem takeN1_ok (w : World) (rb c1 c2 : Nat) (v : Value) (L : List Int) (k0 n : Nat) (most : Int) (h : Rdr w rb v L k0) (hL : L.length ≤ 1048576) (hn : n < 18446744073709551616) (hc1 : w.cell? ⟨c1, 0, none⟩ = some (.int .i64 most)) (hc2 : w.cell? ⟨c2, 0, none⟩ = some (.func (.func 36) #[] #[])) (hne : c2 ≠ rb) (k : Nat)
    (H : Calls Try.prog 84 #[rp rb, .int .i64 most] w fun en w' => en = .returned (.tuple #[.int .u64 n, .int .i64 0]) ∧ Rdr w' rb v L k ∧ w.grownBy w' (some rb)) (X : List Nat) (J E : Nat) (HX : Hid (rdB L n [] k = (X, J, E))) :
    ReadsD 105 c1 c2 w rb v L J (fun w' x => w'.ownsRow w.heap.size 22 1 x X.length (cellsN X)) E := by
  obtain ⟨i1, hi, hz0, hz1, hz2⟩ := info_parts Try.info22
  have N0 := h.far
  have hlt2 : c2 < w.heap.size := World.block_lt_of_cell? w ⟨c2, 0, none⟩ hc2
  have HC2 : Hid (w.cell? ⟨c2, 0, none⟩ = some (.func (.func 36) #[] #[])) := hc2
  have HN0 : Hid (rb < w.heap.size ∧ ∀ g, v.ownBlock = some g → g < w.heap.size) := N0
  clear hc2 N0 h
  go_enter Try.func105, Try.ntmps105
  go_wp2_with (go_at_call 84; refine H.mono ?_; rintro e w' ⟨rfl, hr, hg⟩)
  go_loopw [8, 21] (fun x i wr => ∃ (m kk : Nat) (acc : List Nat), m ≤ n ∧ i = .int .u64 m ∧ acc.length = m ∧ m ≤ kk ∧ wr.ownsRow w.heap.size 22 1 x m (cellsN acc) ∧ Rdr wr rb v L kk ∧ w.grownBy wr (some rb) ∧ rdB L (n - m) acc kk = rdB L n [] k)
    (fun _ i _ => n - (RowKit.intOf i).toNat)
  case atStart => exact ⟨0, k, [], Nat.zero_le _, rfl, rfl, Nat.zero_le _, World.ownsRow_nil _ _ _ _, hr, hg, rfl⟩
  case round =>
    obtain ⟨m, kk, acc, hm, rfl, hal, hmk, hown, hrr, hgr, heq⟩ := hrel
    have HE : Hid (rdB L (n - m) acc kk = rdB L n [] k) := heq
    have HAL : Hid (acc.length = m) := hal
    have hc2r := (cell_grown hgr (a := ⟨c2, 0, none⟩) hlt2 (by intro e; cases e; exact hne rfl)).trans HC2.out
    have hkl := hrr.le
    have hP := fun x j e hn => number_n wr rb v L kk x j e hn hrr
    clear heq hal hr hg H
    by_cases hlt : m < n
    · have hst : rdB L (n - m) acc kk = if (nR L kk).2.2 ≠ 0 then ([], (nR L kk).2.1, (nR L kk).2.2) else rdB L (n - (m + 1)) (acc ++ [(nR L kk).1]) (nR L kk).2.1 := by
        rw [show n - m = (n - (m + 1)) + 1 by omega]; rfl
      have HST : Hid ((X, J, E) = if (nR L kk).2.2 ≠ 0 then ([], (nR L kk).2.1, (nR L kk).2.2) else rdB L (n - (m + 1)) (acc ++ [(nR L kk).1]) (nR L kk).2.1) := HX.out.symm.trans (HE.out.symm.trans hst)
      have hF := fun x j e hn => nR_facts (L := L) (k := kk) (n := x) (j := j) (e := e) hn
      clear hst HE
      revert hP HST hF
      generalize nR L kk = r
      obtain ⟨a, j, e⟩ := r
      simp only []
      intro hP HST hF
      have hP := hP a j e rfl
      have hF := hF a j e rfl
      by_cases he : e = 0
      · subst he
        have hj : kk < j := by omega
        have HS2 : Hid (rdB L (n - (m + 1)) (acc ++ [a]) j = rdB L n [] k) := by have q := HST.out; rw [if_neg (by simp)] at q; rw [← q, HX.out]; rfl
        clear HST hF
        go_wp2_with fail
        refine hP.out.mono ?_
        rintro e w2 ⟨rfl, hr2, hg2⟩
        have ho2 : w2.ownsRow w.heap.size 22 1 u8 m (cellsN acc) := hown.kept hg2 (by
          cases hu : u8.ownBlock with
          | none => exact .inl rfl
          | some g => right; have := (hown.lt g hu).1; have := HN0.out.1; intro e; cases e; omega)
        have g2 := grownBy_trans hgr hg2
        have hb2 := g2.size
        have HO : Hid (w2.ownsRow w.heap.size 22 1 u8 m (cellsN acc)) := ho2
        clear hown hrr hgr hg2 ho2 hP
        go_wp2_with (at_builtin; refine wpList_append_own _ rfl _ _ 154 rfl w.heap.size 22 i1 (.int .u64 0) 1 8 Try.underlying154 hi hz0 hz1 hz2 rfl (by decide) _ _ _ rfl (HO.out.alloc _) ⟨w2.heap.size, 0, none⟩ 1 1 [.int .u64 a] (by first | rfl | simp) rfl ?d1 ?d2 ?d3 ?d4 ?d5 ?_)
        case d1 =>
          intro q u hq
          match q, hq with
          | 0, hq => simp at hq; subst hq; simp [Addr.add]
        case d2 => intro u hu; simp at hu; subst hu; rfl
        case d3 => unfold maxLen; omega
        case d4 => omega
        case d5 => simp; omega
        intro v' w3 ho3 hg3 _
        have R3 : Rdr w3 rb v L j := (hr2.al _).kept hg3 (by
          intro e; have := (HO.out.lt _ e).1; have := HN0.out.1; omega) (by
          cases hu : v.ownBlock with
          | none => exact .inl rfl
          | some g => right; intro e; have := (HO.out.lt _ e.symm).1; have := HN0.out.2 g hu; omega)
        have G3 : w.grownBy w3 (some rb) := own_grown (grownBy_trans g2 (World.grownBy_alloc _ _ _)) hg3 (fun g hg => (HO.out.lt g hg).1)
        clear hg3 g2 hr2 hc2r
        go_wp2
        go_roundw
        case rel => exact ⟨m + 1, j, acc ++ [a], by omega, by go_num, by simp [HAL.out], by omega, by rw [cellsN_snoc]; exact ho3, R3, G3, HS2.out⟩
        case measure => simp [RowKit.intOf]; omega
      · have hne2 : ((e : Int) == 0) = false := by simpa using he
        obtain ⟨rfl, rfl, rfl⟩ : X = [] ∧ J = j ∧ E = e := by have q := HST.out; rw [if_pos he] at q; simpa using q
        clear HST hF
        go_wp2_with (go_at_call 36; refine hP.out.mono ?_; rintro e w2 ⟨rfl, hr2, hg2⟩)
        go_ret2
        exact ⟨_, rfl, World.ownsRow_nil _ _ _ _, hr2, grownBy_trans hgr hg2⟩
    · obtain rfl : m = n := by omega
      obtain ⟨rfl, rfl, rfl⟩ : X = acc ∧ J = kk ∧ E = 0 := by have q := HE.out; rw [Nat.sub_self, HX.out] at q; simp [rdB] at q; exact ⟨q.1.symm, q.2.1.symm, q.2.2.symm⟩
      go_wp2
      go_ret2
      refine ⟨_, rfl, ?_, hrr, hgr⟩
      rw [HAL.out]
      exact hown

abbrev fo36 : Obj := .cells #[.func (.func 36) #[] #[]] 123
abbrev moI (most : Int) : Obj := .cells #[.int .i64 most] 3

set_option maxHeartbeats 1600000 in
set_option maxRecDepth 1000000 in
theorem takeN_ok (w : World) (rb : Nat) (v : Value) (L : List Int) (k j : Nat) (most : Int) (X : World → Value → Prop) (h : Rdr w rb v L k)
    (H : ReadsD 105 w.heap.size (w.heap.size + 1) ((w.alloc (moI most)).alloc fo36) rb v L j X 0) :
    Calls Try.prog 101 #[rp rb, .int .i64 most, .func (.func 36) #[] #[]] w fun en w' => ∃ x, en = .returned (.tuple #[x, .int .i64 0]) ∧ X w' x ∧ Rdr w' rb v L j ∧ w.grownBy w' (some rb) := by
  have q := fun w => eql_fn_some w 123 Try.underlying123
  have h0 : Hid (Rdr ((w.alloc (moI most)).alloc fo36) rb v L k) := (h.al _).al _
  have h1 := h0.out.c1
  go_enter Try.func101, Try.ntmps101
  go_wp2_with (first | (go_at_call 104; go_in) | (go_at_call 73; refine (there_any _ rb v L k h0.out).mono ?_; rintro e w' ⟨rfl, rfl⟩) | (go_at_call 105; refine H.out.mono ?_; rintro e w' ⟨x, rfl, hX, hr, hg⟩))
  go_ret2
  exact ⟨x, rfl, hX, hr, grownBy_trans (grownBy_trans (World.grownBy_alloc _ _ _) (World.grownBy_alloc _ _ _)) hg⟩
set_option maxHeartbeats 1600000 in
set_option maxRecDepth 1000000 in
theorem takeN_no (w : World) (rb : Nat) (v : Value) (L : List Int) (k j e : Nat) (most : Int) (X : World → Value → Prop) (h : Rdr w rb v L k) (he : e ≠ 0)
    (H : ReadsD 105 w.heap.size (w.heap.size + 1) ((w.alloc (moI most)).alloc fo36) rb v L j X e) :
    Calls Try.prog 101 #[rp rb, .int .i64 most, .func (.func 36) #[] #[]] w fun en w' => ∃ x, en = .returned (.tuple #[x, .int .i64 e]) ∧ x = .slice none 0 0 ∧ Rdr w' rb v L k ∧ w.grownBy w' (some rb) := by
  have q := fun w => eql_fn_some w 123 Try.underlying123
  have hne : ((e : Int) == 0) = false := by simpa using he
  have h0 : Hid (Rdr ((w.alloc (moI most)).alloc fo36) rb v L k) := (h.al _).al _
  have h1 := h0.out.c1
  go_enter Try.func101, Try.ntmps101
  go_wp2_with (first | (go_at_call 104; go_in) | (go_at_call 73; refine (there_any _ rb v L k h0.out).mono ?_; rintro e w' ⟨rfl, rfl⟩) | (go_at_call 105; refine H.out.mono ?_; rintro e w' ⟨x, rfl, hX, hr, hg⟩; have hr1 := hr.fr 1; have hr0 := hr.c1))
  go_ret2
  exact ⟨_, rfl, rfl, hr.back (grownBy_trans (grownBy_trans (World.grownBy_alloc _ _ _) (World.grownBy_alloc _ _ _)) hg) h.le⟩

/-- What Take by Number answers: the numbers, where the reader stands, the error. -/
def tnR (most : Int) (L : List Int) (k : Nat) : List Nat × Nat × Nat :=
  if (cnt most L k).2.2 ≠ 0 then ([], k, (cnt most L k).2.2)
  else if (rdB L (cnt most L k).1 [] (cnt most L k).2.1).2.2 ≠ 0 then ([], k, (rdB L (cnt most L k).1 [] (cnt most L k).2.1).2.2)
  else rdB L (cnt most L k).1 [] (cnt most L k).2.1

theorem takeN_any (w : World) (rb : Nat) (v : Value) (L : List Int) (k : Nat) (most : Int) (h : Rdr w rb v L k) (hL : L.length ≤ 1048576) (hm : most ≤ 9223372036854775807) :
    Calls Try.prog 101 #[rp rb, .int .i64 most, .func (.func 36) #[] #[]] w fun en w' => ∃ x, en = .returned (.tuple #[x, .int .i64 (tnR most L k).2.2]) ∧ w'.ownsRow w.heap.size 22 1 x (tnR most L k).1.length (cellsN (tnR most L k).1) ∧
      Rdr w' rb v L (tnR most L k).2.1 ∧ w.grownBy w' (some rb) := by
  have hl := h.lt
  have h0 := (h.al (moI most)).al fo36
  have H := count_any ((w.alloc (moI most)).alloc fo36) rb v L k most h0 hm
  have c1 : ((w.alloc (moI most)).alloc fo36).cell? ⟨w.heap.size, 0, none⟩ = some (.int .i64 most) := by simp
  have c2 : ((w.alloc (moI most)).alloc fo36).cell? ⟨w.heap.size + 1, 0, none⟩ = some (.func (.func 36) #[] #[]) := by have := heap_alloc_new (w.alloc (moI most)) fo36; simp at this; simp [World.cell?, this]
  have sz : w.heap.size ≤ ((w.alloc (moI most)).alloc fo36).heap.size := by simp; omega
  unfold tnR
  by_cases he : (cnt most L k).2.2 = 0
  · rw [if_neg (by simpa using he)]
    rw [he] at H
    obtain ⟨X, J, E, hX⟩ : ∃ X J E, rdB L (cnt most L k).1 [] (cnt most L k).2.1 = (X, J, E) := ⟨_, _, _, rfl⟩
    have T := takeN1_ok ((w.alloc (moI most)).alloc fo36) rb w.heap.size (w.heap.size + 1) v L k _ most h0 hL (cnt_val most L k) c1 c2 (by omega) _ H X J E hX
    rw [hX]
    simp only []
    by_cases h2 : E = 0
    · subst h2
      rw [if_neg (by simp)]
      refine (takeN_ok w rb v L k _ most _ h T).mono ?_
      rintro e w' ⟨x, rfl, hx, hr, hg⟩
      refine ⟨x, rfl, ⟨hx.1, ?_⟩, hr, hg⟩
      rcases hx.2 with hn | ⟨g, cap, cur, a, b, c⟩
      · exact .inl hn
      · exact .inr ⟨g, cap, cur, a, Nat.le_trans sz b, c⟩
    · rw [if_pos h2]
      refine (takeN_no w rb v L k _ _ most _ h h2 T).mono ?_
      rintro e w' ⟨x, rfl, rfl, hr, hg⟩
      exact ⟨_, rfl, World.ownsRow_nil _ _ _ _, hr, hg⟩
  · rw [if_pos he]
    refine (takeN_no w rb v L k _ _ most _ h he (takeN1_err _ rb _ _ v L _ _ _ most he c1 H)).mono ?_
    rintro e w' ⟨x, rfl, rfl, hr, hg⟩
    exact ⟨_, rfl, World.ownsRow_nil _ _ _ _, hr, hg⟩
end Go.Proofs.Ytanbnefdodkniaa
