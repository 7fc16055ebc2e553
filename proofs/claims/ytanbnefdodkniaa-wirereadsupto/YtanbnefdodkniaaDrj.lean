/-
  The document's Numbers.
-/
import Derived.Test.YtanbnefdodkniaaDrh
namespace Go.Proofs.Ytanbnefdodkniaa
open Go.RowKit Go.Lib Go.Sort

/-- The document's Numbers: the numbers X, the error e, the reader at j. -/
def DReadsN (w : World) (db most : Nat) (v : Value) (L : List Int) (j : Nat) (X : List Nat) (e : Nat) : Prop :=
  Calls Try.prog 102 #[rp db, .int .i64 most] w fun en w' => ∃ x, en = .returned (.tuple #[x, .int .i64 e]) ∧ w'.ownsRow w.heap.size 22 1 x X.length (cellsN X) ∧ DRdr w' db v L j ∧ w.grownBy w' (some db)

set_option maxHeartbeats 1600000 in
set_option maxRecDepth 1000000 in
theorem dnums_err (w : World) (db most : Nat) (v : Value) (L : List Int) (k j n e : Nat) (h : DRdr w db v L k) (he : e ≠ 0) (H : DReads 64 w db v L j (.int .u64 n) e) : DReadsN w db most v L k [] e := by
  have hne : ((e : Int) == 0) = false := by simpa using he
  have hk := h.le
  have h1 := h.c1
  go_enter Try.func102, Try.ntmps102
  go_wp2_with (go_at_call 64; refine H.out.mono ?_; rintro e w' ⟨rfl, hr, hg⟩; have hr0 := hr.c1; have hr1 := hr.fr 1)
  go_loopw [8, 9, 10] (fun x l i wr => x = .int .i64 e ∧ l = .slice none 0 0 ∧ i = .int .u64 0 ∧ wr = w') (fun _ _ _ _ => 0)
  case atStart => exact ⟨rfl, rfl, rfl, rfl⟩
  case round =>
    obtain ⟨rfl, rfl, rfl, rfl⟩ := hrel
    go_wp2
    go_ret2
    exact ⟨_, rfl, World.ownsRow_nil _ _ _ _, hr.back hg hk⟩
set_option maxHeartbeats 1600000 in
set_option maxRecDepth 1000000 in
theorem dnums_long (w : World) (db most : Nat) (v : Value) (L : List Int) (k j n : Nat) (h : DRdr w db v L k) (hm : most ≤ 9223372036854775807) (hn : most < n) (H : DReads 64 w db v L j (.int .u64 n) 0) : DReadsN w db most v L k [] 3 := by
  have hk := h.le
  have h1 := h.c1
  have hn2 : (most : Int) < n := by omega
  go_enter Try.func102, Try.ntmps102
  go_wp2_with (go_at_call 64; refine H.out.mono ?_; rintro e w' ⟨rfl, hr, hg⟩; have hr0 := hr.c1; have hr1 := hr.fr 1)
  go_loopw [8, 9, 10] (fun x l i wr => x = .int .i64 3 ∧ l = .slice none 0 0 ∧ i = .int .u64 0 ∧ wr = w') (fun _ _ _ _ => 0)
  case atStart => exact ⟨rfl, rfl, rfl, rfl⟩
  case round =>
    obtain ⟨rfl, rfl, rfl, rfl⟩ := hrel
    go_wp2
    go_ret2
    exact ⟨_, rfl, World.ownsRow_nil _ _ _ _, hr.back hg hk⟩

set_option maxHeartbeats 3200000 in
set_option maxRecDepth 1000000 in
theorem dnums_ok (w : World) (db most : Nat) (v : Value) (L : List Int) (k j n : Nat) (h : DRdr w db v L k) (hL : L.length ≤ 1048576) (hm : most ≤ 9223372036854775807) (hn : n ≤ most) (H : DReads 64 w db v L j (.int .u64 n) 0)
    (X : List Nat) (J E : Nat) (HX : Hid (rdB L n [] j = (X, J, E))) (Y : List Nat) (K : Nat) (HY : Hid (E = 0 → Y = X ∧ K = J)) (HZ : Hid (E ≠ 0 → Y = [] ∧ K = k)) : DReadsN w db most v L K Y E := by
  obtain ⟨i1, hi, hz0, hz1, hz2⟩ := info_parts Try.info22
  have hk := h.le
  have h1 := h.c1
  have N0 := h.far
  have hl := h.lt
  have hn2 : (n : Int) ≤ most := by omega
  go_enter Try.func102, Try.ntmps102
  go_wp2_with (go_at_call 64; refine H.out.mono ?_; rintro e w' ⟨rfl, hr, hg⟩)
  have hdec : decide (most < n) = false := by simp; omega
  rw [hdec]
  go_loopw [8, 9, 10] (fun x l i wr => ∃ (m kk ee : Nat) (acc : List Nat), m ≤ n ∧ x = .int .i64 ee ∧ i = .int .u64 m ∧ acc.length = m ∧ wr.ownsRow w.heap.size 22 1 l m (cellsN acc) ∧ DRdr wr db v L kk ∧ w.grownBy wr (some db) ∧ (ee = 0 ∧ m ≤ kk ∧ rdB L (n - m) acc kk = rdB L n [] j ∨ ee ≠ 0 ∧ E = ee))
    (fun _ _ i _ => n - (RowKit.intOf i).toNat)
  case atStart => exact ⟨0, j, 0, [], Nat.zero_le _, rfl, rfl, rfl, World.ownsRow_nil _ _ _ _, hr, hg, .inl ⟨rfl, Nat.zero_le _, rfl⟩⟩
  case round =>
    obtain ⟨m, kk, ee, acc, hmn, rfl, rfl, hal, hown, hrr, hgr, hee⟩ := hrel
    have HAL : Hid (acc.length = m) := hal
    have hkl := hrr.le
    have s1 := hrr.c1
    have s2 := hrr.fr 1
    clear hal hr hg H h1
    rcases hee with ⟨rfl, hmk, heq⟩ | ⟨hne, rfl⟩
    · have HE : Hid (rdB L (n - m) acc kk = rdB L n [] j) := heq
      clear heq
      by_cases hlt : m < n
      · have hst : rdB L (n - m) acc kk = if (nR L kk).2.2 ≠ 0 then ([], (nR L kk).2.1, (nR L kk).2.2) else rdB L (n - (m + 1)) (acc ++ [(nR L kk).1]) (nR L kk).2.1 := by
          rw [show n - m = (n - (m + 1)) + 1 by omega]; rfl
        have HST : Hid ((X, J, E) = if (nR L kk).2.2 ≠ 0 then ([], (nR L kk).2.1, (nR L kk).2.2) else rdB L (n - (m + 1)) (acc ++ [(nR L kk).1]) (nR L kk).2.1) := HX.out.symm.trans (HE.out.symm.trans hst)
        have hF := fun x j e hn => nR_facts (L := L) (k := kk) (n := x) (j := j) (e := e) hn
        have hP := fun x j e hn => dnumber_n wr db v L kk x j e hn hrr
        have hjl := nR_le L kk hkl
        clear hst HE
        revert HST hF hP hjl
        generalize nR L kk = r
        obtain ⟨a, i, e⟩ := r
        simp only []
        intro HST hF hP hjl
        have hP := hP a i e rfl
        have hF := hF a i e rfl
        have HS2 : Hid (e = 0 ∧ m + 1 ≤ i ∧ rdB L (n - (m + 1)) (acc ++ [a]) i = rdB L n [] j ∨ e ≠ 0 ∧ E = e) := by
          have q := HST.out
          by_cases he : e = 0
          · left; rw [if_neg (by simpa using he)] at q; exact ⟨he, by omega, by rw [← q, HX.out]⟩
          · right; rw [if_pos he] at q; simp at q; exact ⟨he, q.2.2⟩
        clear HST hF
        go_wp2_with fail
        refine hP.out.mono ?_
        rintro e w2 ⟨rfl, hr2, hg2⟩
        have ho2 : w2.ownsRow w.heap.size 22 1 u9 m (cellsN acc) := hown.kept hg2 (by
          cases hu : u9.ownBlock with
          | none => exact .inl rfl
          | some g => right; have := (hown.lt g hu).1; intro e; cases e; omega)
        have g2 := grownBy_trans hgr hg2
        have hb2 := g2.size
        have HO : Hid (w2.ownsRow w.heap.size 22 1 u9 m (cellsN acc)) := ho2
        clear hown hrr hgr hg2 ho2 hP s1 s2
        go_wp2_with (at_builtin; refine wpList_append_own _ rfl _ _ 154 rfl w.heap.size 22 i1 (.int .u64 0) 1 8 Try.underlying154 hi hz0 hz1 hz2 rfl (by decide) _ _ _ rfl (HO.out.alloc _) ⟨w2.heap.size, 0, none⟩ 1 1 [.int .u64 a] (by first | rfl | simp) rfl ?d1 ?d2 ?d3 ?d4 ?d5 ?_)
        case d1 =>
          intro q u hq
          match q, hq with
          | 0, hq => simp at hq; subst hq; simp [Addr.add]
        case d2 => intro u hu; simp at hu; subst hu; rfl
        case d3 => unfold maxLen; omega
        case d4 => omega
        case d5 => simp; omega
        intro v' w3 ho3 hg3 _
        have R3 : DRdr w3 db v L i := (hr2.al _).kept hg3 (by
          intro e; have := (HO.out.lt _ e).1; omega) (fun r e => N0.mono (HO.out.lt _ e).1)
        have G3 : w.grownBy w3 (some db) := own_grown (grownBy_trans g2 (World.grownBy_alloc _ _ _)) hg3 (fun g hg => (HO.out.lt g hg).1)
        clear hg3 g2 hr2
        go_wp2
        go_roundw
        case rel => exact ⟨m + 1, i, _, acc ++ [a], by omega, rfl, by go_num, by simp [HAL.out], by rw [cellsN_snoc]; exact ho3, R3, G3, HS2.out⟩
        case measure => simp [RowKit.intOf]; omega
      · obtain rfl : m = n := by omega
        obtain ⟨rfl, rfl, rfl⟩ : X = acc ∧ J = kk ∧ E = 0 := by have q := HE.out; rw [Nat.sub_self, HX.out] at q; simp [rdB] at q; exact ⟨q.1.symm, q.2.1.symm, q.2.2.symm⟩
        obtain ⟨rfl, rfl⟩ := HY.out rfl
        go_wp2
        go_ret2
        refine ⟨_, rfl, ?_, hrr, hgr⟩
        rw [HAL.out]
        exact hown
    · have hneb : ((E : Int) == 0) = false := by simpa using hne
      obtain ⟨rfl, rfl⟩ := HZ.out hne
      go_wp2
      go_ret2
      exact ⟨_, rfl, World.ownsRow_nil _ _ _ _, hrr.back hgr hk⟩

/-- The document's Numbers. -/
theorem dnumbers (w : World) (db most : Nat) (v : Value) (L : List Int) (k : Nat) (h : DRdr w db v L k) (hL : L.length ≤ 1048576) (hm : most ≤ 9223372036854775807) : DReadsN w db most v L (tnR most L k).2.1 (tnR most L k).1 (tnR most L k).2.2 := by
  have H := dnumber w db v L k h
  have hc := rdN_code (L.drop k) 0 0
  obtain ⟨n, c, e, hr⟩ : ∃ n c e, rdN 0 0 (L.drop k) = (n, c, e) := ⟨_, _, _, rfl⟩
  rw [hr] at H hc
  simp only [] at H hc
  have hm0 : ¬ ((most : Int) < 0) := by omega
  by_cases he : e = 0
  · subst he
    rw [if_pos rfl] at H
    by_cases h2 : most < n
    · have hcn : cnt most L k = (0, k + c, 3) := by unfold cnt; rw [hr]; simp only []; rw [if_neg hm0, if_neg (by simp), if_pos (by omega)]
      have ht : tnR most L k = ([], k, 3) := by unfold tnR; rw [hcn]; rfl
      rw [ht]
      exact dnums_long w db most v L k _ n h hm h2 H
    · have hcn : cnt most L k = (n, k + c, 0) := by unfold cnt; rw [hr]; simp only []; rw [if_neg hm0, if_neg (by simp), if_neg (by omega)]
      obtain ⟨X, J, E, hX⟩ : ∃ X J E, rdB L n [] (k + c) = (X, J, E) := ⟨_, _, _, rfl⟩
      have ht : tnR most L k = if E ≠ 0 then ([], k, E) else (X, J, E) := by unfold tnR; rw [hcn]; simp only []; rw [if_neg (by simp), hX]
      rw [ht]
      by_cases hE : E = 0
      · subst hE
        rw [if_neg (by simp)]
        exact dnums_ok w db most v L k _ n h hL hm (by omega) H X J 0 hX _ _ (fun _ => ⟨rfl, rfl⟩) (fun hq => absurd rfl hq)
      · rw [if_pos hE]
        exact dnums_ok w db most v L k _ n h hL hm (by omega) H X J E hX _ _ (fun hq => absurd hq hE) (fun _ => ⟨rfl, rfl⟩)
  · rw [if_neg he] at H
    have hcn : (cnt most L k).2.2 = e := by unfold cnt; rw [hr]; simp only []; rw [if_neg hm0, if_pos he]
    have ht : tnR most L k = ([], k, e) := by unfold tnR; rw [hcn, if_pos he]
    rw [ht]
    exact dnums_err w db most v L k _ _ e h he H
end Go.Proofs.Ytanbnefdodkniaa
