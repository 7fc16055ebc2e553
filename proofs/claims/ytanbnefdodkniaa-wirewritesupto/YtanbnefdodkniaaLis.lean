/-
  The walk over WireLists.
-/
import Derived.Test.YtanbnefdodkniaaLsb
import Derived.ChangeKeysEq
namespace Go.Proofs.Ytanbnefdodkniaa
open Go.RowKit Go.Lib Go.Sort

theorem Try.info22 : (Try.prog.info? 22).map (fun i => (i.zero, i.size, i.bytes)) = some (some (.int .u64 0), 1, 8) := by kernel_rfl
theorem Try.cells22 : Try.prog.cellsOf 22 = 1 := by kernel_rfl
theorem eq22 (w : World) (d : Nat) (a : Nat) : (Op.equalIn (d + 1) 22 (.int .u64 a) (.int .u64 a)).run Try.prog w = .ok true w := by
  simp [Op.equalIn, run_underlying Try.underlying22]
theorem eq84 (w : World) (a b : Nat) : (Op.equalIn 10000 84 (.agg #[.int .u64 a, .int .u64 b]) (.agg #[.int .u64 a, .int .u64 b])).run Try.prog w = .ok true w := by
  obtain ⟨i2, hi2, _, _, _⟩ := info_parts Try.info22
  rw [run_equalIn_array (P := Try.prog) w 9999 _ _ Try.underlying84 hi2, Try.cells22, show List.range 2 = [0, 1] from rfl]
  have e1 := fun w a => eq22 w 9998 a
  simp [Op.eqItems, go_sem, e1]

theorem grownBy_undrew {a b : World} {row : Option Nat} (h : a.drew.grownBy b row) : a.grownBy b row := ⟨h.os, h.tape, h.output, h.size, h.block⟩
theorem grownBy_undrewN {a b : World} {row : Option Nat} {n : Nat} (h : (a.drewN n).grownBy b row) : a.grownBy b row := ⟨h.os, h.tape, h.output, h.size, h.block⟩

theorem ownsRow84_kept {w w' : World} {base n : Nat} {v : Value} {xs : List Value} {row : Option Nat} (h : w.ownsRow base 84 2 v n xs) (hg : w.grownBy w' row) (hne : ∀ g, v.ownBlock = some g → row ≠ some g) : w'.ownsRow base 84 2 v n xs :=
  h.kept hg (by
    cases hv : v.ownBlock with
    | none => exact .inl rfl
    | some g => right; exact fun e => hne g hv e.symm)

theorem own84_any {w : World} {base : Nat} {v : Value} {n : Nat} {xs : List Value} (h : w.ownsRow base 84 2 v n xs) : ∃ ao c, v = .slice ao n c := by
  rcases h.2 with ⟨rfl, rfl⟩ | ⟨g, cap, cur, rfl, _⟩
  · exact ⟨_, _, rfl⟩
  · exact ⟨_, _, rfl⟩
theorem len_own5 {w : World} {base : Nat} {v : Value} {n : Nat} {xs : List Value} (h : w.ownsRow base 5 1 v n xs) (hn : 0 < n) : ∃ g cap, v = .slice (some ⟨g, 0, none⟩) n cap ∧ base ≤ g ∧ g < w.heap.size ∧ n ≤ cap ∧ cap ≤ maxLen := by
  rcases h.2 with ⟨rfl, rfl⟩ | ⟨g, cap, cur, rfl, hb, hg, hc, hm, _⟩
  · omega
  · exact ⟨g, cap, rfl, hb, (Array.getElem?_eq_some_iff.1 hg).1, hc, hm⟩
theorem pairsF_rng (P : List (Nat × Nat)) : ∀ x ∈ pairsF P, 0 ≤ x ∧ x ≤ 255 := by
  intro x hx
  simp only [pairsF, List.mem_flatMap] at hx
  obtain ⟨p, _, hx⟩ := hx
  rcases List.mem_append.1 hx with hx | hx <;> exact numF_rng _ x hx
theorem listF_rng (P : List (Nat × Nat)) : ∀ x ∈ listF P, 0 ≤ x ∧ x ≤ 255 := by
  intro x hx
  rcases List.mem_append.1 hx with hx | hx
  · exact numF_rng _ x hx
  · exact pairsF_rng _ x hx

theorem src_cut {w : World} {base g cap : Nat} {L : List Int} (h : w.ownsRow base 5 1 (.slice (some ⟨g, 0, none⟩) L.length cap) L.length (L.map encB)) (ct : Nat) (hc : ct ≤ L.length) :
    Src w (.slice (some ⟨g, 0, none⟩) ct cap) (L.take ct) := by
  refine .inr ⟨g, 0, cap, by rw [List.length_take, Nat.min_eq_left hc], fun j u hj => ?_⟩
  rw [List.map_take] at hj
  have := h.cells (g := g) rfl j u (by rw [List.getElem?_take] at hj; split at hj; · exact hj
                                       · cases hj)
  rwa [Addr.add_lit] at this

theorem cellsP_get (P : List (Nat × Nat)) (i : Nat) (p : Nat × Nat) (h : P[i]? = some p) : (cellsP P)[i * 2]? = some (.int .u64 p.1) ∧ (cellsP P)[i * 2 + 1]? = some (.int .u64 p.2) := by
  induction P generalizing i with
  | nil => simp at h
  | cons q P ih =>
    cases i with
    | zero => simp at h; subst h; simp [cellsP]
    | succ i =>
      have := ih i (by simpa using h)
      have e : cellsP (q :: P) = Value.int .u64 q.1 :: Value.int .u64 q.2 :: cellsP P := rfl
      rw [e, show (i + 1) * 2 = i * 2 + 1 + 1 by omega]
      simpa using this
theorem own_pairs {w : World} {base g cap : Nat} {P : List (Nat × Nat)} {n : Nat} (h : w.ownsRow base 84 2 (.slice (some ⟨g, 0, none⟩) n cap) n (cellsP P)) (i : Nat) (p : Nat × Nat) (hp : P[i]? = some p) :
    w.cell? ⟨g, i * 2, none⟩ = some (.int .u64 p.1) ∧ w.cell? ⟨g, i * 2 + 1, none⟩ = some (.int .u64 p.2) := by
  obtain ⟨h1, h2⟩ := cellsP_get P i p hp
  have c1 := h.cells (g := g) rfl _ _ h1
  have c2 := h.cells (g := g) rfl _ _ h2
  rw [Addr.add_lit, Nat.zero_add] at c1 c2
  exact ⟨c1, c2⟩
theorem own84_form {w : World} {base : Nat} {v : Value} {n : Nat} {xs : List Value} (h : w.ownsRow base 84 2 v n xs) (hn : 0 < n) : ∃ g cap, v = .slice (some ⟨g, 0, none⟩) n cap ∧ base ≤ g ∧ g < w.heap.size ∧ n ≤ cap ∧ cap ≤ maxLen := by
  rcases h.2 with ⟨rfl, h0⟩ | ⟨g, cap, cur, rfl, hb, hg, hc, hm, _⟩
  · omega
  · exact ⟨g, cap, rfl, hb, (Array.getElem?_eq_some_iff.1 hg).1, hc, hm⟩

theorem cells_of {w : World} {b off : Nat} {P : List (Nat × Nat)} (hc : ∀ i p, P[i]? = some p → w.cell? ⟨b, off + i * 2, none⟩ = some (.int .u64 p.1) ∧ w.cell? ⟨b, off + i * 2 + 1, none⟩ = some (.int .u64 p.2)) :
    ∀ j u, (cellsP P)[j]? = some u → w.cell? ((⟨b, off, none⟩ : Addr).add j) = some u := by
  intro j u hu
  rw [Addr.add_lit]
  have hj : j < (cellsP P).length := (List.getElem?_eq_some_iff.1 hu).1
  rw [cellsP_len] at hj
  have hp : P[j / 2]? = some (P[j / 2]'(by omega)) := List.getElem?_eq_getElem (by omega)
  obtain ⟨g1, g2⟩ := cellsP_get P (j / 2) _ hp
  obtain ⟨c1, c2⟩ := hc (j / 2) _ hp
  rcases Nat.mod_two_eq_zero_or_one j with h | h
  · have e : j = j / 2 * 2 := by omega
    rw [e] at hu ⊢
    rw [g1] at hu
    rw [← hu]; exact c1
  · have e : j = j / 2 * 2 + 1 := by omega
    rw [e] at hu ⊢
    rw [g2] at hu
    rw [← hu, ← Nat.add_assoc]; exact c2
theorem cellsP_one (P : List (Nat × Nat)) : ∀ u ∈ cellsP P, u.oneCell' = true := by
  intro u hu
  simp only [cellsP, List.mem_flatMap] at hu
  obtain ⟨p, _, hu⟩ := hu
  simp at hu
  rcases hu with rfl | rfl <;> rfl

set_option maxHeartbeats 3200000 in
set_option maxRecDepth 1000000 in
theorem lists_some (b off c : Nat) (P : List (Nat × Nat)) (cut : Int) (w : World) (hS : Small P) (hl : P.length ≤ 8796093022207)
    (hc : ∀ i p, P[i]? = some p → w.cell? ⟨b, off + i * 2, none⟩ = some (.int .u64 p.1) ∧ w.cell? ⟨b, off + i * 2 + 1, none⟩ = some (.int .u64 p.2)) :
    Calls Try.prog 7 #[.slice (some ⟨b, off, none⟩) P.length c, .int .i64 cut] w fun e w' => e = .returned (.bool true) ∧ w.grownBy w' none := by
  obtain ⟨i1, hi, hz0, hz1, hz2⟩ := info_parts Try.info84
  have q84 := eq84
  have q7 : ∀ w, (Op.equalIn 10000 84 (.agg #[.int .u64 7, .int .u64 71]) (.agg #[.int .u64 7, .int .u64 71])).run Try.prog w = .ok true w := fun w => eq84 w 7 71
  have HC : Hid (∀ i p, P[i]? = some p → w.cell? ⟨b, off + i * 2, none⟩ = some (.int .u64 p.1) ∧ w.cell? ⟨b, off + i * 2 + 1, none⟩ = some (.int .u64 p.2)) := hc
  clear hc
  go_enter Try.func7, Try.ntmps7
  go_wp2_with (at_builtin; refine wpList_append_own _ rfl _ _ 83 rfl w.heap.size 84 i1 (.agg #[.int .u64 0, .int .u64 0]) 2 16 Try.underlying83 hi hz0 hz1 hz2 rfl (by decide) _ _ _ rfl (World.ownsRow_nil _ _ _ _) ⟨b, off, none⟩ P.length c (cellsP P) (by rfl) (cellsP_len P) ?d1 ?d2 ?d3 ?d4 ?d5 ?_)
  case d1 => exact cells_of HC.out
  case d2 => exact cellsP_one P
  case d3 => unfold maxLen; omega
  case d4 => omega
  case d5 => omega
  intro v1 w1 ho1 hg1 _
  have hw1 := hg1.size
  have HO1 : Hid (w1.ownsRow w.heap.size 84 2 v1 P.length (cellsP P)) := ho1
  have HG1 : Hid (w.grownBy w1 none) := hg1
  clear ho1 hg1
  go_wp2_with (at_builtin; refine wpList_append_own _ rfl _ _ 83 rfl w.heap.size 84 i1 (.agg #[.int .u64 0, .int .u64 0]) 2 16 Try.underlying83 hi hz0 hz1 hz2 rfl (by decide) _ _ _ rfl (HO1.out.alloc _) ⟨w1.heap.size, 0, none⟩ 1 1 [.int .u64 7, .int .u64 71] (by first | rfl | simp) rfl ?e1 ?e2 ?e3 ?e4 ?e5 ?_)
  case e1 =>
    intro q u hq
    match q, hq with
    | 0, hq => simp at hq; subst hq; simp [Addr.add]
    | 1, hq => simp at hq; subst hq; simp [Addr.add]
  case e2 => intro u hu; simp at hu; rcases hu with rfl | rfl <;> rfl
  case e3 => unfold maxLen; omega
  case e4 => omega
  case e5 => simp; omega
  intro v2 w2 ho2 hg2 _
  have hM : w2.ownsRow w.heap.size 84 2 v2 (P.length + 1) (cellsP (P ++ [(7, 71)])) := by rw [cellsP_snoc]; exact ho2
  have hG2 : w.grownBy w2 none := grownBy_of_below ((below_of_grownBy (grownBy_trans HG1.out (World.grownBy_alloc _ _ _))).grown hg2 (by simp; omega) (fun k hk => (HO1.out.lt k hk).1))
  clear ho2 hg2 HO1 HG1
  obtain ⟨g, cap, rfl, hg1, hg2, hg3, hg4⟩ := own84_form hM (by omega)
  unfold maxLen at hg4
  have hMc := own_pairs hM
  have HP : Hid (SrcP w2 (.slice (some ⟨g, 0, none⟩) P.length cap) P) := .inr ⟨g, 0, cap, rfl, fun i p hp => by
    have := hMc i p (by rw [List.getElem?_append_left (List.getElem?_eq_some_iff.1 hp).1]; exact hp)
    simpa using this⟩
  have HM : Hid (w2.ownsRow w.heap.size 84 2 (.slice (some ⟨g, 0, none⟩) (P.length + 1) cap) (P.length + 1) (cellsP (P ++ [(7, 71)]))) := hM
  have HG2 : Hid (w.grownBy w2 none) := hG2
  clear hM hMc hG2
  go_wp2_with fail
  refine (put_any _ P w2 HP.out hS (by omega)).mono ?_
  rintro e w3 ⟨vb, rfl, hFb⟩
  have hM3 := ownsRow84_kept HM.out hFb.2 (by intro g _ e; cases e)
  have hMc := own_pairs hM3
  have hG3 := grownBy_trans HG2.out hFb.2
  obtain ⟨m7, m71⟩ := hMc P.length (7, 71) (by simp)
  have hg23 : g < w3.heap.size := (hM3.lt g rfl).2
  have HMC : Hid (∀ i p, P[i]? = some p → w3.cell? ⟨g, i * 2, none⟩ = some (.int .u64 p.1) ∧ w3.cell? ⟨g, i * 2 + 1, none⟩ = some (.int .u64 p.2)) := fun i p hp => hMc i p (by rw [List.getElem?_append_left (List.getElem?_eq_some_iff.1 hp).1]; exact hp)
  have HLC : Hid (∀ i p, P[i]? = some p → w3.cell? ⟨b, off + i * 2, none⟩ = some (.int .u64 p.1) ∧ w3.cell? ⟨b, off + i * 2 + 1, none⟩ = some (.int .u64 p.2)) := fun i p hp => by
    obtain ⟨x1, x2⟩ := HC.out i p hp
    have hbw : b < w.heap.size := World.block_lt_of_cell? w ⟨b, off + i * 2, none⟩ x1
    exact ⟨(cell_grown hG3 (a := ⟨b, off + i * 2, none⟩) hbw (by simp)).trans x1, (cell_grown hG3 (a := ⟨b, off + i * 2 + 1, none⟩) hbw (by simp)).trans x2⟩
  have HG3 : Hid (w.grownBy w3 none) := hG3
  have HFB : Hid (w3.ownsRow w2.heap.size 5 1 vb (listF P).length ((listF P).map encB)) := hFb.1
  clear HP HM HG2 HC hFb hM3 hMc hG3
  go_wp2_with (first | (go_at_call 41; go_in))
  refine (refnum_any P.length (by omega) w3).mono ?_
  rintro e w4 ⟨vw, rfl, hF4⟩
  clear m7 m71
  have lnP := numF_len10 P.length (by omega)
  go_wp2
  go_loopw [8, 9] (fun x i wr => ∃ k : Nat, k ≤ P.length ∧ i = .int .i64 k ∧ Forms w3 wr x (numF P.length ++ pairsF (P.take k))) (fun _ i _ => P.length - (RowKit.intOf i).toNat)
  case atStart => exact ⟨0, Nat.zero_le _, rfl, by simpa [pairsF] using hF4⟩
  case round =>
    obtain ⟨k, hk, rfl, hFk⟩ := hrel
    clear hF4
    by_cases hlt : k < P.length
    · obtain ⟨p, hp⟩ : ∃ p, P[k]? = some p := ⟨_, List.getElem?_eq_getElem hlt⟩
      have hpm : p ∈ P := List.mem_of_getElem? hp
      obtain ⟨x1, x2⟩ := HLC.out k p hp
      obtain ⟨y1, y2⟩ := HMC.out k p hp
      have hbw : b < w3.heap.size := World.block_lt_of_cell? w3 ⟨b, off + k * 2, none⟩ x1
      have c1 := (hFk.cell (a := ⟨b, off + k * 2, none⟩) hbw).trans x1
      have c2 := (hFk.cell (a := ⟨b, off + k * 2 + 1, none⟩) hbw).trans x2
      have d1 := (hFk.cell (a := ⟨g, k * 2, none⟩) hg23).trans y1
      have d2 := (hFk.cell (a := ⟨g, k * 2 + 1, none⟩) hg23).trans y2
      have hlen := pairsF_len (P.take k) (hS.take k)
      have hlt' : (P.take k).length ≤ k := List.length_take_le _ _
      have l1 := numF_len10 p.1 (hS p hpm).1
      have l2 := numF_len10 p.2 (hS p hpm).2
      have HPk : Hid (P[k]? = some p) := hp
      have HSp : Hid (p.1 < 18446744073709551616 ∧ p.2 < 18446744073709551616) := hS p hpm
      have HFk : Hid (Forms w3 wr u8 (numF P.length ++ pairsF (P.take k))) := hFk
      have hkz : (0 : Int) ≤ (k : Int) := by omega
      have hw3r : w3.heap.size ≤ wr.heap.size := hFk.2.size
      have hklt : (k : Int) < (P.length : Int) := by omega
      clear hp hpm x1 x2 y1 y2 hFk
      go_wp2_with fail
      go_quiet (fail)
      go_wp2_with fail
      go_region_held3 (fun w' => w'.cell? ⟨b, off + k * 2, none⟩ = some (Value.int IntKind.u64 (p.1 : Int)) ∧ w'.cell? ⟨b, off + k * 2 + 1, none⟩ = some (Value.int IntKind.u64 (p.2 : Int)) ∧ b < w3.heap.size ∧ w3.heap.size ≤ w'.heap.size)
        (first | (go_keep; done) | (refine ⟨?_, ?_, ?_, ?_⟩ <;> first | (go_keep; done) | exact hbw | (rw [cell_grown hD.2.1 (by simp; omega) (hDne b hbw)]; go_keep; done) | exact Nat.le_trans (Nat.le_trans FB.2.size hFC.2.size) hD.2.1.size | (rw [cell_grown hFC.2 (by simp; omega) (by simp)]; go_keep; done) | exact Nat.le_trans FB.2.size hFC.2.size | (rw [cell_grown hB.2.1 (by simp; omega) (hBne b hbw)]; go_keep; done) | exact FB.2.size | (rw [cell_grown hFA.2 (by simp; omega) (by simp)]; go_keep; done) | exact Nat.le_trans hw3r gA.size | fail) | fail)
        (first | (go_at_call_of 11 (Value.int IntKind.u64 (p.1 : Int)); refine (refnum_any p.1 HSp.out.1 _).mono ?_; rintro e wA ⟨vA, rfl, hFA⟩; have gA : wr.grownBy wA none := grownBy_undrewN (n := nq) (grownBy_undrew hFA.2)) | (go_at_call_of 11 (Value.int IntKind.u64 (p.2 : Int)); refine (refnum_any p.2 HSp.out.2 _).mono ?_; rintro e wC ⟨vC, rfl, hFC⟩) | (refine step_apps rfl (.tmp 67) (.tmp 73) (by rfl) w3.heap.size _ _ (numF P.length ++ pairsF (P.take k)) (numF p.1) (by rfl) (by rfl) (Src.kept HFk.out.1 gA (by intro g _ e; cases e)) hFA.src (by simp only [List.length_append]; omega) (Nat.le_trans HFk.out.2.size gA.size) ?_; intro vB wB hB; have FB := Forms.app HFk.out gA hB; have hBne : ∀ x, x < w3.heap.size → u8.ownBlock ≠ some x := fun x hx e => (by have := (HFk.out.1.lt _ e).1; omega)) | (refine step_apps rfl (.tmp 74) (.tmp 80) (by rfl) w3.heap.size _ _ ((numF P.length ++ pairsF (P.take k)) ++ numF p.1) (numF p.2) (by rfl) (by rfl) (Src.kept FB.1 hFC.2 (by intro g _ e; cases e)) hFC.src (by simp only [List.length_append]; omega) (Nat.le_trans FB.2.size hFC.2.size) ?_; intro vD wD hD; have FD := Forms.app FB hFC.2 hD; have hDne : ∀ x, x < w3.heap.size → vB.ownBlock ≠ some x := fun x hx e => (by have := (FB.1.lt _ e).1; omega)) | fail)
      have F4 : Forms w3 wD vD (numF P.length ++ pairsF (P.take (k + 1))) := by
        rw [pairsF_snoc P k p HPk.out]
        simpa using FD
      have F3 : Hid (Forms w3 wD vD (numF P.length ++ pairsF (P.take (k + 1)))) := F4
      clear F4
      clear FD FB hD hB hFA hFC HFk gA hBne hDne c1 c2 d1 d2
      go_wp2
      go_roundw
      case rel => exact ⟨k + 1, by omega, by go_num, F3.out⟩
      case measure => simp [RowKit.intOf]; omega
    · obtain rfl : k = P.length := by omega
      have eL : numF P.length ++ pairsF (P.take P.length) = listF P := by rw [List.take_length]; rfl
      rw [eL] at hFk
      have hll : (listF P).length ≤ 10 + 20 * P.length := by
        have h1 := pairsF_len P hS
        unfold listF; rw [List.length_append]; omega
      have hl0 : 0 < (listF P).length := by have := (numF_len P.length).1; unfold listF; rw [List.length_append]; omega
      have hB5 := Src.kept HFB.out hFk.2 (by intro g _ e; cases e)
      have cva := conv_src (src_own hB5)
      have cvb := conv_src hFk.src
      have g5 := grownBy_trans HG3.out hFk.2
      obtain ⟨gb, cb, rfl, hgb1, hgb2, hgb3, hgb4⟩ := len_own5 hB5 hl0
      unfold maxLen at hgb4
      have HB5 : Hid (wr.ownsRow w2.heap.size 5 1 (.slice (some ⟨gb, 0, none⟩) (listF P).length cb) (listF P).length ((listF P).map encB)) := hB5
      have HG5 : Hid (w3.grownBy wr none) := hFk.2
      have HGW : Hid (w.grownBy wr none) := g5
      clear hFk g5 HFB HG3 hB5 HMC eL
      go_wp2_with fail
      refine (open_any _ (listF P) wr (src_own HB5.out) (by omega) (listF_rng P)).mono ?_
      rintro e w6 ⟨rb, v6, rfl, hr6, hb6, hv6, hg6⟩
      have HV6 : Hid (∀ g, v6.ownBlock = some g → wr.heap.size ≤ g) := hv6
      have HR6 : Hid (Rdr w6 rb v6 (listF P) 0) := hr6
      have HG6 : Hid (wr.grownBy w6 none) := hg6
      clear cva cvb hr6 hv6 hg6
      have HT1 : Hid (tR P.length (listF P) 0 = (P, (listF P).length, 0)) := tR_back P hS (by omega)
      by_cases h0 : 0 < P.length
      case' pos =>
        have HT0 : Hid (tR (P.length - 1) (listF P) 0 = ([], 0, 3)) := tR_long P h0 (by omega)
        go_wp2_with fail
        rw [show ((P.length : Int) - 1) = ((P.length - 1 : Nat) : Int) by omega]
        have tk := take_any w6 rb v6 (listF P) 0 (P.length - 1) HR6.out (by omega)
        rw [HT0.out] at tk
        refine tk.mono ?_
        rintro e w7 ⟨x7, rfl, hx7, hr7, hg7⟩
        obtain ⟨ao7, c7, rfl⟩ := own84_any hx7
        have HR7 : Hid (Rdr w7 rb v6 (listF P) 0) := hr7
        have HG7 : Hid (wr.grownBy w7 none) := grownBy_new HG6.out hb6 hg7
        clear hx7 hr7 hg7 HR6 HG6 tk
        go_wp2_with (first | (go_at_call 41; go_in) | (go_at_call 33; refine (place_any w7 rb v6 (listF P) 0 HR7.out).mono ?_; rintro e w' ⟨rfl, rfl⟩))
      case' neg =>
        obtain ⟨w7, rfl⟩ : ∃ w7, w6 = w7 := ⟨_, rfl⟩
        have HR7 : Hid (Rdr w6 rb v6 (listF P) 0) := HR6.out
        have HG7 : Hid (wr.grownBy w6 none) := HG6.out
        go_wp2_with fail
      all_goals
        have tk := take_any _ rb v6 (listF P) 0 P.length HR7.out (by omega)
        rw [HT1.out] at tk
        refine tk.mono ?_
        rintro e w8 ⟨x8, rfl, hx8, hr8, hg8⟩
        have HG8 : Hid (wr.grownBy w8 none) := grownBy_new HG7.out hb6 hg8
        obtain ⟨ao8, c8, rfl⟩ := own84_any hx8
        have HX8 : Hid (∀ i p, P[i]? = some p → ∃ g8, ao8 = some ⟨g8, 0, none⟩ ∧ w8.cell? ⟨g8, i * 2, none⟩ = some (.int .u64 p.1) ∧ w8.cell? ⟨g8, i * 2 + 1, none⟩ = some (.int .u64 p.2)) := by
          intro i p hp
          obtain ⟨g8, cap8, e8, _⟩ := own84_form hx8 (by have := (List.getElem?_eq_some_iff.1 hp).1; omega)
          cases e8
          exact ⟨g8, rfl, own_pairs hx8 i p hp⟩
        have HR8 : Hid (Rdr w8 rb v6 (listF P) (listF P).length) := hr8
        clear hx8 hr8 hg8 tk HR7 HG7
        go_wp2_with (first | (go_at_call 41; go_in) | (go_at_call 34; refine (left_any w8 rb v6 (listF P) _ HR8.out).mono ?_; rintro e w' ⟨rfl, q8, rfl⟩))
        go_loopw [15] (fun i wx => ∃ (k q : Nat), k ≤ P.length ∧ i = .int .i64 k ∧ wx = w8.drewN q) (fun i _ => P.length - (RowKit.intOf i).toNat)
        case atStart => exact ⟨0, _, Nat.zero_le _, rfl, rfl⟩
        case round =>
          obtain ⟨k, q, hk, rfl, rfl⟩ := hrel
          by_cases hlt : k < P.length
          · obtain ⟨p, hp⟩ : ∃ p, P[k]? = some p := ⟨_, List.getElem?_eq_getElem hlt⟩
            obtain ⟨x1, x2⟩ := HLC.out k p hp
            obtain ⟨g8, rfl, y1, y2⟩ := HX8.out k p hp
            have hbw : b < w3.heap.size := World.block_lt_of_cell? w3 ⟨b, off + k * 2, none⟩ x1
            have g38 := grownBy_trans HG5.out HG8.out
            have c1 := (cell_grown g38 (a := ⟨b, off + k * 2, none⟩) hbw (by simp)).trans x1
            have c2 := (cell_grown g38 (a := ⟨b, off + k * 2 + 1, none⟩) hbw (by simp)).trans x2
            have hkz : (0 : Int) ≤ (k : Int) := by omega
            have hklt : (k : Int) < (P.length : Int) := by omega
            clear hp x1 x2 g38
            go_wp2_with fail
            go_quiet (fail)
            go_wp2
            go_roundw
            case rel => exact ⟨k + 1, _, by omega, by go_num, rfl⟩
            case measure => simp [RowKit.intOf]; omega
          · obtain rfl : k = P.length := by omega
            have G9 : Hid (w.grownBy (w8.drewN q) none) := grownBy_drewN (grownBy_trans HGW.out HG8.out) q
            have HB9 : Hid ((w8.drewN q).ownsRow w2.heap.size 5 1 (.slice (some ⟨gb, 0, none⟩) (listF P).length cb) (listF P).length ((listF P).map encB)) := Src.kept HB5.out (grownBy_drewN HG8.out q) (by intro g _ e; cases e)
            clear HLC HX8 HR8 HG8 HG5 HB5 HGW
            by_cases hcut : 0 ≤ cut ∧ cut < (listF P).length
            · obtain ⟨ct, rfl⟩ := Int.eq_ofNat_of_zero_le hcut.1
              have hct : ct < (listF P).length := by omega
              have HT2 : Hid (tR P.length ((listF P).take ct) 0 = ([], 0, 110)) := tR_cut P hS (by omega) ct hct
              have hsr : Src (w8.drewN q) (.slice (some ⟨gb, 0, none⟩) ct cb) ((listF P).take ct) := src_cut HB9.out ct (by omega)
              have HSR : Hid (Src (w8.drewN q) (.slice (some ⟨gb, 0, none⟩) ct cb) ((listF P).take ct)) := hsr
              clear hsr
              go_wp2_with fail
              refine (open_any _ _ _ HSR.out (by rw [List.length_take]; omega) (fun x hx => listF_rng P x (List.mem_of_mem_take hx))).mono ?_
              rintro e w10 ⟨rb10, v10, rfl, hr10, hb10, _, hg10⟩
              have tk := take_any w10 rb10 v10 _ 0 P.length hr10 (by omega)
              rw [HT2.out] at tk
              have G10 : Hid (w.grownBy w10 none ∧ w.heap.size ≤ rb10) := ⟨grownBy_trans G9.out hg10, by have := G9.out.size; omega⟩
              have TK : Hid (Calls Try.prog 47 #[rp rb10, .int .i64 P.length, .func (.func 48) #[] #[]] w10 fun en w' => ∃ x, en = .returned (.tuple #[x, .int .i64 110]) ∧ w'.ownsRow w10.heap.size 84 2 x 0 [] ∧ Rdr w' rb10 v10 ((listF P).take ct) 0 ∧ w10.grownBy w' (some rb10)) := tk
              clear tk hr10 hb10 hg10 G9 HB9 HSR
              go_wp2_with fail
              refine TK.out.mono ?_
              rintro e w11 ⟨x11, rfl, hx11, hr11, hg11⟩
              obtain ⟨ao11, c11, rfl⟩ := own84_any hx11
              have HR11 : Hid (Rdr w11 rb10 v10 ((listF P).take ct) 0) := hr11
              have G11 : Hid (w.grownBy w11 none) := grownBy_new G10.out.1 G10.out.2 hg11
              clear hx11 hr11 hg11 TK
              go_wp2_with (first | (go_at_call 41; go_in) | (go_at_call 33; refine (place_any w11 rb10 v10 _ 0 HR11.out).mono ?_; rintro e w' ⟨rfl, rfl⟩) | (go_at_call 30; refine (known_any _).mono ?_; rintro e w12 ⟨rfl, g12⟩))
              go_ret
              exact ⟨rfl, grownBy_trans G11.out g12⟩
            · by_cases hneg : cut < 0
              · go_wp2_with (go_at_call 30; refine (known_any _).mono ?_; rintro e w3 ⟨rfl, g3⟩)
                go_ret
                exact ⟨rfl, grownBy_trans G9.out g3⟩
              · have hbig : ((listF P).length : Int) ≤ cut := by omega
                clear hcut
                go_wp2_with (go_at_call 30; refine (known_any _).mono ?_; rintro e w3 ⟨rfl, g3⟩)
                go_ret
                exact ⟨rfl, grownBy_trans G9.out g3⟩
end Go.Proofs.Ytanbnefdodkniaa
