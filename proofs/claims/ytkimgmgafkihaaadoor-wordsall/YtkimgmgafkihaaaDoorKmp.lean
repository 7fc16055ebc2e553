/-
  The program's longer, borders, period.
-/
import Derived.Test.YtkimgmgafkihaaaDoorCnc
import Derived.Test.YtkimgmgafkihaaaDoorKma
namespace Go.Proofs.YtkimgmgafkihaaaDoor
open Go.RowKit Go.Lib Go.Sort
set_option linter.unusedVariables false
set_option linter.unusedSimpArgs false
set_option maxHeartbeats 1600000
set_option maxRecDepth 1000000
def Ends (W E : List Int) (i : Nat) : Prop := ∀ j, j < i → ∃ b : Nat, E[j]?.getD 0 = b ∧ LB W (j + 1) b
theorem longer_any (w : World) (vw ve : Value) (W E T : List Int) (n : Nat) (k : Int) (hW : Ints w vw W) (hE : Ints w ve E) (hEl : E.length = W.length) (hl : W.length ≤ 1000000) (hn : n < W.length) (hends : Ends W E n) (hT : Lng W T n) :
    Calls Tryd.prog 51 #[vw, ve, .int .i64 (n : Int), .int .i64 k] w fun e w' => ∃ r : Nat, e = .returned (.int .i64 (r : Int)) ∧ Lng W (T ++ [k]) r ∧ r ≤ n + 1 ∧ w' = w := by
  obtain ⟨ab, c, rfl, HR⟩ := hW.reads
  obtain ⟨ab', c', rfl, HR'⟩ := hE.reads
  have HR1 : Hid (∀ i, i < W.length → ∃ B off, ab = some ⟨B, off, none⟩ ∧ w.cell? ⟨B, off + i, none⟩ = some (.int .i64 (W[i]?.getD 0)) ∧ W.length ≤ c) := fun i hi => HR w (grow0 w) i hi
  have HR2 : Hid (∀ i, i < E.length → ∃ B off, ab' = some ⟨B, off, none⟩ ∧ w.cell? ⟨B, off + i, none⟩ = some (.int .i64 (E[i]?.getD 0)) ∧ E.length ≤ c') := fun i hi => HR' w (grow0 w) i hi
  have HEn : Hid (Ends W E n) := hends
  have HW0 : Hid (Way W T k n) := Way.start hT hn
  obtain ⟨m, hm⟩ : ∃ m, W.length = m := ⟨_, rfl⟩
  have HM : Unit → W.length = m := fun _ => hm
  have hmI : (m : Int) ≤ 1000000 := by omega
  have hnI : (n : Int) < m := by omega
  rw [hEl] at HR2 ⊢
  rw [hm] at HR1 HR2 ⊢
  clear HR HR' hW hE hEl hl hn hends hT hm
  go_enter Tryd.func51, Tryd.ntmps51
  go_wp2
  go_loopw [2] (fun s wr => ∃ i : Nat, s = .int .i64 i ∧ (i ≤ n ∧ Way W T k i) ∧ w = wr) (fun s _ => match s with | .int _ i => i.toNat | _ => 0)
  case atStart => exact ⟨n, rfl, ⟨by omega, HW0.out⟩, rfl⟩
  case round =>
    obtain ⟨i, rfl, ⟨hi, hp⟩, rfl⟩ := hrel
    have HP : Hid (Way W T k i) := hp
    have hiI : (i : Int) ≤ n := by omega
    clear hp
    obtain ⟨B, off, rfl, hc, hnc⟩ := HR1.out i (by omega)
    have HS : Hid (∀ y, W[i]?.getD 0 = y → (y = k → Lng W (T ++ [k]) (i + 1)) ∧ (y ≠ k → i = 0 → Lng W (T ++ [k]) 0) ∧ (y ≠ k → 0 < i → ∀ b, LB W i b → b ≤ n ∧ b < i ∧ Way W T k b)) := by
      rintro y rfl
      refine ⟨fun e => HP.out.yes e, fun e h0 => ?_, fun e h0 b hb => ⟨?_, hb.1, HP.out.step h0 e hb⟩⟩
      · have := HP.out
        subst h0
        exact this.no e
      · have := hb.1
        omega
    obtain ⟨y, hy⟩ : ∃ y, W[i]?.getD 0 = y := ⟨_, rfl⟩
    have HS2 : Hid ((y = k → Lng W (T ++ [k]) (i + 1)) ∧ (y ≠ k → i = 0 → Lng W (T ++ [k]) 0) ∧ (y ≠ k → 0 < i → ∀ b, LB W i b → b ≤ n ∧ b < i ∧ Way W T k b)) := HS.out y hy
    rw [hy] at hc
    have hbnd : (i : Int) < m := by omega
    clear hy
    by_cases hyk : y = k
    · subst hyk
      have HY : Hid (Lng W (T ++ [y]) (i + 1)) := HS2.out.1 rfl
      by_cases h0 : i = 0
      · subst h0
        rw [Nat.add_zero] at hc
        have h0m : (0 : Int) < m := by omega
        have h0n : 0 < m := by omega
        go_wp2
        go_ret
        exact ⟨1, rfl, HY.out, by omega, rfl⟩
      · have h0I : (0 : Int) < i := by omega
        go_wp2
        go_ret
        exact ⟨i + 1, ret_num (by omega), HY.out, by omega, rfl⟩
    · have hb1 : (y != k) = true := by simpa using hyk
      have hb2 : (y == k) = false := by simpa using hyk
      have HYK : Hid (y ≠ k) := hyk
      by_cases h0 : i = 0
      · subst h0
        have HY : Hid (Lng W (T ++ [k]) 0) := HS2.out.2.1 hyk rfl
        clear hyk
        rw [Nat.add_zero] at hc
        have h0m : (0 : Int) < m := by omega
        have h0n : 0 < m := by omega
        go_wp2
        go_ret
        exact ⟨0, rfl, HY.out, by omega, rfl⟩
      · obtain ⟨q, rfl⟩ : ∃ q, i = q + 1 := ⟨i - 1, by omega⟩
        obtain ⟨B2, off2, rfl, hc2, hnc2⟩ := HR2.out q (by omega)
        obtain ⟨b, hb, hLB⟩ := HEn.out q (by omega)
        obtain ⟨g1, g2, g3⟩ := HS2.out.2.2 hyk (by omega) b hLB
        have HN2 : Hid (Way W T k b) := g3
        rw [hb] at hc2
        have hqI : (q : Int) < m := by omega
        clear hyk hLB g3 hb
        go_wp2
        go_roundw
        case rel => exact ⟨b, rfl, ⟨g1, HN2.out⟩, trivial⟩
        case measure => simp; omega
theorem Ends.set {W E : List Int} {i b : Nat} (h : Ends W E i) (hi : i < E.length) (hb : LB W (i + 1) b) : Ends W (E.set i (b : Int)) (i + 1) := by
  intro j hj
  rw [getD_set _ _ _ _ hi]
  by_cases e : i = j
  · subst e
    exact ⟨b, if_pos rfl, hb⟩
  · rw [if_neg e]
    exact h j (by omega)
theorem borders_any (w : World) (vw : Value) (W : List Int) (hW : Ints w vw W) (hl : W.length ≤ 1000000) :
    Calls Tryd.prog 43 #[vw] w fun e w' => ∃ E, e = .returned (.slice (some ⟨w.heap.size, 0, none⟩) W.length W.length) ∧ Own w' w.heap.size (.slice (some ⟨w.heap.size, 0, none⟩) W.length W.length) E ∧ E.length = W.length ∧ Ends W E W.length ∧ w.grownBy w' none := by
  have HIW : Hid (Ints w vw W) := hW
  obtain ⟨w1, hmk, ho1, hg1⟩ := make_zeros w W.length (by omega)
  obtain ⟨ab, c, rfl, HR⟩ := hW.reads
  have HR1 : Hid (∀ w', w.grownBy w' none → ∀ i, i < W.length → ∃ B off, ab = some ⟨B, off, none⟩ ∧ w'.cell? ⟨B, off + i, none⟩ = some (.int .i64 (W[i]?.getD 0)) ∧ W.length ≤ c) := HR
  obtain ⟨m, hm⟩ : ∃ m, W.length = m := ⟨_, rfl⟩
  have HM : Unit → W.length = m := fun _ => hm
  have hmI : (m : Int) ≤ 1000000 := by omega
  rw [hm] at hmk ho1 HR1 HIW ⊢
  have HO1 : Hid (Own w1 w.heap.size (.slice (some ⟨w.heap.size, 0, none⟩) m m) (List.replicate m 0)) := ho1
  have HG1 : Hid (w.grownBy w1 none) := hg1
  have HE0 : Hid (Ends W (List.replicate m 0) 1 ∨ m = 0) := by
    rcases Nat.eq_zero_or_pos m with h | h
    · exact .inr h
    · refine .inl fun j hj => ⟨0, ?_, ?_⟩
      · obtain rfl : j = 0 := by omega
        rw [List.getElem?_eq_getElem (by simpa using h)]
        simp
      · obtain rfl : j = 0 := by omega
        exact LB.one W (by omega)
  clear HR hW hl hm ho1 hg1
  go_enter Tryd.func43, Tryd.ntmps43
  go_wp2
  go_loopw [4] (fun s wr => ∃ (i : Nat) (E : List Int), 1 ≤ i ∧ s = .int .i64 i ∧ (i ≤ m ∨ m = 0) ∧ E.length = m ∧ (Ends W E i ∨ m = 0) ∧ Own wr w.heap.size (.slice (some ⟨w.heap.size, 0, none⟩) m m) E ∧ w.grownBy wr none) (fun s _ => match s with | .int _ i => m - i.toNat | _ => 0)
  case atStart => exact ⟨1, _, Nat.le_refl _, rfl, by omega, by simp, HE0.out, HO1.out, HG1.out⟩
  case round =>
    obtain ⟨i, E, hi1, rfl, him, hEl, hE, hO, hG⟩ := hrel
    have HEl : Unit → E.length = m := fun _ => hEl
    have HE : Hid (Ends W E i ∨ m = 0) := hE
    have HO : Hid (Own wr w.heap.size (.slice (some ⟨w.heap.size, 0, none⟩) m m) E) := hO
    have HG : Hid (w.grownBy wr none) := hG
    clear hE hO hG hEl
    by_cases hlt : i < m
    · obtain ⟨q, hq⟩ : ∃ q, i = q + 1 := ⟨i - 1, by omega⟩
      obtain ⟨B, off, rfl, hc, hnc⟩ := HR1.out wr HG.out i hlt
      have c1 := HO.out.cell q (by rw [HEl ()]; omega)
      have f1 := HO.out.frozen i
      have hci : (wr.cell? ⟨w.heap.size, i, none⟩) = some (.int .i64 (E[i]?.getD 0)) := HO.out.cell i (by rw [HEl ()]; exact hlt)
      have hE2 : Ends W E i := by
        rcases HE.out with h | h
        · exact h
        · omega
      obtain ⟨b, hb, hLB⟩ := hE2 q (by omega)
      rw [← hq] at hLB
      have hbq := hLB.1
      have HCall : Hid (∀ w', wr.grownBy w' none → Calls Tryd.prog 51 #[.slice (some ⟨B, off, none⟩) m c, .slice (some ⟨w.heap.size, 0, none⟩) m m, .int .i64 (b : Int), .int .i64 (W[i]?.getD 0)] w' fun e w'' => ∃ r : Nat, e = .returned (.int .i64 (r : Int)) ∧ Lng W ((W.take i).drop 1 ++ [W[i]?.getD 0]) r ∧ r ≤ b + 1 ∧ w'' = w') := by
        intro w' hg
        refine longer_any w' _ _ W E _ b _ (HIW.out.kept (grownBy_trans HG.out hg)) (HO.out.kept0 hg).ints (by rw [HEl (), HM ()]) (by rw [HM ()]; omega) (by rw [HM ()]; omega) (fun j hj => hE2 j (by omega)) ?_
        exact (LB.lng (by omega) (by rw [HM ()]; omega)).1 hLB
      have HNx : Hid (∀ r : Nat, Lng W ((W.take i).drop 1 ++ [W[i]?.getD 0]) r → Ends W (E.set i (r : Int)) (i + 1)) := by
        intro r hr
        refine Ends.set hE2 (by rw [HEl ()]; exact hlt) ?_
        rw [LB.lng (by omega) (by rw [HM ()]; omega), drop_take_succ (by omega) (by rw [HM ()]; omega)]
        exact hr
      rw [hb] at c1
      have hqI : (q : Int) < m := by omega
      have hiI : (i : Int) < m := by omega
      have hwq : IntKind.i64.wrap ((i : Int) - 1) = (q : Int) := by
        rw [IntKind.wrap_i64]
        omega
      have HQ : Unit → i = q + 1 := fun _ => hq
      clear hE2 hLB hb hq
      generalize W[i]?.getD 0 = x at *
      generalize E[i]?.getD 0 = y at *
      have HBn : B ≠ w.heap.size := by
        have := HR1.out w (grow0 w) i hlt
        obtain ⟨B', off', e, hc', _⟩ := this
        cases e
        intro e
        subst e
        have : w.heap[w.heap.size]? = none := Array.getElem?_eq_none (Nat.le_refl _)
        simp [World.cell?, this] at hc'
      have hqi : q ≠ i := by have := HQ (); omega
      have HZ2 : Hid (∀ r : Nat, (wr.setCell ⟨w.heap.size, i, none⟩ (.int .i64 (r : Int))).drew.cell? ⟨w.heap.size, q, none⟩ = some (.int .i64 (b : Int)) ∧ (wr.setCell ⟨w.heap.size, i, none⟩ (.int .i64 (r : Int))).drew.cell? ⟨B, off + i, none⟩ = some (.int .i64 x)) := fun r => by
        constructor
        · show (wr.setCell ⟨w.heap.size, i, none⟩ (.int .i64 (r : Int))).cell? ⟨w.heap.size, q, none⟩ = _
          rw [World.cell?_setCell_other _ _ _ _ (by simp [hqi])]
          exact c1
        · show (wr.setCell ⟨w.heap.size, i, none⟩ (.int .i64 (r : Int))).cell? ⟨B, off + i, none⟩ = _
          rw [World.cell?_setCell_other _ _ _ _ (by simp [HBn])]
          exact hc
      have HZ1 : Hid (wr.drew.cell? ⟨w.heap.size, q, none⟩ = some (.int .i64 (b : Int)) ∧ wr.drew.cell? ⟨B, off + i, none⟩ = some (.int .i64 x)) := ⟨c1, hc⟩
      clear HBn hqi
      go_wp2
      go_region_held3 (fun w' => w'.cell? ⟨w.heap.size, q, none⟩ = some (.int .i64 (b : Int)) ∧ w'.cell? ⟨B, off + i, none⟩ = some (.int .i64 x))
        (first | with_reducible exact HZ1.out | with_reducible exact HZ2.out _ | (go_keep; done) | fail)
        (first | (go_at_call 51; refine (HCall.out _ (grow_drew (World.grownBy.refl _ _))).mono ?_; rintro e w' ⟨r, rfl, hr, hrb, rfl⟩) | fail)
      all_goals (
        go_wp2
        go_roundw
        case rel => exact ⟨i + 1, _, by omega, num_eq (by omega), .inl (by omega), by rw [List.length_set]; exact HEl (), .inl (HNx.out r hr), (HO.out.set i (r : Int)).kept0 (grow_drew (grow0 _)), grow_drew (grown_set HG.out (Nat.le_refl _))⟩
        case measure => simp; omega)
    · have hmi : m ≤ i := by omega
      have hltI : ¬ ((i : Int) < m) := by omega
      go_wp2
      go_ret
      have hm0 : m = 0 ∨ i = m := by omega
      refine ⟨rfl, E, HO.out, HEl (), ?_, HG.out⟩
      rcases HE.out with h | h
      · intro j hj
        exact h j (by omega)
      · intro j hj
        omega
end Go.Proofs.YtkimgmgafkihaaaDoor
