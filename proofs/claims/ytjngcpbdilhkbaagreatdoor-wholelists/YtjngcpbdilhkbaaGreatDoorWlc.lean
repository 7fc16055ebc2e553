/-
  The walk over WholeLists.
-/
import Derived.Test.YtjngcpbdilhkbaaGreatDoorWlb
import Derived.Test.YtjngcpbdilhkbaaGreatDoorGll
import Derived.Test.YtjngcpbdilhkbaaGreatDoorRgc
import Derived.Test.YtjngcpbdilhkbaaGreatDoorWks
namespace Go.Proofs.YtjngcpbdilhkbaaGreatDoor
open Go.RowKit Go.Lib Go.Sort
set_option linter.unusedVariables false

abbrev mark : ByteArray := ⟨#[109, 97, 114, 107]⟩
/-- The copy with the mark behind it. -/
theorem own_copy {w : World} {base : Nat} {v : Value} {l : List (Bool × ByteArray)} {n : Nat} (hn : l.length = n) (h : w.ownsRow base 26 2 v (l.length + 1) (cellsW (l ++ [(false, mark)]))) :
    ∃ g cap, v = .slice (some ⟨g, 0, none⟩) (n + 1) cap ∧ base ≤ g ∧ n + 1 ≤ cap ∧ cap ≤ maxLen ∧ (∀ i p, l[i]? = some p → w.cell? ⟨g, i * 2, none⟩ = some (.bool p.1) ∧ w.cell? ⟨g, i * 2 + 1, none⟩ = some (.string p.2)) ∧ w.cell? ⟨g, n * 2 + 1, none⟩ = some (.string mark) := by
  rw [hn] at h
  obtain ⟨g, cap, rfl, h1, h2, h3, h4⟩ := own_form h (by omega)
  refine ⟨g, cap, rfl, h1, h3, h4, fun i p hp => own_wholes h i p (by rw [List.getElem?_append_left (List.getElem?_eq_some_iff.1 hp).1]; exact hp), ?_⟩
  exact (own_wholes h n (false, mark) (by rw [← hn]; simp)).2

theorem mark_cells (w : World) : ∀ i p, [(false, mark)][i]? = some p → (w.alloc (.cells #[.bool false, .string mark] 26)).cell? ⟨w.heap.size, 0 + i * 2, none⟩ = some (.bool p.1) ∧ (w.alloc (.cells #[.bool false, .string mark] 26)).cell? ⟨w.heap.size, 0 + i * 2 + 1, none⟩ = some (.string p.2) := by
  have h := heap_alloc_new w (.cells #[.bool false, .string mark] 26)
  intro i p hp
  simp only [World.cell?, h]
  match i, hp with
  | 0, hp => cases hp; exact ⟨rfl, rfl⟩

set_option maxHeartbeats 3200000 in
set_option maxRecDepth 1000000 in
theorem lists_bad (ao : Option Addr) (n c : Nat) (l : List (Bool × ByteArray)) (w : World) (hS : SrcW w ao n l) (hnc : n ≤ c) (hx0 : ao = none → c = 0) (hn : n ≤ 60) (hc9 : c ≤ 9223372036854775807) (hs : ∀ p ∈ l, p.2.size ≤ maxLen) (hlo : anyLong l = false) (hma : mayAll l = false) (htab : Lib.TabIs Tryz.prog w "internal/strconv.uint64pow10" .u64 Lib.pow10Tab) :
    Calls Tryz.prog 3 #[.slice ao n c] w fun e w' => e = .returned (.bool true) ∧ w.grownBy w' none := by
  obtain ⟨gp, hgp⟩ := pow10_g
  have HT : Hid (∀ w', w.grownBy w' none → Lib.TabIs Tryz.prog w' "internal/strconv.uint64pow10" .u64 Lib.pow10Tab) := fun w' hg => tab_kept hgp htab hg
  have HL : Hid (∀ w1, w.grownBy w1 none → Calls Tryz.prog 5 #[.slice ao n c] w1 fun e w' => e = .returned (.bool false) ∧ w1.grownBy w' none) := fun w1 hg => by
    have := long_src (hS.kept hg) hnc hx0 (by omega) hs
    rw [hlo] at this
    exact this
  have HB : Hid (∀ w1, w.grownBy w1 none → Calls Tryz.prog 9 #[.slice ao n c] w1 fun e w' => e = .returned (.bool true) ∧ w1.grownBy w' none) := fun w1 hg => by
    have := bad_src (hS.kept hg) hnc hx0 (by omega) hs
    rw [hma] at this
    exact this
  have HN : Hid (l.length = n) := hS.1
  have HSrc : Hid (∀ w1, w.grownBy w1 none → SrcW w1 ao n l) := fun w1 hg => hS.kept hg
  have HSum : Hid (∀ w1 v, DW w1 v l → Calls Tryz.prog 7 #[v] w1 fun e w' => e = .returned (.tuple #[whole false eS, .int .i64 2]) ∧ w1.grownBy w' none) := fun w1 v h => sum_bad w1 v l h (by rw [hS.1]; omega) hs hma
  have HGcd : Hid (∀ w1 v, DW w1 v l → Calls Tryz.prog 8 #[v] w1 fun e w' => e = .returned (.tuple #[whole false eS, .int .i64 2]) ∧ w1.grownBy w' none) := fun w1 v h => gcdL_bad w1 v l h (by rw [hS.1]; omega) hs hma
  have hnI : (n : Int) ≤ 60 := by omega
  have hncI : (n : Int) ≤ (c : Int) := by omega
  clear hS hs hlo hma htab hgp
  go_enter Tryz.func3, Tryz.ntmps3
  go_wp2_with fail
  refine (HL.out _ (World.grownBy.refl _ _)).mono ?_
  rintro e w1 ⟨rfl, g1⟩
  have HG1 : Hid (w.grownBy w1 none) := g1
  clear HL
  go_wp2_with (at_builtin; refine wpList_append_wholes rfl _ _ rfl w1.heap.size _ [] rfl (World.ownsRow_lit _ #[] 0 (Nat.le_refl _) (by decide) rfl) ao n c l rfl hx0 (HSrc.out _ (grownBy_trans HG1.out (grow1 _ _))) (by simp; omega) (by simp) ?_)
  intro v1 w2 ho1 hg1
  have ho1' : w2.ownsRow w1.heap.size 26 2 v1 l.length (cellsW l) := by simpa using ho1
  have hg1' : w.grownBy w2 none := grownBy_new (grownBy_trans HG1.out (grow1 _ _)) HG1.out.size hg1
  have HO1 : Hid (w2.ownsRow w1.heap.size 26 2 v1 l.length (cellsW l)) := ho1'
  have HG2 : Hid (w.grownBy w2 none) := hg1'
  have HS1 : Hid (w1.heap.size ≤ w2.heap.size) := Nat.le_trans (by simp) hg1.size
  clear ho1 hg1 ho1' hg1'
  go_wp2_with (at_builtin; refine wpList_append_wholes rfl _ _ rfl w1.heap.size v1 l rfl (HO1.out.alloc _) (some ⟨w2.heap.size, 0, none⟩) 1 1 [(false, mark)] rfl (by intro h; cases h) ⟨rfl, .inr ⟨_, _, rfl, mark_cells w2⟩⟩ (by rw [HN.out]; omega) (by have := HS1.out; simp; omega) ?_)
  intro v2 w3 ho2 hg2
  have HG3 : Hid (w.grownBy w3 none) := by
    cases hob : v1.ownBlock with
    | none => rw [hob] at hg2; exact grownBy_trans HG2.out (grownBy_trans (grow1 _ _) hg2)
    | some g => rw [hob] at hg2; exact grownBy_new (grownBy_trans HG2.out (grow1 _ _)) (Nat.le_trans HG1.out.size (HO1.out.lt g hob).1) hg2
  obtain ⟨g, cap, rfl, hg0, hg3, hg4, hgc, hgm⟩ := own_copy HN.out ho2
  have HCP : Hid (∀ w4, w3.grownBy w4 none → (∀ i p, l[i]? = some p → w4.cell? ⟨g, i * 2, none⟩ = some (.bool p.1) ∧ w4.cell? ⟨g, i * 2 + 1, none⟩ = some (.string p.2)) ∧ w4.cell? ⟨g, n * 2 + 1, none⟩ = some (.string mark)) := fun w4 h4 => ⟨fun i p hp => ⟨grownBy_cell h4 (hgc i p hp).1 (by simp), grownBy_cell h4 (hgc i p hp).2 (by simp)⟩, grownBy_cell h4 hgm (by simp)⟩
  have HDW : Hid (∀ w4, w3.grownBy w4 none → DW w4 (.slice (some ⟨g, 0, none⟩) n cap) l) := fun w4 h4 => by
    have := (HCP.out w4 h4).1
    have hl := HN.out
    subst hl
    exact ⟨g, 0, cap, rfl, by omega, fun j p hp => by simpa using this j p hp⟩
  unfold maxLen at hg4
  have hcapI : (n : Int) + 1 ≤ (cap : Int) := by omega
  have hcap9 : (cap : Int) ≤ 9223372036854775807 := by omega
  clear ho2 hg2 hgc hgm HO1 HS1 HG1 HG2 hg0
  go_wp2_with fail
  refine (HSum.out _ _ (HDW.out _ (World.grownBy.refl _ _))).mono ?_
  rintro e w4 ⟨rfl, g4⟩
  have HG4 : Hid (w3.grownBy (w4.alloc (wObj false eS)) none) := grownBy_trans g4 (grow1 _ _)
  clear g4
  go_wp2_with fail
  refine (HGcd.out _ _ (HDW.out _ HG4.out)).mono ?_
  rintro e w5 ⟨rfl, g5⟩
  have HB4 : Hid (WBlk w5 w4.heap.size (.bool false) (.string eS)) := WBlk.kept (heap_alloc_new _ _) g5 (by simp)
  have HG5 : Hid (w3.grownBy w5 none) := grownBy_trans HG4.out g5
  clear g5 HG4 HSum HGcd HDW
  go_wp2_with fail
  go_loopw [10] (fun t wr => ∃ k : Nat, k ≤ n ∧ t = .int .i64 (k : Int) ∧ w5.grownBy wr none ∧ WBlk wr w5.heap.size (.bool false) (.string eS)) (fun t _ => n - (RowKit.intOf t).toNat)
  case atStart => exact ⟨0, by omega, rfl, grow3 _ _ _ _, old_alloc _ _ (at_alloc1 _ _ _)⟩
  case round =>
    obtain ⟨k, hk, rfl, hg, hW⟩ := hrel
    have HGr : Hid (w5.grownBy wr none) := hg
    have HWr : Hid (WBlk wr w5.heap.size (.bool false) (.string eS)) := hW
    have hg3r := grownBy_trans HG5.out hg
    have HG3r : Hid (w3.grownBy wr none) := hg3r
    have HGw : Hid (w.grownBy wr none) := grownBy_trans HG3.out hg3r
    by_cases hk1 : k < n
    · have hkl : k < l.length := by rw [HN.out]; exact hk1
      have hp : l[k]? = some l[k] := List.getElem?_eq_getElem hkl
      obtain ⟨d0, d1⟩ := (HCP.out _ hg3r).1 k _ hp
      rcases (HSrc.out _ HGw.out).2 with h0 | ⟨B, off, hao, hcl⟩
      · omega
      obtain ⟨c0, c1⟩ := hcl k _ hp
      generalize l[k] = p at *
      obtain ⟨neg, mag⟩ := p
      simp only at c0 c1 d0 d1
      subst hao
      clear hcl hp hg hW hg3r hx0
      go_wp2_with fail
      go_region
      all_goals
        go_wp2_with fail
        refine (HB.out _ (grow_drew HGw.out)).mono ?_
        rintro e w6 ⟨rfl, g6⟩
        have HG6 : Hid (w5.grownBy w6 none) := grownBy_trans HGr.out (grownBy_undrew g6)
        have HW6 : Hid (WBlk w6 w5.heap.size (.bool false) (.string eS)) := HWr.out.kept (grownBy_undrew g6) (by simp)
        clear g6
        go_wp2_with fail
        go_roundw
        case rel => exact ⟨k + 1, by omega, rfl, HG6.out, HW6.out⟩
        case measure => simp [RowKit.intOf]; omega
    · obtain rfl : k = n := by omega
      have hm := (HCP.out _ hg3r).2
      clear hg hW hg3r
      go_wp2_with fail
      refine (HB.out _ HGw.out).mono ?_
      rintro e w6 ⟨rfl, g6⟩
      have hG6 : w5.grownBy w6 none := grownBy_trans HGr.out g6
      have HG6 : Hid (w.grownBy w6 none) := grownBy_trans HGw.out g6
      have HP : Hid (WBlk w6 w4.heap.size (.bool false) (.string eS)) := HB4.out.kept hG6 (by simp)
      have HQ : Hid (WBlk w6 w5.heap.size (.bool false) (.string eS)) := HWr.out.kept g6 (by simp)
      clear g6 hG6 hm
      have p0 := HP.out.c0
      have p1 := HP.out.c1
      have q0 := HQ.out.c0
      have q1 := HQ.out.c1
      go_wp2_with fail
      refine (arg_yes _).mono ?_
      rintro e w7 ⟨rfl, rfl⟩
      have q0 := (HQ.out.kept (grow1 w6 (wObj false eS)) (by simp)).c0
      have q1 := (HQ.out.kept (grow1 w6 (wObj false eS)) (by simp)).c1
      go_wp2_with fail
      refine (arg_yes _).mono ?_
      rintro e w8 ⟨rfl, rfl⟩
      go_wp2_with fail
      refine (works_any _ (HT.out _ (grownBy_trans HG6.out (grow2 _ _ _)))).mono ?_
      rintro e w9 ⟨rfl, g9⟩
      have HG9 : Hid (w.grownBy w9 none) := grownBy_trans HG6.out (grownBy_trans (grow2 _ _ _) g9)
      clear g9
      go_wp2_with fail
      go_ret
      exact ⟨rfl, HG9.out⟩
end Go.Proofs.YtjngcpbdilhkbaaGreatDoor
