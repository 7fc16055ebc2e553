/-
  The walk over WholeLists, of numbers that may be.
-/
import Derived.Test.YtjngcpbdilhkbaaGreatDoorWlc
import Derived.Test.YtjngcpbdilhkbaaGreatDoorGar
import Derived.Deep.RegionWith
namespace Go.Proofs.YtjngcpbdilhkbaaGreatDoor
open Go.RowKit Go.Lib Go.Sort
set_option linter.unusedVariables false

theorem sumZ_le : ∀ (l : List (Bool × ByteArray)) (M : Nat), (∀ p ∈ l, (num p.1 p.2).natAbs ≤ M) → (sumZ l).natAbs ≤ l.length * M
  | [], M, _ => by simp [sumZ]
  | p :: l, M, h => by
    have h1 := sumZ_le l M (fun q hq => h q (by simp [hq]))
    have h2 := h p (by simp)
    have e : sumZ (p :: l) = num p.1 p.2 + sumZ l := by simp [sumZ]
    rw [e, List.length_cons, Nat.add_mul, Nat.one_mul]
    omega
theorem short_of {l : List (Bool × ByteArray)} (hlo : anyLong l = false) (hma : mayAll l = true) : ∀ p ∈ l, may p.1 p.2 = true ∧ p.2.size ≤ 400 := by
  intro p hp
  have h1 : may p.1 p.2 = true := by
    unfold mayAll at hma
    exact List.all_eq_true.1 hma p hp
  have h2 : isLong p = false := by
    unfold anyLong at hlo
    have := List.any_eq_false.1 hlo p hp
    simpa using this
  refine ⟨h1, ?_⟩
  unfold isLong at h2
  rw [h1] at h2
  simpa using h2
theorem sumZ_lt {l : List (Bool × ByteArray)} {K : Nat} (h : ∀ p ∈ l, may p.1 p.2 = true ∧ p.2.size ≤ K) (hn : l.length ≤ 60) : (sumZ l).natAbs < 256 ^ (K + 1) := by
  have h1 := sumZ_le l (256 ^ K) (fun p hp => by
    have := num_lt p.1 p.2
    have h2 : 256 ^ p.2.size ≤ 256 ^ K := Nat.pow_le_pow_right (by decide) (h p hp).2
    omega)
  have h0 : 0 < 256 ^ K := Nat.pow_pos (by decide)
  rw [Nat.pow_succ]
  generalize 256 ^ K = M at *
  have h3 : l.length * M ≤ 60 * M := Nat.mul_le_mul_right _ hn
  omega
theorem sumZ_bl {l : List (Bool × ByteArray)} {K : Nat} (h : ∀ p ∈ l, may p.1 p.2 = true ∧ p.2.size ≤ K) (hn : l.length ≤ 60) : bl (sumZ l).natAbs ≤ 8 * (K + 1) :=
  bl_of_lt' (sumZ_lt h hn)
theorem isz_nat {g : Nat} {s : ByteArray} (h : bN s = magN g) : IsZ ((g : Nat) : Int) false s := ⟨by symm; exact decide_eq_false (by omega), by rw [Int.natAbs_natCast]; exact h⟩
/-- What stands behind k rounds of the law's own sum and greatest divisor. -/
def LlI (w5 wr : World) (l : List (Bool × ByteArray)) (sg : ByteArray) (k : Nat) : Prop :=
  ∃ n8 s8 s9, WBlk wr (w5.heap.size + 1) (.bool n8) (.string s8) ∧ IsZ (sumZ (l.take k)) n8 s8 ∧ WBlk wr (w5.heap.size + 1 + 1) (.bool false) (.string s9) ∧ bN s9 = magN (gcdL (l.take k)) ∧ WBlk wr w5.heap.size (.bool false) (.string sg) ∧ w5.grownBy wr none

set_option maxHeartbeats 6400000 in
set_option maxRecDepth 1000000 in
theorem lists_yes (ao : Option Addr) (n c : Nat) (l : List (Bool × ByteArray)) (w : World) (hS : SrcW w ao n l) (hnc : n ≤ c) (hx0 : ao = none → c = 0) (hn : n ≤ 60) (hc9 : c ≤ 9223372036854775807) (hs : ∀ p ∈ l, p.2.size ≤ maxLen) (hlo : anyLong l = false) (hma : mayAll l = true) (htab : Lib.TabIs Tryz.prog w "internal/strconv.uint64pow10" .u64 Lib.pow10Tab) :
    Calls Tryz.prog 3 #[.slice ao n c] w fun e w' => e = .returned (.bool true) ∧ w.grownBy w' none := by
  obtain ⟨gp, hgp⟩ := pow10_g
  have HT : Hid (∀ w', w.grownBy w' none → Lib.TabIs Tryz.prog w' "internal/strconv.uint64pow10" .u64 Lib.pow10Tab) := fun w' hg => tab_kept hgp htab hg
  have HL : Hid (∀ w1, w.grownBy w1 none → Calls Tryz.prog 5 #[.slice ao n c] w1 fun e w' => e = .returned (.bool false) ∧ w1.grownBy w' none) := fun w1 hg => by
    have := long_src (hS.kept hg) hnc hx0 (by omega) hs
    rw [hlo] at this
    exact this
  have HB : Hid (∀ w1, w.grownBy w1 none → Calls Tryz.prog 9 #[.slice ao n c] w1 fun e w' => e = .returned (.bool false) ∧ w1.grownBy w' none) := fun w1 hg => by
    have := bad_src (hS.kept hg) hnc hx0 (by omega) hs
    rw [hma] at this
    exact this
  have HN : Hid (l.length = n) := hS.1
  have HSrc : Hid (∀ w1, w.grownBy w1 none → SrcW w1 ao n l) := fun w1 hg => hS.kept hg
  have hsh := short_of hlo hma
  have HSh : Hid (∀ p ∈ l, may p.1 p.2 = true ∧ p.2.size ≤ 400) := hsh
  have hblS : bl (sumZ l).natAbs ≤ 8 * (400 + 1) := sumZ_bl hsh (by rw [hS.1]; exact hn)
  have HBS : Hid (bl (sumZ l).natAbs ≤ 10000000) := Nat.le_trans hblS (by decide)
  have hblG : bl (gcdL l) ≤ 131072 := gcdL_bl l 0 (by decide) (fun p hp => (hsh p hp).1)
  have BSS : Hid (bl (sumZ l).natAbs ≤ 131072) := Nat.le_trans hblS (by decide)
  have BGG : Hid (bl (((gcdL l : Nat) : Int)).natAbs ≤ 131072) := by rw [Int.natAbs_natCast]; exact hblG
  have HSum : Hid (∀ w1 v, DW w1 v l → Calls Tryz.prog 7 #[v] w1 fun e w' => ∃ sn ss, e = .returned (.tuple #[whole sn ss, .int .i64 0]) ∧ IsZ (sumZ l) sn ss ∧ w1.grownBy w' none) := fun w1 v h => by
    refine (sum_any w1 v l h (by rw [hS.1]; omega) hma).mono ?_
    rintro e w' ⟨hz, hg⟩
    rcases hz with ⟨_, sn, ss, rfl, hz⟩ | ⟨hz, _⟩
    · exact ⟨sn, ss, rfl, hz, hg⟩
    · omega
  have HGcd : Hid (∀ w1 v, DW w1 v l → Calls Tryz.prog 8 #[v] w1 fun e w' => ∃ sg, e = .returned (.tuple #[whole false sg, .int .i64 0]) ∧ bN sg = magN (gcdL l) ∧ w1.grownBy w' none) := fun w1 v h => gcdL_any w1 v l h (by rw [hS.1]; omega) hma
  have hnI : (n : Int) ≤ 60 := by omega
  have hncI : (n : Int) ≤ (c : Int) := by omega
  clear hS hs hlo hma htab hgp hsh hblS hblG
  go_enter Tryz.func3, Tryz.ntmps3
  go_wp2_with fail
  refine (HL.out _ (World.grownBy.refl _ _)).mono ?_
  rintro e w1 ⟨rfl, g1⟩
  have HG1 : Hid (w.grownBy w1 none) := g1
  clear HL
  go_wp2_with (at_builtin; refine wpList_append_wholes rfl _ _ rfl w1.heap.size _ [] rfl (World.ownsRow_lit _ #[] 0 (Nat.le_refl _) (by decide) rfl) ao n c l rfl hx0 (HSrc.out _ (grownBy_trans HG1.out (grow1 _ _))) (by simp; omega) (by simp) ?_)
  intro v1 w2 ho1 hg1
  have ho1' : w2.ownsRow w1.heap.size 26 2 v1 l.length (cellsW l) := by simpa using ho1
  have hg1' : w.grownBy w2 none := grownBy_new (grownBy_trans HG1.out (grow1 _ _)) HG1.out.size hg1
  have HO1 : Hid (w2.ownsRow w1.heap.size 26 2 v1 l.length (cellsW l)) := ho1'
  have HG2 : Hid (w.grownBy w2 none) := hg1'
  have HS1 : Hid (w1.heap.size ≤ w2.heap.size) := Nat.le_trans (by simp) hg1.size
  clear ho1 hg1 ho1' hg1'
  go_wp2_with (at_builtin; refine wpList_append_wholes rfl _ _ rfl w1.heap.size v1 l rfl (HO1.out.alloc _) (some ⟨w2.heap.size, 0, none⟩) 1 1 [(false, mark)] rfl (by intro h; cases h) ⟨rfl, .inr ⟨_, _, rfl, mark_cells w2⟩⟩ (by rw [HN.out]; omega) (by have := HS1.out; simp; omega) ?_)
  intro v2 w3 ho2 hg2
  have HG3 : Hid (w.grownBy w3 none) := by
    cases hob : v1.ownBlock with
    | none => rw [hob] at hg2; exact grownBy_trans HG2.out (grownBy_trans (grow1 _ _) hg2)
    | some g => rw [hob] at hg2; exact grownBy_new (grownBy_trans HG2.out (grow1 _ _)) (Nat.le_trans HG1.out.size (HO1.out.lt g hob).1) hg2
  obtain ⟨g, cap, rfl, hg0, hg3, hg4, hgc, hgm⟩ := own_copy HN.out ho2
  have HCP : Hid (∀ w4, w3.grownBy w4 none → (∀ i p, l[i]? = some p → w4.cell? ⟨g, i * 2, none⟩ = some (.bool p.1) ∧ w4.cell? ⟨g, i * 2 + 1, none⟩ = some (.string p.2)) ∧ w4.cell? ⟨g, n * 2 + 1, none⟩ = some (.string mark)) := fun w4 h4 => ⟨fun i p hp => ⟨grownBy_cell h4 (hgc i p hp).1 (by simp), grownBy_cell h4 (hgc i p hp).2 (by simp)⟩, grownBy_cell h4 hgm (by simp)⟩
  have HDW : Hid (∀ w4, w3.grownBy w4 none → DW w4 (.slice (some ⟨g, 0, none⟩) n cap) l) := fun w4 h4 => by
    have := (HCP.out w4 h4).1
    have hl := HN.out
    subst hl
    exact ⟨g, 0, cap, rfl, by omega, fun j p hp => by simpa using this j p hp⟩
  unfold maxLen at hg4
  have hcapI : (n : Int) + 1 ≤ (cap : Int) := by omega
  have hcap9 : (cap : Int) ≤ 9223372036854775807 := by omega
  clear ho2 hg2 hgc hgm HO1 HS1 HG1 HG2 hg0
  go_wp2_with fail
  refine (HSum.out _ _ (HDW.out _ (World.grownBy.refl _ _))).mono ?_
  rintro e w4 ⟨sn, ss, rfl, hzs, g4⟩
  have HZS : Hid (IsZ (sumZ l) sn ss) := hzs
  have HG4 : Hid (w3.grownBy (w4.alloc (wObj sn ss)) none) := grownBy_trans g4 (grow1 _ _)
  clear g4 hzs
  go_wp2_with fail
  refine (HGcd.out _ _ (HDW.out _ HG4.out)).mono ?_
  rintro e w5 ⟨sg, rfl, hzg, g5⟩
  have HZG : Hid (bN sg = magN (gcdL l)) := hzg
  have HB4 : Hid (WBlk w5 w4.heap.size (.bool sn) (.string ss)) := WBlk.kept (heap_alloc_new _ _) g5 (by simp)
  have HG5 : Hid (w3.grownBy w5 none) := grownBy_trans HG4.out g5
  clear g5 HG4 HSum HGcd HDW hzg
  go_wp2_with fail
  go_loopw [10] (fun t wr => ∃ k : Nat, k ≤ n ∧ t = .int .i64 (k : Int) ∧ LlI w5 wr l sg k) (fun t _ => n - (RowKit.intOf t).toNat)
  case atStart => exact ⟨0, by omega, rfl, false, eS, eS, at_alloc2 _ _ _ _, by simp [sumZ, IsZ, magN_zero, bN], at_alloc3 _ _ _ _, by simp [gcdL, magN_zero, bN], old_alloc _ _ (at_alloc1 _ _ _), grow3 _ _ _ _⟩
  case round =>
    obtain ⟨k, hk, rfl, n8, s8, s9, h8, z8, h9, z9, hW, hg⟩ := hrel
    have HGr : Hid (w5.grownBy wr none) := hg
    have HWr : Hid (WBlk wr w5.heap.size (.bool false) (.string sg)) := hW
    have H8 : Hid (WBlk wr (w5.heap.size + 1) (.bool n8) (.string s8)) := h8
    have H9 : Hid (WBlk wr (w5.heap.size + 1 + 1) (.bool false) (.string s9)) := h9
    have Z8 : Hid (IsZ (sumZ (l.take k)) n8 s8) := z8
    have Z9 : Hid (bN s9 = magN (gcdL (l.take k))) := z9
    have hg3r := grownBy_trans HG5.out hg
    have HG3r : Hid (w3.grownBy wr none) := hg3r
    have HGw : Hid (w.grownBy wr none) := grownBy_trans HG3.out hg3r
    by_cases hk1 : k < n
    · have hkl : k < l.length := by rw [HN.out]; exact hk1
      have hp : l[k]? = some l[k] := List.getElem?_eq_getElem hkl
      obtain ⟨d0, d1⟩ := (HCP.out _ hg3r).1 k _ hp
      rcases (HSrc.out _ HGw.out).2 with h0 | ⟨B, off, hao, hcl⟩
      · omega
      obtain ⟨c0, c1⟩ := hcl k _ hp
      have hmp := HSh.out l[k] (List.getElem_mem hkl)
      have hst := sumZ_take l k _ hp
      have hgt := gcdL_take l k _ hp
      have hm8 : may n8 s8 = true := z8.may (by
        have h1 := sumZ_bl (l := l.take k) (fun p hp => HSh.out p (List.mem_of_mem_take hp)) (by rw [List.length_take]; omega)
        omega)
      have hm9 := gcd_may z9 (gcdL_bl (l.take k) 0 (by decide) (fun p hp => (HSh.out p (List.mem_of_mem_take hp)).1))
      generalize l[k] = p at *
      obtain ⟨neg, mag⟩ := p
      simp only at c0 c1 d0 d1 hmp hst hgt
      have HPl : Hid (∀ W : World, Calls Tryz.prog 10 #[whole n8 s8, whole neg mag] W fun e w' => ∃ n s, e = .returned (whole n s) ∧ IsZ (sumZ (l.take (k + 1))) n s ∧ W.grownBy w' none) := fun W => by
        have := rPlus_z n8 neg s8 mag hm8 hmp.1 W
        rw [z8.num, ← hst] at this
        exact this
      have HRg : Hid (∀ W : World, Calls Tryz.prog 11 #[whole false s9, whole neg mag] W fun e w' => ∃ s, e = .returned (whole false s) ∧ bN s = magN (gcdL (l.take (k + 1))) ∧ W.grownBy w' none) := fun W => by
        have := rGcd_any false neg s9 mag hm9.1 hmp.1 W
        rw [hm9.2, ← hgt] at this
        exact this
      subst hao
      have HCL : Hid (∀ W : World, wr.grownBy W none → W.cell? ⟨B, off + k * 2, none⟩ = some (.bool neg) ∧ W.cell? ⟨B, off + k * 2 + 1, none⟩ = some (.string mag)) := fun W h => ⟨grownBy_cell h c0 (by simp), grownBy_cell h c1 (by simp)⟩
      have HC5 : Hid (∀ W : World, w5.grownBy W none → W.cell? ⟨B, off + k * 2, none⟩ = some (.bool neg) ∧ W.cell? ⟨B, off + k * 2 + 1, none⟩ = some (.string mag)) := fun W h => by
        rcases (HSrc.out W (grownBy_trans HG3.out (grownBy_trans HG5.out h))).2 with h0 | ⟨B', off', e, hc⟩
        · omega
        · cases e
          exact hc k _ hp
      clear hcl hp hg hW hg3r hx0 h8 h9 z8 z9 hm8 hm9 hst hgt hmp
      go_wp2_with fail
      go_region
      all_goals
        go_wp2_with fail
        refine (HB.out _ (grow_drew HGw.out)).mono ?_
        rintro e w6 ⟨rfl, g6⟩
        have HG6 : Hid (wr.grownBy w6 none) := grownBy_undrew g6
        have HA : Hid (WBlk w6 (w5.heap.size + 1) (.bool n8) (.string s8)) := H8.out.kept HG6.out (by simp)
        clear g6 c0 c1 d0 d1
        obtain ⟨c0, c1⟩ := HCL.out _ HG6.out
        have a0 := HA.out.c0
        have a1 := HA.out.c1
        go_wp2_with fail
        go_region_with (go_at_call 10; refine (HPl.out _).mono ?_; rintro e wA ⟨nA, sA, rfl, hzA, gA⟩; have GA : w6.grownBy wA none := (by first | exact gA | exact grownBy_undrew gA); have hWA := HA.out.kept GA (by simp); have e0 := hWA.c0; have e1 := hWA.c1; have f0 := hWA.fr 0; have f1 := hWA.fr 1)
        all_goals
          have H8A : Hid (WBlk ((wA.setCell ⟨w5.heap.size + 1, 0, none⟩ (.bool nA)).setCell ⟨w5.heap.size + 1, 1, none⟩ (.string sA)) (w5.heap.size + 1) (.bool nA) (.string sA)) := hWA.put _ _
          have hG5A : w5.grownBy ((wA.setCell ⟨w5.heap.size + 1, 0, none⟩ (.bool nA)).setCell ⟨w5.heap.size + 1, 1, none⟩ (.string sA)) none := grown_set (grown_set (grownBy_trans HGr.out (grownBy_trans HG6.out GA)) (by omega)) (by omega)
          have HG5A : Hid (w5.grownBy ((wA.setCell ⟨w5.heap.size + 1, 0, none⟩ (.bool nA)).setCell ⟨w5.heap.size + 1, 1, none⟩ (.string sA)) none) := hG5A
          have H9A : Hid (WBlk ((wA.setCell ⟨w5.heap.size + 1, 0, none⟩ (.bool nA)).setCell ⟨w5.heap.size + 1, 1, none⟩ (.string sA)) (w5.heap.size + 1 + 1) (.bool false) (.string s9)) := WBlk.other (WBlk.other (H9.out.kept (grownBy_trans HG6.out GA) (by simp)) (by omega)) (by omega)
          have HWA : Hid (WBlk ((wA.setCell ⟨w5.heap.size + 1, 0, none⟩ (.bool nA)).setCell ⟨w5.heap.size + 1, 1, none⟩ (.string sA)) w5.heap.size (.bool false) (.string sg)) := WBlk.other (WBlk.other (HWr.out.kept (grownBy_trans HG6.out GA) (by simp)) (by omega)) (by omega)
          have HLA : Hid (((wA.setCell ⟨w5.heap.size + 1, 0, none⟩ (.bool nA)).setCell ⟨w5.heap.size + 1, 1, none⟩ (.string sA)).cell? ⟨B, off + k * 2, none⟩ = some (.bool neg) ∧ ((wA.setCell ⟨w5.heap.size + 1, 0, none⟩ (.bool nA)).setCell ⟨w5.heap.size + 1, 1, none⟩ (.string sA)).cell? ⟨B, off + k * 2 + 1, none⟩ = some (.string mag)) := HC5.out _ hG5A
          have ZA : Hid (IsZ (sumZ (l.take (k + 1))) nA sA) := hzA
          clear gA GA hWA e0 e1 f0 f1 hzA hG5A a0 a1 c0 c1 HA HG6
          generalize (wA.setCell ⟨w5.heap.size + 1, 0, none⟩ (.bool nA)).setCell ⟨w5.heap.size + 1, 1, none⟩ (.string sA) = wB at *
          obtain ⟨c0, c1⟩ := HLA.out
          have a0 := H9A.out.c0
          have a1 := H9A.out.c1
          go_wp2_with fail
          go_region_with (go_at_call 11; refine (HRg.out _).mono ?_; rintro e wC ⟨sC, rfl, hzC, gC⟩; have GC : wB.grownBy wC none := (by first | exact gC | exact grownBy_undrew gC); have hWC := H9A.out.kept GC (by simp); have e0 := hWC.c0; have e1 := hWC.c1; have f0 := hWC.fr 0; have f1 := hWC.fr 1)
          all_goals
            have HF : Hid (LlI w5 ((wC.setCell ⟨w5.heap.size + 1 + 1, 0, none⟩ (.bool false)).setCell ⟨w5.heap.size + 1 + 1, 1, none⟩ (.string sC)) l sg (k + 1)) := ⟨nA, sA, sC, WBlk.other (WBlk.other (H8A.out.kept GC (by simp)) (by omega)) (by omega), ZA.out, hWC.put _ _, hzC, WBlk.other (WBlk.other (HWA.out.kept GC (by simp)) (by omega)) (by omega), grown_set (grown_set (grownBy_trans HG5A.out GC) (by omega)) (by omega)⟩
            clear gC GC hWC e0 e1 f0 f1 hzC a0 a1 c0 c1
            go_wp2_with fail
            go_roundw
            case rel => exact ⟨k + 1, by omega, rfl, HF.out⟩
            case measure => simp [RowKit.intOf]; omega
    · obtain rfl : k = n := by omega
      have hm := (HCP.out _ hg3r).2
      rw [List.take_of_length_le (by rw [HN.out]; exact Nat.le_refl _)] at z8 z9
      have Y8 : Hid (IsZ (sumZ l) n8 s8) := z8
      have Y9 : Hid (bN s9 = magN (gcdL l)) := z9
      clear hg hW hg3r h8 h9 z8 z9
      go_wp2_with fail
      refine (HB.out _ HGw.out).mono ?_
      rintro e w6 ⟨rfl, g6⟩
      have hG6 : w5.grownBy w6 none := grownBy_trans HGr.out g6
      have HG6 : Hid (w.grownBy w6 none) := grownBy_trans HGw.out g6
      have HP : Hid (WBlk w6 w4.heap.size (.bool sn) (.string ss)) := HB4.out.kept hG6 (by simp)
      have HQ : Hid (WBlk w6 w5.heap.size (.bool false) (.string sg)) := HWr.out.kept g6 (by simp)
      have H8' : Hid (WBlk w6 (w5.heap.size + 1) (.bool n8) (.string s8)) := H8.out.kept g6 (by simp)
      have H9' : Hid (WBlk w6 (w5.heap.size + 1 + 1) (.bool false) (.string s9)) := H9.out.kept g6 (by simp)
      clear g6 hG6 hm
      have p0 := HP.out.c0
      have p1 := HP.out.c1
      have t0 := H8'.out.c0
      have t1 := H8'.out.c1
      go_wp2_with fail
      refine (is_yes (z := sumZ l) (.inl ⟨BSS.out, _, _, rfl, HZS.out⟩) Y8.out HBS.out _).mono ?_
      rintro e w7 ⟨rfl, g7⟩
      have q0 := (HQ.out.kept g7 (by simp)).c0
      have q1 := (HQ.out.kept g7 (by simp)).c1
      have r0 := (H9'.out.kept g7 (by simp)).c0
      have r1 := (H9'.out.kept g7 (by simp)).c1
      have HG7 : Hid (w.grownBy w7 none) := grownBy_trans HG6.out g7
      clear g7 p0 p1 t0 t1
      go_wp2_with fail
      refine (is_yes (z := ((gcdL l : Nat) : Int)) (.inl ⟨BGG.out, _, _, rfl, isz_nat HZG.out⟩) (isz_nat Y9.out) (Nat.le_trans BGG.out (by decide)) _).mono ?_
      rintro e w8 ⟨rfl, g8⟩
      have HG8 : Hid (w.grownBy w8 none) := grownBy_trans HG7.out g8
      clear g8 q0 q1 r0 r1
      go_wp2_with fail
      refine (works_any _ (HT.out _ HG8.out)).mono ?_
      rintro e w9 ⟨rfl, g9⟩
      have HG9 : Hid (w.grownBy w9 none) := grownBy_trans HG8.out g9
      clear g9
      go_wp2_with fail
      go_ret
      exact ⟨rfl, HG9.out⟩
end Go.Proofs.YtjngcpbdilhkbaaGreatDoor
