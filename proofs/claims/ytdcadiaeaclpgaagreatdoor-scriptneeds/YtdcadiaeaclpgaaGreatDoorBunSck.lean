/-
  The document's SameArg, and its MayArg in its ways.
  The document's MayArg.
  The document's Check.
-/
import Derived.Test.YtdcadiaeaclpgaaGreatDoorBunScd
import Derived.Test.YtdcadiaeaclpgaaGreatDoorFri
import Derived.Laws.CopyOwn
import Derived.Test.YtdcadiaeaclpgaaGreatDoorBunRed
import Derived.Test.YtdcadiaeaclpgaaGreatDoorBunPrd
import Derived.Test.YtdcadiaeaclpgaaGreatDoorBunShd
import Derived.Test.YtdcadiaeaclpgaaGreatDoorBunTtm
import Derived.Test.YtdcadiaeaclpgaaGreatDoorBunShf
import Derived.Test.YtdcadiaeaclpgaaGreatDoorBunAll
import Derived.Test.YtdcadiaeaclpgaaGreatDoorBunOps
namespace Go.Proofs.YtdcadiaeaclpgaaGreatDoor
open Go.RowKit Go.Lib Go.Sort
set_option linter.unusedVariables false
set_option linter.unusedSimpArgs false
set_option maxHeartbeats 3200000
set_option maxRecDepth 1000000
theorem rSameArg_any (w : World) (x y : Ag) (u v : Value) (hx : x.Fit) (hy : y.Fit) (hu : Ints w u x.wd) (hv : Ints w v y.wd) :
    Calls Tryz.prog 36 #[agv x u, agv y v] w fun e w' => e = .returned (.bool (x.eqb y)) ∧ w.grownBy w' none := by
  have HE : Hid (∀ W, w.grownBy W none → Calls Tryz.prog 27 #[u, v] W fun e w' => e = .returned (.bool (decide (x.wd = y.wd))) ∧ W.grownBy w' none) := fun W hg => sameInts_any W u v _ _ (hu.kept hg) (hv.kept hg) hx.wd hy.wd
  have HNe : Hid (x.eqb y = true → x = y) := Ag.eqb_iff.1
  have HEq : Hid (x.eqb y = false → x ≠ y) := fun h e => by rw [Ag.eqb_iff.2 e] at h; cases h
  clear hx hy hu hv
  generalize hq : x.eqb y = q at *
  clear hq
  by_cases hw : x.wd = y.wd
  · have HE2 : Hid (∀ W, w.grownBy W none → Calls Tryz.prog 27 #[u, v] W fun e w' => e = .returned (.bool true) ∧ W.grownBy w' none) := by
      rw [decide_eq_true hw] at HE
      exact HE
    clear HE
    have HW : Hid (x.wd = y.wd) := hw
    clear hw
    go_enter Tryz.func36, Tryz.ntmps36
    go_wp2_with fail
    refine (HE2.out _ (grow2 _ _ _)).mono ?_
    rintro e w1 ⟨rfl, hg⟩
    have HG : Hid (w.grownBy w1 none) := grownBy_trans (grow2 _ _ _) hg
    have hA : ABk w1 w.heap.size x u := (hg.block _ (by simp; omega) (by simp)).trans (at_alloc1 _ _ _)
    have hB : ABk w1 (w.heap.size + 1) y v := by
      have h0 := heap_alloc_new (w.alloc (.cells (agc x u) 45)) (.cells (agc y v) 45)
      have e : (w.alloc (.cells (agc x u) 45)).heap.size = w.heap.size + 1 := by simp
      rw [e] at h0
      exact (hg.block _ (by simp) (by simp)).trans h0
    have a0 := hA.at.c0
    have b0 := hB.at.c0
    have a1 := hA.at.c1
    have b1 := hB.at.c1
    have a2 := hA.at.c2
    have b2 := hB.at.c2
    have a3 := hA.at.c3
    have b3 := hB.at.c3
    have a4 := hA.at.c4
    have b4 := hB.at.c4
    have a5 := hA.at.c5
    have b5 := hB.at.c5
    have a6 := hA.at.c6
    have b6 := hB.at.c6
    have a7 := hA.at.c7
    have b7 := hB.at.c7
    have a8 := hA.at.c8
    have b8 := hB.at.c8
    have a9 := hA.at.c9
    have b9 := hB.at.c9
    have a10 := hA.at.c10
    have b10 := hB.at.c10
    have a11 := hA.at.c11
    have b11 := hB.at.c11
    simp only [Nat.zero_add] at a0 a1 a2 a3 a4 a5 a6 a7 a8 a9 a10 a11 b0 b1 b2 b3 b4 b5 b6 b7 b8 b9 b10 b11
    clear hA hB hg a10 b10
    go_wp2_with fail
    rotate_left
    all_goals first
      | (go_ret
         refine ⟨ret_bool ?_, HG.out⟩
         cases q
         · rfl
         · exfalso
           obtain rfl := HNe.out rfl
           simp_all)
      | skip
    go_ret
    refine ⟨ret_bool ?_, HG.out⟩
    clear a0 a1 a2 a3 a4 a5 a6 a7 a8 a9 a11 b0 b1 b2 b3 b4 b5 b6 b7 b8 b9 b11
    rename_i h9 h8 h7 h6 h5 h4 h3 h2 h1 h0
    have hxy : x = y ↔ x.ct = y.ct := by
      refine ⟨fun e => by rw [e], fun e => ?_⟩
      have n8 := tl_inj h8
      have n6 := tl_inj h6
      have n4 := tl_inj h4
      have n2 := tl_inj h2
      have n0 := tl_inj h0
      have hW := HW.out
      obtain ⟨xk, xn, ⟨x1, x2, x3, x4, x5, x6, x7, x8⟩, xw, xc⟩ := x
      obtain ⟨yk, yn, ⟨y1, y2, y3, y4, y5, y6, y7, y8⟩, yw, yc⟩ := y
      simp only at *
      subst h9 n8 h7 n6 h5 n4 h3 n2 h1 n0 hW e
      rfl
    cases q
    · have := HEq.out rfl
      rw [Ne, hxy] at this
      simpa using this
    · have := HNe.out rfl
      rw [hxy] at this
      simpa using this
  · have HE2 : Hid (∀ W, w.grownBy W none → Calls Tryz.prog 27 #[u, v] W fun e w' => e = .returned (.bool false) ∧ W.grownBy w' none) := by
      rw [decide_eq_false hw] at HE
      exact HE
    clear HE
    have HW : Hid (x.wd ≠ y.wd) := hw
    clear hw
    go_enter Tryz.func36, Tryz.ntmps36
    go_wp2_with fail
    refine (HE2.out _ (grow2 _ _ _)).mono ?_
    rintro e w1 ⟨rfl, hg⟩
    have HG : Hid (w.grownBy w1 none) := grownBy_trans (grow2 _ _ _) hg
    clear hg
    go_wp2_with fail
    go_ret
    refine ⟨ret_bool ?_, HG.out⟩
    cases q
    · rfl
    · exact absurd (congrArg Ag.wd (HNe.out rfl)) HW.out
theorem may_1 (a : Ag) (hk : a.k = 1) : mayA a = (isNm a.nm && a.eqb ⟨1, a.nm, Gz.zero, [], 0⟩) := by
  simp [mayA, hk, Ag.eqb]
theorem may_2 (a : Ag) (hk : a.k = 2) : mayA a = (mayZ a.z && a.eqb ⟨2, eS, a.z, [], 0⟩) := by
  have e : a.z.eqb a.z = true := Gz.eqb_iff.2 rfl
  have e2 : Gz.zero.eqb Gz.zero = true := Gz.eqb_iff.2 rfl
  simp [mayA, hk, Ag.eqb, e, e2]
theorem may_4 (a : Ag) (hk : a.k = 4) : mayA a = (isWd a.wd && a.eqb ⟨4, eS, Gz.zero, a.wd, 0⟩) := by
  simp [mayA, hk, Ag.eqb]
theorem may_5 (a : Ag) (hk : a.k = 5) : mayA a = (isCt a.ct && a.eqb ⟨5, eS, Gz.zero, [], a.ct⟩) := by
  simp [mayA, hk, Ag.eqb]
abbrev sObj (vb nm : ByteArray) (u : Value) : Obj := .cells #[.string vb, .string nm, u] 24
theorem sObj_2 {w w' : World} {vb nm : ByteArray} {u : Value} (h : (w.alloc (sObj vb nm u)).grownBy w' none) : w'.cell? ⟨w.heap.size, 2, none⟩ = some u :=
  grownBy_cell h (by
    have h0 := heap_alloc_new w (sObj vb nm u)
    simp only [World.cell?, h0]
    rfl) (by simp)
end Go.Proofs.YtdcadiaeaclpgaaGreatDoor
