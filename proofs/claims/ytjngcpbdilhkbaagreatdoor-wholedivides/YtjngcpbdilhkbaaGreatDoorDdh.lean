/-
  The walk over WholeDivides: what its parts share.
-/
import Derived.Test.YtjngcpbdilhkbaaGreatDoorGtw
import Derived.Test.YtjngcpbdilhkbaaGreatDoorThr
import Derived.Test.YtjngcpbdilhkbaaGreatDoorBunPrg
import Derived.Test.YtjngcpbdilhkbaaGreatDoorWks
namespace Go.Proofs.YtjngcpbdilhkbaaGreatDoor
open Go.RowKit Go.Lib Go.Sort
set_option linter.unusedVariables false

/-- What stays of both numbers. -/
def DdI (w : World) (na nb : Bool) (sa sb : ByteArray) (wx : World) : Prop :=
  WBlk wx w.heap.size (.bool na) (.string sa) ∧ WBlk wx (w.heap.size + 1) (.bool nb) (.string sb) ∧ w.grownBy wx none
theorem DdI.start (w : World) (na nb : Bool) (sa sb : ByteArray) : DdI w na nb sa sb ((w.alloc (wObj na sa)).alloc (wObj nb sb)) := ⟨at_alloc1 _ _ _, heap_alloc2_new _ _ _, grow2 _ _ _⟩
theorem DdI.kept {w wx wy : World} {na nb : Bool} {sa sb : ByteArray} (h : DdI w na nb sa sb wx) (g : wx.grownBy wy none) : DdI w na nb sa sb wy := ⟨h.1.kept g (by simp), h.2.1.kept g (by simp), grownBy_trans h.2.2 g⟩

theorem empty_z {k : Nat} {y : Int} {n : Bool} {s : ByteArray} {be : Bool} (h : Sz k y n s) (hb : (s.toList == []) = be) : (be = false → y ≠ 0) ∧ (be = true → y = 0) := by
  have hm := h.1.2
  have hl : s.toList.length = s.size := by rw [ByteArray.toList_eq]; exact Array.length_toList
  constructor
  · rintro rfl e
    subst e
    have : (bN s).length = 0 := by rw [hm]; simp [magN_zero]
    rw [bN_length] at this
    have : s.toList = [] := List.length_eq_zero_iff.1 (by omega)
    rw [this] at hb
    simp at hb
  · rintro rfl
    have : s.toList = [] := by simpa using hb
    rw [this] at hl
    have hs : s.size = 0 := by simpa using hl.symm
    have := h.num
    rw [empty_of_size hs] at this
    rw [← this]
    cases n <;> rfl

theorem empty_gcd {k : Nat} {x y : Int} {na nb : Bool} {sa sb sg : ByteArray} {ae be ge : Bool} (za : Sz k x na sa) (zb : Sz k y nb sb) (zg : Sz k ((Int.gcd x y : Nat) : Int) false sg) (ha : (sa.toList == []) = ae) (hb : (sb.toList == []) = be) (hg : (sg.toList == []) = ge) : ge = (ae && be) := by
  have a := empty_z za ha
  have b := empty_z zb hb
  have g := empty_z zg hg
  have h : Int.gcd x y = 0 ↔ x = 0 ∧ y = 0 := Int.gcd_eq_zero_iff
  cases ge
  · have g1 := g.1 rfl
    cases ae
    · rfl
    · cases be
      · rfl
      · exact absurd (by have := h.2 ⟨a.2 rfl, b.2 rfl⟩; omega) g1
  · have g1 := g.2 rfl
    have := h.1 (by omega)
    cases ae
    · exact absurd this.1 (a.1 rfl)
    · cases be
      · exact absurd this.2 (b.1 rfl)
      · rfl
theorem sz_zero {k : Nat} {n : Bool} {s : ByteArray} (h : Sz k 0 n s) : n = false ∧ s = eS := whole_inj (h.1.one (⟨rfl, by simp [magN_zero, bN]⟩ : IsZ 0 false eS))
theorem sz_one {k : Nat} {s : ByteArray} (h : Sz k 1 false s) : s = ⟨#[1]⟩ := (whole_inj (h.1.one (⟨rfl, by rw [show (1 : Int).natAbs = 1 from rfl, magN_small 1 (by decide) (by decide)]; rfl⟩ : IsZ 1 false ⟨#[1]⟩))).2

/-- What follows behind n statements. -/
def restN : Nat → Code → Code
  | 0, c => c
  | n + 1, .seq _ b => restN n b
  | _ + 1, c => c
def codeOf (f : Func) : Code := f.body.getD .skip
end Go.Proofs.YtjngcpbdilhkbaaGreatDoor
