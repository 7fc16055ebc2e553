/-
  A table that stays, a builder that stays.
-/
import Derived.Test.YtmgbkcfocbbofabGreatDoorRed
import Derived.Test.YtmgbkcfocbbofabGreatDoorShl
import Derived.Lib.SmallJoins
namespace Go.Proofs.YtmgbkcfocbbofabGreatDoor
open Go.RowKit Go.Lib Go.Sort

theorem tab_kept {w w' : World} {name : String} {k : IntKind} {zs : List Int} {g : Nat} (hg : Tryz.prog.globalNamed name = some g) (h : Lib.TabIs Tryz.prog w name k zs) (hb : w.grownBy w' none) : Lib.TabIs Tryz.prog w' name k zs :=
  Joins.tab_stays hg h (below_of_grownBy hb) (Nat.le_refl _)
theorem pow10_g : ∃ g, Tryz.prog.globalNamed "internal/strconv.uint64pow10" = some g := ⟨1, by kernel_rfl⟩

theorem builder_kept {T e : TypeId} {B b : Nat} {p : Value} {bs : List Value} {w w' : World} (h : Lib.BuilderAt T e B b p bs w) (hg : w.grownBy w' none) : Lib.BuilderAt T e B b p bs w' := by
  obtain ⟨hB, v, hb, ho, hn⟩ := h
  exact ⟨hB, v, (hg.block b (Array.getElem?_eq_some_iff.1 hb).1 (by simp)).trans hb, ho.kept hg (by cases v.ownBlock <;> simp), hn⟩

end Go.Proofs.YtmgbkcfocbbofabGreatDoor
