/-
  DERIVED. GIVEN WITH THE SEED: THE CARDS: each row of YtmgbkcfocbbofabGreatDoorRows.lean that lists a variable, with what it lists TIED to the program's text (the seventh form; the later family's looks); each row that meets fmt, with fmt's text TOLD by the authors' own Lean function (tested against real Go, not proved from fmt's source: count such statements apart). THE CARD IS WHAT COUNTS. Prove the row's statement (the work); the ties are given (YtmgbkcfocbbofabGreatDoorTie.lean); close each card by the builder's one call (the guide's Derived/Test/ToyasCard.lean, 'card_holds'). Laid BY PROGRAM, IN A SANDBOX (cutbox-door.mjs). By AI agents, Wed Nov 11 2026. No macro, syntax, notation, axiom, sorry.
-/
import Derived.Test.YtmgbkcfocbbofabGreatDoorRows
import GoSem.ClaimSeven
namespace Go.Proofs.YtmgbkcfocbbofabGreatDoor
namespace Rows

/-- THE TIED CARD OF 'tracerylaw02.WholeRing'. -/
def wholeRingCard : Claim7 := { stood := { row := wholeRingRow, standIns := [], harness := (true, "da63f115289fb2fe8ca4391fa88da0934238a75aa9ca50f7fb1bd5f6f29cc1e0"), looks := false }, kinds := [], alts := [], laidByText := true, laidKinds := [.data, .data, .data, .data, .pinned], laidTests := true, laidLooks := .later }
def WholeRingCardSaid : Prop := Claim7.holds Tryz.pinned (.plain (OpenSpec.ofChange wholeRingSpec)) wholeRingCard

/-- THE TIED CARD OF 'tracerylaw02.WholeDivides'. -/
def wholeDividesCard : Claim7 := { stood := { row := wholeDividesRow, standIns := [], harness := (true, "da63f115289fb2fe8ca4391fa88da0934238a75aa9ca50f7fb1bd5f6f29cc1e0"), looks := false }, kinds := [], alts := [], laidByText := true, laidKinds := [.data, .data, .data, .data, .pinned], laidTests := true, laidLooks := .later }
def WholeDividesCardSaid : Prop := Claim7.holds Tryz.pinned (.plain (OpenSpec.ofChange wholeDividesSpec)) wholeDividesCard

/-- THE TIED CARD OF 'tracerylaw02.WholeEdges'. -/
def wholeEdgesCard : Claim7 := { stood := { row := wholeEdgesRow, standIns := [], harness := (true, "da63f115289fb2fe8ca4391fa88da0934238a75aa9ca50f7fb1bd5f6f29cc1e0"), looks := false }, kinds := [], alts := [], laidByText := true, laidKinds := [.data, .data, .data, .data, .pinned], laidTests := true, laidLooks := .later }
def WholeEdgesCardSaid : Prop := Claim7.holds Tryz.pinned (.plain (OpenSpec.ofChange wholeEdgesSpec)) wholeEdgesCard

/-- THE SECOND FORM's CARD OF 'tracerylaw02.WholeRing'. -/
def wholeRingUptoCard : Claim7 := { stood := { row := wholeRingUptoRow, standIns := [], harness := (true, "da63f115289fb2fe8ca4391fa88da0934238a75aa9ca50f7fb1bd5f6f29cc1e0"), looks := false }, kinds := [], alts := [], laidByText := true, laidKinds := [.data, .data, .data, .data, .pinned], laidTests := true, laidLooks := .later }
def WholeRingUptoCardSaid : Prop := Claim7.holds Tryz.pinned (.plain (OpenSpec.upto wholeRingSpec)) wholeRingUptoCard

/-- THE SECOND FORM's CARD OF 'tracerylaw02.WholeDivides'. -/
def wholeDividesUptoCard : Claim7 := { stood := { row := wholeDividesUptoRow, standIns := [], harness := (true, "da63f115289fb2fe8ca4391fa88da0934238a75aa9ca50f7fb1bd5f6f29cc1e0"), looks := false }, kinds := [], alts := [], laidByText := true, laidKinds := [.data, .data, .data, .data, .pinned], laidTests := true, laidLooks := .later }
def WholeDividesUptoCardSaid : Prop := Claim7.holds Tryz.pinned (.plain (OpenSpec.upto wholeDividesSpec)) wholeDividesUptoCard

/-- THE SECOND FORM's CARD OF 'tracerylaw02.WholeEdges'. -/
def wholeEdgesUptoCard : Claim7 := { stood := { row := wholeEdgesUptoRow, standIns := [], harness := (true, "da63f115289fb2fe8ca4391fa88da0934238a75aa9ca50f7fb1bd5f6f29cc1e0"), looks := false }, kinds := [], alts := [], laidByText := true, laidKinds := [.data, .data, .data, .data, .pinned], laidTests := true, laidLooks := .later }
def WholeEdgesUptoCardSaid : Prop := Claim7.holds Tryz.pinned (.plain (OpenSpec.upto wholeEdgesSpec)) wholeEdgesUptoCard
end Rows
end Go.Proofs.YtmgbkcfocbbofabGreatDoor
