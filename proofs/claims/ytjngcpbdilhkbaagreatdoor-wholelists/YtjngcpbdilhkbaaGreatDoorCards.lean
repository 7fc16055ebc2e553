/-
  DERIVED. GIVEN WITH THE SEED: THE CARDS: each row of YtjngcpbdilhkbaaGreatDoorRows.lean that lists a variable, with what it lists TIED to the program's text (the seventh form; the later family's looks); each row that meets fmt, with fmt's text TOLD by the authors' own Lean function (tested against real Go, not proved from fmt's source: count such statements apart). THE CARD IS WHAT COUNTS. Prove the row's statement (the work); the ties are given (YtjngcpbdilhkbaaGreatDoorTie.lean); close each card by the builder's one call (the guide's Derived/Test/ToyasCard.lean, 'card_holds'). Laid BY PROGRAM, IN A SANDBOX (cutbox-door.mjs). By AI agents, Wed Nov 11 2026. No macro, syntax, notation, axiom, sorry.
-/
import Derived.Test.YtjngcpbdilhkbaaGreatDoorRows
import GoSem.ClaimSeven
namespace Go.Proofs.YtjngcpbdilhkbaaGreatDoor
namespace Rows

/-- THE TIED CARD OF 'tracerylaw02.WholeLists'. -/
def wholeListsCard : Claim7 := { stood := { row := wholeListsRow, standIns := [], harness := (true, "0c99456b18552671ee715ea63f31a08512f10ace2afc48aff0a405739af68935"), looks := false }, kinds := [], alts := [], laidByText := true, laidKinds := [.data, .data, .data, .data, .pinned], laidTests := true, laidLooks := .later }
def WholeListsCardSaid : Prop := Claim7.holds Tryz.pinned (.plain (OpenSpec.ofChange wholeListsSpec)) wholeListsCard

/-- THE TIED CARD OF 'tracerylaw02.WholeDivides'. -/
def wholeDividesCard : Claim7 := { stood := { row := wholeDividesRow, standIns := [], harness := (true, "0c99456b18552671ee715ea63f31a08512f10ace2afc48aff0a405739af68935"), looks := false }, kinds := [], alts := [], laidByText := true, laidKinds := [.data, .data, .data, .data, .pinned], laidTests := true, laidLooks := .later }
def WholeDividesCardSaid : Prop := Claim7.holds Tryz.pinned (.plain (OpenSpec.ofChange wholeDividesSpec)) wholeDividesCard

/-- THE SECOND FORM's CARD OF 'tracerylaw02.WholeLists'. -/
def wholeListsUptoCard : Claim7 := { stood := { row := wholeListsUptoRow, standIns := [], harness := (true, "0c99456b18552671ee715ea63f31a08512f10ace2afc48aff0a405739af68935"), looks := false }, kinds := [], alts := [], laidByText := true, laidKinds := [.data, .data, .data, .data, .pinned], laidTests := true, laidLooks := .later }
def WholeListsUptoCardSaid : Prop := Claim7.holds Tryz.pinned (.plain (OpenSpec.upto wholeListsSpec)) wholeListsUptoCard

/-- THE SECOND FORM's CARD OF 'tracerylaw02.WholeDivides'. -/
def wholeDividesUptoCard : Claim7 := { stood := { row := wholeDividesUptoRow, standIns := [], harness := (true, "0c99456b18552671ee715ea63f31a08512f10ace2afc48aff0a405739af68935"), looks := false }, kinds := [], alts := [], laidByText := true, laidKinds := [.data, .data, .data, .data, .pinned], laidTests := true, laidLooks := .later }
def WholeDividesUptoCardSaid : Prop := Claim7.holds Tryz.pinned (.plain (OpenSpec.upto wholeDividesSpec)) wholeDividesUptoCard
end Rows
end Go.Proofs.YtjngcpbdilhkbaaGreatDoor
