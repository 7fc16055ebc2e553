/-
  DERIVED. GIVEN WITH THE SEED: THE CARDS: each row of YthldipnfaiobaabGreatDoorRows.lean that lists a variable, with what it lists TIED to the program's text (the seventh form; the later family's looks); each row that meets fmt, with fmt's text TOLD by the authors' own Lean function (tested against real Go, not proved from fmt's source: count such statements apart). THE CARD IS WHAT COUNTS. Prove the row's statement (the work); the ties are given (YthldipnfaiobaabGreatDoorTie.lean); close each card by the builder's one call (the guide's Derived/Test/ToyasCard.lean, 'card_holds'). Laid BY PROGRAM, IN A SANDBOX (cutbox-door.mjs). By AI agents, Wed Nov 11 2026. No macro, syntax, notation, axiom, sorry.
-/
import Derived.Test.YthldipnfaiobaabGreatDoorRows
import GoSem.ClaimSeven
namespace Go.Proofs.YthldipnfaiobaabGreatDoor
namespace Rows

/-- THE TIED CARD OF 'tracerylaw16.WordsLaws'. -/
def wordsLawsCard : Claim7 := { stood := { row := wordsLawsRow, standIns := [], harness := (true, "af4bfb733386acd53852f5f2a320b3edd8501afdd92055576db797d7e2716398"), looks := true }, kinds := [], alts := [], laidByText := true, laidKinds := [.data, .data, .data, .sentinel, .sentinel], laidTests := true, laidLooks := .later }
def WordsLawsCardSaid : Prop := Claim7.holds Tryz.pinned (.plain (OpenSpec.ofChange wordsLawsSpec)) wordsLawsCard

/-- THE SECOND FORM's CARD OF 'tracerylaw16.WordsLaws'. -/
def wordsLawsUptoCard : Claim7 := { stood := { row := wordsLawsUptoRow, standIns := [], harness := (true, "af4bfb733386acd53852f5f2a320b3edd8501afdd92055576db797d7e2716398"), looks := true }, kinds := [], alts := [], laidByText := true, laidKinds := [.data, .data, .data, .sentinel, .sentinel], laidTests := true, laidLooks := .later }
def WordsLawsUptoCardSaid : Prop := Claim7.holds Tryz.pinned (.plain (OpenSpec.upto wordsLawsSpec)) wordsLawsUptoCard
end Rows
end Go.Proofs.YthldipnfaiobaabGreatDoor
