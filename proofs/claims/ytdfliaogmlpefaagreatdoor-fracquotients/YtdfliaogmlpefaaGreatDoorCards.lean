/-
  DERIVED. GIVEN WITH THE SEED: THE CARDS: each row of YtdfliaogmlpefaaGreatDoorRows.lean that lists a variable, with what it lists TIED to the program's text (the seventh form; the later family's looks); each row that meets fmt, with fmt's text TOLD by the authors' own Lean function (tested against real Go, not proved from fmt's source: count such statements apart). THE CARD IS WHAT COUNTS. Prove the row's statement (the work); the ties are given (YtdfliaogmlpefaaGreatDoorTie.lean); close each card by the builder's one call (the guide's Derived/Test/ToyasCard.lean, 'card_holds'). Laid BY PROGRAM, IN A SANDBOX (cutbox-door.mjs). By AI agents, Wed Nov 11 2026. No macro, syntax, notation, axiom, sorry.
-/
import Derived.Test.YtdfliaogmlpefaaGreatDoorRows
import GoSem.ClaimSeven
namespace Go.Proofs.YtdfliaogmlpefaaGreatDoor
namespace Rows

/-- THE TIED CARD OF 'tracerylaw03.FracOne'. -/
def fracOneCard : Claim7 := { stood := { row := fracOneRow, standIns := [], harness := (true, "21fec5e9f72793acf0a9db25d1e01eb93edbd01fee0cea95b55b92cc739525a4"), looks := false }, kinds := [], alts := [], laidByText := true, laidKinds := [.data, .data, .data, .data, .pinned], laidTests := true, laidLooks := .later }
def FracOneCardSaid : Prop := Claim7.holds Tryz.pinned (.plain (OpenSpec.ofChange fracOneSpec)) fracOneCard

/-- THE TIED CARD OF 'tracerylaw03.FracSimple'. -/
def fracSimpleCard : Claim7 := { stood := { row := fracSimpleRow, standIns := [], harness := (true, "21fec5e9f72793acf0a9db25d1e01eb93edbd01fee0cea95b55b92cc739525a4"), looks := false }, kinds := [], alts := [], laidByText := true, laidKinds := [.data, .data, .data, .data, .pinned], laidTests := true, laidLooks := .later }
def FracSimpleCardSaid : Prop := Claim7.holds Tryz.pinned (.plain (OpenSpec.ofChange fracSimpleSpec)) fracSimpleCard

/-- THE TIED CARD OF 'tracerylaw03.FracQuotients'. -/
def fracQuotientsCard : Claim7 := { stood := { row := fracQuotientsRow, standIns := [], harness := (true, "21fec5e9f72793acf0a9db25d1e01eb93edbd01fee0cea95b55b92cc739525a4"), looks := false }, kinds := [], alts := [], laidByText := true, laidKinds := [.data, .data, .data, .data, .pinned], laidTests := true, laidLooks := .later }
def FracQuotientsCardSaid : Prop := Claim7.holds Tryz.pinned (.plain (OpenSpec.ofChange fracQuotientsSpec)) fracQuotientsCard

/-- THE TIED CARD OF 'tracerylaw03.FracTexts'. -/
def fracTextsCard : Claim7 := { stood := { row := fracTextsRow, standIns := [], harness := (true, "21fec5e9f72793acf0a9db25d1e01eb93edbd01fee0cea95b55b92cc739525a4"), looks := false }, kinds := [], alts := [], laidByText := true, laidKinds := [.data, .data, .data, .data, .pinned], laidTests := true, laidLooks := .later }
def FracTextsCardSaid : Prop := Claim7.holds Tryz.pinned (.plain (OpenSpec.ofChange fracTextsSpec)) fracTextsCard

/-- THE TIED CARD OF 'tracerylaw03.FracNear'. -/
def fracNearCard : Claim7 := { stood := { row := fracNearRow, standIns := [], harness := (true, "21fec5e9f72793acf0a9db25d1e01eb93edbd01fee0cea95b55b92cc739525a4"), looks := false }, kinds := [], alts := [], laidByText := true, laidKinds := [.data, .data, .data, .data, .pinned], laidTests := true, laidLooks := .later }
def FracNearCardSaid : Prop := Claim7.holds Tryz.pinned (.plain (OpenSpec.ofChange fracNearSpec)) fracNearCard

/-- THE TIED CARD OF 'tracerylaw03.FracBack'. -/
def fracBackCard : Claim7 := { stood := { row := fracBackRow, standIns := [], harness := (true, "21fec5e9f72793acf0a9db25d1e01eb93edbd01fee0cea95b55b92cc739525a4"), looks := false }, kinds := [], alts := [], laidByText := true, laidKinds := [.data, .data, .data, .data, .pinned], laidTests := true, laidLooks := .later }
def FracBackCardSaid : Prop := Claim7.holds Tryz.pinned (.plain (OpenSpec.ofChange fracBackSpec)) fracBackCard

/-- THE SECOND FORM's CARD OF 'tracerylaw03.FracOne'. -/
def fracOneUptoCard : Claim7 := { stood := { row := fracOneUptoRow, standIns := [], harness := (true, "21fec5e9f72793acf0a9db25d1e01eb93edbd01fee0cea95b55b92cc739525a4"), looks := false }, kinds := [], alts := [], laidByText := true, laidKinds := [.data, .data, .data, .data, .pinned], laidTests := true, laidLooks := .later }
def FracOneUptoCardSaid : Prop := Claim7.holds Tryz.pinned (.plain (OpenSpec.upto fracOneSpec)) fracOneUptoCard

/-- THE SECOND FORM's CARD OF 'tracerylaw03.FracSimple'. -/
def fracSimpleUptoCard : Claim7 := { stood := { row := fracSimpleUptoRow, standIns := [], harness := (true, "21fec5e9f72793acf0a9db25d1e01eb93edbd01fee0cea95b55b92cc739525a4"), looks := false }, kinds := [], alts := [], laidByText := true, laidKinds := [.data, .data, .data, .data, .pinned], laidTests := true, laidLooks := .later }
def FracSimpleUptoCardSaid : Prop := Claim7.holds Tryz.pinned (.plain (OpenSpec.upto fracSimpleSpec)) fracSimpleUptoCard

/-- THE SECOND FORM's CARD OF 'tracerylaw03.FracQuotients'. -/
def fracQuotientsUptoCard : Claim7 := { stood := { row := fracQuotientsUptoRow, standIns := [], harness := (true, "21fec5e9f72793acf0a9db25d1e01eb93edbd01fee0cea95b55b92cc739525a4"), looks := false }, kinds := [], alts := [], laidByText := true, laidKinds := [.data, .data, .data, .data, .pinned], laidTests := true, laidLooks := .later }
def FracQuotientsUptoCardSaid : Prop := Claim7.holds Tryz.pinned (.plain (OpenSpec.upto fracQuotientsSpec)) fracQuotientsUptoCard

/-- THE SECOND FORM's CARD OF 'tracerylaw03.FracTexts'. -/
def fracTextsUptoCard : Claim7 := { stood := { row := fracTextsUptoRow, standIns := [], harness := (true, "21fec5e9f72793acf0a9db25d1e01eb93edbd01fee0cea95b55b92cc739525a4"), looks := false }, kinds := [], alts := [], laidByText := true, laidKinds := [.data, .data, .data, .data, .pinned], laidTests := true, laidLooks := .later }
def FracTextsUptoCardSaid : Prop := Claim7.holds Tryz.pinned (.plain (OpenSpec.upto fracTextsSpec)) fracTextsUptoCard

/-- THE SECOND FORM's CARD OF 'tracerylaw03.FracNear'. -/
def fracNearUptoCard : Claim7 := { stood := { row := fracNearUptoRow, standIns := [], harness := (true, "21fec5e9f72793acf0a9db25d1e01eb93edbd01fee0cea95b55b92cc739525a4"), looks := false }, kinds := [], alts := [], laidByText := true, laidKinds := [.data, .data, .data, .data, .pinned], laidTests := true, laidLooks := .later }
def FracNearUptoCardSaid : Prop := Claim7.holds Tryz.pinned (.plain (OpenSpec.upto fracNearSpec)) fracNearUptoCard

/-- THE SECOND FORM's CARD OF 'tracerylaw03.FracBack'. -/
def fracBackUptoCard : Claim7 := { stood := { row := fracBackUptoRow, standIns := [], harness := (true, "21fec5e9f72793acf0a9db25d1e01eb93edbd01fee0cea95b55b92cc739525a4"), looks := false }, kinds := [], alts := [], laidByText := true, laidKinds := [.data, .data, .data, .data, .pinned], laidTests := true, laidLooks := .later }
def FracBackUptoCardSaid : Prop := Claim7.holds Tryz.pinned (.plain (OpenSpec.upto fracBackSpec)) fracBackUptoCard
end Rows
end Go.Proofs.YtdfliaogmlpefaaGreatDoor
