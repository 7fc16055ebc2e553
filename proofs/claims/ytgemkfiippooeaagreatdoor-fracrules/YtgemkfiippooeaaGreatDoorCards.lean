/-
  DERIVED. GIVEN WITH THE SEED: THE CARDS: each row of YtgemkfiippooeaaGreatDoorRows.lean that lists a variable, with what it lists TIED to the program's text (the seventh form; the later family's looks); each row that meets fmt, with fmt's text TOLD by the authors' own Lean function (tested against real Go, not proved from fmt's source: count such statements apart). THE CARD IS WHAT COUNTS. Prove the row's statement (the work); the ties are given (YtgemkfiippooeaaGreatDoorTie.lean); close each card by the builder's one call (the guide's Derived/Test/ToyasCard.lean, 'card_holds'). Laid BY PROGRAM, IN A SANDBOX (cutbox-door.mjs). By AI agents, Wed Nov 11 2026. No macro, syntax, notation, axiom, sorry.
-/
import Derived.Test.YtgemkfiippooeaaGreatDoorRows
import GoSem.ClaimSeven
namespace Go.Proofs.YtgemkfiippooeaaGreatDoor
namespace Rows

/-- THE TIED CARD OF 'tracerylaw03.FracSums'. -/
def fracSumsCard : Claim7 := { stood := { row := fracSumsRow, standIns := [], harness := (true, "1bd78bb118a478b0d61913c9f0604b11a24a05cc660c90495f92e8600b720ac4"), looks := false }, kinds := [], alts := [], laidByText := true, laidKinds := [.data, .data, .data, .data, .pinned], laidTests := true, laidLooks := .later }
def FracSumsCardSaid : Prop := Claim7.holds Tryz.pinned (.plain (OpenSpec.ofChange fracSumsSpec)) fracSumsCard

/-- THE TIED CARD OF 'tracerylaw03.FracOne'. -/
def fracOneCard : Claim7 := { stood := { row := fracOneRow, standIns := [], harness := (true, "1bd78bb118a478b0d61913c9f0604b11a24a05cc660c90495f92e8600b720ac4"), looks := false }, kinds := [], alts := [], laidByText := true, laidKinds := [.data, .data, .data, .data, .pinned], laidTests := true, laidLooks := .later }
def FracOneCardSaid : Prop := Claim7.holds Tryz.pinned (.plain (OpenSpec.ofChange fracOneSpec)) fracOneCard

/-- THE TIED CARD OF 'tracerylaw03.FracOf'. -/
def fracOfCard : Claim7 := { stood := { row := fracOfRow, standIns := [], harness := (true, "1bd78bb118a478b0d61913c9f0604b11a24a05cc660c90495f92e8600b720ac4"), looks := false }, kinds := [], alts := [], laidByText := true, laidKinds := [.data, .data, .data, .data, .pinned], laidTests := true, laidLooks := .later }
def FracOfCardSaid : Prop := Claim7.holds Tryz.pinned (.plain (OpenSpec.ofChange fracOfSpec)) fracOfCard

/-- THE TIED CARD OF 'tracerylaw03.FracRules'. -/
def fracRulesCard : Claim7 := { stood := { row := fracRulesRow, standIns := [], harness := (true, "1bd78bb118a478b0d61913c9f0604b11a24a05cc660c90495f92e8600b720ac4"), looks := false }, kinds := [], alts := [], laidByText := true, laidKinds := [.data, .data, .data, .data, .pinned], laidTests := true, laidLooks := .later }
def FracRulesCardSaid : Prop := Claim7.holds Tryz.pinned (.plain (OpenSpec.ofChange fracRulesSpec)) fracRulesCard

/-- THE SECOND FORM's CARD OF 'tracerylaw03.FracSums'. -/
def fracSumsUptoCard : Claim7 := { stood := { row := fracSumsUptoRow, standIns := [], harness := (true, "1bd78bb118a478b0d61913c9f0604b11a24a05cc660c90495f92e8600b720ac4"), looks := false }, kinds := [], alts := [], laidByText := true, laidKinds := [.data, .data, .data, .data, .pinned], laidTests := true, laidLooks := .later }
def FracSumsUptoCardSaid : Prop := Claim7.holds Tryz.pinned (.plain (OpenSpec.upto fracSumsSpec)) fracSumsUptoCard

/-- THE SECOND FORM's CARD OF 'tracerylaw03.FracOne'. -/
def fracOneUptoCard : Claim7 := { stood := { row := fracOneUptoRow, standIns := [], harness := (true, "1bd78bb118a478b0d61913c9f0604b11a24a05cc660c90495f92e8600b720ac4"), looks := false }, kinds := [], alts := [], laidByText := true, laidKinds := [.data, .data, .data, .data, .pinned], laidTests := true, laidLooks := .later }
def FracOneUptoCardSaid : Prop := Claim7.holds Tryz.pinned (.plain (OpenSpec.upto fracOneSpec)) fracOneUptoCard

/-- THE SECOND FORM's CARD OF 'tracerylaw03.FracOf'. -/
def fracOfUptoCard : Claim7 := { stood := { row := fracOfUptoRow, standIns := [], harness := (true, "1bd78bb118a478b0d61913c9f0604b11a24a05cc660c90495f92e8600b720ac4"), looks := false }, kinds := [], alts := [], laidByText := true, laidKinds := [.data, .data, .data, .data, .pinned], laidTests := true, laidLooks := .later }
def FracOfUptoCardSaid : Prop := Claim7.holds Tryz.pinned (.plain (OpenSpec.upto fracOfSpec)) fracOfUptoCard

/-- THE SECOND FORM's CARD OF 'tracerylaw03.FracRules'. -/
def fracRulesUptoCard : Claim7 := { stood := { row := fracRulesUptoRow, standIns := [], harness := (true, "1bd78bb118a478b0d61913c9f0604b11a24a05cc660c90495f92e8600b720ac4"), looks := false }, kinds := [], alts := [], laidByText := true, laidKinds := [.data, .data, .data, .data, .pinned], laidTests := true, laidLooks := .later }
def FracRulesUptoCardSaid : Prop := Claim7.holds Tryz.pinned (.plain (OpenSpec.upto fracRulesSpec)) fracRulesUptoCard
end Rows
end Go.Proofs.YtgemkfiippooeaaGreatDoor
