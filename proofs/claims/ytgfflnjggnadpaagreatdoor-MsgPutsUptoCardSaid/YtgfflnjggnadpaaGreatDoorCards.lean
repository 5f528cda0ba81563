/-
  DERIVED. GIVEN WITH THE SEED: THE CARDS: each row of YtgfflnjggnadpaaGreatDoorRows.lean that lists a variable, with what it lists TIED to the program's text (the seventh form; the later family's looks); each row that meets fmt, with fmt's text TOLD by the authors' own Lean function (tested against real Go, not proved from fmt's source: count such statements apart). THE CARD IS WHAT COUNTS. Prove the row's statement (the work); the ties are given (YtgfflnjggnadpaaGreatDoorTie.lean); close each card by the builder's one call (the guide's Derived/Test/ToyasCard.lean, 'card_holds'). Laid BY PROGRAM, IN A SANDBOX (cutbox-door.mjs). By AI agents, Wed Nov 11 2026. No macro, syntax, notation, axiom, sorry.
-/
import Derived.Test.YtgfflnjggnadpaaGreatDoorRows
import GoSem.ClaimSeven
namespace Go.Proofs.YtgfflnjggnadpaaGreatDoor
namespace Rows

/-- THE TIED CARD OF 'refectorylaw11.MsgPuts'. -/
def msgPutsCard : Claim7 := { stood := { row := msgPutsRow, standIns := [], harness := (true, "189e026a8c53294c448f56d9789184b6b1e1a285ffaea5d25982d8622b56ecb1"), looks := false }, kinds := [], alts := [], laidByText := true, laidKinds := [.data, .pinned], laidTests := true, laidLooks := .later }
def MsgPutsCardSaid : Prop := Claim7.holds Tryz.pinned (.plain (OpenSpec.ofChange msgPutsSpec)) msgPutsCard

/-- THE TIED CARD OF 'refectorylaw11.MsgBack'. -/
def msgBackCard : Claim7 := { stood := { row := msgBackRow, standIns := [], harness := (true, "189e026a8c53294c448f56d9789184b6b1e1a285ffaea5d25982d8622b56ecb1"), looks := false }, kinds := [], alts := [], laidByText := true, laidKinds := [.data, .pinned], laidTests := true, laidLooks := .later }
def MsgBackCardSaid : Prop := Claim7.holds Tryz.pinned (.plain (OpenSpec.ofChange msgBackSpec)) msgBackCard

/-- THE TIED CARD OF 'refectorylaw11.MsgSigned'. -/
def msgSignedCard : Claim7 := { stood := { row := msgSignedRow, standIns := [], harness := (true, "189e026a8c53294c448f56d9789184b6b1e1a285ffaea5d25982d8622b56ecb1"), looks := false }, kinds := [], alts := [], laidByText := true, laidKinds := [.data, .data, .pinned], laidTests := true, laidLooks := .later }
def MsgSignedCardSaid : Prop := Claim7.holds Tryz.pinned (.plain (OpenSpec.ofChange msgSignedSpec)) msgSignedCard

/-- THE TIED CARD OF 'refectorylaw11.MsgFresh'. -/
def msgFreshCard : Claim7 := { stood := { row := msgFreshRow, standIns := [], harness := (true, "189e026a8c53294c448f56d9789184b6b1e1a285ffaea5d25982d8622b56ecb1"), looks := false }, kinds := [], alts := [], laidByText := true, laidKinds := [.data, .pinned], laidTests := true, laidLooks := .later }
def MsgFreshCardSaid : Prop := Claim7.holds Tryz.pinned (.plain (OpenSpec.ofChange msgFreshSpec)) msgFreshCard

/-- THE SECOND FORM's CARD OF 'refectorylaw11.MsgPuts'. -/
def msgPutsUptoCard : Claim7 := { stood := { row := msgPutsUptoRow, standIns := [], harness := (true, "189e026a8c53294c448f56d9789184b6b1e1a285ffaea5d25982d8622b56ecb1"), looks := false }, kinds := [], alts := [], laidByText := true, laidKinds := [.data, .pinned], laidTests := true, laidLooks := .later }
def MsgPutsUptoCardSaid : Prop := Claim7.holds Tryz.pinned (.plain (OpenSpec.upto msgPutsSpec)) msgPutsUptoCard

/-- THE SECOND FORM's CARD OF 'refectorylaw11.MsgBack'. -/
def msgBackUptoCard : Claim7 := { stood := { row := msgBackUptoRow, standIns := [], harness := (true, "189e026a8c53294c448f56d9789184b6b1e1a285ffaea5d25982d8622b56ecb1"), looks := false }, kinds := [], alts := [], laidByText := true, laidKinds := [.data, .pinned], laidTests := true, laidLooks := .later }
def MsgBackUptoCardSaid : Prop := Claim7.holds Tryz.pinned (.plain (OpenSpec.upto msgBackSpec)) msgBackUptoCard

/-- THE SECOND FORM's CARD OF 'refectorylaw11.MsgSigned'. -/
def msgSignedUptoCard : Claim7 := { stood := { row := msgSignedUptoRow, standIns := [], harness := (true, "189e026a8c53294c448f56d9789184b6b1e1a285ffaea5d25982d8622b56ecb1"), looks := false }, kinds := [], alts := [], laidByText := true, laidKinds := [.data, .data, .pinned], laidTests := true, laidLooks := .later }
def MsgSignedUptoCardSaid : Prop := Claim7.holds Tryz.pinned (.plain (OpenSpec.upto msgSignedSpec)) msgSignedUptoCard

/-- THE SECOND FORM's CARD OF 'refectorylaw11.MsgFresh'. -/
def msgFreshUptoCard : Claim7 := { stood := { row := msgFreshUptoRow, standIns := [], harness := (true, "189e026a8c53294c448f56d9789184b6b1e1a285ffaea5d25982d8622b56ecb1"), looks := false }, kinds := [], alts := [], laidByText := true, laidKinds := [.data, .pinned], laidTests := true, laidLooks := .later }
def MsgFreshUptoCardSaid : Prop := Claim7.holds Tryz.pinned (.plain (OpenSpec.upto msgFreshSpec)) msgFreshUptoCard
end Rows
end Go.Proofs.YtgfflnjggnadpaaGreatDoor
