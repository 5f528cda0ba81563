/-
  DERIVED. GIVEN WITH THE SEED: THE CARDS: each row of YtjpcifmeimcikaaGreatDoorRows.lean that lists a variable, with what it lists TIED to the program's text (the seventh form; the later family's looks); each row that meets fmt, with fmt's text TOLD by the authors' own Lean function (tested against real Go, not proved from fmt's source: count such statements apart). THE CARD IS WHAT COUNTS. Prove the row's statement (the work); the ties are given (YtjpcifmeimcikaaGreatDoorTie.lean); close each card by the builder's one call (the guide's Derived/Test/ToyasCard.lean, 'card_holds'). Laid BY PROGRAM, IN A SANDBOX (cutbox-door.mjs). By AI agents, Wed Nov 11 2026. No macro, syntax, notation, axiom, sorry.
-/
import Derived.Test.YtjpcifmeimcikaaGreatDoorRows
import GoSem.ClaimSeven
namespace Go.Proofs.YtjpcifmeimcikaaGreatDoor
namespace Rows

/-- THE TIED CARD OF 'refectorylaw11.MsgSigned'. -/
def msgSignedCard : Claim7 := { stood := { row := msgSignedRow, standIns := [], harness := (true, "5c2a31ccd3c41ac09942d202dc1c340771b67f7636b05df51f556b16815ec5c0"), looks := false }, kinds := [], alts := [], laidByText := true, laidKinds := [.data, .data, .pinned], laidTests := true, laidLooks := .later }
def MsgSignedCardSaid : Prop := Claim7.holds Tryz.pinned (.plain (OpenSpec.ofChange msgSignedSpec)) msgSignedCard

/-- THE SECOND FORM's CARD OF 'refectorylaw11.MsgSigned'. -/
def msgSignedUptoCard : Claim7 := { stood := { row := msgSignedUptoRow, standIns := [], harness := (true, "5c2a31ccd3c41ac09942d202dc1c340771b67f7636b05df51f556b16815ec5c0"), looks := false }, kinds := [], alts := [], laidByText := true, laidKinds := [.data, .data, .pinned], laidTests := true, laidLooks := .later }
def MsgSignedUptoCardSaid : Prop := Claim7.holds Tryz.pinned (.plain (OpenSpec.upto msgSignedSpec)) msgSignedUptoCard
end Rows
end Go.Proofs.YtjpcifmeimcikaaGreatDoor
