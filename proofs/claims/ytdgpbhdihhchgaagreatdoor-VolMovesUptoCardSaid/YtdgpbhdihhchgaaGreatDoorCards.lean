/-
  DERIVED. GIVEN WITH THE SEED: THE CARDS: each row of YtdgpbhdihhchgaaGreatDoorRows.lean that lists a variable, with what it lists TIED to the program's text (the seventh form; the later family's looks); each row that meets fmt, with fmt's text TOLD by the authors' own Lean function (tested against real Go, not proved from fmt's source: count such statements apart). THE CARD IS WHAT COUNTS. Prove the row's statement (the work); the ties are given (YtdgpbhdihhchgaaGreatDoorTie.lean); close each card by the builder's one call (the guide's Derived/Test/ToyasCard.lean, 'card_holds'). Laid BY PROGRAM, IN A SANDBOX (cutbox-door.mjs). By AI agents, Wed Nov 11 2026. No macro, syntax, notation, axiom, sorry.
-/
import Derived.Test.YtdgpbhdihhchgaaGreatDoorRows
import GoSem.ClaimSeven
namespace Go.Proofs.YtdgpbhdihhchgaaGreatDoor
namespace Rows

/-- THE TIED CARD OF 'refectorylaw16.VolPlays'. -/
def volPlaysCard : Claim7 := { stood := { row := volPlaysRow, standIns := [], harness := (true, "cf6d2c813fae51a1b762870271492a45fc0465eef812f4091745d975a6d0e648"), looks := false }, kinds := [], alts := [], laidByText := true, laidKinds := [.data, .pinned], laidTests := true, laidLooks := .later }
def VolPlaysCardSaid : Prop := Claim7.holds Tryz.pinned (.plain (OpenSpec.ofChange volPlaysSpec)) volPlaysCard

/-- THE TIED CARD OF 'refectorylaw16.VolAsks'. -/
def volAsksCard : Claim7 := { stood := { row := volAsksRow, standIns := [], harness := (true, "cf6d2c813fae51a1b762870271492a45fc0465eef812f4091745d975a6d0e648"), looks := false }, kinds := [], alts := [], laidByText := true, laidKinds := [.data, .pinned], laidTests := true, laidLooks := .later }
def VolAsksCardSaid : Prop := Claim7.holds Tryz.pinned (.plain (OpenSpec.ofChange volAsksSpec)) volAsksCard

/-- THE TIED CARD OF 'refectorylaw16.VolFound'. -/
def volFoundCard : Claim7 := { stood := { row := volFoundRow, standIns := [], harness := (true, "cf6d2c813fae51a1b762870271492a45fc0465eef812f4091745d975a6d0e648"), looks := false }, kinds := [], alts := [], laidByText := true, laidKinds := [.data, .pinned], laidTests := true, laidLooks := .later }
def VolFoundCardSaid : Prop := Claim7.holds Tryz.pinned (.plain (OpenSpec.ofChange volFoundSpec)) volFoundCard

/-- THE TIED CARD OF 'refectorylaw16.VolMoves'. -/
def volMovesCard : Claim7 := { stood := { row := volMovesRow, standIns := [], harness := (true, "cf6d2c813fae51a1b762870271492a45fc0465eef812f4091745d975a6d0e648"), looks := false }, kinds := [], alts := [], laidByText := true, laidKinds := [.data, .pinned], laidTests := true, laidLooks := .later }
def VolMovesCardSaid : Prop := Claim7.holds Tryz.pinned (.plain (OpenSpec.ofChange volMovesSpec)) volMovesCard

/-- THE TIED CARD OF 'refectorylaw16.VolRefused'. -/
def volRefusedCard : Claim7 := { stood := { row := volRefusedRow, standIns := [], harness := (true, "cf6d2c813fae51a1b762870271492a45fc0465eef812f4091745d975a6d0e648"), looks := false }, kinds := [], alts := [], laidByText := true, laidKinds := [.data, .pinned], laidTests := true, laidLooks := .later }
def VolRefusedCardSaid : Prop := Claim7.holds Tryz.pinned (.plain (OpenSpec.ofChange volRefusedSpec)) volRefusedCard

/-- THE TIED CARD OF 'refectorylaw16.VolGoes'. -/
def volGoesCard : Claim7 := { stood := { row := volGoesRow, standIns := [], harness := (true, "cf6d2c813fae51a1b762870271492a45fc0465eef812f4091745d975a6d0e648"), looks := false }, kinds := [], alts := [], laidByText := true, laidKinds := [.data, .pinned], laidTests := true, laidLooks := .later }
def VolGoesCardSaid : Prop := Claim7.holds Tryz.pinned (.plain (OpenSpec.ofChange volGoesSpec)) volGoesCard

/-- THE TIED CARD OF 'refectorylaw16.VolFresh'. -/
def volFreshCard : Claim7 := { stood := { row := volFreshRow, standIns := [], harness := (true, "cf6d2c813fae51a1b762870271492a45fc0465eef812f4091745d975a6d0e648"), looks := false }, kinds := [], alts := [], laidByText := true, laidKinds := [.data, .pinned], laidTests := true, laidLooks := .later }
def VolFreshCardSaid : Prop := Claim7.holds Tryz.pinned (.plain (OpenSpec.ofChange volFreshSpec)) volFreshCard

/-- THE TIED CARD OF 'refectorylaw16.VolNil'. -/
def volNilCard : Claim7 := { stood := { row := volNilRow, standIns := [], harness := (true, "cf6d2c813fae51a1b762870271492a45fc0465eef812f4091745d975a6d0e648"), looks := false }, kinds := [], alts := [], laidByText := true, laidKinds := [.data, .pinned], laidTests := true, laidLooks := .later }
def VolNilCardSaid : Prop := Claim7.holds Tryz.pinned (.plain (OpenSpec.ofChange volNilSpec)) volNilCard

/-- THE SECOND FORM's CARD OF 'refectorylaw16.VolPlays'. -/
def volPlaysUptoCard : Claim7 := { stood := { row := volPlaysUptoRow, standIns := [], harness := (true, "cf6d2c813fae51a1b762870271492a45fc0465eef812f4091745d975a6d0e648"), looks := false }, kinds := [], alts := [], laidByText := true, laidKinds := [.data, .pinned], laidTests := true, laidLooks := .later }
def VolPlaysUptoCardSaid : Prop := Claim7.holds Tryz.pinned (.plain (OpenSpec.upto volPlaysSpec)) volPlaysUptoCard

/-- THE SECOND FORM's CARD OF 'refectorylaw16.VolAsks'. -/
def volAsksUptoCard : Claim7 := { stood := { row := volAsksUptoRow, standIns := [], harness := (true, "cf6d2c813fae51a1b762870271492a45fc0465eef812f4091745d975a6d0e648"), looks := false }, kinds := [], alts := [], laidByText := true, laidKinds := [.data, .pinned], laidTests := true, laidLooks := .later }
def VolAsksUptoCardSaid : Prop := Claim7.holds Tryz.pinned (.plain (OpenSpec.upto volAsksSpec)) volAsksUptoCard

/-- THE SECOND FORM's CARD OF 'refectorylaw16.VolFound'. -/
def volFoundUptoCard : Claim7 := { stood := { row := volFoundUptoRow, standIns := [], harness := (true, "cf6d2c813fae51a1b762870271492a45fc0465eef812f4091745d975a6d0e648"), looks := false }, kinds := [], alts := [], laidByText := true, laidKinds := [.data, .pinned], laidTests := true, laidLooks := .later }
def VolFoundUptoCardSaid : Prop := Claim7.holds Tryz.pinned (.plain (OpenSpec.upto volFoundSpec)) volFoundUptoCard

/-- THE SECOND FORM's CARD OF 'refectorylaw16.VolMoves'. -/
def volMovesUptoCard : Claim7 := { stood := { row := volMovesUptoRow, standIns := [], harness := (true, "cf6d2c813fae51a1b762870271492a45fc0465eef812f4091745d975a6d0e648"), looks := false }, kinds := [], alts := [], laidByText := true, laidKinds := [.data, .pinned], laidTests := true, laidLooks := .later }
def VolMovesUptoCardSaid : Prop := Claim7.holds Tryz.pinned (.plain (OpenSpec.upto volMovesSpec)) volMovesUptoCard

/-- THE SECOND FORM's CARD OF 'refectorylaw16.VolRefused'. -/
def volRefusedUptoCard : Claim7 := { stood := { row := volRefusedUptoRow, standIns := [], harness := (true, "cf6d2c813fae51a1b762870271492a45fc0465eef812f4091745d975a6d0e648"), looks := false }, kinds := [], alts := [], laidByText := true, laidKinds := [.data, .pinned], laidTests := true, laidLooks := .later }
def VolRefusedUptoCardSaid : Prop := Claim7.holds Tryz.pinned (.plain (OpenSpec.upto volRefusedSpec)) volRefusedUptoCard

/-- THE SECOND FORM's CARD OF 'refectorylaw16.VolGoes'. -/
def volGoesUptoCard : Claim7 := { stood := { row := volGoesUptoRow, standIns := [], harness := (true, "cf6d2c813fae51a1b762870271492a45fc0465eef812f4091745d975a6d0e648"), looks := false }, kinds := [], alts := [], laidByText := true, laidKinds := [.data, .pinned], laidTests := true, laidLooks := .later }
def VolGoesUptoCardSaid : Prop := Claim7.holds Tryz.pinned (.plain (OpenSpec.upto volGoesSpec)) volGoesUptoCard

/-- THE SECOND FORM's CARD OF 'refectorylaw16.VolFresh'. -/
def volFreshUptoCard : Claim7 := { stood := { row := volFreshUptoRow, standIns := [], harness := (true, "cf6d2c813fae51a1b762870271492a45fc0465eef812f4091745d975a6d0e648"), looks := false }, kinds := [], alts := [], laidByText := true, laidKinds := [.data, .pinned], laidTests := true, laidLooks := .later }
def VolFreshUptoCardSaid : Prop := Claim7.holds Tryz.pinned (.plain (OpenSpec.upto volFreshSpec)) volFreshUptoCard

/-- THE SECOND FORM's CARD OF 'refectorylaw16.VolNil'. -/
def volNilUptoCard : Claim7 := { stood := { row := volNilUptoRow, standIns := [], harness := (true, "cf6d2c813fae51a1b762870271492a45fc0465eef812f4091745d975a6d0e648"), looks := false }, kinds := [], alts := [], laidByText := true, laidKinds := [.data, .pinned], laidTests := true, laidLooks := .later }
def VolNilUptoCardSaid : Prop := Claim7.holds Tryz.pinned (.plain (OpenSpec.upto volNilSpec)) volNilUptoCard
end Rows
end Go.Proofs.YtdgpbhdihhchgaaGreatDoor
