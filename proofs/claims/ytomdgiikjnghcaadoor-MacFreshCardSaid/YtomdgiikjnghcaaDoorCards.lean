/-
  DERIVED. GIVEN WITH THE SEED: THE CARDS: each row of YtomdgiikjnghcaaDoorRows.lean that lists a variable, with what it lists TIED to the program's text (the seventh form; the later family's looks); each row that meets fmt, with fmt's text TOLD by the authors' own Lean function (tested against real Go, not proved from fmt's source: count such statements apart). THE CARD IS WHAT COUNTS. Prove the row's statement (the work); the ties are given (YtomdgiikjnghcaaDoorTie.lean); close each card by the builder's one call (the guide's Derived/Test/ToyasCard.lean, 'card_holds'). Laid BY PROGRAM, IN A SANDBOX (cutbox-door.mjs). By AI agents, Wed Nov 11 2026. No macro, syntax, notation, axiom, sorry.
-/
import Derived.Test.YtomdgiikjnghcaaDoorRows
import GoSem.ClaimSeven
namespace Go.Proofs.YtomdgiikjnghcaaDoor
namespace Rows

/-- THE TIED CARD OF 'refectorylaw04.MacSums'. -/
def macSumsCard : Claim7 := { stood := { row := macSumsRow, standIns := [], harness := (true, "4bb094c325049fad89be0d5955e603d5a5f9553e054a461195f3511d84d80650"), looks := false }, kinds := [], alts := [], laidByText := true, laidKinds := [.data], laidTests := true, laidLooks := .later }
def MacSumsCardSaid : Prop := Claim7.holds Tryd.pinned (.plain (OpenSpec.ofChange macSumsSpec)) macSumsCard

/-- THE TIED CARD OF 'refectorylaw04.MacSigns'. -/
def macSignsCard : Claim7 := { stood := { row := macSignsRow, standIns := [], harness := (true, "4bb094c325049fad89be0d5955e603d5a5f9553e054a461195f3511d84d80650"), looks := false }, kinds := [], alts := [], laidByText := true, laidKinds := [.data], laidTests := true, laidLooks := .later }
def MacSignsCardSaid : Prop := Claim7.holds Tryd.pinned (.plain (OpenSpec.ofChange macSignsSpec)) macSignsCard

/-- THE TIED CARD OF 'refectorylaw04.MacBack'. -/
def macBackCard : Claim7 := { stood := { row := macBackRow, standIns := [], harness := (true, "4bb094c325049fad89be0d5955e603d5a5f9553e054a461195f3511d84d80650"), looks := false }, kinds := [], alts := [], laidByText := true, laidKinds := [.data], laidTests := true, laidLooks := .later }
def MacBackCardSaid : Prop := Claim7.holds Tryd.pinned (.plain (OpenSpec.ofChange macBackSpec)) macBackCard

/-- THE TIED CARD OF 'refectorylaw04.MacOne'. -/
def macOneCard : Claim7 := { stood := { row := macOneRow, standIns := [], harness := (true, "4bb094c325049fad89be0d5955e603d5a5f9553e054a461195f3511d84d80650"), looks := false }, kinds := [], alts := [], laidByText := true, laidKinds := [.data], laidTests := true, laidLooks := .later }
def MacOneCardSaid : Prop := Claim7.holds Tryd.pinned (.plain (OpenSpec.ofChange macOneSpec)) macOneCard

/-- THE TIED CARD OF 'refectorylaw04.MacKeys'. -/
def macKeysCard : Claim7 := { stood := { row := macKeysRow, standIns := [], harness := (true, "4bb094c325049fad89be0d5955e603d5a5f9553e054a461195f3511d84d80650"), looks := false }, kinds := [], alts := [], laidByText := true, laidKinds := [.data], laidTests := true, laidLooks := .later }
def MacKeysCardSaid : Prop := Claim7.holds Tryd.pinned (.plain (OpenSpec.ofChange macKeysSpec)) macKeysCard

/-- THE TIED CARD OF 'refectorylaw04.MacProof'. -/
def macProofCard : Claim7 := { stood := { row := macProofRow, standIns := [], harness := (true, "4bb094c325049fad89be0d5955e603d5a5f9553e054a461195f3511d84d80650"), looks := false }, kinds := [], alts := [], laidByText := true, laidKinds := [.data], laidTests := true, laidLooks := .later }
def MacProofCardSaid : Prop := Claim7.holds Tryd.pinned (.plain (OpenSpec.ofChange macProofSpec)) macProofCard

/-- THE TIED CARD OF 'refectorylaw04.MacFresh'. -/
def macFreshCard : Claim7 := { stood := { row := macFreshRow, standIns := [], harness := (true, "4bb094c325049fad89be0d5955e603d5a5f9553e054a461195f3511d84d80650"), looks := false }, kinds := [], alts := [], laidByText := true, laidKinds := [.data], laidTests := true, laidLooks := .later }
def MacFreshCardSaid : Prop := Claim7.holds Tryd.pinned (.plain (OpenSpec.ofChange macFreshSpec)) macFreshCard

/-- THE SECOND FORM's CARD OF 'refectorylaw04.MacSums'. -/
def macSumsUptoCard : Claim7 := { stood := { row := macSumsUptoRow, standIns := [], harness := (true, "4bb094c325049fad89be0d5955e603d5a5f9553e054a461195f3511d84d80650"), looks := false }, kinds := [], alts := [], laidByText := true, laidKinds := [.data], laidTests := true, laidLooks := .later }
def MacSumsUptoCardSaid : Prop := Claim7.holds Tryd.pinned (.plain (OpenSpec.upto macSumsSpec)) macSumsUptoCard

/-- THE SECOND FORM's CARD OF 'refectorylaw04.MacSigns'. -/
def macSignsUptoCard : Claim7 := { stood := { row := macSignsUptoRow, standIns := [], harness := (true, "4bb094c325049fad89be0d5955e603d5a5f9553e054a461195f3511d84d80650"), looks := false }, kinds := [], alts := [], laidByText := true, laidKinds := [.data], laidTests := true, laidLooks := .later }
def MacSignsUptoCardSaid : Prop := Claim7.holds Tryd.pinned (.plain (OpenSpec.upto macSignsSpec)) macSignsUptoCard

/-- THE SECOND FORM's CARD OF 'refectorylaw04.MacBack'. -/
def macBackUptoCard : Claim7 := { stood := { row := macBackUptoRow, standIns := [], harness := (true, "4bb094c325049fad89be0d5955e603d5a5f9553e054a461195f3511d84d80650"), looks := false }, kinds := [], alts := [], laidByText := true, laidKinds := [.data], laidTests := true, laidLooks := .later }
def MacBackUptoCardSaid : Prop := Claim7.holds Tryd.pinned (.plain (OpenSpec.upto macBackSpec)) macBackUptoCard

/-- THE SECOND FORM's CARD OF 'refectorylaw04.MacOne'. -/
def macOneUptoCard : Claim7 := { stood := { row := macOneUptoRow, standIns := [], harness := (true, "4bb094c325049fad89be0d5955e603d5a5f9553e054a461195f3511d84d80650"), looks := false }, kinds := [], alts := [], laidByText := true, laidKinds := [.data], laidTests := true, laidLooks := .later }
def MacOneUptoCardSaid : Prop := Claim7.holds Tryd.pinned (.plain (OpenSpec.upto macOneSpec)) macOneUptoCard

/-- THE SECOND FORM's CARD OF 'refectorylaw04.MacKeys'. -/
def macKeysUptoCard : Claim7 := { stood := { row := macKeysUptoRow, standIns := [], harness := (true, "4bb094c325049fad89be0d5955e603d5a5f9553e054a461195f3511d84d80650"), looks := false }, kinds := [], alts := [], laidByText := true, laidKinds := [.data], laidTests := true, laidLooks := .later }
def MacKeysUptoCardSaid : Prop := Claim7.holds Tryd.pinned (.plain (OpenSpec.upto macKeysSpec)) macKeysUptoCard

/-- THE SECOND FORM's CARD OF 'refectorylaw04.MacProof'. -/
def macProofUptoCard : Claim7 := { stood := { row := macProofUptoRow, standIns := [], harness := (true, "4bb094c325049fad89be0d5955e603d5a5f9553e054a461195f3511d84d80650"), looks := false }, kinds := [], alts := [], laidByText := true, laidKinds := [.data], laidTests := true, laidLooks := .later }
def MacProofUptoCardSaid : Prop := Claim7.holds Tryd.pinned (.plain (OpenSpec.upto macProofSpec)) macProofUptoCard

/-- THE SECOND FORM's CARD OF 'refectorylaw04.MacFresh'. -/
def macFreshUptoCard : Claim7 := { stood := { row := macFreshUptoRow, standIns := [], harness := (true, "4bb094c325049fad89be0d5955e603d5a5f9553e054a461195f3511d84d80650"), looks := false }, kinds := [], alts := [], laidByText := true, laidKinds := [.data], laidTests := true, laidLooks := .later }
def MacFreshUptoCardSaid : Prop := Claim7.holds Tryd.pinned (.plain (OpenSpec.upto macFreshSpec)) macFreshUptoCard
end Rows
end Go.Proofs.YtomdgiikjnghcaaDoor
