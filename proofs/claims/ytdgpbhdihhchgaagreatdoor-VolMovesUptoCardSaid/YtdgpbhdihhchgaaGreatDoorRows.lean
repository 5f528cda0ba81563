/-
  NARROWER THAN 'FOR EVERY INPUT', by the rows' own cells (each row's printed sentence says how): VolPlays: laid · VolAsks: laid · VolFound: laid · VolMoves: laid · VolRefused: laid · VolGoes: laid · VolFresh: laid · VolNil: laid.
  DERIVED. THE GIVEN ROWS OF THIS SEAT. 8 by the template 'for every input the law returns true; each argument reads behind the call as it read before'; 0 by the template 'total and deterministic' (their statements: YtdgpbhdihhchgaaGreatDoorTotals.lean).
  GIVEN WITH THE SEED: the statements are not yours to turn. If you find one false, say at which input.
  Laid BY PROGRAM, IN A SANDBOX (cutbox-rows.mjs): the forced cells as the released guide's own fill.sh prints them over the translation bf54398321ef42cd… (all of the seat's roots in one cut). By AI agents, Wed Nov 11 2026. No macro, syntax, notation, axiom, sorry.
-/
import Derived.Test.YtdgpbhdihhchgaaGreatDoorChecked
import GoSem.PinnedTables
import GoSem.Claim
import GoSem.ClaimJoined
import GoSem.ClaimMapViews
import Derived.JoinedTies
import Derived.KernelRfl
namespace Go.Proofs.YtdgpbhdihhchgaaGreatDoor
/- THE CELL 'sum', in the pinned program and in every row, IS THE sha256 OF THE DUMP (.gsa) THAT YtdgpbhdihhchgaaGreatDoorProg.lean LOADS. Nothing in Lean hashes anything: it is a label: what it is worth is what the hold of that sum in a sandbox is worth. -/
noncomputable def Tryz.pinned : Pinned := { name := "ytdgpbhdihhchgaagreatdoor", sum := "bf54398321ef42cddb35f01997f6adba4d841199566d987a7fc084aa25c8de7a", checked := Tryz.checked }
namespace Rows
def none {H : Type} : Left H := { results := [], args := [] }

/- WHAT THE LISTED PACKAGE-LEVEL VARIABLES READ AS WHEN THE CALL BEGINS. Each datum BY PROGRAM (the guide's laid-datum.mjs) off the statement by which the dump's own 'gosem.cut.vars' lays the variable. In a bare row this is a premise. The card (YtdgpbhdihhchgaaGreatDoorCards.lean) ties it to the program's text. -/
def laid_unicode_utf8_acceptRanges {H : Type} : DataW H := .agg [.agg [.lit (.int .u8 128), .lit (.int .u8 191)], .agg [.lit (.int .u8 160), .lit (.int .u8 191)], .agg [.lit (.int .u8 128), .lit (.int .u8 159)], .agg [.lit (.int .u8 144), .lit (.int .u8 191)], .agg [.lit (.int .u8 128), .lit (.int .u8 143)], .agg [.lit (.int .u8 0), .lit (.int .u8 0)], .agg [.lit (.int .u8 0), .lit (.int .u8 0)], .agg [.lit (.int .u8 0), .lit (.int .u8 0)], .agg [.lit (.int .u8 0), .lit (.int .u8 0)], .agg [.lit (.int .u8 0), .lit (.int .u8 0)], .agg [.lit (.int .u8 0), .lit (.int .u8 0)], .agg [.lit (.int .u8 0), .lit (.int .u8 0)], .agg [.lit (.int .u8 0), .lit (.int .u8 0)], .agg [.lit (.int .u8 0), .lit (.int .u8 0)], .agg [.lit (.int .u8 0), .lit (.int .u8 0)], .agg [.lit (.int .u8 0), .lit (.int .u8 0)]]
/-- One of Go's own tables, pinned by name: the form's constant. -/
def laid_unicode_utf8_first : DataW Unit := Go.Pinned.utf8First

/-- 'refectorylaw16.VolPlays': WHATEVER THE INPUT: true; the input reads as it did. -/
def volPlaysSpec : ChangeSpec := { name := "volPlays", fn := fun _ => fun
  | [d1, d2] => { results := [.lit (.bool true)], args := [d1, d2] }
  | _ => none }
def volPlaysRow : OpenClaim := { program := "ytdgpbhdihhchgaagreatdoor", sum := "bf54398321ef42cddb35f01997f6adba4d841199566d987a7fc084aa25c8de7a", func := "refectory/refectorylaw16.VolPlays", spec := "volPlays", inPlace := ["internal/bytealg.IndexByteString", "internal/bytealg.IndexString", "internal/abi.NoEscape", "internal/bytealg.MakeNoZero", "slices.overlaps[string]", "slices.overlaps[refectory/api.Extent]"], unfollowed := true, recurses := true, named := ["internal/bytealg.MaxLen", "unicode/utf8.first", "unicode/utf8.acceptRanges"], apart := false, laid := [("unicode/utf8.acceptRanges", laid_unicode_utf8_acceptRanges), ("unicode/utf8.first", laid_unicode_utf8_first)] }
def VolPlaysSaid : Prop := volPlaysRow.holds Tryz.pinned (OpenSpec.ofChange volPlaysSpec)

/-- ITS FALSE NEIGHBOUR: 'it returns false'. Refute it at one input. -/
def volPlaysWrong : ChangeSpec := { name := "volPlays", fn := fun _ => fun
  | [d1, d2] => { results := [.lit (.bool false)], args := [d1, d2] }
  | _ => none }
def VolPlaysWrongFalsely : Prop := volPlaysRow.holds Tryz.pinned (OpenSpec.ofChange volPlaysWrong)

/-- 'refectorylaw16.VolAsks': WHATEVER THE INPUT: true; the input reads as it did. -/
def volAsksSpec : ChangeSpec := { name := "volAsks", fn := fun _ => fun
  | [d1, d2, d3, d4, d5, d6, d7] => { results := [.lit (.bool true)], args := [d1, d2, d3, d4, d5, d6, d7] }
  | _ => none }
def volAsksRow : OpenClaim := { program := "ytdgpbhdihhchgaagreatdoor", sum := "bf54398321ef42cddb35f01997f6adba4d841199566d987a7fc084aa25c8de7a", func := "refectory/refectorylaw16.VolAsks", spec := "volAsks", inPlace := ["internal/bytealg.IndexByteString", "internal/bytealg.IndexString", "internal/abi.NoEscape", "internal/bytealg.MakeNoZero", "slices.overlaps[string]", "slices.overlaps[refectory/api.Extent]"], unfollowed := true, recurses := true, named := ["internal/bytealg.MaxLen", "unicode/utf8.first", "unicode/utf8.acceptRanges"], apart := false, laid := [("unicode/utf8.acceptRanges", laid_unicode_utf8_acceptRanges), ("unicode/utf8.first", laid_unicode_utf8_first)] }
def VolAsksSaid : Prop := volAsksRow.holds Tryz.pinned (OpenSpec.ofChange volAsksSpec)

/-- ITS FALSE NEIGHBOUR: 'it returns false'. Refute it at one input. -/
def volAsksWrong : ChangeSpec := { name := "volAsks", fn := fun _ => fun
  | [d1, d2, d3, d4, d5, d6, d7] => { results := [.lit (.bool false)], args := [d1, d2, d3, d4, d5, d6, d7] }
  | _ => none }
def VolAsksWrongFalsely : Prop := volAsksRow.holds Tryz.pinned (OpenSpec.ofChange volAsksWrong)

/-- 'refectorylaw16.VolFound': WHATEVER THE INPUT: true; the input reads as it did. -/
def volFoundSpec : ChangeSpec := { name := "volFound", fn := fun _ => fun
  | [d1, d2] => { results := [.lit (.bool true)], args := [d1, d2] }
  | _ => none }
def volFoundRow : OpenClaim := { program := "ytdgpbhdihhchgaagreatdoor", sum := "bf54398321ef42cddb35f01997f6adba4d841199566d987a7fc084aa25c8de7a", func := "refectory/refectorylaw16.VolFound", spec := "volFound", inPlace := ["internal/bytealg.IndexByteString", "internal/bytealg.IndexString", "internal/abi.NoEscape", "internal/bytealg.MakeNoZero", "slices.overlaps[string]", "slices.overlaps[refectory/api.Extent]"], unfollowed := true, recurses := true, named := ["internal/bytealg.MaxLen", "unicode/utf8.first", "unicode/utf8.acceptRanges"], apart := false, laid := [("unicode/utf8.acceptRanges", laid_unicode_utf8_acceptRanges), ("unicode/utf8.first", laid_unicode_utf8_first)] }
def VolFoundSaid : Prop := volFoundRow.holds Tryz.pinned (OpenSpec.ofChange volFoundSpec)

/-- ITS FALSE NEIGHBOUR: 'it returns false'. Refute it at one input. -/
def volFoundWrong : ChangeSpec := { name := "volFound", fn := fun _ => fun
  | [d1, d2] => { results := [.lit (.bool false)], args := [d1, d2] }
  | _ => none }
def VolFoundWrongFalsely : Prop := volFoundRow.holds Tryz.pinned (OpenSpec.ofChange volFoundWrong)

/-- 'refectorylaw16.VolMoves': WHATEVER THE INPUT: true; the input reads as it did. -/
def volMovesSpec : ChangeSpec := { name := "volMoves", fn := fun _ => fun
  | [d1, d2, d3, d4, d5, d6] => { results := [.lit (.bool true)], args := [d1, d2, d3, d4, d5, d6] }
  | _ => none }
def volMovesRow : OpenClaim := { program := "ytdgpbhdihhchgaagreatdoor", sum := "bf54398321ef42cddb35f01997f6adba4d841199566d987a7fc084aa25c8de7a", func := "refectory/refectorylaw16.VolMoves", spec := "volMoves", inPlace := ["internal/bytealg.IndexByteString", "internal/bytealg.IndexString", "internal/abi.NoEscape", "internal/bytealg.MakeNoZero", "slices.overlaps[string]", "slices.overlaps[refectory/api.Extent]"], unfollowed := true, recurses := true, named := ["internal/bytealg.MaxLen", "unicode/utf8.first", "unicode/utf8.acceptRanges"], apart := false, laid := [("unicode/utf8.acceptRanges", laid_unicode_utf8_acceptRanges), ("unicode/utf8.first", laid_unicode_utf8_first)] }
def VolMovesSaid : Prop := volMovesRow.holds Tryz.pinned (OpenSpec.ofChange volMovesSpec)

/-- ITS FALSE NEIGHBOUR: 'it returns false'. Refute it at one input. -/
def volMovesWrong : ChangeSpec := { name := "volMoves", fn := fun _ => fun
  | [d1, d2, d3, d4, d5, d6] => { results := [.lit (.bool false)], args := [d1, d2, d3, d4, d5, d6] }
  | _ => none }
def VolMovesWrongFalsely : Prop := volMovesRow.holds Tryz.pinned (OpenSpec.ofChange volMovesWrong)

/-- 'refectorylaw16.VolRefused': WHATEVER THE INPUT: true; the input reads as it did. -/
def volRefusedSpec : ChangeSpec := { name := "volRefused", fn := fun _ => fun
  | [d1, d2, d3] => { results := [.lit (.bool true)], args := [d1, d2, d3] }
  | _ => none }
def volRefusedRow : OpenClaim := { program := "ytdgpbhdihhchgaagreatdoor", sum := "bf54398321ef42cddb35f01997f6adba4d841199566d987a7fc084aa25c8de7a", func := "refectory/refectorylaw16.VolRefused", spec := "volRefused", inPlace := ["internal/bytealg.IndexByteString", "internal/bytealg.IndexString", "internal/abi.NoEscape", "internal/bytealg.MakeNoZero", "slices.overlaps[string]", "slices.overlaps[refectory/api.Extent]"], unfollowed := true, recurses := true, named := ["internal/bytealg.MaxLen", "unicode/utf8.first", "unicode/utf8.acceptRanges"], apart := false, laid := [("unicode/utf8.acceptRanges", laid_unicode_utf8_acceptRanges), ("unicode/utf8.first", laid_unicode_utf8_first)] }
def VolRefusedSaid : Prop := volRefusedRow.holds Tryz.pinned (OpenSpec.ofChange volRefusedSpec)

/-- ITS FALSE NEIGHBOUR: 'it returns false'. Refute it at one input. -/
def volRefusedWrong : ChangeSpec := { name := "volRefused", fn := fun _ => fun
  | [d1, d2, d3] => { results := [.lit (.bool false)], args := [d1, d2, d3] }
  | _ => none }
def VolRefusedWrongFalsely : Prop := volRefusedRow.holds Tryz.pinned (OpenSpec.ofChange volRefusedWrong)

/-- 'refectorylaw16.VolGoes': WHATEVER THE INPUT: true; the input reads as it did. -/
def volGoesSpec : ChangeSpec := { name := "volGoes", fn := fun _ => fun
  | [d1, d2, d3, d4] => { results := [.lit (.bool true)], args := [d1, d2, d3, d4] }
  | _ => none }
def volGoesRow : OpenClaim := { program := "ytdgpbhdihhchgaagreatdoor", sum := "bf54398321ef42cddb35f01997f6adba4d841199566d987a7fc084aa25c8de7a", func := "refectory/refectorylaw16.VolGoes", spec := "volGoes", inPlace := ["internal/bytealg.IndexByteString", "internal/bytealg.IndexString", "internal/abi.NoEscape", "internal/bytealg.MakeNoZero", "slices.overlaps[string]", "slices.overlaps[refectory/api.Extent]"], unfollowed := true, recurses := true, named := ["internal/bytealg.MaxLen", "unicode/utf8.first", "unicode/utf8.acceptRanges"], apart := false, laid := [("unicode/utf8.acceptRanges", laid_unicode_utf8_acceptRanges), ("unicode/utf8.first", laid_unicode_utf8_first)] }
def VolGoesSaid : Prop := volGoesRow.holds Tryz.pinned (OpenSpec.ofChange volGoesSpec)

/-- ITS FALSE NEIGHBOUR: 'it returns false'. Refute it at one input. -/
def volGoesWrong : ChangeSpec := { name := "volGoes", fn := fun _ => fun
  | [d1, d2, d3, d4] => { results := [.lit (.bool false)], args := [d1, d2, d3, d4] }
  | _ => none }
def VolGoesWrongFalsely : Prop := volGoesRow.holds Tryz.pinned (OpenSpec.ofChange volGoesWrong)

/-- 'refectorylaw16.VolFresh': WHATEVER THE INPUT: true; the input reads as it did. -/
def volFreshSpec : ChangeSpec := { name := "volFresh", fn := fun _ => fun
  | [d1, d2, d3] => { results := [.lit (.bool true)], args := [d1, d2, d3] }
  | _ => none }
def volFreshRow : OpenClaim := { program := "ytdgpbhdihhchgaagreatdoor", sum := "bf54398321ef42cddb35f01997f6adba4d841199566d987a7fc084aa25c8de7a", func := "refectory/refectorylaw16.VolFresh", spec := "volFresh", inPlace := ["internal/bytealg.IndexByteString", "internal/bytealg.IndexString", "internal/abi.NoEscape", "internal/bytealg.MakeNoZero", "slices.overlaps[string]", "slices.overlaps[refectory/api.Extent]"], unfollowed := true, recurses := true, named := ["internal/bytealg.MaxLen", "unicode/utf8.first", "unicode/utf8.acceptRanges"], apart := false, laid := [("unicode/utf8.acceptRanges", laid_unicode_utf8_acceptRanges), ("unicode/utf8.first", laid_unicode_utf8_first)] }
def VolFreshSaid : Prop := volFreshRow.holds Tryz.pinned (OpenSpec.ofChange volFreshSpec)

/-- ITS FALSE NEIGHBOUR: 'it returns false'. Refute it at one input. -/
def volFreshWrong : ChangeSpec := { name := "volFresh", fn := fun _ => fun
  | [d1, d2, d3] => { results := [.lit (.bool false)], args := [d1, d2, d3] }
  | _ => none }
def VolFreshWrongFalsely : Prop := volFreshRow.holds Tryz.pinned (OpenSpec.ofChange volFreshWrong)

/-- 'refectorylaw16.VolNil': WHATEVER THE INPUT: true; the input reads as it did. -/
def volNilSpec : ChangeSpec := { name := "volNil", fn := fun _ => fun
  | [d1, d2, d3, d4] => { results := [.lit (.bool true)], args := [d1, d2, d3, d4] }
  | _ => none }
def volNilRow : OpenClaim := { program := "ytdgpbhdihhchgaagreatdoor", sum := "bf54398321ef42cddb35f01997f6adba4d841199566d987a7fc084aa25c8de7a", func := "refectory/refectorylaw16.VolNil", spec := "volNil", inPlace := ["internal/bytealg.IndexByteString", "internal/bytealg.IndexString", "internal/abi.NoEscape", "internal/bytealg.MakeNoZero", "slices.overlaps[string]", "slices.overlaps[refectory/api.Extent]"], unfollowed := true, recurses := true, named := ["internal/bytealg.MaxLen", "unicode/utf8.first", "unicode/utf8.acceptRanges"], apart := false, laid := [("unicode/utf8.acceptRanges", laid_unicode_utf8_acceptRanges), ("unicode/utf8.first", laid_unicode_utf8_first)] }
def VolNilSaid : Prop := volNilRow.holds Tryz.pinned (OpenSpec.ofChange volNilSpec)

/-- ITS FALSE NEIGHBOUR: 'it returns false'. Refute it at one input. -/
def volNilWrong : ChangeSpec := { name := "volNil", fn := fun _ => fun
  | [d1, d2, d3, d4] => { results := [.lit (.bool false)], args := [d1, d2, d3, d4] }
  | _ => none }
def VolNilWrongFalsely : Prop := volNilRow.holds Tryz.pinned (OpenSpec.ofChange volNilWrong)

/- THE SECOND FORM. 'bulk': how many values and letters a reading holds, each counted each time it is reached (what is shared counts as often as it is met; a slice's spare places count too). A statement '..UptoSaid' is the law's where the arguments, and the package variables that the reading takes, are together of bulk at most 1048576: NARROWER than '..Said'. Prove '..Said' where nothing that the law and all that it calls make is longer than what came in: it says more and counts as full. Else prove '..UptoSaid'. A law counts once. -/
mutual
def uptoBulk {H : Type} : DataW H → Nat
  | .lit (.string bytes) => bytes.length + 1
  | .lit _ => 1
  | .nil => 1
  | .ptr d => uptoBulk d + 1
  | .slice elems spare => uptoBulkAll elems + uptoBulkAll spare + 1
  | .agg parts => uptoBulkAll parts + 1
  | .iface _ d => uptoBulk d + 1
  | .map entries => uptoBulkEntries entries + 1
  | .held _ => 1
def uptoBulkAll {H : Type} : List (DataW H) → Nat
  | [] => 0
  | d :: r => uptoBulk d + uptoBulkAll r
def uptoBulkEntries {H : Type} : List (Lit × DataW H) → Nat
  | [] => 0
  | x :: r => uptoBulkEntry x + uptoBulkEntries r
def uptoBulkEntry {H : Type} : Lit × DataW H → Nat
  | (.string bytes, d) => bytes.length + uptoBulk d + 1
  | (_, d) => uptoBulk d + 1
 end
def uptoSmall : (H : Type) → List (DataW H) → Bool := fun _ ds => decide (uptoBulkAll ds ≤ 1048576)
def OpenSpec.upto (s : _root_.Go.ChangeSpec) : _root_.Go.OpenSpec := { _root_.Go.OpenSpec.ofChange s with cond := some uptoSmall }

/-- 'refectorylaw16.VolPlays', WHERE WHAT IT READS IS OF BULK AT MOST 1048576: true; the input reads as it did. -/
def volPlaysUptoRow : OpenClaim := { program := "ytdgpbhdihhchgaagreatdoor", sum := "bf54398321ef42cddb35f01997f6adba4d841199566d987a7fc084aa25c8de7a", func := "refectory/refectorylaw16.VolPlays", spec := "volPlays", inPlace := ["internal/bytealg.IndexByteString", "internal/bytealg.IndexString", "internal/abi.NoEscape", "internal/bytealg.MakeNoZero", "slices.overlaps[string]", "slices.overlaps[refectory/api.Extent]"], unfollowed := true, recurses := true, named := ["internal/bytealg.MaxLen", "unicode/utf8.first", "unicode/utf8.acceptRanges"], apart := false, laid := [("unicode/utf8.acceptRanges", laid_unicode_utf8_acceptRanges), ("unicode/utf8.first", laid_unicode_utf8_first)], narrowed := true }
def VolPlaysUptoSaid : Prop := volPlaysUptoRow.holds Tryz.pinned (OpenSpec.upto volPlaysSpec)

/-- 'refectorylaw16.VolAsks', WHERE WHAT IT READS IS OF BULK AT MOST 1048576: true; the input reads as it did. -/
def volAsksUptoRow : OpenClaim := { program := "ytdgpbhdihhchgaagreatdoor", sum := "bf54398321ef42cddb35f01997f6adba4d841199566d987a7fc084aa25c8de7a", func := "refectory/refectorylaw16.VolAsks", spec := "volAsks", inPlace := ["internal/bytealg.IndexByteString", "internal/bytealg.IndexString", "internal/abi.NoEscape", "internal/bytealg.MakeNoZero", "slices.overlaps[string]", "slices.overlaps[refectory/api.Extent]"], unfollowed := true, recurses := true, named := ["internal/bytealg.MaxLen", "unicode/utf8.first", "unicode/utf8.acceptRanges"], apart := false, laid := [("unicode/utf8.acceptRanges", laid_unicode_utf8_acceptRanges), ("unicode/utf8.first", laid_unicode_utf8_first)], narrowed := true }
def VolAsksUptoSaid : Prop := volAsksUptoRow.holds Tryz.pinned (OpenSpec.upto volAsksSpec)

/-- 'refectorylaw16.VolFound', WHERE WHAT IT READS IS OF BULK AT MOST 1048576: true; the input reads as it did. -/
def volFoundUptoRow : OpenClaim := { program := "ytdgpbhdihhchgaagreatdoor", sum := "bf54398321ef42cddb35f01997f6adba4d841199566d987a7fc084aa25c8de7a", func := "refectory/refectorylaw16.VolFound", spec := "volFound", inPlace := ["internal/bytealg.IndexByteString", "internal/bytealg.IndexString", "internal/abi.NoEscape", "internal/bytealg.MakeNoZero", "slices.overlaps[string]", "slices.overlaps[refectory/api.Extent]"], unfollowed := true, recurses := true, named := ["internal/bytealg.MaxLen", "unicode/utf8.first", "unicode/utf8.acceptRanges"], apart := false, laid := [("unicode/utf8.acceptRanges", laid_unicode_utf8_acceptRanges), ("unicode/utf8.first", laid_unicode_utf8_first)], narrowed := true }
def VolFoundUptoSaid : Prop := volFoundUptoRow.holds Tryz.pinned (OpenSpec.upto volFoundSpec)

/-- 'refectorylaw16.VolMoves', WHERE WHAT IT READS IS OF BULK AT MOST 1048576: true; the input reads as it did. -/
def volMovesUptoRow : OpenClaim := { program := "ytdgpbhdihhchgaagreatdoor", sum := "bf54398321ef42cddb35f01997f6adba4d841199566d987a7fc084aa25c8de7a", func := "refectory/refectorylaw16.VolMoves", spec := "volMoves", inPlace := ["internal/bytealg.IndexByteString", "internal/bytealg.IndexString", "internal/abi.NoEscape", "internal/bytealg.MakeNoZero", "slices.overlaps[string]", "slices.overlaps[refectory/api.Extent]"], unfollowed := true, recurses := true, named := ["internal/bytealg.MaxLen", "unicode/utf8.first", "unicode/utf8.acceptRanges"], apart := false, laid := [("unicode/utf8.acceptRanges", laid_unicode_utf8_acceptRanges), ("unicode/utf8.first", laid_unicode_utf8_first)], narrowed := true }
def VolMovesUptoSaid : Prop := volMovesUptoRow.holds Tryz.pinned (OpenSpec.upto volMovesSpec)

/-- 'refectorylaw16.VolRefused', WHERE WHAT IT READS IS OF BULK AT MOST 1048576: true; the input reads as it did. -/
def volRefusedUptoRow : OpenClaim := { program := "ytdgpbhdihhchgaagreatdoor", sum := "bf54398321ef42cddb35f01997f6adba4d841199566d987a7fc084aa25c8de7a", func := "refectory/refectorylaw16.VolRefused", spec := "volRefused", inPlace := ["internal/bytealg.IndexByteString", "internal/bytealg.IndexString", "internal/abi.NoEscape", "internal/bytealg.MakeNoZero", "slices.overlaps[string]", "slices.overlaps[refectory/api.Extent]"], unfollowed := true, recurses := true, named := ["internal/bytealg.MaxLen", "unicode/utf8.first", "unicode/utf8.acceptRanges"], apart := false, laid := [("unicode/utf8.acceptRanges", laid_unicode_utf8_acceptRanges), ("unicode/utf8.first", laid_unicode_utf8_first)], narrowed := true }
def VolRefusedUptoSaid : Prop := volRefusedUptoRow.holds Tryz.pinned (OpenSpec.upto volRefusedSpec)

/-- 'refectorylaw16.VolGoes', WHERE WHAT IT READS IS OF BULK AT MOST 1048576: true; the input reads as it did. -/
def volGoesUptoRow : OpenClaim := { program := "ytdgpbhdihhchgaagreatdoor", sum := "bf54398321ef42cddb35f01997f6adba4d841199566d987a7fc084aa25c8de7a", func := "refectory/refectorylaw16.VolGoes", spec := "volGoes", inPlace := ["internal/bytealg.IndexByteString", "internal/bytealg.IndexString", "internal/abi.NoEscape", "internal/bytealg.MakeNoZero", "slices.overlaps[string]", "slices.overlaps[refectory/api.Extent]"], unfollowed := true, recurses := true, named := ["internal/bytealg.MaxLen", "unicode/utf8.first", "unicode/utf8.acceptRanges"], apart := false, laid := [("unicode/utf8.acceptRanges", laid_unicode_utf8_acceptRanges), ("unicode/utf8.first", laid_unicode_utf8_first)], narrowed := true }
def VolGoesUptoSaid : Prop := volGoesUptoRow.holds Tryz.pinned (OpenSpec.upto volGoesSpec)

/-- 'refectorylaw16.VolFresh', WHERE WHAT IT READS IS OF BULK AT MOST 1048576: true; the input reads as it did. -/
def volFreshUptoRow : OpenClaim := { program := "ytdgpbhdihhchgaagreatdoor", sum := "bf54398321ef42cddb35f01997f6adba4d841199566d987a7fc084aa25c8de7a", func := "refectory/refectorylaw16.VolFresh", spec := "volFresh", inPlace := ["internal/bytealg.IndexByteString", "internal/bytealg.IndexString", "internal/abi.NoEscape", "internal/bytealg.MakeNoZero", "slices.overlaps[string]", "slices.overlaps[refectory/api.Extent]"], unfollowed := true, recurses := true, named := ["internal/bytealg.MaxLen", "unicode/utf8.first", "unicode/utf8.acceptRanges"], apart := false, laid := [("unicode/utf8.acceptRanges", laid_unicode_utf8_acceptRanges), ("unicode/utf8.first", laid_unicode_utf8_first)], narrowed := true }
def VolFreshUptoSaid : Prop := volFreshUptoRow.holds Tryz.pinned (OpenSpec.upto volFreshSpec)

/-- 'refectorylaw16.VolNil', WHERE WHAT IT READS IS OF BULK AT MOST 1048576: true; the input reads as it did. -/
def volNilUptoRow : OpenClaim := { program := "ytdgpbhdihhchgaagreatdoor", sum := "bf54398321ef42cddb35f01997f6adba4d841199566d987a7fc084aa25c8de7a", func := "refectory/refectorylaw16.VolNil", spec := "volNil", inPlace := ["internal/bytealg.IndexByteString", "internal/bytealg.IndexString", "internal/abi.NoEscape", "internal/bytealg.MakeNoZero", "slices.overlaps[string]", "slices.overlaps[refectory/api.Extent]"], unfollowed := true, recurses := true, named := ["internal/bytealg.MaxLen", "unicode/utf8.first", "unicode/utf8.acceptRanges"], apart := false, laid := [("unicode/utf8.acceptRanges", laid_unicode_utf8_acceptRanges), ("unicode/utf8.first", laid_unicode_utf8_first)], narrowed := true }
def VolNilUptoSaid : Prop := volNilUptoRow.holds Tryz.pinned (OpenSpec.upto volNilSpec)

end Rows
end Go.Proofs.YtdgpbhdihhchgaaGreatDoor
