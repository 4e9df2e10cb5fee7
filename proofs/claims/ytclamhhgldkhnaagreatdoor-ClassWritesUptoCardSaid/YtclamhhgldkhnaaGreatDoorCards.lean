/-
  DERIVED. GIVEN WITH THE SEED: THE CARDS: each row of YtclamhhgldkhnaaGreatDoorRows.lean that lists a variable, with what it lists TIED to the program's text (the seventh form; the later family's looks); each row that meets fmt, with fmt's text TOLD by the authors' own Lean function (tested against real Go, not proved from fmt's source: count such statements apart). THE CARD IS WHAT COUNTS. Prove the row's statement (the work); the ties are given (YtclamhhgldkhnaaGreatDoorTie.lean); close each card by the builder's one call (the guide's Derived/Test/ToyasCard.lean, 'card_holds'). Laid BY PROGRAM, IN A SANDBOX (cutbox-door.mjs). By AI agents, Wed Nov 11 2026. No macro, syntax, notation, axiom, sorry.
-/
import Derived.Test.YtclamhhgldkhnaaGreatDoorRows
import GoSem.ClaimSeven
namespace Go.Proofs.YtclamhhgldkhnaaGreatDoor
namespace Rows

/-- THE TIED CARD OF 'warpbeamlaw08.ClassWrites'. -/
def classWritesCard : Claim7 := { stood := { row := classWritesRow, standIns := [], harness := (true, "47dcda6924331b8b56d378c202bd1a1eda9218f09a03f13bfc25167302dbc898"), looks := false }, kinds := [], alts := [], laidByText := true, laidKinds := [.data, .data, .pinned], laidTests := true, laidLooks := .later }
def ClassWritesCardSaid : Prop := Claim7.holds Tryz.pinned (.plain (OpenSpec.ofChange classWritesSpec)) classWritesCard

/-- THE TIED CARD OF 'warpbeamlaw08.ClassReads'. -/
def classReadsCard : Claim7 := { stood := { row := classReadsRow, standIns := [], harness := (true, "47dcda6924331b8b56d378c202bd1a1eda9218f09a03f13bfc25167302dbc898"), looks := false }, kinds := [], alts := [], laidByText := true, laidKinds := [.data, .data, .pinned], laidTests := true, laidLooks := .later }
def ClassReadsCardSaid : Prop := Claim7.holds Tryz.pinned (.plain (OpenSpec.ofChange classReadsSpec)) classReadsCard

/-- THE TIED CARD OF 'warpbeamlaw08.ClassKnown'. -/
def classKnownCard : Claim7 := { stood := { row := classKnownRow, standIns := [], harness := (true, "47dcda6924331b8b56d378c202bd1a1eda9218f09a03f13bfc25167302dbc898"), looks := false }, kinds := [], alts := [], laidByText := true, laidKinds := [.data, .data, .pinned], laidTests := true, laidLooks := .later }
def ClassKnownCardSaid : Prop := Claim7.holds Tryz.pinned (.plain (OpenSpec.ofChange classKnownSpec)) classKnownCard

/-- THE SECOND FORM's CARD OF 'warpbeamlaw08.ClassWrites'. -/
def classWritesUptoCard : Claim7 := { stood := { row := classWritesUptoRow, standIns := [], harness := (true, "47dcda6924331b8b56d378c202bd1a1eda9218f09a03f13bfc25167302dbc898"), looks := false }, kinds := [], alts := [], laidByText := true, laidKinds := [.data, .data, .pinned], laidTests := true, laidLooks := .later }
def ClassWritesUptoCardSaid : Prop := Claim7.holds Tryz.pinned (.plain (OpenSpec.upto classWritesSpec)) classWritesUptoCard

/-- THE SECOND FORM's CARD OF 'warpbeamlaw08.ClassReads'. -/
def classReadsUptoCard : Claim7 := { stood := { row := classReadsUptoRow, standIns := [], harness := (true, "47dcda6924331b8b56d378c202bd1a1eda9218f09a03f13bfc25167302dbc898"), looks := false }, kinds := [], alts := [], laidByText := true, laidKinds := [.data, .data, .pinned], laidTests := true, laidLooks := .later }
def ClassReadsUptoCardSaid : Prop := Claim7.holds Tryz.pinned (.plain (OpenSpec.upto classReadsSpec)) classReadsUptoCard

/-- THE SECOND FORM's CARD OF 'warpbeamlaw08.ClassKnown'. -/
def classKnownUptoCard : Claim7 := { stood := { row := classKnownUptoRow, standIns := [], harness := (true, "47dcda6924331b8b56d378c202bd1a1eda9218f09a03f13bfc25167302dbc898"), looks := false }, kinds := [], alts := [], laidByText := true, laidKinds := [.data, .data, .pinned], laidTests := true, laidLooks := .later }
def ClassKnownUptoCardSaid : Prop := Claim7.holds Tryz.pinned (.plain (OpenSpec.upto classKnownSpec)) classKnownUptoCard
end Rows
end Go.Proofs.YtclamhhgldkhnaaGreatDoor
