/-
  DERIVED. GIVEN WITH THE SEED: THE CARDS: each row of YtokmeomjdpfknaaGreatDoorRows.lean that lists a variable, with what it lists TIED to the program's text (the seventh form; the later family's looks); each row that meets fmt, with fmt's text TOLD by the authors' own Lean function (tested against real Go, not proved from fmt's source: count such statements apart). THE CARD IS WHAT COUNTS. Prove the row's statement (the work); the ties are given (YtokmeomjdpfknaaGreatDoorTie.lean); close each card by the builder's one call (the guide's Derived/Test/ToyasCard.lean, 'card_holds'). Laid BY PROGRAM, IN A SANDBOX (cutbox-door.mjs). By AI agents, Wed Nov 11 2026. No macro, syntax, notation, axiom, sorry.
-/
import Derived.Test.YtokmeomjdpfknaaGreatDoorRows
import GoSem.ClaimSeven
namespace Go.Proofs.YtokmeomjdpfknaaGreatDoor
namespace Rows

/-- THE TIED CARD OF 'warpbeamlaw08.ClassWrites'. -/
def classWritesCard : Claim7 := { stood := { row := classWritesRow, standIns := [], harness := (true, "8d03e50adc9c387b9b4476b35808d2691942fcd1dff8800d8ae6aed927ea6d30"), looks := false }, kinds := [], alts := [], laidByText := true, laidKinds := [.data, .data, .pinned], laidTests := true, laidLooks := .later }
def ClassWritesCardSaid : Prop := Claim7.holds Tryz.pinned (.plain (OpenSpec.ofChange classWritesSpec)) classWritesCard

/-- THE TIED CARD OF 'warpbeamlaw08.ClassReads'. -/
def classReadsCard : Claim7 := { stood := { row := classReadsRow, standIns := [], harness := (true, "8d03e50adc9c387b9b4476b35808d2691942fcd1dff8800d8ae6aed927ea6d30"), looks := false }, kinds := [], alts := [], laidByText := true, laidKinds := [.data, .data, .pinned], laidTests := true, laidLooks := .later }
def ClassReadsCardSaid : Prop := Claim7.holds Tryz.pinned (.plain (OpenSpec.ofChange classReadsSpec)) classReadsCard

/-- THE TIED CARD OF 'warpbeamlaw08.ClassBack'. -/
def classBackCard : Claim7 := { stood := { row := classBackRow, standIns := [], harness := (true, "8d03e50adc9c387b9b4476b35808d2691942fcd1dff8800d8ae6aed927ea6d30"), looks := false }, kinds := [], alts := [], laidByText := true, laidKinds := [.data, .data, .pinned], laidTests := true, laidLooks := .later }
def ClassBackCardSaid : Prop := Claim7.holds Tryz.pinned (.plain (OpenSpec.ofChange classBackSpec)) classBackCard

/-- THE TIED CARD OF 'warpbeamlaw08.ClassAgain'. -/
def classAgainCard : Claim7 := { stood := { row := classAgainRow, standIns := [], harness := (true, "8d03e50adc9c387b9b4476b35808d2691942fcd1dff8800d8ae6aed927ea6d30"), looks := false }, kinds := [], alts := [], laidByText := true, laidKinds := [.data, .data, .pinned], laidTests := true, laidLooks := .later }
def ClassAgainCardSaid : Prop := Claim7.holds Tryz.pinned (.plain (OpenSpec.ofChange classAgainSpec)) classAgainCard

/-- THE TIED CARD OF 'warpbeamlaw08.ClassCut'. -/
def classCutCard : Claim7 := { stood := { row := classCutRow, standIns := [], harness := (true, "8d03e50adc9c387b9b4476b35808d2691942fcd1dff8800d8ae6aed927ea6d30"), looks := false }, kinds := [], alts := [], laidByText := true, laidKinds := [.data, .data, .pinned], laidTests := true, laidLooks := .later }
def ClassCutCardSaid : Prop := Claim7.holds Tryz.pinned (.plain (OpenSpec.ofChange classCutSpec)) classCutCard

/-- THE TIED CARD OF 'warpbeamlaw08.ClassSame'. -/
def classSameCard : Claim7 := { stood := { row := classSameRow, standIns := [], harness := (true, "8d03e50adc9c387b9b4476b35808d2691942fcd1dff8800d8ae6aed927ea6d30"), looks := false }, kinds := [], alts := [], laidByText := true, laidKinds := [.data, .data, .pinned], laidTests := true, laidLooks := .later }
def ClassSameCardSaid : Prop := Claim7.holds Tryz.pinned (.plain (OpenSpec.ofChange classSameSpec)) classSameCard

/-- THE TIED CARD OF 'warpbeamlaw08.ClassLess'. -/
def classLessCard : Claim7 := { stood := { row := classLessRow, standIns := [], harness := (true, "8d03e50adc9c387b9b4476b35808d2691942fcd1dff8800d8ae6aed927ea6d30"), looks := false }, kinds := [], alts := [], laidByText := true, laidKinds := [.data, .data, .pinned], laidTests := true, laidLooks := .later }
def ClassLessCardSaid : Prop := Claim7.holds Tryz.pinned (.plain (OpenSpec.ofChange classLessSpec)) classLessCard

/-- THE TIED CARD OF 'warpbeamlaw08.ClassKnown'. -/
def classKnownCard : Claim7 := { stood := { row := classKnownRow, standIns := [], harness := (true, "8d03e50adc9c387b9b4476b35808d2691942fcd1dff8800d8ae6aed927ea6d30"), looks := false }, kinds := [], alts := [], laidByText := true, laidKinds := [.data, .data, .pinned], laidTests := true, laidLooks := .later }
def ClassKnownCardSaid : Prop := Claim7.holds Tryz.pinned (.plain (OpenSpec.ofChange classKnownSpec)) classKnownCard

/-- THE SECOND FORM's CARD OF 'warpbeamlaw08.ClassWrites'. -/
def classWritesUptoCard : Claim7 := { stood := { row := classWritesUptoRow, standIns := [], harness := (true, "8d03e50adc9c387b9b4476b35808d2691942fcd1dff8800d8ae6aed927ea6d30"), looks := false }, kinds := [], alts := [], laidByText := true, laidKinds := [.data, .data, .pinned], laidTests := true, laidLooks := .later }
def ClassWritesUptoCardSaid : Prop := Claim7.holds Tryz.pinned (.plain (OpenSpec.upto classWritesSpec)) classWritesUptoCard

/-- THE SECOND FORM's CARD OF 'warpbeamlaw08.ClassReads'. -/
def classReadsUptoCard : Claim7 := { stood := { row := classReadsUptoRow, standIns := [], harness := (true, "8d03e50adc9c387b9b4476b35808d2691942fcd1dff8800d8ae6aed927ea6d30"), looks := false }, kinds := [], alts := [], laidByText := true, laidKinds := [.data, .data, .pinned], laidTests := true, laidLooks := .later }
def ClassReadsUptoCardSaid : Prop := Claim7.holds Tryz.pinned (.plain (OpenSpec.upto classReadsSpec)) classReadsUptoCard

/-- THE SECOND FORM's CARD OF 'warpbeamlaw08.ClassBack'. -/
def classBackUptoCard : Claim7 := { stood := { row := classBackUptoRow, standIns := [], harness := (true, "8d03e50adc9c387b9b4476b35808d2691942fcd1dff8800d8ae6aed927ea6d30"), looks := false }, kinds := [], alts := [], laidByText := true, laidKinds := [.data, .data, .pinned], laidTests := true, laidLooks := .later }
def ClassBackUptoCardSaid : Prop := Claim7.holds Tryz.pinned (.plain (OpenSpec.upto classBackSpec)) classBackUptoCard

/-- THE SECOND FORM's CARD OF 'warpbeamlaw08.ClassAgain'. -/
def classAgainUptoCard : Claim7 := { stood := { row := classAgainUptoRow, standIns := [], harness := (true, "8d03e50adc9c387b9b4476b35808d2691942fcd1dff8800d8ae6aed927ea6d30"), looks := false }, kinds := [], alts := [], laidByText := true, laidKinds := [.data, .data, .pinned], laidTests := true, laidLooks := .later }
def ClassAgainUptoCardSaid : Prop := Claim7.holds Tryz.pinned (.plain (OpenSpec.upto classAgainSpec)) classAgainUptoCard

/-- THE SECOND FORM's CARD OF 'warpbeamlaw08.ClassCut'. -/
def classCutUptoCard : Claim7 := { stood := { row := classCutUptoRow, standIns := [], harness := (true, "8d03e50adc9c387b9b4476b35808d2691942fcd1dff8800d8ae6aed927ea6d30"), looks := false }, kinds := [], alts := [], laidByText := true, laidKinds := [.data, .data, .pinned], laidTests := true, laidLooks := .later }
def ClassCutUptoCardSaid : Prop := Claim7.holds Tryz.pinned (.plain (OpenSpec.upto classCutSpec)) classCutUptoCard

/-- THE SECOND FORM's CARD OF 'warpbeamlaw08.ClassSame'. -/
def classSameUptoCard : Claim7 := { stood := { row := classSameUptoRow, standIns := [], harness := (true, "8d03e50adc9c387b9b4476b35808d2691942fcd1dff8800d8ae6aed927ea6d30"), looks := false }, kinds := [], alts := [], laidByText := true, laidKinds := [.data, .data, .pinned], laidTests := true, laidLooks := .later }
def ClassSameUptoCardSaid : Prop := Claim7.holds Tryz.pinned (.plain (OpenSpec.upto classSameSpec)) classSameUptoCard

/-- THE SECOND FORM's CARD OF 'warpbeamlaw08.ClassLess'. -/
def classLessUptoCard : Claim7 := { stood := { row := classLessUptoRow, standIns := [], harness := (true, "8d03e50adc9c387b9b4476b35808d2691942fcd1dff8800d8ae6aed927ea6d30"), looks := false }, kinds := [], alts := [], laidByText := true, laidKinds := [.data, .data, .pinned], laidTests := true, laidLooks := .later }
def ClassLessUptoCardSaid : Prop := Claim7.holds Tryz.pinned (.plain (OpenSpec.upto classLessSpec)) classLessUptoCard

/-- THE SECOND FORM's CARD OF 'warpbeamlaw08.ClassKnown'. -/
def classKnownUptoCard : Claim7 := { stood := { row := classKnownUptoRow, standIns := [], harness := (true, "8d03e50adc9c387b9b4476b35808d2691942fcd1dff8800d8ae6aed927ea6d30"), looks := false }, kinds := [], alts := [], laidByText := true, laidKinds := [.data, .data, .pinned], laidTests := true, laidLooks := .later }
def ClassKnownUptoCardSaid : Prop := Claim7.holds Tryz.pinned (.plain (OpenSpec.upto classKnownSpec)) classKnownUptoCard
end Rows
end Go.Proofs.YtokmeomjdpfknaaGreatDoor
