/-
  NARROWER THAN 'FOR EVERY INPUT', by the rows' own cells (each row's printed sentence says how): LinkNumbers: laid · LinkAbove: laid · LinkTypes: laid · LinkOrder: laid · LinkSteps: laid · LinkCommon: laid · LinkTurned: laid · LinkArrays: laid.
  DERIVED. THE GIVEN ROWS OF THIS SEAT. 8 by the template 'for every input the law returns true; each argument reads behind the call as it read before'; 0 by the template 'total and deterministic' (their statements: YtkkfkjjmmdpafaaDoorTotals.lean).
  GIVEN WITH THE SEED: the statements are not yours to turn. If you find one false, say at which input.
  Laid BY PROGRAM, IN A SANDBOX (cutbox-rows.mjs): the forced cells as the released guide's own fill.sh prints them over the translation 1c01dbc044508778… (all of the seat's roots in one cut). By AI agents, Wed Nov 11 2026. No macro, syntax, notation, axiom, sorry.
-/
import Derived.Test.YtkkfkjjmmdpafaaDoorChecked
import GoSem.Claim
import GoSem.ClaimJoined
import GoSem.ClaimMapViews
import Derived.JoinedTies
import Derived.KernelRfl
namespace Go.Proofs.YtkkfkjjmmdpafaaDoor
/- THE CELL 'sum', in the pinned program and in every row, IS THE sha256 OF THE DUMP (.gsa) THAT YtkkfkjjmmdpafaaDoorProg.lean LOADS. Nothing in Lean hashes anything: it is a label: what it is worth is what the hold of that sum in a sandbox is worth. -/
noncomputable def Tryd.pinned : Pinned := { name := "ytkkfkjjmmdpafaadoor", sum := "1c01dbc044508778faeee9c6422844209d854cdec621937b40f5cf3a5606fe01", checked := Tryd.checked }
namespace Rows
def none {H : Type} : Left H := { results := [], args := [] }

/- WHAT THE LISTED PACKAGE-LEVEL VARIABLES READ AS WHEN THE CALL BEGINS. Each datum BY PROGRAM (the guide's laid-datum.mjs) off the statement by which the dump's own 'gosem.cut.vars' lays the variable. In a bare row this is a premise. The card (YtkkfkjjmmdpafaaDoorCards.lean) ties it to the program's text. -/
def laid_warpbeam_link_builtInNames {H : Type} : DataW H := .agg [.lit (.string [79, 98, 106, 101, 99, 116]), .lit (.string [84, 104, 114, 111, 119, 97, 98, 108, 101]), .lit (.string [65, 114, 105, 116, 104]), .lit (.string [78, 117, 108, 108]), .lit (.string [66, 111, 117, 110, 100, 115]), .lit (.string [67, 97, 115, 116]), .lit (.string [83, 105, 122, 101]), .lit (.string [83, 116, 111, 114, 101])]

/-- 'warpbeamlaw09.LinkNumbers': WHATEVER THE INPUT: true; the input reads as it did. -/
def linkNumbersSpec : ChangeSpec := { name := "linkNumbers", fn := fun _ => fun
  | [d1, d2] => { results := [.lit (.bool true)], args := [d1, d2] }
  | _ => none }
def linkNumbersRow : OpenClaim := { program := "ytkkfkjjmmdpafaadoor", sum := "1c01dbc044508778faeee9c6422844209d854cdec621937b40f5cf3a5606fe01", func := "warpbeam/warpbeamlaw09.LinkNumbers", spec := "linkNumbers", inPlace := ["internal/bytealg.abigen_runtime_cmpstring"], unfollowed := true, recurses := true, named := ["warpbeam/link.builtInNames"], apart := false, laid := [("warpbeam/link.builtInNames", laid_warpbeam_link_builtInNames)] }
def LinkNumbersSaid : Prop := linkNumbersRow.holds Tryd.pinned (OpenSpec.ofChange linkNumbersSpec)

/-- ITS FALSE NEIGHBOUR: 'it returns false'. Refute it at one input. -/
def linkNumbersWrong : ChangeSpec := { name := "linkNumbers", fn := fun _ => fun
  | [d1, d2] => { results := [.lit (.bool false)], args := [d1, d2] }
  | _ => none }
def LinkNumbersWrongFalsely : Prop := linkNumbersRow.holds Tryd.pinned (OpenSpec.ofChange linkNumbersWrong)

/-- 'warpbeamlaw09.LinkAbove': WHATEVER THE INPUT: true; the input reads as it did. -/
def linkAboveSpec : ChangeSpec := { name := "linkAbove", fn := fun _ => fun
  | [d1, d2, d3] => { results := [.lit (.bool true)], args := [d1, d2, d3] }
  | _ => none }
def linkAboveRow : OpenClaim := { program := "ytkkfkjjmmdpafaadoor", sum := "1c01dbc044508778faeee9c6422844209d854cdec621937b40f5cf3a5606fe01", func := "warpbeam/warpbeamlaw09.LinkAbove", spec := "linkAbove", inPlace := ["internal/bytealg.abigen_runtime_cmpstring"], unfollowed := true, recurses := true, named := ["warpbeam/link.builtInNames"], apart := false, laid := [("warpbeam/link.builtInNames", laid_warpbeam_link_builtInNames)] }
def LinkAboveSaid : Prop := linkAboveRow.holds Tryd.pinned (OpenSpec.ofChange linkAboveSpec)

/-- ITS FALSE NEIGHBOUR: 'it returns false'. Refute it at one input. -/
def linkAboveWrong : ChangeSpec := { name := "linkAbove", fn := fun _ => fun
  | [d1, d2, d3] => { results := [.lit (.bool false)], args := [d1, d2, d3] }
  | _ => none }
def LinkAboveWrongFalsely : Prop := linkAboveRow.holds Tryd.pinned (OpenSpec.ofChange linkAboveWrong)

/-- 'warpbeamlaw09.LinkTypes': WHATEVER THE INPUT: true; the input reads as it did. -/
def linkTypesSpec : ChangeSpec := { name := "linkTypes", fn := fun _ => fun
  | [d1, d2, d3] => { results := [.lit (.bool true)], args := [d1, d2, d3] }
  | _ => none }
def linkTypesRow : OpenClaim := { program := "ytkkfkjjmmdpafaadoor", sum := "1c01dbc044508778faeee9c6422844209d854cdec621937b40f5cf3a5606fe01", func := "warpbeam/warpbeamlaw09.LinkTypes", spec := "linkTypes", inPlace := ["internal/bytealg.abigen_runtime_cmpstring"], unfollowed := true, recurses := true, named := ["warpbeam/link.builtInNames"], apart := false, laid := [("warpbeam/link.builtInNames", laid_warpbeam_link_builtInNames)] }
def LinkTypesSaid : Prop := linkTypesRow.holds Tryd.pinned (OpenSpec.ofChange linkTypesSpec)

/-- ITS FALSE NEIGHBOUR: 'it returns false'. Refute it at one input. -/
def linkTypesWrong : ChangeSpec := { name := "linkTypes", fn := fun _ => fun
  | [d1, d2, d3] => { results := [.lit (.bool false)], args := [d1, d2, d3] }
  | _ => none }
def LinkTypesWrongFalsely : Prop := linkTypesRow.holds Tryd.pinned (OpenSpec.ofChange linkTypesWrong)

/-- 'warpbeamlaw09.LinkOrder': WHATEVER THE INPUT: true; the input reads as it did. -/
def linkOrderSpec : ChangeSpec := { name := "linkOrder", fn := fun _ => fun
  | [d1, d2, d3] => { results := [.lit (.bool true)], args := [d1, d2, d3] }
  | _ => none }
def linkOrderRow : OpenClaim := { program := "ytkkfkjjmmdpafaadoor", sum := "1c01dbc044508778faeee9c6422844209d854cdec621937b40f5cf3a5606fe01", func := "warpbeam/warpbeamlaw09.LinkOrder", spec := "linkOrder", inPlace := ["internal/bytealg.abigen_runtime_cmpstring"], unfollowed := true, recurses := true, named := ["warpbeam/link.builtInNames"], apart := false, laid := [("warpbeam/link.builtInNames", laid_warpbeam_link_builtInNames)] }
def LinkOrderSaid : Prop := linkOrderRow.holds Tryd.pinned (OpenSpec.ofChange linkOrderSpec)

/-- ITS FALSE NEIGHBOUR: 'it returns false'. Refute it at one input. -/
def linkOrderWrong : ChangeSpec := { name := "linkOrder", fn := fun _ => fun
  | [d1, d2, d3] => { results := [.lit (.bool false)], args := [d1, d2, d3] }
  | _ => none }
def LinkOrderWrongFalsely : Prop := linkOrderRow.holds Tryd.pinned (OpenSpec.ofChange linkOrderWrong)

/-- 'warpbeamlaw09.LinkSteps': WHATEVER THE INPUT: true; the input reads as it did. -/
def linkStepsSpec : ChangeSpec := { name := "linkSteps", fn := fun _ => fun
  | [d1, d2, d3] => { results := [.lit (.bool true)], args := [d1, d2, d3] }
  | _ => none }
def linkStepsRow : OpenClaim := { program := "ytkkfkjjmmdpafaadoor", sum := "1c01dbc044508778faeee9c6422844209d854cdec621937b40f5cf3a5606fe01", func := "warpbeam/warpbeamlaw09.LinkSteps", spec := "linkSteps", inPlace := ["internal/bytealg.abigen_runtime_cmpstring"], unfollowed := true, recurses := true, named := ["warpbeam/link.builtInNames"], apart := false, laid := [("warpbeam/link.builtInNames", laid_warpbeam_link_builtInNames)] }
def LinkStepsSaid : Prop := linkStepsRow.holds Tryd.pinned (OpenSpec.ofChange linkStepsSpec)

/-- ITS FALSE NEIGHBOUR: 'it returns false'. Refute it at one input. -/
def linkStepsWrong : ChangeSpec := { name := "linkSteps", fn := fun _ => fun
  | [d1, d2, d3] => { results := [.lit (.bool false)], args := [d1, d2, d3] }
  | _ => none }
def LinkStepsWrongFalsely : Prop := linkStepsRow.holds Tryd.pinned (OpenSpec.ofChange linkStepsWrong)

/-- 'warpbeamlaw09.LinkCommon': WHATEVER THE INPUT: true; the input reads as it did. -/
def linkCommonSpec : ChangeSpec := { name := "linkCommon", fn := fun _ => fun
  | [d1, d2, d3] => { results := [.lit (.bool true)], args := [d1, d2, d3] }
  | _ => none }
def linkCommonRow : OpenClaim := { program := "ytkkfkjjmmdpafaadoor", sum := "1c01dbc044508778faeee9c6422844209d854cdec621937b40f5cf3a5606fe01", func := "warpbeam/warpbeamlaw09.LinkCommon", spec := "linkCommon", inPlace := ["internal/bytealg.abigen_runtime_cmpstring"], unfollowed := true, recurses := true, named := ["warpbeam/link.builtInNames"], apart := false, laid := [("warpbeam/link.builtInNames", laid_warpbeam_link_builtInNames)] }
def LinkCommonSaid : Prop := linkCommonRow.holds Tryd.pinned (OpenSpec.ofChange linkCommonSpec)

/-- ITS FALSE NEIGHBOUR: 'it returns false'. Refute it at one input. -/
def linkCommonWrong : ChangeSpec := { name := "linkCommon", fn := fun _ => fun
  | [d1, d2, d3] => { results := [.lit (.bool false)], args := [d1, d2, d3] }
  | _ => none }
def LinkCommonWrongFalsely : Prop := linkCommonRow.holds Tryd.pinned (OpenSpec.ofChange linkCommonWrong)

/-- 'warpbeamlaw09.LinkTurned': WHATEVER THE INPUT: true; the input reads as it did. -/
def linkTurnedSpec : ChangeSpec := { name := "linkTurned", fn := fun _ => fun
  | [d] => { results := [.lit (.bool true)], args := [d] }
  | _ => none }
def linkTurnedRow : OpenClaim := { program := "ytkkfkjjmmdpafaadoor", sum := "1c01dbc044508778faeee9c6422844209d854cdec621937b40f5cf3a5606fe01", func := "warpbeam/warpbeamlaw09.LinkTurned", spec := "linkTurned", inPlace := ["internal/bytealg.abigen_runtime_cmpstring"], unfollowed := true, recurses := true, named := ["warpbeam/link.builtInNames"], apart := false, laid := [("warpbeam/link.builtInNames", laid_warpbeam_link_builtInNames)] }
def LinkTurnedSaid : Prop := linkTurnedRow.holds Tryd.pinned (OpenSpec.ofChange linkTurnedSpec)

/-- ITS FALSE NEIGHBOUR: 'it returns false'. Refute it at one input. -/
def linkTurnedWrong : ChangeSpec := { name := "linkTurned", fn := fun _ => fun
  | [d] => { results := [.lit (.bool false)], args := [d] }
  | _ => none }
def LinkTurnedWrongFalsely : Prop := linkTurnedRow.holds Tryd.pinned (OpenSpec.ofChange linkTurnedWrong)

/-- 'warpbeamlaw09.LinkArrays': WHATEVER THE INPUT: true; the input reads as it did. -/
def linkArraysSpec : ChangeSpec := { name := "linkArrays", fn := fun _ => fun
  | [d1, d2, d3] => { results := [.lit (.bool true)], args := [d1, d2, d3] }
  | _ => none }
def linkArraysRow : OpenClaim := { program := "ytkkfkjjmmdpafaadoor", sum := "1c01dbc044508778faeee9c6422844209d854cdec621937b40f5cf3a5606fe01", func := "warpbeam/warpbeamlaw09.LinkArrays", spec := "linkArrays", inPlace := ["internal/bytealg.abigen_runtime_cmpstring"], unfollowed := true, recurses := true, named := ["warpbeam/link.builtInNames"], apart := false, laid := [("warpbeam/link.builtInNames", laid_warpbeam_link_builtInNames)] }
def LinkArraysSaid : Prop := linkArraysRow.holds Tryd.pinned (OpenSpec.ofChange linkArraysSpec)

/-- ITS FALSE NEIGHBOUR: 'it returns false'. Refute it at one input. -/
def linkArraysWrong : ChangeSpec := { name := "linkArrays", fn := fun _ => fun
  | [d1, d2, d3] => { results := [.lit (.bool false)], args := [d1, d2, d3] }
  | _ => none }
def LinkArraysWrongFalsely : Prop := linkArraysRow.holds Tryd.pinned (OpenSpec.ofChange linkArraysWrong)

/- THE SECOND FORM. 'bulk': how many values and letters a reading holds, each counted each time it is reached (what is shared counts as often as it is met; a slice's spare places count too). A statement '..UptoSaid' is the law's where the arguments, and the package variables that the reading takes, are together of bulk at most 1048576: NARROWER than '..Said'. Prove '..Said' where nothing that the law and all that it calls make is longer than what came in: it says more and counts as full. Else prove '..UptoSaid'. A law counts once. -/
mutual
def uptoBulk {H : Type} : DataW H → Nat
  | .lit (.string bytes) => bytes.length + 1
  | .lit _ => 1
  | .nil => 1
  | .ptr d => uptoBulk d + 1
  | .slice elems spare => uptoBulkAll elems + uptoBulkAll spare + 1
  | .agg parts => uptoBulkAll parts + 1
  | .iface _ d => uptoBulk d + 1
  | .map entries => uptoBulkEntries entries + 1
  | .held _ => 1
def uptoBulkAll {H : Type} : List (DataW H) → Nat
  | [] => 0
  | d :: r => uptoBulk d + uptoBulkAll r
def uptoBulkEntries {H : Type} : List (Lit × DataW H) → Nat
  | [] => 0
  | x :: r => uptoBulkEntry x + uptoBulkEntries r
def uptoBulkEntry {H : Type} : Lit × DataW H → Nat
  | (.string bytes, d) => bytes.length + uptoBulk d + 1
  | (_, d) => uptoBulk d + 1
 end
def uptoSmall : (H : Type) → List (DataW H) → Bool := fun _ ds => decide (uptoBulkAll ds ≤ 1048576)
def OpenSpec.upto (s : _root_.Go.ChangeSpec) : _root_.Go.OpenSpec := { _root_.Go.OpenSpec.ofChange s with cond := some uptoSmall }

/-- 'warpbeamlaw09.LinkNumbers', WHERE WHAT IT READS IS OF BULK AT MOST 1048576: true; the input reads as it did. -/
def linkNumbersUptoRow : OpenClaim := { program := "ytkkfkjjmmdpafaadoor", sum := "1c01dbc044508778faeee9c6422844209d854cdec621937b40f5cf3a5606fe01", func := "warpbeam/warpbeamlaw09.LinkNumbers", spec := "linkNumbers", inPlace := ["internal/bytealg.abigen_runtime_cmpstring"], unfollowed := true, recurses := true, named := ["warpbeam/link.builtInNames"], apart := false, laid := [("warpbeam/link.builtInNames", laid_warpbeam_link_builtInNames)], narrowed := true }
def LinkNumbersUptoSaid : Prop := linkNumbersUptoRow.holds Tryd.pinned (OpenSpec.upto linkNumbersSpec)

/-- 'warpbeamlaw09.LinkAbove', WHERE WHAT IT READS IS OF BULK AT MOST 1048576: true; the input reads as it did. -/
def linkAboveUptoRow : OpenClaim := { program := "ytkkfkjjmmdpafaadoor", sum := "1c01dbc044508778faeee9c6422844209d854cdec621937b40f5cf3a5606fe01", func := "warpbeam/warpbeamlaw09.LinkAbove", spec := "linkAbove", inPlace := ["internal/bytealg.abigen_runtime_cmpstring"], unfollowed := true, recurses := true, named := ["warpbeam/link.builtInNames"], apart := false, laid := [("warpbeam/link.builtInNames", laid_warpbeam_link_builtInNames)], narrowed := true }
def LinkAboveUptoSaid : Prop := linkAboveUptoRow.holds Tryd.pinned (OpenSpec.upto linkAboveSpec)

/-- 'warpbeamlaw09.LinkTypes', WHERE WHAT IT READS IS OF BULK AT MOST 1048576: true; the input reads as it did. -/
def linkTypesUptoRow : OpenClaim := { program := "ytkkfkjjmmdpafaadoor", sum := "1c01dbc044508778faeee9c6422844209d854cdec621937b40f5cf3a5606fe01", func := "warpbeam/warpbeamlaw09.LinkTypes", spec := "linkTypes", inPlace := ["internal/bytealg.abigen_runtime_cmpstring"], unfollowed := true, recurses := true, named := ["warpbeam/link.builtInNames"], apart := false, laid := [("warpbeam/link.builtInNames", laid_warpbeam_link_builtInNames)], narrowed := true }
def LinkTypesUptoSaid : Prop := linkTypesUptoRow.holds Tryd.pinned (OpenSpec.upto linkTypesSpec)

/-- 'warpbeamlaw09.LinkOrder', WHERE WHAT IT READS IS OF BULK AT MOST 1048576: true; the input reads as it did. -/
def linkOrderUptoRow : OpenClaim := { program := "ytkkfkjjmmdpafaadoor", sum := "1c01dbc044508778faeee9c6422844209d854cdec621937b40f5cf3a5606fe01", func := "warpbeam/warpbeamlaw09.LinkOrder", spec := "linkOrder", inPlace := ["internal/bytealg.abigen_runtime_cmpstring"], unfollowed := true, recurses := true, named := ["warpbeam/link.builtInNames"], apart := false, laid := [("warpbeam/link.builtInNames", laid_warpbeam_link_builtInNames)], narrowed := true }
def LinkOrderUptoSaid : Prop := linkOrderUptoRow.holds Tryd.pinned (OpenSpec.upto linkOrderSpec)

/-- 'warpbeamlaw09.LinkSteps', WHERE WHAT IT READS IS OF BULK AT MOST 1048576: true; the input reads as it did. -/
def linkStepsUptoRow : OpenClaim := { program := "ytkkfkjjmmdpafaadoor", sum := "1c01dbc044508778faeee9c6422844209d854cdec621937b40f5cf3a5606fe01", func := "warpbeam/warpbeamlaw09.LinkSteps", spec := "linkSteps", inPlace := ["internal/bytealg.abigen_runtime_cmpstring"], unfollowed := true, recurses := true, named := ["warpbeam/link.builtInNames"], apart := false, laid := [("warpbeam/link.builtInNames", laid_warpbeam_link_builtInNames)], narrowed := true }
def LinkStepsUptoSaid : Prop := linkStepsUptoRow.holds Tryd.pinned (OpenSpec.upto linkStepsSpec)

/-- 'warpbeamlaw09.LinkCommon', WHERE WHAT IT READS IS OF BULK AT MOST 1048576: true; the input reads as it did. -/
def linkCommonUptoRow : OpenClaim := { program := "ytkkfkjjmmdpafaadoor", sum := "1c01dbc044508778faeee9c6422844209d854cdec621937b40f5cf3a5606fe01", func := "warpbeam/warpbeamlaw09.LinkCommon", spec := "linkCommon", inPlace := ["internal/bytealg.abigen_runtime_cmpstring"], unfollowed := true, recurses := true, named := ["warpbeam/link.builtInNames"], apart := false, laid := [("warpbeam/link.builtInNames", laid_warpbeam_link_builtInNames)], narrowed := true }
def LinkCommonUptoSaid : Prop := linkCommonUptoRow.holds Tryd.pinned (OpenSpec.upto linkCommonSpec)

/-- 'warpbeamlaw09.LinkTurned', WHERE WHAT IT READS IS OF BULK AT MOST 1048576: true; the input reads as it did. -/
def linkTurnedUptoRow : OpenClaim := { program := "ytkkfkjjmmdpafaadoor", sum := "1c01dbc044508778faeee9c6422844209d854cdec621937b40f5cf3a5606fe01", func := "warpbeam/warpbeamlaw09.LinkTurned", spec := "linkTurned", inPlace := ["internal/bytealg.abigen_runtime_cmpstring"], unfollowed := true, recurses := true, named := ["warpbeam/link.builtInNames"], apart := false, laid := [("warpbeam/link.builtInNames", laid_warpbeam_link_builtInNames)], narrowed := true }
def LinkTurnedUptoSaid : Prop := linkTurnedUptoRow.holds Tryd.pinned (OpenSpec.upto linkTurnedSpec)

/-- 'warpbeamlaw09.LinkArrays', WHERE WHAT IT READS IS OF BULK AT MOST 1048576: true; the input reads as it did. -/
def linkArraysUptoRow : OpenClaim := { program := "ytkkfkjjmmdpafaadoor", sum := "1c01dbc044508778faeee9c6422844209d854cdec621937b40f5cf3a5606fe01", func := "warpbeam/warpbeamlaw09.LinkArrays", spec := "linkArrays", inPlace := ["internal/bytealg.abigen_runtime_cmpstring"], unfollowed := true, recurses := true, named := ["warpbeam/link.builtInNames"], apart := false, laid := [("warpbeam/link.builtInNames", laid_warpbeam_link_builtInNames)], narrowed := true }
def LinkArraysUptoSaid : Prop := linkArraysUptoRow.holds Tryd.pinned (OpenSpec.upto linkArraysSpec)

end Rows
end Go.Proofs.YtkkfkjjmmdpafaaDoor
