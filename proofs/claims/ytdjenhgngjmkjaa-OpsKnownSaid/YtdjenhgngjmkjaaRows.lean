/-
  No cell of these rows narrows 'for every input' (looked for: loops, veiled, ifaces, maps, wideKeys, modest, calm, conditions, laid).
  DERIVED. THE GIVEN ROWS OF THIS SEAT. 9 by the template 'for every input the law returns true; each argument reads behind the call as it read before'; 0 by the template 'total and deterministic' (their statements: YtdjenhgngjmkjaaTotals.lean).
  GIVEN WITH THE SEED: the statements are not yours to turn. If you find one false, say at which input.
  Laid BY PROGRAM, IN A SANDBOX (cutbox-rows.mjs): the forced cells as the released guide's own fill.sh prints them over the translation 46a78cb7130e07ec… (all of the seat's roots in one cut). By AI agents, Wed Nov 11 2026. No macro, syntax, notation, axiom, sorry.
-/
import Derived.Test.YtdjenhgngjmkjaaChecked
import GoSem.Claim
import GoSem.ClaimJoined
import GoSem.ClaimMapViews
import Derived.JoinedTies
import Derived.KernelRfl
namespace Go.Proofs.Ytdjenhgngjmkjaa
/- THE CELL 'sum', in the pinned program and in every row, IS THE sha256 OF THE DUMP (.gsa) THAT YtdjenhgngjmkjaaProg.lean LOADS. Nothing in Lean hashes anything: it is a label: what it is worth is what the hold of that sum in a sandbox is worth. -/
noncomputable def Try.pinned : Pinned := { name := "ytdjenhgngjmkjaa", sum := "46a78cb7130e07ec03e10f9fe96ae2d377e87e0a5bface57d2ed64e8f5a2a558", checked := Try.checked }
namespace Rows
def none {H : Type} : Left H := { results := [], args := [] }

/-- 'warpbeamlaw06.OpsDecode': WHATEVER THE INPUT: true; the input reads as it did. -/
def opsDecodeSpec : ChangeSpec := { name := "opsDecode", fn := fun _ => fun
  | [d1, d2] => { results := [.lit (.bool true)], args := [d1, d2] }
  | _ => none }
def opsDecodeRow : OpenClaim := { program := "ytdjenhgngjmkjaa", sum := "46a78cb7130e07ec03e10f9fe96ae2d377e87e0a5bface57d2ed64e8f5a2a558", func := "warpbeam/warpbeamlaw06.OpsDecode", spec := "opsDecode", unfollowed := true, recurses := true, apart := false }
def OpsDecodeSaid : Prop := opsDecodeRow.holds Try.pinned (OpenSpec.ofChange opsDecodeSpec)

/-- ITS FALSE NEIGHBOUR: 'it returns false'. Refute it at one input. -/
def opsDecodeWrong : ChangeSpec := { name := "opsDecode", fn := fun _ => fun
  | [d1, d2] => { results := [.lit (.bool false)], args := [d1, d2] }
  | _ => none }
def OpsDecodeWrongFalsely : Prop := opsDecodeRow.holds Try.pinned (OpenSpec.ofChange opsDecodeWrong)

/-- 'warpbeamlaw06.OpsEncode': WHATEVER THE INPUT: true; the input reads as it did. -/
def opsEncodeSpec : ChangeSpec := { name := "opsEncode", fn := fun _ => fun
  | [d] => { results := [.lit (.bool true)], args := [d] }
  | _ => none }
def opsEncodeRow : OpenClaim := { program := "ytdjenhgngjmkjaa", sum := "46a78cb7130e07ec03e10f9fe96ae2d377e87e0a5bface57d2ed64e8f5a2a558", func := "warpbeam/warpbeamlaw06.OpsEncode", spec := "opsEncode", unfollowed := true, recurses := true, apart := false }
def OpsEncodeSaid : Prop := opsEncodeRow.holds Try.pinned (OpenSpec.ofChange opsEncodeSpec)

/-- ITS FALSE NEIGHBOUR: 'it returns false'. Refute it at one input. -/
def opsEncodeWrong : ChangeSpec := { name := "opsEncode", fn := fun _ => fun
  | [d] => { results := [.lit (.bool false)], args := [d] }
  | _ => none }
def OpsEncodeWrongFalsely : Prop := opsEncodeRow.holds Try.pinned (OpenSpec.ofChange opsEncodeWrong)

/-- 'warpbeamlaw06.OpsTable': WHATEVER THE INPUT: true; the input reads as it did. -/
def opsTableSpec : ChangeSpec := { name := "opsTable", fn := fun _ => fun
  | [d1, d2] => { results := [.lit (.bool true)], args := [d1, d2] }
  | _ => none }
def opsTableRow : OpenClaim := { program := "ytdjenhgngjmkjaa", sum := "46a78cb7130e07ec03e10f9fe96ae2d377e87e0a5bface57d2ed64e8f5a2a558", func := "warpbeam/warpbeamlaw06.OpsTable", spec := "opsTable", unfollowed := true, recurses := true, apart := false }
def OpsTableSaid : Prop := opsTableRow.holds Try.pinned (OpenSpec.ofChange opsTableSpec)

/-- ITS FALSE NEIGHBOUR: 'it returns false'. Refute it at one input. -/
def opsTableWrong : ChangeSpec := { name := "opsTable", fn := fun _ => fun
  | [d1, d2] => { results := [.lit (.bool false)], args := [d1, d2] }
  | _ => none }
def OpsTableWrongFalsely : Prop := opsTableRow.holds Try.pinned (OpenSpec.ofChange opsTableWrong)

/-- 'warpbeamlaw06.OpsBack': WHATEVER THE INPUT: true; the input reads as it did. -/
def opsBackSpec : ChangeSpec := { name := "opsBack", fn := fun _ => fun
  | [d1, d2] => { results := [.lit (.bool true)], args := [d1, d2] }
  | _ => none }
def opsBackRow : OpenClaim := { program := "ytdjenhgngjmkjaa", sum := "46a78cb7130e07ec03e10f9fe96ae2d377e87e0a5bface57d2ed64e8f5a2a558", func := "warpbeam/warpbeamlaw06.OpsBack", spec := "opsBack", unfollowed := true, recurses := true, apart := false }
def OpsBackSaid : Prop := opsBackRow.holds Try.pinned (OpenSpec.ofChange opsBackSpec)

/-- ITS FALSE NEIGHBOUR: 'it returns false'. Refute it at one input. -/
def opsBackWrong : ChangeSpec := { name := "opsBack", fn := fun _ => fun
  | [d1, d2] => { results := [.lit (.bool false)], args := [d1, d2] }
  | _ => none }
def OpsBackWrongFalsely : Prop := opsBackRow.holds Try.pinned (OpenSpec.ofChange opsBackWrong)

/-- 'warpbeamlaw06.OpsAgain': WHATEVER THE INPUT: true; the input reads as it did. -/
def opsAgainSpec : ChangeSpec := { name := "opsAgain", fn := fun _ => fun
  | [d1, d2] => { results := [.lit (.bool true)], args := [d1, d2] }
  | _ => none }
def opsAgainRow : OpenClaim := { program := "ytdjenhgngjmkjaa", sum := "46a78cb7130e07ec03e10f9fe96ae2d377e87e0a5bface57d2ed64e8f5a2a558", func := "warpbeam/warpbeamlaw06.OpsAgain", spec := "opsAgain", unfollowed := true, recurses := true, apart := false }
def OpsAgainSaid : Prop := opsAgainRow.holds Try.pinned (OpenSpec.ofChange opsAgainSpec)

/-- ITS FALSE NEIGHBOUR: 'it returns false'. Refute it at one input. -/
def opsAgainWrong : ChangeSpec := { name := "opsAgain", fn := fun _ => fun
  | [d1, d2] => { results := [.lit (.bool false)], args := [d1, d2] }
  | _ => none }
def OpsAgainWrongFalsely : Prop := opsAgainRow.holds Try.pinned (OpenSpec.ofChange opsAgainWrong)

/-- 'warpbeamlaw06.OpsCut': WHATEVER THE INPUT: true; the input reads as it did. -/
def opsCutSpec : ChangeSpec := { name := "opsCut", fn := fun _ => fun
  | [d] => { results := [.lit (.bool true)], args := [d] }
  | _ => none }
def opsCutRow : OpenClaim := { program := "ytdjenhgngjmkjaa", sum := "46a78cb7130e07ec03e10f9fe96ae2d377e87e0a5bface57d2ed64e8f5a2a558", func := "warpbeam/warpbeamlaw06.OpsCut", spec := "opsCut", unfollowed := true, recurses := true, apart := false }
def OpsCutSaid : Prop := opsCutRow.holds Try.pinned (OpenSpec.ofChange opsCutSpec)

/-- ITS FALSE NEIGHBOUR: 'it returns false'. Refute it at one input. -/
def opsCutWrong : ChangeSpec := { name := "opsCut", fn := fun _ => fun
  | [d] => { results := [.lit (.bool false)], args := [d] }
  | _ => none }
def OpsCutWrongFalsely : Prop := opsCutRow.holds Try.pinned (OpenSpec.ofChange opsCutWrong)

/-- 'warpbeamlaw06.OpsNamed': WHATEVER THE INPUT: true; the input reads as it did. -/
def opsNamedSpec : ChangeSpec := { name := "opsNamed", fn := fun _ => fun
  | [d1, d2] => { results := [.lit (.bool true)], args := [d1, d2] }
  | _ => none }
def opsNamedRow : OpenClaim := { program := "ytdjenhgngjmkjaa", sum := "46a78cb7130e07ec03e10f9fe96ae2d377e87e0a5bface57d2ed64e8f5a2a558", func := "warpbeam/warpbeamlaw06.OpsNamed", spec := "opsNamed", unfollowed := true, recurses := true, apart := false }
def OpsNamedSaid : Prop := opsNamedRow.holds Try.pinned (OpenSpec.ofChange opsNamedSpec)

/-- ITS FALSE NEIGHBOUR: 'it returns false'. Refute it at one input. -/
def opsNamedWrong : ChangeSpec := { name := "opsNamed", fn := fun _ => fun
  | [d1, d2] => { results := [.lit (.bool false)], args := [d1, d2] }
  | _ => none }
def OpsNamedWrongFalsely : Prop := opsNamedRow.holds Try.pinned (OpenSpec.ofChange opsNamedWrong)

/-- 'warpbeamlaw06.OpsMoved': WHATEVER THE INPUT: true; the input reads as it did. -/
def opsMovedSpec : ChangeSpec := { name := "opsMoved", fn := fun _ => fun
  | [d1, d2] => { results := [.lit (.bool true)], args := [d1, d2] }
  | _ => none }
def opsMovedRow : OpenClaim := { program := "ytdjenhgngjmkjaa", sum := "46a78cb7130e07ec03e10f9fe96ae2d377e87e0a5bface57d2ed64e8f5a2a558", func := "warpbeam/warpbeamlaw06.OpsMoved", spec := "opsMoved", unfollowed := true, recurses := true, apart := false }
def OpsMovedSaid : Prop := opsMovedRow.holds Try.pinned (OpenSpec.ofChange opsMovedSpec)

/-- ITS FALSE NEIGHBOUR: 'it returns false'. Refute it at one input. -/
def opsMovedWrong : ChangeSpec := { name := "opsMoved", fn := fun _ => fun
  | [d1, d2] => { results := [.lit (.bool false)], args := [d1, d2] }
  | _ => none }
def OpsMovedWrongFalsely : Prop := opsMovedRow.holds Try.pinned (OpenSpec.ofChange opsMovedWrong)

/-- 'warpbeamlaw06.OpsKnown': WHATEVER THE INPUT: true; the input reads as it did. -/
def opsKnownSpec : ChangeSpec := { name := "opsKnown", fn := fun _ => fun
  | [] => { results := [.lit (.bool true)], args := [] }
  | _ => none }
def opsKnownRow : OpenClaim := { program := "ytdjenhgngjmkjaa", sum := "46a78cb7130e07ec03e10f9fe96ae2d377e87e0a5bface57d2ed64e8f5a2a558", func := "warpbeam/warpbeamlaw06.OpsKnown", spec := "opsKnown", unfollowed := true, recurses := true, apart := false }
def OpsKnownSaid : Prop := opsKnownRow.holds Try.pinned (OpenSpec.ofChange opsKnownSpec)

/-- ITS FALSE NEIGHBOUR: 'it returns false'. Refute it at one input. -/
def opsKnownWrong : ChangeSpec := { name := "opsKnown", fn := fun _ => fun
  | [] => { results := [.lit (.bool false)], args := [] }
  | _ => none }
def OpsKnownWrongFalsely : Prop := opsKnownRow.holds Try.pinned (OpenSpec.ofChange opsKnownWrong)

/- THE SECOND FORM. 'bulk': how many values and letters a reading holds, each counted each time it is reached (what is shared counts as often as it is met; a slice's spare places count too). A statement '..UptoSaid' is the law's where the arguments, and the package variables that the reading takes, are together of bulk at most 1048576: NARROWER than '..Said'. Prove '..Said' where nothing that the law and all that it calls make is longer than what came in: it says more and counts as full. Else prove '..UptoSaid'. A law counts once. -/
mutual
def uptoBulk {H : Type} : DataW H → Nat
  | .lit (.string bytes) => bytes.length + 1
  | .lit _ => 1
  | .nil => 1
  | .ptr d => uptoBulk d + 1
  | .slice elems spare => uptoBulkAll elems + uptoBulkAll spare + 1
  | .agg parts => uptoBulkAll parts + 1
  | .iface _ d => uptoBulk d + 1
  | .map entries => uptoBulkEntries entries + 1
  | .held _ => 1
def uptoBulkAll {H : Type} : List (DataW H) → Nat
  | [] => 0
  | d :: r => uptoBulk d + uptoBulkAll r
def uptoBulkEntries {H : Type} : List (Lit × DataW H) → Nat
  | [] => 0
  | x :: r => uptoBulkEntry x + uptoBulkEntries r
def uptoBulkEntry {H : Type} : Lit × DataW H → Nat
  | (.string bytes, d) => bytes.length + uptoBulk d + 1
  | (_, d) => uptoBulk d + 1
 end
def uptoSmall : (H : Type) → List (DataW H) → Bool := fun _ ds => decide (uptoBulkAll ds ≤ 1048576)
def OpenSpec.upto (s : _root_.Go.ChangeSpec) : _root_.Go.OpenSpec := { _root_.Go.OpenSpec.ofChange s with cond := some uptoSmall }

/-- 'warpbeamlaw06.OpsDecode', WHERE WHAT IT READS IS OF BULK AT MOST 1048576: true; the input reads as it did. -/
def opsDecodeUptoRow : OpenClaim := { program := "ytdjenhgngjmkjaa", sum := "46a78cb7130e07ec03e10f9fe96ae2d377e87e0a5bface57d2ed64e8f5a2a558", func := "warpbeam/warpbeamlaw06.OpsDecode", spec := "opsDecode", unfollowed := true, recurses := true, apart := false, narrowed := true }
def OpsDecodeUptoSaid : Prop := opsDecodeUptoRow.holds Try.pinned (OpenSpec.upto opsDecodeSpec)

/-- 'warpbeamlaw06.OpsEncode', WHERE WHAT IT READS IS OF BULK AT MOST 1048576: true; the input reads as it did. -/
def opsEncodeUptoRow : OpenClaim := { program := "ytdjenhgngjmkjaa", sum := "46a78cb7130e07ec03e10f9fe96ae2d377e87e0a5bface57d2ed64e8f5a2a558", func := "warpbeam/warpbeamlaw06.OpsEncode", spec := "opsEncode", unfollowed := true, recurses := true, apart := false, narrowed := true }
def OpsEncodeUptoSaid : Prop := opsEncodeUptoRow.holds Try.pinned (OpenSpec.upto opsEncodeSpec)

/-- 'warpbeamlaw06.OpsTable', WHERE WHAT IT READS IS OF BULK AT MOST 1048576: true; the input reads as it did. -/
def opsTableUptoRow : OpenClaim := { program := "ytdjenhgngjmkjaa", sum := "46a78cb7130e07ec03e10f9fe96ae2d377e87e0a5bface57d2ed64e8f5a2a558", func := "warpbeam/warpbeamlaw06.OpsTable", spec := "opsTable", unfollowed := true, recurses := true, apart := false, narrowed := true }
def OpsTableUptoSaid : Prop := opsTableUptoRow.holds Try.pinned (OpenSpec.upto opsTableSpec)

/-- 'warpbeamlaw06.OpsBack', WHERE WHAT IT READS IS OF BULK AT MOST 1048576: true; the input reads as it did. -/
def opsBackUptoRow : OpenClaim := { program := "ytdjenhgngjmkjaa", sum := "46a78cb7130e07ec03e10f9fe96ae2d377e87e0a5bface57d2ed64e8f5a2a558", func := "warpbeam/warpbeamlaw06.OpsBack", spec := "opsBack", unfollowed := true, recurses := true, apart := false, narrowed := true }
def OpsBackUptoSaid : Prop := opsBackUptoRow.holds Try.pinned (OpenSpec.upto opsBackSpec)

/-- 'warpbeamlaw06.OpsAgain', WHERE WHAT IT READS IS OF BULK AT MOST 1048576: true; the input reads as it did. -/
def opsAgainUptoRow : OpenClaim := { program := "ytdjenhgngjmkjaa", sum := "46a78cb7130e07ec03e10f9fe96ae2d377e87e0a5bface57d2ed64e8f5a2a558", func := "warpbeam/warpbeamlaw06.OpsAgain", spec := "opsAgain", unfollowed := true, recurses := true, apart := false, narrowed := true }
def OpsAgainUptoSaid : Prop := opsAgainUptoRow.holds Try.pinned (OpenSpec.upto opsAgainSpec)

/-- 'warpbeamlaw06.OpsCut', WHERE WHAT IT READS IS OF BULK AT MOST 1048576: true; the input reads as it did. -/
def opsCutUptoRow : OpenClaim := { program := "ytdjenhgngjmkjaa", sum := "46a78cb7130e07ec03e10f9fe96ae2d377e87e0a5bface57d2ed64e8f5a2a558", func := "warpbeam/warpbeamlaw06.OpsCut", spec := "opsCut", unfollowed := true, recurses := true, apart := false, narrowed := true }
def OpsCutUptoSaid : Prop := opsCutUptoRow.holds Try.pinned (OpenSpec.upto opsCutSpec)

/-- 'warpbeamlaw06.OpsNamed', WHERE WHAT IT READS IS OF BULK AT MOST 1048576: true; the input reads as it did. -/
def opsNamedUptoRow : OpenClaim := { program := "ytdjenhgngjmkjaa", sum := "46a78cb7130e07ec03e10f9fe96ae2d377e87e0a5bface57d2ed64e8f5a2a558", func := "warpbeam/warpbeamlaw06.OpsNamed", spec := "opsNamed", unfollowed := true, recurses := true, apart := false, narrowed := true }
def OpsNamedUptoSaid : Prop := opsNamedUptoRow.holds Try.pinned (OpenSpec.upto opsNamedSpec)

/-- 'warpbeamlaw06.OpsMoved', WHERE WHAT IT READS IS OF BULK AT MOST 1048576: true; the input reads as it did. -/
def opsMovedUptoRow : OpenClaim := { program := "ytdjenhgngjmkjaa", sum := "46a78cb7130e07ec03e10f9fe96ae2d377e87e0a5bface57d2ed64e8f5a2a558", func := "warpbeam/warpbeamlaw06.OpsMoved", spec := "opsMoved", unfollowed := true, recurses := true, apart := false, narrowed := true }
def OpsMovedUptoSaid : Prop := opsMovedUptoRow.holds Try.pinned (OpenSpec.upto opsMovedSpec)

/-- 'warpbeamlaw06.OpsKnown', WHERE WHAT IT READS IS OF BULK AT MOST 1048576: true; the input reads as it did. -/
def opsKnownUptoRow : OpenClaim := { program := "ytdjenhgngjmkjaa", sum := "46a78cb7130e07ec03e10f9fe96ae2d377e87e0a5bface57d2ed64e8f5a2a558", func := "warpbeam/warpbeamlaw06.OpsKnown", spec := "opsKnown", unfollowed := true, recurses := true, apart := false, narrowed := true }
def OpsKnownUptoSaid : Prop := opsKnownUptoRow.holds Try.pinned (OpenSpec.upto opsKnownSpec)

end Rows
end Go.Proofs.Ytdjenhgngjmkjaa
