/-
  No cell of these rows narrows 'for every input' (looked for: loops, veiled, ifaces, maps, wideKeys, modest, calm, conditions, laid).
  DERIVED. THE GIVEN ROWS OF THIS SEAT. 9 by the template 'for every input the law returns true; each argument reads behind the call as it read before'; 0 by the template 'total and deterministic' (their statements: YtibcaienaejgpaaTotals.lean).
  GIVEN WITH THE SEED: the statements are not yours to turn. If you find one false, say at which input.
  Laid BY PROGRAM, IN A SANDBOX (cutbox-rows.mjs): the forced cells as the released guide's own fill.sh prints them over the translation 041356b52a005d86… (all of the seat's roots in one cut). By AI agents, Wed Nov 11 2026. No macro, syntax, notation, axiom, sorry.
-/
import Derived.Test.YtibcaienaejgpaaChecked
import GoSem.Claim
import GoSem.ClaimJoined
import GoSem.ClaimMapViews
import Derived.JoinedTies
import Derived.KernelRfl
namespace Go.Proofs.Ytibcaienaejgpaa
/- THE CELL 'sum', in the pinned program and in every row, IS THE sha256 OF THE DUMP (.gsa) THAT YtibcaienaejgpaaProg.lean LOADS. Nothing in Lean hashes anything: it is a label: what it is worth is what the hold of that sum in a sandbox is worth. -/
noncomputable def Try.pinned : Pinned := { name := "ytibcaienaejgpaa", sum := "041356b52a005d86528029a048a5b407608a2e27b029764246de5b5aff2e14ad", checked := Try.checked }
namespace Rows
def none {H : Type} : Left H := { results := [], args := [] }

/-- 'warpbeamlaw05.DescrReads': WHATEVER THE INPUT: true; the input reads as it did. -/
def descrReadsSpec : ChangeSpec := { name := "descrReads", fn := fun _ => fun
  | [d] => { results := [.lit (.bool true)], args := [d] }
  | _ => none }
def descrReadsRow : OpenClaim := { program := "ytibcaienaejgpaa", sum := "041356b52a005d86528029a048a5b407608a2e27b029764246de5b5aff2e14ad", func := "warpbeam/warpbeamlaw05.DescrReads", spec := "descrReads", inPlace := ["internal/bytealg.IndexByteString", "internal/bytealg.IndexString", "internal/abi.NoEscape"], recurses := true, named := ["internal/bytealg.MaxLen"], apart := false }
def DescrReadsSaid : Prop := descrReadsRow.holds Try.pinned (OpenSpec.ofChange descrReadsSpec)

/-- ITS FALSE NEIGHBOUR: 'it returns false'. Refute it at one input. -/
def descrReadsWrong : ChangeSpec := { name := "descrReads", fn := fun _ => fun
  | [d] => { results := [.lit (.bool false)], args := [d] }
  | _ => none }
def DescrReadsWrongFalsely : Prop := descrReadsRow.holds Try.pinned (OpenSpec.ofChange descrReadsWrong)

/-- 'warpbeamlaw05.DescrTypes': WHATEVER THE INPUT: true; the input reads as it did. -/
def descrTypesSpec : ChangeSpec := { name := "descrTypes", fn := fun _ => fun
  | [d] => { results := [.lit (.bool true)], args := [d] }
  | _ => none }
def descrTypesRow : OpenClaim := { program := "ytibcaienaejgpaa", sum := "041356b52a005d86528029a048a5b407608a2e27b029764246de5b5aff2e14ad", func := "warpbeam/warpbeamlaw05.DescrTypes", spec := "descrTypes", inPlace := ["internal/bytealg.IndexByteString", "internal/bytealg.IndexString", "internal/abi.NoEscape"], recurses := true, named := ["internal/bytealg.MaxLen"], apart := false }
def DescrTypesSaid : Prop := descrTypesRow.holds Try.pinned (OpenSpec.ofChange descrTypesSpec)

/-- ITS FALSE NEIGHBOUR: 'it returns false'. Refute it at one input. -/
def descrTypesWrong : ChangeSpec := { name := "descrTypes", fn := fun _ => fun
  | [d] => { results := [.lit (.bool false)], args := [d] }
  | _ => none }
def DescrTypesWrongFalsely : Prop := descrTypesRow.holds Try.pinned (OpenSpec.ofChange descrTypesWrong)

/-- 'warpbeamlaw05.DescrProtos': WHATEVER THE INPUT: true; the input reads as it did. -/
def descrProtosSpec : ChangeSpec := { name := "descrProtos", fn := fun _ => fun
  | [d1, d2] => { results := [.lit (.bool true)], args := [d1, d2] }
  | _ => none }
def descrProtosRow : OpenClaim := { program := "ytibcaienaejgpaa", sum := "041356b52a005d86528029a048a5b407608a2e27b029764246de5b5aff2e14ad", func := "warpbeam/warpbeamlaw05.DescrProtos", spec := "descrProtos", inPlace := ["internal/abi.NoEscape", "internal/bytealg.IndexByteString", "internal/bytealg.IndexString"], recurses := true, named := ["internal/bytealg.MaxLen"], apart := false }
def DescrProtosSaid : Prop := descrProtosRow.holds Try.pinned (OpenSpec.ofChange descrProtosSpec)

/-- ITS FALSE NEIGHBOUR: 'it returns false'. Refute it at one input. -/
def descrProtosWrong : ChangeSpec := { name := "descrProtos", fn := fun _ => fun
  | [d1, d2] => { results := [.lit (.bool false)], args := [d1, d2] }
  | _ => none }
def DescrProtosWrongFalsely : Prop := descrProtosRow.holds Try.pinned (OpenSpec.ofChange descrProtosWrong)

/-- 'warpbeamlaw05.DescrBack': WHATEVER THE INPUT: true; the input reads as it did. -/
def descrBackSpec : ChangeSpec := { name := "descrBack", fn := fun _ => fun
  | [d] => { results := [.lit (.bool true)], args := [d] }
  | _ => none }
def descrBackRow : OpenClaim := { program := "ytibcaienaejgpaa", sum := "041356b52a005d86528029a048a5b407608a2e27b029764246de5b5aff2e14ad", func := "warpbeam/warpbeamlaw05.DescrBack", spec := "descrBack", inPlace := ["internal/bytealg.IndexByteString", "internal/bytealg.IndexString", "internal/abi.NoEscape"], recurses := true, named := ["internal/bytealg.MaxLen"], apart := false }
def DescrBackSaid : Prop := descrBackRow.holds Try.pinned (OpenSpec.ofChange descrBackSpec)

/-- ITS FALSE NEIGHBOUR: 'it returns false'. Refute it at one input. -/
def descrBackWrong : ChangeSpec := { name := "descrBack", fn := fun _ => fun
  | [d] => { results := [.lit (.bool false)], args := [d] }
  | _ => none }
def DescrBackWrongFalsely : Prop := descrBackRow.holds Try.pinned (OpenSpec.ofChange descrBackWrong)

/-- 'warpbeamlaw05.DescrAgain': WHATEVER THE INPUT: true; the input reads as it did. -/
def descrAgainSpec : ChangeSpec := { name := "descrAgain", fn := fun _ => fun
  | [d] => { results := [.lit (.bool true)], args := [d] }
  | _ => none }
def descrAgainRow : OpenClaim := { program := "ytibcaienaejgpaa", sum := "041356b52a005d86528029a048a5b407608a2e27b029764246de5b5aff2e14ad", func := "warpbeam/warpbeamlaw05.DescrAgain", spec := "descrAgain", inPlace := ["internal/bytealg.IndexByteString", "internal/bytealg.IndexString", "internal/abi.NoEscape"], recurses := true, named := ["internal/bytealg.MaxLen"], apart := false }
def DescrAgainSaid : Prop := descrAgainRow.holds Try.pinned (OpenSpec.ofChange descrAgainSpec)

/-- ITS FALSE NEIGHBOUR: 'it returns false'. Refute it at one input. -/
def descrAgainWrong : ChangeSpec := { name := "descrAgain", fn := fun _ => fun
  | [d] => { results := [.lit (.bool false)], args := [d] }
  | _ => none }
def DescrAgainWrongFalsely : Prop := descrAgainRow.holds Try.pinned (OpenSpec.ofChange descrAgainWrong)

/-- 'warpbeamlaw05.DescrApart': WHATEVER THE INPUT: true; the input reads as it did. -/
def descrApartSpec : ChangeSpec := { name := "descrApart", fn := fun _ => fun
  | [d] => { results := [.lit (.bool true)], args := [d] }
  | _ => none }
def descrApartRow : OpenClaim := { program := "ytibcaienaejgpaa", sum := "041356b52a005d86528029a048a5b407608a2e27b029764246de5b5aff2e14ad", func := "warpbeam/warpbeamlaw05.DescrApart", spec := "descrApart", inPlace := ["internal/bytealg.IndexByteString", "internal/bytealg.IndexString", "internal/abi.NoEscape"], recurses := true, named := ["internal/bytealg.MaxLen"], apart := false }
def DescrApartSaid : Prop := descrApartRow.holds Try.pinned (OpenSpec.ofChange descrApartSpec)

/-- ITS FALSE NEIGHBOUR: 'it returns false'. Refute it at one input. -/
def descrApartWrong : ChangeSpec := { name := "descrApart", fn := fun _ => fun
  | [d] => { results := [.lit (.bool false)], args := [d] }
  | _ => none }
def DescrApartWrongFalsely : Prop := descrApartRow.holds Try.pinned (OpenSpec.ofChange descrApartWrong)

/-- 'warpbeamlaw05.DescrOver': WHATEVER THE INPUT: true; the input reads as it did. -/
def descrOverSpec : ChangeSpec := { name := "descrOver", fn := fun _ => fun
  | [d] => { results := [.lit (.bool true)], args := [d] }
  | _ => none }
def descrOverRow : OpenClaim := { program := "ytibcaienaejgpaa", sum := "041356b52a005d86528029a048a5b407608a2e27b029764246de5b5aff2e14ad", func := "warpbeam/warpbeamlaw05.DescrOver", spec := "descrOver", inPlace := ["internal/bytealg.IndexByteString", "internal/bytealg.IndexString", "internal/abi.NoEscape"], recurses := true, named := ["internal/bytealg.MaxLen"], apart := false }
def DescrOverSaid : Prop := descrOverRow.holds Try.pinned (OpenSpec.ofChange descrOverSpec)

/-- ITS FALSE NEIGHBOUR: 'it returns false'. Refute it at one input. -/
def descrOverWrong : ChangeSpec := { name := "descrOver", fn := fun _ => fun
  | [d] => { results := [.lit (.bool false)], args := [d] }
  | _ => none }
def DescrOverWrongFalsely : Prop := descrOverRow.holds Try.pinned (OpenSpec.ofChange descrOverWrong)

/-- 'warpbeamlaw05.DescrNames': WHATEVER THE INPUT: true; the input reads as it did. -/
def descrNamesSpec : ChangeSpec := { name := "descrNames", fn := fun _ => fun
  | [d] => { results := [.lit (.bool true)], args := [d] }
  | _ => none }
def descrNamesRow : OpenClaim := { program := "ytibcaienaejgpaa", sum := "041356b52a005d86528029a048a5b407608a2e27b029764246de5b5aff2e14ad", func := "warpbeam/warpbeamlaw05.DescrNames", spec := "descrNames", inPlace := ["internal/bytealg.IndexByteString", "internal/bytealg.IndexString", "internal/abi.NoEscape"], recurses := true, named := ["internal/bytealg.MaxLen"], apart := false }
def DescrNamesSaid : Prop := descrNamesRow.holds Try.pinned (OpenSpec.ofChange descrNamesSpec)

/-- ITS FALSE NEIGHBOUR: 'it returns false'. Refute it at one input. -/
def descrNamesWrong : ChangeSpec := { name := "descrNames", fn := fun _ => fun
  | [d] => { results := [.lit (.bool false)], args := [d] }
  | _ => none }
def DescrNamesWrongFalsely : Prop := descrNamesRow.holds Try.pinned (OpenSpec.ofChange descrNamesWrong)

/-- 'warpbeamlaw05.DescrKnown': WHATEVER THE INPUT: true; the input reads as it did. -/
def descrKnownSpec : ChangeSpec := { name := "descrKnown", fn := fun _ => fun
  | [] => { results := [.lit (.bool true)], args := [] }
  | _ => none }
def descrKnownRow : OpenClaim := { program := "ytibcaienaejgpaa", sum := "041356b52a005d86528029a048a5b407608a2e27b029764246de5b5aff2e14ad", func := "warpbeam/warpbeamlaw05.DescrKnown", spec := "descrKnown", inPlace := ["internal/abi.NoEscape", "internal/bytealg.MakeNoZero", "internal/bytealg.IndexByteString", "internal/bytealg.IndexString"], recurses := true, named := ["internal/bytealg.MaxLen"], apart := false }
def DescrKnownSaid : Prop := descrKnownRow.holds Try.pinned (OpenSpec.ofChange descrKnownSpec)

/-- ITS FALSE NEIGHBOUR: 'it returns false'. Refute it at one input. -/
def descrKnownWrong : ChangeSpec := { name := "descrKnown", fn := fun _ => fun
  | [] => { results := [.lit (.bool false)], args := [] }
  | _ => none }
def DescrKnownWrongFalsely : Prop := descrKnownRow.holds Try.pinned (OpenSpec.ofChange descrKnownWrong)

/- THE SECOND FORM. 'bulk': how many values and letters a reading holds, each counted each time it is reached (what is shared counts as often as it is met; a slice's spare places count too). A statement '..UptoSaid' is the law's where the arguments, and the package variables that the reading takes, are together of bulk at most 1048576: NARROWER than '..Said'. Prove '..Said' where nothing that the law and all that it calls make is longer than what came in: it says more and counts as full. Else prove '..UptoSaid'. A law counts once. -/
mutual
def uptoBulk {H : Type} : DataW H → Nat
  | .lit (.string bytes) => bytes.length + 1
  | .lit _ => 1
  | .nil => 1
  | .ptr d => uptoBulk d + 1
  | .slice elems spare => uptoBulkAll elems + uptoBulkAll spare + 1
  | .agg parts => uptoBulkAll parts + 1
  | .iface _ d => uptoBulk d + 1
  | .map entries => uptoBulkEntries entries + 1
  | .held _ => 1
def uptoBulkAll {H : Type} : List (DataW H) → Nat
  | [] => 0
  | d :: r => uptoBulk d + uptoBulkAll r
def uptoBulkEntries {H : Type} : List (Lit × DataW H) → Nat
  | [] => 0
  | x :: r => uptoBulkEntry x + uptoBulkEntries r
def uptoBulkEntry {H : Type} : Lit × DataW H → Nat
  | (.string bytes, d) => bytes.length + uptoBulk d + 1
  | (_, d) => uptoBulk d + 1
 end
def uptoSmall : (H : Type) → List (DataW H) → Bool := fun _ ds => decide (uptoBulkAll ds ≤ 1048576)
def OpenSpec.upto (s : _root_.Go.ChangeSpec) : _root_.Go.OpenSpec := { _root_.Go.OpenSpec.ofChange s with cond := some uptoSmall }

/-- 'warpbeamlaw05.DescrReads', WHERE WHAT IT READS IS OF BULK AT MOST 1048576: true; the input reads as it did. -/
def descrReadsUptoRow : OpenClaim := { program := "ytibcaienaejgpaa", sum := "041356b52a005d86528029a048a5b407608a2e27b029764246de5b5aff2e14ad", func := "warpbeam/warpbeamlaw05.DescrReads", spec := "descrReads", inPlace := ["internal/bytealg.IndexByteString", "internal/bytealg.IndexString", "internal/abi.NoEscape"], recurses := true, named := ["internal/bytealg.MaxLen"], apart := false, narrowed := true }
def DescrReadsUptoSaid : Prop := descrReadsUptoRow.holds Try.pinned (OpenSpec.upto descrReadsSpec)

/-- 'warpbeamlaw05.DescrTypes', WHERE WHAT IT READS IS OF BULK AT MOST 1048576: true; the input reads as it did. -/
def descrTypesUptoRow : OpenClaim := { program := "ytibcaienaejgpaa", sum := "041356b52a005d86528029a048a5b407608a2e27b029764246de5b5aff2e14ad", func := "warpbeam/warpbeamlaw05.DescrTypes", spec := "descrTypes", inPlace := ["internal/bytealg.IndexByteString", "internal/bytealg.IndexString", "internal/abi.NoEscape"], recurses := true, named := ["internal/bytealg.MaxLen"], apart := false, narrowed := true }
def DescrTypesUptoSaid : Prop := descrTypesUptoRow.holds Try.pinned (OpenSpec.upto descrTypesSpec)

/-- 'warpbeamlaw05.DescrProtos', WHERE WHAT IT READS IS OF BULK AT MOST 1048576: true; the input reads as it did. -/
def descrProtosUptoRow : OpenClaim := { program := "ytibcaienaejgpaa", sum := "041356b52a005d86528029a048a5b407608a2e27b029764246de5b5aff2e14ad", func := "warpbeam/warpbeamlaw05.DescrProtos", spec := "descrProtos", inPlace := ["internal/abi.NoEscape", "internal/bytealg.IndexByteString", "internal/bytealg.IndexString"], recurses := true, named := ["internal/bytealg.MaxLen"], apart := false, narrowed := true }
def DescrProtosUptoSaid : Prop := descrProtosUptoRow.holds Try.pinned (OpenSpec.upto descrProtosSpec)

/-- 'warpbeamlaw05.DescrBack', WHERE WHAT IT READS IS OF BULK AT MOST 1048576: true; the input reads as it did. -/
def descrBackUptoRow : OpenClaim := { program := "ytibcaienaejgpaa", sum := "041356b52a005d86528029a048a5b407608a2e27b029764246de5b5aff2e14ad", func := "warpbeam/warpbeamlaw05.DescrBack", spec := "descrBack", inPlace := ["internal/bytealg.IndexByteString", "internal/bytealg.IndexString", "internal/abi.NoEscape"], recurses := true, named := ["internal/bytealg.MaxLen"], apart := false, narrowed := true }
def DescrBackUptoSaid : Prop := descrBackUptoRow.holds Try.pinned (OpenSpec.upto descrBackSpec)

/-- 'warpbeamlaw05.DescrAgain', WHERE WHAT IT READS IS OF BULK AT MOST 1048576: true; the input reads as it did. -/
def descrAgainUptoRow : OpenClaim := { program := "ytibcaienaejgpaa", sum := "041356b52a005d86528029a048a5b407608a2e27b029764246de5b5aff2e14ad", func := "warpbeam/warpbeamlaw05.DescrAgain", spec := "descrAgain", inPlace := ["internal/bytealg.IndexByteString", "internal/bytealg.IndexString", "internal/abi.NoEscape"], recurses := true, named := ["internal/bytealg.MaxLen"], apart := false, narrowed := true }
def DescrAgainUptoSaid : Prop := descrAgainUptoRow.holds Try.pinned (OpenSpec.upto descrAgainSpec)

/-- 'warpbeamlaw05.DescrApart', WHERE WHAT IT READS IS OF BULK AT MOST 1048576: true; the input reads as it did. -/
def descrApartUptoRow : OpenClaim := { program := "ytibcaienaejgpaa", sum := "041356b52a005d86528029a048a5b407608a2e27b029764246de5b5aff2e14ad", func := "warpbeam/warpbeamlaw05.DescrApart", spec := "descrApart", inPlace := ["internal/bytealg.IndexByteString", "internal/bytealg.IndexString", "internal/abi.NoEscape"], recurses := true, named := ["internal/bytealg.MaxLen"], apart := false, narrowed := true }
def DescrApartUptoSaid : Prop := descrApartUptoRow.holds Try.pinned (OpenSpec.upto descrApartSpec)

/-- 'warpbeamlaw05.DescrOver', WHERE WHAT IT READS IS OF BULK AT MOST 1048576: true; the input reads as it did. -/
def descrOverUptoRow : OpenClaim := { program := "ytibcaienaejgpaa", sum := "041356b52a005d86528029a048a5b407608a2e27b029764246de5b5aff2e14ad", func := "warpbeam/warpbeamlaw05.DescrOver", spec := "descrOver", inPlace := ["internal/bytealg.IndexByteString", "internal/bytealg.IndexString", "internal/abi.NoEscape"], recurses := true, named := ["internal/bytealg.MaxLen"], apart := false, narrowed := true }
def DescrOverUptoSaid : Prop := descrOverUptoRow.holds Try.pinned (OpenSpec.upto descrOverSpec)

/-- 'warpbeamlaw05.DescrNames', WHERE WHAT IT READS IS OF BULK AT MOST 1048576: true; the input reads as it did. -/
def descrNamesUptoRow : OpenClaim := { program := "ytibcaienaejgpaa", sum := "041356b52a005d86528029a048a5b407608a2e27b029764246de5b5aff2e14ad", func := "warpbeam/warpbeamlaw05.DescrNames", spec := "descrNames", inPlace := ["internal/bytealg.IndexByteString", "internal/bytealg.IndexString", "internal/abi.NoEscape"], recurses := true, named := ["internal/bytealg.MaxLen"], apart := false, narrowed := true }
def DescrNamesUptoSaid : Prop := descrNamesUptoRow.holds Try.pinned (OpenSpec.upto descrNamesSpec)

/-- 'warpbeamlaw05.DescrKnown', WHERE WHAT IT READS IS OF BULK AT MOST 1048576: true; the input reads as it did. -/
def descrKnownUptoRow : OpenClaim := { program := "ytibcaienaejgpaa", sum := "041356b52a005d86528029a048a5b407608a2e27b029764246de5b5aff2e14ad", func := "warpbeam/warpbeamlaw05.DescrKnown", spec := "descrKnown", inPlace := ["internal/abi.NoEscape", "internal/bytealg.MakeNoZero", "internal/bytealg.IndexByteString", "internal/bytealg.IndexString"], recurses := true, named := ["internal/bytealg.MaxLen"], apart := false, narrowed := true }
def DescrKnownUptoSaid : Prop := descrKnownUptoRow.holds Try.pinned (OpenSpec.upto descrKnownSpec)

end Rows
end Go.Proofs.Ytibcaienaejgpaa
