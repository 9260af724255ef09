/-
  No cell of these rows narrows 'for every input' (looked for: loops, veiled, ifaces, maps, wideKeys, modest, calm, conditions, laid).
  DERIVED. THE GIVEN ROWS OF THIS SEAT. 6 by the template 'for every input the law returns true; each argument reads behind the call as it read before'; 0 by the template 'total and deterministic' (their statements: YtdemodhjlbkbeaaTotals.lean).
  GIVEN WITH THE SEED: the statements are not yours to turn. If you find one false, say at which input.
  Laid BY PROGRAM, IN A SANDBOX (cutbox-rows.mjs): the forced cells as the released guide's own fill.sh prints them over the translation ca961fb4cb8a41c8… (all of the seat's roots in one cut). By AI agents, Wed Nov 11 2026. No macro, syntax, notation, axiom, sorry.
-/
import Derived.Test.YtdemodhjlbkbeaaChecked
import GoSem.Claim
import GoSem.ClaimJoined
import GoSem.ClaimMapViews
import Derived.JoinedTies
import Derived.KernelRfl
namespace Go.Proofs.Ytdemodhjlbkbeaa
/- THE CELL 'sum', in the pinned program and in every row, IS THE sha256 OF THE DUMP (.gsa) THAT YtdemodhjlbkbeaaProg.lean LOADS. Nothing in Lean hashes anything: it is a label: what it is worth is what the hold of that sum in a sandbox is worth. -/
noncomputable def Try.pinned : Pinned := { name := "ytdemodhjlbkbeaa", sum := "ca961fb4cb8a41c804bb967795cb9dafb371761ab9be1c972d8f9819d57f0f31", checked := Try.checked }
namespace Rows
def none {H : Type} : Left H := { results := [], args := [] }

/-- 'cisternlaw08.DictHashes': WHATEVER THE INPUT: true; the input reads as it did. -/
def dictHashesSpec : ChangeSpec := { name := "dictHashes", fn := fun _ => fun
  | [d1, d2] => { results := [.lit (.bool true)], args := [d1, d2] }
  | _ => none }
def dictHashesRow : OpenClaim := { program := "ytdemodhjlbkbeaa", sum := "ca961fb4cb8a41c804bb967795cb9dafb371761ab9be1c972d8f9819d57f0f31", func := "cistern/cisternlaw08.DictHashes", spec := "dictHashes", inPlace := ["slices.overlaps[cistern/dict.entry[int]]"], unfollowed := true, recurses := true, apart := false }
def DictHashesSaid : Prop := dictHashesRow.holds Try.pinned (OpenSpec.ofChange dictHashesSpec)

/-- ITS FALSE NEIGHBOUR: 'it returns false'. Refute it at one input. -/
def dictHashesWrong : ChangeSpec := { name := "dictHashes", fn := fun _ => fun
  | [d1, d2] => { results := [.lit (.bool false)], args := [d1, d2] }
  | _ => none }
def DictHashesWrongFalsely : Prop := dictHashesRow.holds Try.pinned (OpenSpec.ofChange dictHashesWrong)

/-- 'cisternlaw08.DictMaps': WHATEVER THE INPUT: true; the input reads as it did. -/
def dictMapsSpec : ChangeSpec := { name := "dictMaps", fn := fun _ => fun
  | [d1, d2] => { results := [.lit (.bool true)], args := [d1, d2] }
  | _ => none }
def dictMapsRow : OpenClaim := { program := "ytdemodhjlbkbeaa", sum := "ca961fb4cb8a41c804bb967795cb9dafb371761ab9be1c972d8f9819d57f0f31", func := "cistern/cisternlaw08.DictMaps", spec := "dictMaps", inPlace := ["slices.overlaps[cistern/dict.entry[int]]"], unfollowed := true, recurses := true, apart := false }
def DictMapsSaid : Prop := dictMapsRow.holds Try.pinned (OpenSpec.ofChange dictMapsSpec)

/-- ITS FALSE NEIGHBOUR: 'it returns false'. Refute it at one input. -/
def dictMapsWrong : ChangeSpec := { name := "dictMaps", fn := fun _ => fun
  | [d1, d2] => { results := [.lit (.bool false)], args := [d1, d2] }
  | _ => none }
def DictMapsWrongFalsely : Prop := dictMapsRow.holds Try.pinned (OpenSpec.ofChange dictMapsWrong)

/-- 'cisternlaw08.DictScans': WHATEVER THE INPUT: true; the input reads as it did. -/
def dictScansSpec : ChangeSpec := { name := "dictScans", fn := fun _ => fun
  | [d] => { results := [.lit (.bool true)], args := [d] }
  | _ => none }
def dictScansRow : OpenClaim := { program := "ytdemodhjlbkbeaa", sum := "ca961fb4cb8a41c804bb967795cb9dafb371761ab9be1c972d8f9819d57f0f31", func := "cistern/cisternlaw08.DictScans", spec := "dictScans", inPlace := ["slices.overlaps[cistern/dict.entry[int]]"], unfollowed := true, recurses := true, apart := false }
def DictScansSaid : Prop := dictScansRow.holds Try.pinned (OpenSpec.ofChange dictScansSpec)

/-- ITS FALSE NEIGHBOUR: 'it returns false'. Refute it at one input. -/
def dictScansWrong : ChangeSpec := { name := "dictScans", fn := fun _ => fun
  | [d] => { results := [.lit (.bool false)], args := [d] }
  | _ => none }
def DictScansWrongFalsely : Prop := dictScansRow.holds Try.pinned (OpenSpec.ofChange dictScansWrong)

/-- 'cisternlaw08.DictEnds': WHATEVER THE INPUT: true; the input reads as it did. -/
def dictEndsSpec : ChangeSpec := { name := "dictEnds", fn := fun _ => fun
  | [d1, d2, d3] => { results := [.lit (.bool true)], args := [d1, d2, d3] }
  | _ => none }
def dictEndsRow : OpenClaim := { program := "ytdemodhjlbkbeaa", sum := "ca961fb4cb8a41c804bb967795cb9dafb371761ab9be1c972d8f9819d57f0f31", func := "cistern/cisternlaw08.DictEnds", spec := "dictEnds", inPlace := ["slices.overlaps[cistern/dict.entry[int]]"], unfollowed := true, recurses := true, apart := false }
def DictEndsSaid : Prop := dictEndsRow.holds Try.pinned (OpenSpec.ofChange dictEndsSpec)

/-- ITS FALSE NEIGHBOUR: 'it returns false'. Refute it at one input. -/
def dictEndsWrong : ChangeSpec := { name := "dictEnds", fn := fun _ => fun
  | [d1, d2, d3] => { results := [.lit (.bool false)], args := [d1, d2, d3] }
  | _ => none }
def DictEndsWrongFalsely : Prop := dictEndsRow.holds Try.pinned (OpenSpec.ofChange dictEndsWrong)

/-- 'cisternlaw08.DictMeasure': WHATEVER THE INPUT: true; the input reads as it did. -/
def dictMeasureSpec : ChangeSpec := { name := "dictMeasure", fn := fun _ => fun
  | [d1, d2] => { results := [.lit (.bool true)], args := [d1, d2] }
  | _ => none }
def dictMeasureRow : OpenClaim := { program := "ytdemodhjlbkbeaa", sum := "ca961fb4cb8a41c804bb967795cb9dafb371761ab9be1c972d8f9819d57f0f31", func := "cistern/cisternlaw08.DictMeasure", spec := "dictMeasure", inPlace := ["slices.overlaps[cistern/dict.entry[int]]"], unfollowed := true, recurses := true, apart := false }
def DictMeasureSaid : Prop := dictMeasureRow.holds Try.pinned (OpenSpec.ofChange dictMeasureSpec)

/-- ITS FALSE NEIGHBOUR: 'it returns false'. Refute it at one input. -/
def dictMeasureWrong : ChangeSpec := { name := "dictMeasure", fn := fun _ => fun
  | [d1, d2] => { results := [.lit (.bool false)], args := [d1, d2] }
  | _ => none }
def DictMeasureWrongFalsely : Prop := dictMeasureRow.holds Try.pinned (OpenSpec.ofChange dictMeasureWrong)

/-- 'cisternlaw08.DictApart': WHATEVER THE INPUT: true; the input reads as it did. -/
def dictApartSpec : ChangeSpec := { name := "dictApart", fn := fun _ => fun
  | [d1, d2, d3] => { results := [.lit (.bool true)], args := [d1, d2, d3] }
  | _ => none }
def dictApartRow : OpenClaim := { program := "ytdemodhjlbkbeaa", sum := "ca961fb4cb8a41c804bb967795cb9dafb371761ab9be1c972d8f9819d57f0f31", func := "cistern/cisternlaw08.DictApart", spec := "dictApart", inPlace := ["slices.overlaps[cistern/dict.entry[int]]"], unfollowed := true, recurses := true, apart := false }
def DictApartSaid : Prop := dictApartRow.holds Try.pinned (OpenSpec.ofChange dictApartSpec)

/-- ITS FALSE NEIGHBOUR: 'it returns false'. Refute it at one input. -/
def dictApartWrong : ChangeSpec := { name := "dictApart", fn := fun _ => fun
  | [d1, d2, d3] => { results := [.lit (.bool false)], args := [d1, d2, d3] }
  | _ => none }
def DictApartWrongFalsely : Prop := dictApartRow.holds Try.pinned (OpenSpec.ofChange dictApartWrong)

/- THE SECOND FORM. 'bulk': how many values and letters a reading holds, each counted each time it is reached (what is shared counts as often as it is met; a slice's spare places count too). A statement '..UptoSaid' is the law's where the arguments, and the package variables that the reading takes, are together of bulk at most 1048576: NARROWER than '..Said'. Prove '..Said' where nothing that the law and all that it calls make is longer than what came in: it says more and counts as full. Else prove '..UptoSaid'. A law counts once. -/
mutual
def uptoBulk {H : Type} : DataW H → Nat
  | .lit (.string bytes) => bytes.length + 1
  | .lit _ => 1
  | .nil => 1
  | .ptr d => uptoBulk d + 1
  | .slice elems spare => uptoBulkAll elems + uptoBulkAll spare + 1
  | .agg parts => uptoBulkAll parts + 1
  | .iface _ d => uptoBulk d + 1
  | .map entries => uptoBulkEntries entries + 1
  | .held _ => 1
def uptoBulkAll {H : Type} : List (DataW H) → Nat
  | [] => 0
  | d :: r => uptoBulk d + uptoBulkAll r
def uptoBulkEntries {H : Type} : List (Lit × DataW H) → Nat
  | [] => 0
  | x :: r => uptoBulkEntry x + uptoBulkEntries r
def uptoBulkEntry {H : Type} : Lit × DataW H → Nat
  | (.string bytes, d) => bytes.length + uptoBulk d + 1
  | (_, d) => uptoBulk d + 1
 end
def uptoSmall : (H : Type) → List (DataW H) → Bool := fun _ ds => decide (uptoBulkAll ds ≤ 1048576)
def OpenSpec.upto (s : _root_.Go.ChangeSpec) : _root_.Go.OpenSpec := { _root_.Go.OpenSpec.ofChange s with cond := some uptoSmall }

/-- 'cisternlaw08.DictHashes', WHERE WHAT IT READS IS OF BULK AT MOST 1048576: true; the input reads as it did. -/
def dictHashesUptoRow : OpenClaim := { program := "ytdemodhjlbkbeaa", sum := "ca961fb4cb8a41c804bb967795cb9dafb371761ab9be1c972d8f9819d57f0f31", func := "cistern/cisternlaw08.DictHashes", spec := "dictHashes", inPlace := ["slices.overlaps[cistern/dict.entry[int]]"], unfollowed := true, recurses := true, apart := false, narrowed := true }
def DictHashesUptoSaid : Prop := dictHashesUptoRow.holds Try.pinned (OpenSpec.upto dictHashesSpec)

/-- 'cisternlaw08.DictMaps', WHERE WHAT IT READS IS OF BULK AT MOST 1048576: true; the input reads as it did. -/
def dictMapsUptoRow : OpenClaim := { program := "ytdemodhjlbkbeaa", sum := "ca961fb4cb8a41c804bb967795cb9dafb371761ab9be1c972d8f9819d57f0f31", func := "cistern/cisternlaw08.DictMaps", spec := "dictMaps", inPlace := ["slices.overlaps[cistern/dict.entry[int]]"], unfollowed := true, recurses := true, apart := false, narrowed := true }
def DictMapsUptoSaid : Prop := dictMapsUptoRow.holds Try.pinned (OpenSpec.upto dictMapsSpec)

/-- 'cisternlaw08.DictScans', WHERE WHAT IT READS IS OF BULK AT MOST 1048576: true; the input reads as it did. -/
def dictScansUptoRow : OpenClaim := { program := "ytdemodhjlbkbeaa", sum := "ca961fb4cb8a41c804bb967795cb9dafb371761ab9be1c972d8f9819d57f0f31", func := "cistern/cisternlaw08.DictScans", spec := "dictScans", inPlace := ["slices.overlaps[cistern/dict.entry[int]]"], unfollowed := true, recurses := true, apart := false, narrowed := true }
def DictScansUptoSaid : Prop := dictScansUptoRow.holds Try.pinned (OpenSpec.upto dictScansSpec)

/-- 'cisternlaw08.DictEnds', WHERE WHAT IT READS IS OF BULK AT MOST 1048576: true; the input reads as it did. -/
def dictEndsUptoRow : OpenClaim := { program := "ytdemodhjlbkbeaa", sum := "ca961fb4cb8a41c804bb967795cb9dafb371761ab9be1c972d8f9819d57f0f31", func := "cistern/cisternlaw08.DictEnds", spec := "dictEnds", inPlace := ["slices.overlaps[cistern/dict.entry[int]]"], unfollowed := true, recurses := true, apart := false, narrowed := true }
def DictEndsUptoSaid : Prop := dictEndsUptoRow.holds Try.pinned (OpenSpec.upto dictEndsSpec)

/-- 'cisternlaw08.DictMeasure', WHERE WHAT IT READS IS OF BULK AT MOST 1048576: true; the input reads as it did. -/
def dictMeasureUptoRow : OpenClaim := { program := "ytdemodhjlbkbeaa", sum := "ca961fb4cb8a41c804bb967795cb9dafb371761ab9be1c972d8f9819d57f0f31", func := "cistern/cisternlaw08.DictMeasure", spec := "dictMeasure", inPlace := ["slices.overlaps[cistern/dict.entry[int]]"], unfollowed := true, recurses := true, apart := false, narrowed := true }
def DictMeasureUptoSaid : Prop := dictMeasureUptoRow.holds Try.pinned (OpenSpec.upto dictMeasureSpec)

/-- 'cisternlaw08.DictApart', WHERE WHAT IT READS IS OF BULK AT MOST 1048576: true; the input reads as it did. -/
def dictApartUptoRow : OpenClaim := { program := "ytdemodhjlbkbeaa", sum := "ca961fb4cb8a41c804bb967795cb9dafb371761ab9be1c972d8f9819d57f0f31", func := "cistern/cisternlaw08.DictApart", spec := "dictApart", inPlace := ["slices.overlaps[cistern/dict.entry[int]]"], unfollowed := true, recurses := true, apart := false, narrowed := true }
def DictApartUptoSaid : Prop := dictApartUptoRow.holds Try.pinned (OpenSpec.upto dictApartSpec)

end Rows
end Go.Proofs.Ytdemodhjlbkbeaa
