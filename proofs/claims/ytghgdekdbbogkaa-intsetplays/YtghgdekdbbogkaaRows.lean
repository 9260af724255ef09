/-
  No cell of these rows narrows 'for every input' (looked for: loops, veiled, ifaces, maps, wideKeys, modest, calm, conditions, laid).
  DERIVED. THE GIVEN ROWS OF THIS SEAT. 6 by the template 'for every input the law returns true; each argument reads behind the call as it read before'; 0 by the template 'total and deterministic' (their statements: YtghgdekdbbogkaaTotals.lean).
  GIVEN WITH THE SEED: the statements are not yours to turn. If you find one false, say at which input.
  Laid BY PROGRAM, IN A SANDBOX (cutbox-rows.mjs): the forced cells as the released guide's own fill.sh prints them over the translation 617398316ca31260… (all of the seat's roots in one cut). By AI agents, Wed Nov 11 2026. No macro, syntax, notation, axiom, sorry.
-/
import Derived.Test.YtghgdekdbbogkaaChecked
import GoSem.Claim
import GoSem.ClaimJoined
import GoSem.ClaimMapViews
import Derived.JoinedTies
import Derived.KernelRfl
namespace Go.Proofs.Ytghgdekdbbogkaa
/- THE CELL 'sum', in the pinned program and in every row, IS THE sha256 OF THE DUMP (.gsa) THAT YtghgdekdbbogkaaProg.lean LOADS. Nothing in Lean hashes anything: it is a label: what it is worth is what the hold of that sum in a sandbox is worth. -/
noncomputable def Try.pinned : Pinned := { name := "ytghgdekdbbogkaa", sum := "617398316ca31260f0690b66a46a18d350bae85ca83f90d58714fcb091cef5b1", checked := Try.checked }
namespace Rows
def none {H : Type} : Left H := { results := [], args := [] }

/-- 'cisternlaw05.IntsetConsts': WHATEVER THE INPUT: true; the input reads as it did. -/
def intsetConstsSpec : ChangeSpec := { name := "intsetConsts", fn := fun _ => fun
  | [] => { results := [.lit (.bool true)], args := [] }
  | _ => none }
def intsetConstsRow : OpenClaim := { program := "ytghgdekdbbogkaa", sum := "617398316ca31260f0690b66a46a18d350bae85ca83f90d58714fcb091cef5b1", func := "cistern/cisternlaw05.IntsetConsts", spec := "intsetConsts", inPlace := ["internal/abi.NoEscape", "internal/bytealg.MakeNoZero"], apart := false }
def IntsetConstsSaid : Prop := intsetConstsRow.holds Try.pinned (OpenSpec.ofChange intsetConstsSpec)

/-- ITS FALSE NEIGHBOUR: 'it returns false'. Refute it at one input. -/
def intsetConstsWrong : ChangeSpec := { name := "intsetConsts", fn := fun _ => fun
  | [] => { results := [.lit (.bool false)], args := [] }
  | _ => none }
def IntsetConstsWrongFalsely : Prop := intsetConstsRow.holds Try.pinned (OpenSpec.ofChange intsetConstsWrong)

/-- 'cisternlaw05.IntsetOrder': WHATEVER THE INPUT: true; the input reads as it did. -/
def intsetOrderSpec : ChangeSpec := { name := "intsetOrder", fn := fun _ => fun
  | [d] => { results := [.lit (.bool true)], args := [d] }
  | _ => none }
def intsetOrderRow : OpenClaim := { program := "ytghgdekdbbogkaa", sum := "617398316ca31260f0690b66a46a18d350bae85ca83f90d58714fcb091cef5b1", func := "cistern/cisternlaw05.IntsetOrder", spec := "intsetOrder", inPlace := ["internal/abi.NoEscape", "internal/bytealg.MakeNoZero"], unfollowed := true, recurses := true, apart := false }
def IntsetOrderSaid : Prop := intsetOrderRow.holds Try.pinned (OpenSpec.ofChange intsetOrderSpec)

/-- ITS FALSE NEIGHBOUR: 'it returns false'. Refute it at one input. -/
def intsetOrderWrong : ChangeSpec := { name := "intsetOrder", fn := fun _ => fun
  | [d] => { results := [.lit (.bool false)], args := [d] }
  | _ => none }
def IntsetOrderWrongFalsely : Prop := intsetOrderRow.holds Try.pinned (OpenSpec.ofChange intsetOrderWrong)

/-- 'cisternlaw05.IntsetAdds': WHATEVER THE INPUT: true; the input reads as it did. -/
def intsetAddsSpec : ChangeSpec := { name := "intsetAdds", fn := fun _ => fun
  | [d1, d2] => { results := [.lit (.bool true)], args := [d1, d2] }
  | _ => none }
def intsetAddsRow : OpenClaim := { program := "ytghgdekdbbogkaa", sum := "617398316ca31260f0690b66a46a18d350bae85ca83f90d58714fcb091cef5b1", func := "cistern/cisternlaw05.IntsetAdds", spec := "intsetAdds", inPlace := ["internal/abi.NoEscape", "internal/bytealg.MakeNoZero"], unfollowed := true, recurses := true, apart := false }
def IntsetAddsSaid : Prop := intsetAddsRow.holds Try.pinned (OpenSpec.ofChange intsetAddsSpec)

/-- ITS FALSE NEIGHBOUR: 'it returns false'. Refute it at one input. -/
def intsetAddsWrong : ChangeSpec := { name := "intsetAdds", fn := fun _ => fun
  | [d1, d2] => { results := [.lit (.bool false)], args := [d1, d2] }
  | _ => none }
def IntsetAddsWrongFalsely : Prop := intsetAddsRow.holds Try.pinned (OpenSpec.ofChange intsetAddsWrong)

/-- 'cisternlaw05.IntsetDrops': WHATEVER THE INPUT: true; the input reads as it did. -/
def intsetDropsSpec : ChangeSpec := { name := "intsetDrops", fn := fun _ => fun
  | [d1, d2] => { results := [.lit (.bool true)], args := [d1, d2] }
  | _ => none }
def intsetDropsRow : OpenClaim := { program := "ytghgdekdbbogkaa", sum := "617398316ca31260f0690b66a46a18d350bae85ca83f90d58714fcb091cef5b1", func := "cistern/cisternlaw05.IntsetDrops", spec := "intsetDrops", inPlace := ["internal/abi.NoEscape", "internal/bytealg.MakeNoZero"], unfollowed := true, recurses := true, apart := false }
def IntsetDropsSaid : Prop := intsetDropsRow.holds Try.pinned (OpenSpec.ofChange intsetDropsSpec)

/-- ITS FALSE NEIGHBOUR: 'it returns false'. Refute it at one input. -/
def intsetDropsWrong : ChangeSpec := { name := "intsetDrops", fn := fun _ => fun
  | [d1, d2] => { results := [.lit (.bool false)], args := [d1, d2] }
  | _ => none }
def IntsetDropsWrongFalsely : Prop := intsetDropsRow.holds Try.pinned (OpenSpec.ofChange intsetDropsWrong)

/-- 'cisternlaw05.IntsetPlays': WHATEVER THE INPUT: true; the input reads as it did. -/
def intsetPlaysSpec : ChangeSpec := { name := "intsetPlays", fn := fun _ => fun
  | [d1, d2] => { results := [.lit (.bool true)], args := [d1, d2] }
  | _ => none }
def intsetPlaysRow : OpenClaim := { program := "ytghgdekdbbogkaa", sum := "617398316ca31260f0690b66a46a18d350bae85ca83f90d58714fcb091cef5b1", func := "cistern/cisternlaw05.IntsetPlays", spec := "intsetPlays", inPlace := ["internal/abi.NoEscape", "internal/bytealg.MakeNoZero"], unfollowed := true, recurses := true, apart := false }
def IntsetPlaysSaid : Prop := intsetPlaysRow.holds Try.pinned (OpenSpec.ofChange intsetPlaysSpec)

/-- ITS FALSE NEIGHBOUR: 'it returns false'. Refute it at one input. -/
def intsetPlaysWrong : ChangeSpec := { name := "intsetPlays", fn := fun _ => fun
  | [d1, d2] => { results := [.lit (.bool false)], args := [d1, d2] }
  | _ => none }
def IntsetPlaysWrongFalsely : Prop := intsetPlaysRow.holds Try.pinned (OpenSpec.ofChange intsetPlaysWrong)

/-- 'cisternlaw05.IntsetAsks': WHATEVER THE INPUT: true; the input reads as it did. -/
def intsetAsksSpec : ChangeSpec := { name := "intsetAsks", fn := fun _ => fun
  | [d1, d2, d3] => { results := [.lit (.bool true)], args := [d1, d2, d3] }
  | _ => none }
def intsetAsksRow : OpenClaim := { program := "ytghgdekdbbogkaa", sum := "617398316ca31260f0690b66a46a18d350bae85ca83f90d58714fcb091cef5b1", func := "cistern/cisternlaw05.IntsetAsks", spec := "intsetAsks", inPlace := ["internal/abi.NoEscape", "internal/bytealg.MakeNoZero"], unfollowed := true, recurses := true, apart := false }
def IntsetAsksSaid : Prop := intsetAsksRow.holds Try.pinned (OpenSpec.ofChange intsetAsksSpec)

/-- ITS FALSE NEIGHBOUR: 'it returns false'. Refute it at one input. -/
def intsetAsksWrong : ChangeSpec := { name := "intsetAsks", fn := fun _ => fun
  | [d1, d2, d3] => { results := [.lit (.bool false)], args := [d1, d2, d3] }
  | _ => none }
def IntsetAsksWrongFalsely : Prop := intsetAsksRow.holds Try.pinned (OpenSpec.ofChange intsetAsksWrong)

/- THE SECOND FORM. 'bulk': how many values and letters a reading holds, each counted each time it is reached (what is shared counts as often as it is met; a slice's spare places count too). A statement '..UptoSaid' is the law's where the arguments, and the package variables that the reading takes, are together of bulk at most 1048576: NARROWER than '..Said'. Prove '..Said' where nothing that the law and all that it calls make is longer than what came in: it says more and counts as full. Else prove '..UptoSaid'. A law counts once. -/
mutual
def uptoBulk {H : Type} : DataW H → Nat
  | .lit (.string bytes) => bytes.length + 1
  | .lit _ => 1
  | .nil => 1
  | .ptr d => uptoBulk d + 1
  | .slice elems spare => uptoBulkAll elems + uptoBulkAll spare + 1
  | .agg parts => uptoBulkAll parts + 1
  | .iface _ d => uptoBulk d + 1
  | .map entries => uptoBulkEntries entries + 1
  | .held _ => 1
def uptoBulkAll {H : Type} : List (DataW H) → Nat
  | [] => 0
  | d :: r => uptoBulk d + uptoBulkAll r
def uptoBulkEntries {H : Type} : List (Lit × DataW H) → Nat
  | [] => 0
  | x :: r => uptoBulkEntry x + uptoBulkEntries r
def uptoBulkEntry {H : Type} : Lit × DataW H → Nat
  | (.string bytes, d) => bytes.length + uptoBulk d + 1
  | (_, d) => uptoBulk d + 1
 end
def uptoSmall : (H : Type) → List (DataW H) → Bool := fun _ ds => decide (uptoBulkAll ds ≤ 1048576)
def OpenSpec.upto (s : _root_.Go.ChangeSpec) : _root_.Go.OpenSpec := { _root_.Go.OpenSpec.ofChange s with cond := some uptoSmall }

/-- 'cisternlaw05.IntsetConsts', WHERE WHAT IT READS IS OF BULK AT MOST 1048576: true; the input reads as it did. -/
def intsetConstsUptoRow : OpenClaim := { program := "ytghgdekdbbogkaa", sum := "617398316ca31260f0690b66a46a18d350bae85ca83f90d58714fcb091cef5b1", func := "cistern/cisternlaw05.IntsetConsts", spec := "intsetConsts", inPlace := ["internal/abi.NoEscape", "internal/bytealg.MakeNoZero"], apart := false, narrowed := true }
def IntsetConstsUptoSaid : Prop := intsetConstsUptoRow.holds Try.pinned (OpenSpec.upto intsetConstsSpec)

/-- 'cisternlaw05.IntsetOrder', WHERE WHAT IT READS IS OF BULK AT MOST 1048576: true; the input reads as it did. -/
def intsetOrderUptoRow : OpenClaim := { program := "ytghgdekdbbogkaa", sum := "617398316ca31260f0690b66a46a18d350bae85ca83f90d58714fcb091cef5b1", func := "cistern/cisternlaw05.IntsetOrder", spec := "intsetOrder", inPlace := ["internal/abi.NoEscape", "internal/bytealg.MakeNoZero"], unfollowed := true, recurses := true, apart := false, narrowed := true }
def IntsetOrderUptoSaid : Prop := intsetOrderUptoRow.holds Try.pinned (OpenSpec.upto intsetOrderSpec)

/-- 'cisternlaw05.IntsetAdds', WHERE WHAT IT READS IS OF BULK AT MOST 1048576: true; the input reads as it did. -/
def intsetAddsUptoRow : OpenClaim := { program := "ytghgdekdbbogkaa", sum := "617398316ca31260f0690b66a46a18d350bae85ca83f90d58714fcb091cef5b1", func := "cistern/cisternlaw05.IntsetAdds", spec := "intsetAdds", inPlace := ["internal/abi.NoEscape", "internal/bytealg.MakeNoZero"], unfollowed := true, recurses := true, apart := false, narrowed := true }
def IntsetAddsUptoSaid : Prop := intsetAddsUptoRow.holds Try.pinned (OpenSpec.upto intsetAddsSpec)

/-- 'cisternlaw05.IntsetDrops', WHERE WHAT IT READS IS OF BULK AT MOST 1048576: true; the input reads as it did. -/
def intsetDropsUptoRow : OpenClaim := { program := "ytghgdekdbbogkaa", sum := "617398316ca31260f0690b66a46a18d350bae85ca83f90d58714fcb091cef5b1", func := "cistern/cisternlaw05.IntsetDrops", spec := "intsetDrops", inPlace := ["internal/abi.NoEscape", "internal/bytealg.MakeNoZero"], unfollowed := true, recurses := true, apart := false, narrowed := true }
def IntsetDropsUptoSaid : Prop := intsetDropsUptoRow.holds Try.pinned (OpenSpec.upto intsetDropsSpec)

/-- 'cisternlaw05.IntsetPlays', WHERE WHAT IT READS IS OF BULK AT MOST 1048576: true; the input reads as it did. -/
def intsetPlaysUptoRow : OpenClaim := { program := "ytghgdekdbbogkaa", sum := "617398316ca31260f0690b66a46a18d350bae85ca83f90d58714fcb091cef5b1", func := "cistern/cisternlaw05.IntsetPlays", spec := "intsetPlays", inPlace := ["internal/abi.NoEscape", "internal/bytealg.MakeNoZero"], unfollowed := true, recurses := true, apart := false, narrowed := true }
def IntsetPlaysUptoSaid : Prop := intsetPlaysUptoRow.holds Try.pinned (OpenSpec.upto intsetPlaysSpec)

/-- 'cisternlaw05.IntsetAsks', WHERE WHAT IT READS IS OF BULK AT MOST 1048576: true; the input reads as it did. -/
def intsetAsksUptoRow : OpenClaim := { program := "ytghgdekdbbogkaa", sum := "617398316ca31260f0690b66a46a18d350bae85ca83f90d58714fcb091cef5b1", func := "cistern/cisternlaw05.IntsetAsks", spec := "intsetAsks", inPlace := ["internal/abi.NoEscape", "internal/bytealg.MakeNoZero"], unfollowed := true, recurses := true, apart := false, narrowed := true }
def IntsetAsksUptoSaid : Prop := intsetAsksUptoRow.holds Try.pinned (OpenSpec.upto intsetAsksSpec)

end Rows
end Go.Proofs.Ytghgdekdbbogkaa
