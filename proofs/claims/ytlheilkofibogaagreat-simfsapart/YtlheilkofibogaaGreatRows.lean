/-
  No cell of these rows narrows 'for every input' (looked for: loops, veiled, ifaces, maps, wideKeys, modest, calm, conditions, laid).
  DERIVED. THE GIVEN ROWS OF THIS SEAT. 2 by the template 'for every input the law returns true; each argument reads behind the call as it read before'; 0 by the template 'total and deterministic' (their statements: YtlheilkofibogaaGreatTotals.lean).
  GIVEN WITH THE SEED: the statements are not yours to turn. If you find one false, say at which input.
  Laid BY PROGRAM, IN A SANDBOX (cutbox-rows.mjs): the forced cells as the released guide's own fill.sh prints them over the translation d40864d9ae676b74… (all of the seat's roots in one cut). By AI agents, Wed Nov 11 2026. No macro, syntax, notation, axiom, sorry.
-/
import Derived.Test.YtlheilkofibogaaGreatChecked
import GoSem.Claim
import GoSem.ClaimJoined
import GoSem.ClaimMapViews
import Derived.JoinedTies
import Derived.KernelRfl
namespace Go.Proofs.YtlheilkofibogaaGreat
/- THE CELL 'sum', in the pinned program and in every row, IS THE sha256 OF THE DUMP (.gsa) THAT YtlheilkofibogaaGreatProg.lean LOADS. Nothing in Lean hashes anything: it is a label: what it is worth is what the hold of that sum in a sandbox is worth. -/
noncomputable def Tryz.pinned : Pinned := { name := "ytlheilkofibogaagreat", sum := "d40864d9ae676b74615cebcb94a02788c30e3275a1ba1e2a17eb1b4fd427ca23", checked := Tryz.checked }
namespace Rows
def none {H : Type} : Left H := { results := [], args := [] }

/-- 'cisternlaw20.SimfsPlays': WHATEVER THE INPUT: true; the input reads as it did. -/
def simfsPlaysSpec : ChangeSpec := { name := "simfsPlays", fn := fun _ => fun
  | [d] => { results := [.lit (.bool true)], args := [d] }
  | _ => none }
def simfsPlaysRow : OpenClaim := { program := "ytlheilkofibogaagreat", sum := "d40864d9ae676b74615cebcb94a02788c30e3275a1ba1e2a17eb1b4fd427ca23", func := "cistern/cisternlaw20.SimfsPlays", spec := "simfsPlays", inPlace := ["maps.clone", "internal/abi.NoEscape", "internal/bytealg.MakeNoZero", "slices.overlaps[cistern/simfs.plan]"], unfollowed := true, recurses := true, apart := false }
def SimfsPlaysSaid : Prop := simfsPlaysRow.holds Tryz.pinned (OpenSpec.ofChange simfsPlaysSpec)

/-- ITS FALSE NEIGHBOUR: 'it returns false'. Refute it at one input. -/
def simfsPlaysWrong : ChangeSpec := { name := "simfsPlays", fn := fun _ => fun
  | [d] => { results := [.lit (.bool false)], args := [d] }
  | _ => none }
def SimfsPlaysWrongFalsely : Prop := simfsPlaysRow.holds Tryz.pinned (OpenSpec.ofChange simfsPlaysWrong)

/-- 'cisternlaw20.SimfsApart': WHATEVER THE INPUT: true; the input reads as it did. -/
def simfsApartSpec : ChangeSpec := { name := "simfsApart", fn := fun _ => fun
  | [d1, d2] => { results := [.lit (.bool true)], args := [d1, d2] }
  | _ => none }
def simfsApartRow : OpenClaim := { program := "ytlheilkofibogaagreat", sum := "d40864d9ae676b74615cebcb94a02788c30e3275a1ba1e2a17eb1b4fd427ca23", func := "cistern/cisternlaw20.SimfsApart", spec := "simfsApart", inPlace := ["maps.clone", "internal/abi.NoEscape", "internal/bytealg.MakeNoZero", "slices.overlaps[cistern/simfs.plan]"], unfollowed := true, recurses := true, apart := false }
def SimfsApartSaid : Prop := simfsApartRow.holds Tryz.pinned (OpenSpec.ofChange simfsApartSpec)

/-- ITS FALSE NEIGHBOUR: 'it returns false'. Refute it at one input. -/
def simfsApartWrong : ChangeSpec := { name := "simfsApart", fn := fun _ => fun
  | [d1, d2] => { results := [.lit (.bool false)], args := [d1, d2] }
  | _ => none }
def SimfsApartWrongFalsely : Prop := simfsApartRow.holds Tryz.pinned (OpenSpec.ofChange simfsApartWrong)

/- THE SECOND FORM. 'bulk': how many values and letters a reading holds, each counted each time it is reached (what is shared counts as often as it is met; a slice's spare places count too). A statement '..UptoSaid' is the law's where the arguments, and the package variables that the reading takes, are together of bulk at most 1048576: NARROWER than '..Said'. Prove '..Said' where nothing that the law and all that it calls make is longer than what came in: it says more and counts as full. Else prove '..UptoSaid'. A law counts once. -/
mutual
def uptoBulk {H : Type} : DataW H → Nat
  | .lit (.string bytes) => bytes.length + 1
  | .lit _ => 1
  | .nil => 1
  | .ptr d => uptoBulk d + 1
  | .slice elems spare => uptoBulkAll elems + uptoBulkAll spare + 1
  | .agg parts => uptoBulkAll parts + 1
  | .iface _ d => uptoBulk d + 1
  | .map entries => uptoBulkEntries entries + 1
  | .held _ => 1
def uptoBulkAll {H : Type} : List (DataW H) → Nat
  | [] => 0
  | d :: r => uptoBulk d + uptoBulkAll r
def uptoBulkEntries {H : Type} : List (Lit × DataW H) → Nat
  | [] => 0
  | x :: r => uptoBulkEntry x + uptoBulkEntries r
def uptoBulkEntry {H : Type} : Lit × DataW H → Nat
  | (.string bytes, d) => bytes.length + uptoBulk d + 1
  | (_, d) => uptoBulk d + 1
 end
def uptoSmall : (H : Type) → List (DataW H) → Bool := fun _ ds => decide (uptoBulkAll ds ≤ 1048576)
def OpenSpec.upto (s : _root_.Go.ChangeSpec) : _root_.Go.OpenSpec := { _root_.Go.OpenSpec.ofChange s with cond := some uptoSmall }

/-- 'cisternlaw20.SimfsPlays', WHERE WHAT IT READS IS OF BULK AT MOST 1048576: true; the input reads as it did. -/
def simfsPlaysUptoRow : OpenClaim := { program := "ytlheilkofibogaagreat", sum := "d40864d9ae676b74615cebcb94a02788c30e3275a1ba1e2a17eb1b4fd427ca23", func := "cistern/cisternlaw20.SimfsPlays", spec := "simfsPlays", inPlace := ["maps.clone", "internal/abi.NoEscape", "internal/bytealg.MakeNoZero", "slices.overlaps[cistern/simfs.plan]"], unfollowed := true, recurses := true, apart := false, narrowed := true }
def SimfsPlaysUptoSaid : Prop := simfsPlaysUptoRow.holds Tryz.pinned (OpenSpec.upto simfsPlaysSpec)

/-- 'cisternlaw20.SimfsApart', WHERE WHAT IT READS IS OF BULK AT MOST 1048576: true; the input reads as it did. -/
def simfsApartUptoRow : OpenClaim := { program := "ytlheilkofibogaagreat", sum := "d40864d9ae676b74615cebcb94a02788c30e3275a1ba1e2a17eb1b4fd427ca23", func := "cistern/cisternlaw20.SimfsApart", spec := "simfsApart", inPlace := ["maps.clone", "internal/abi.NoEscape", "internal/bytealg.MakeNoZero", "slices.overlaps[cistern/simfs.plan]"], unfollowed := true, recurses := true, apart := false, narrowed := true }
def SimfsApartUptoSaid : Prop := simfsApartUptoRow.holds Tryz.pinned (OpenSpec.upto simfsApartSpec)

end Rows
end Go.Proofs.YtlheilkofibogaaGreat
