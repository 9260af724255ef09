import Derived.Test.YtafphabeihoijaaDoorLeaf5
import Derived.Test.YtafphabeihoijaaDoorTie
import Derived.Test.YtafphabeihoijaaDoorCards
import Derived.ProofKit
import Derived.LaidMore
import Derived.OpenShut
import Derived.ShutString
import Derived.SizedLaws
import Derived.Stop.Joined
import Derived.Stop.LaidErr
import Derived.Lib.LaidTab
import Derived.SevenTiedAt
namespace Go.Proofs.YtafphabeihoijaaDoor
open Go.RowKit Vi
set_option linter.unusedVariables false

def laidL : List (String × DataW Unit) := [("math/bits.deBruijn32tab", Rows.laid_math_bits_deBruijn32tab), ("math/bits.deBruijn64tab", Rows.laid_math_bits_deBruijn64tab), ("internal/strconv.uint64pow10", Rows.laid_internal_strconv_uint64pow10), ("strconv.ErrRange", Rows.laid_strconv_ErrRange), ("strconv.ErrSyntax", Rows.laid_strconv_ErrSyntax), ("cistern/listpack.widths", Rows.laid_cistern_listpack_widths)]
theorem own : ownKnob Tryd.prog.godebug = none := by kernel_rfl
theorem gPow : Tryd.prog.globalNamed "internal/strconv.uint64pow10" = some 2 := by kernel_rfl
theorem gSyn : Tryd.prog.globalNamed "strconv.ErrSyntax" = some 3 := by kernel_rfl
theorem gRng : Tryd.prog.globalNamed "strconv.ErrRange" = some 4 := by kernel_rfl
theorem gWid : Tryd.prog.globalNamed "cistern/listpack.widths" = some 0 := by kernel_rfl
theorem tPow : (Tryd.prog.globals[2]?).map (·.type) = some 128 := by kernel_rfl
theorem tSyn : (Tryd.prog.globals[3]?).map (·.type) = some 77 := by kernel_rfl
theorem tRng : (Tryd.prog.globals[4]?).map (·.type) = some 77 := by kernel_rfl
theorem tWid : (Tryd.prog.globals[0]?).map (·.type) = some 98 := by kernel_rfl
theorem cellsE : Tryd.prog.cellsOf 138 = 1 := by kernel_rfl
theorem cells9 : Tryd.prog.cellsOf 9 = 1 := by kernel_rfl
theorem cells3 : Tryd.prog.cellsOf 3 = 1 := by kernel_rfl
theorem cellsU : Tryd.prog.cellsOf 107 = 1 := by kernel_rfl
theorem cellsT : Tryd.prog.cellsOf 128 = 20 := by kernel_rfl
theorem cellsW : Tryd.prog.cellsOf 98 = 4 := by kernel_rfl
theorem star : "*" ++ "errors.errorString" = "*errors.errorString" := by decide
theorem rowE (u : TypeId) (h : Tryd.prog.typeName? 3 u = some "*errors.errorString") : u = 136 :=
  typeName_ptr_named (nm := "errors.errorString") (by rw [star]; kernel_rfl) (by kernel_rfl) (by decide) u (by rw [star]; exact h)
theorem tabD : (Rows.laid_internal_strconv_uint64pow10 : DataW Unit) = Lib.tabData .u64 Lib.pow10Tab := by rfl
theorem tabW : (Rows.laid_cistern_listpack_widths : DataW Unit) = Lib.tabData .i64 [2, 3, 4, 8] := by rfl

set_option maxRecDepth 100000 in
theorem door_met (os : Os) (args : Array Value) : laidMetH Tryd.prog laidL ((World.doorLaid Tryd.prog 400 os).forCall (fun _ _ => 0) ⟨#[], args, []⟩).memory :=
  laidMetH_of_parts3 (fuel := 8) (laidMet_of_run' 8 (by kernel_rfl) (by kernel_rfl)) (by kernel_rfl) (by kernel_rfl)

theorem wid_of {W : World} (h : Lib.TabIs Tryd.prog W "cistern/listpack.widths" .i64 [2, 3, 4, 8]) : Wid W := by
  unfold Lib.TabIs World.var? at h
  rw [gWid] at h
  simp only [Option.bind_some] at h
  split at h
  · rename_i cs t fr hh
    injection h with h
    subst h
    constructor <;> (rw [cell_of_row _ _ _ _ _ _ hh]; rfl)
  · cases h

theorem of_laid {W : World} (h : laidMetH Tryd.prog laidL W) : Lay W := by
  rw [MakeChecks.laidMetH_plain _ _ _ (by kernel_rfl)] at h
  have h2 := laidMet.tail (laidMet.tail h)
  have h3 := laidMet.tail h2
  have h4 := laidMet.tail h3
  have h5 := laidMet.tail h4
  rw [tabD] at h2
  rw [tabW] at h5
  refine ⟨⟨Lib.tabIs_of_head gPow tPow Tryd.underlying128 Tryd.underlying107 cellsU cellsT h2, ?_, ?_⟩, wid_of (Lib.tabIs_of_head gWid tWid Tryd.underlying98 Tryd.underlying3 cells3 cellsW h5)⟩
  · obtain ⟨a0, s0, hv0, -, -, -⟩ := laid_sentinel h4 gSyn tSyn Tryd.underlying77 rowE Tryd.underlying136 Tryd.underlying138 rfl rfl Tryd.underlying9 cellsE cells9
    exact ⟨_, _, hv0⟩
  · obtain ⟨a0, s0, hv0, -, -, -⟩ := laid_sentinel h3 gRng tRng Tryd.underlying77 rowE Tryd.underlying136 Tryd.underlying138 rfl rfl Tryd.underlying9 cellsE cells9
    exact ⟨_, _, hv0⟩
end Go.Proofs.YtafphabeihoijaaDoor
