import Derived.Test.YtiefeeoellagnaaGreatDoorAC
import Derived.Test.YtiefeeoellagnaaGreatDoorTieO
import Derived.Test.YtiefeeoellagnaaGreatDoorCards
import Derived.ProofKit
import Derived.LaidMore
import Derived.OpenShut
import Derived.ShutString
import Derived.SizedLaws
import Derived.Stop.Joined
import Derived.Stop.LaidErr
import Derived.Lib.LaidTab
import Derived.SevenTiedAt
namespace Go.Proofs.YtiefeeoellagnaaGreatDoor
open Go.RowKit Vi
set_option linter.unusedVariables false

def laidL:List (String × DataW Unit):=[("cistern/listpack.widths",Rows.laid_cistern_listpack_widths),("strconv.ErrSyntax",Rows.laid_strconv_ErrSyntax),("strconv.ErrRange",Rows.laid_strconv_ErrRange),("internal/strconv.uint64pow10",Rows.laid_internal_strconv_uint64pow10),("math/bits.deBruijn32tab",Rows.laid_math_bits_deBruijn32tab),("math/bits.deBruijn64tab",Rows.laid_math_bits_deBruijn64tab)]
theorem own:ownKnob Tryz.prog.godebug=none:=by kernel_rfl
theorem gPow:Tryz.prog.globalNamed "internal/strconv.uint64pow10"=some 5:=by kernel_rfl
theorem gSyn:Tryz.prog.globalNamed "strconv.ErrSyntax"=some 3:=by kernel_rfl
theorem gRng:Tryz.prog.globalNamed "strconv.ErrRange"=some 4:=by kernel_rfl
theorem gWid:Tryz.prog.globalNamed "cistern/listpack.widths"=some 1:=by kernel_rfl
theorem tPow:(Tryz.prog.globals[5]?).map (·.type)=some 575:=by kernel_rfl
theorem tSyn:(Tryz.prog.globals[3]?).map (·.type)=some 305:=by kernel_rfl
theorem tRng:(Tryz.prog.globals[4]?).map (·.type)=some 305:=by kernel_rfl
theorem tWid:(Tryz.prog.globals[1]?).map (·.type)=some 501:=by kernel_rfl
theorem cellsE:Tryz.prog.cellsOf 573=1:=by kernel_rfl
theorem cells9:Tryz.prog.cellsOf 9=1:=by kernel_rfl
theorem cells3:Tryz.prog.cellsOf 3=1:=by kernel_rfl
theorem cellsU:Tryz.prog.cellsOf 302=1:=by kernel_rfl
theorem cellsT:Tryz.prog.cellsOf 575=20:=by kernel_rfl
theorem cellsW:Tryz.prog.cellsOf 501=4:=by kernel_rfl
theorem star: "*" ++ "errors.errorString"= "*errors.errorString":=by decide
theorem rowE (u:TypeId) (h:Tryz.prog.typeName? 3 u=some "*errors.errorString"):u=571:=
  typeName_ptr_named (nm:= "errors.errorString") (by rw [star]; kernel_rfl) (by kernel_rfl) (by decide) u (by rw [star]; exact h)
theorem tabD:(Rows.laid_internal_strconv_uint64pow10:DataW Unit)=Lib.tabData .u64 Lib.pow10Tab:=by rfl
theorem tabW:(Rows.laid_cistern_listpack_widths:DataW Unit)=Lib.tabData .i64 [2,3,4,8]:=by rfl

set_option maxRecDepth 100000 in
theorem door_met (os:Os) (args:Array Value):laidMetH Tryz.prog laidL ((World.doorLaid Tryz.prog 72 os).forCall (fun _ _=>0) ⟨#[],args,[]⟩).memory:=
  laidMetH_of_parts3 (fuel:=8) (laidMet_of_run' 8 (by kernel_rfl) (by kernel_rfl)) (by kernel_rfl) (by kernel_rfl)

theorem wid_of {W:World} (h:Lib.TabIs Tryz.prog W "cistern/listpack.widths" .i64 [2,3,4,8]):S6.Wid W:=by
  unfold Lib.TabIs World.var? at h
  rw [gWid] at h
  simp only [Option.bind_some] at h
  split at h
  · rename_i cs t fr hh
    injection h with h
    subst h
    constructor <;> (rw [cell_of_row _ _ _ _ _ _ hh]; rfl)
  · cases h

theorem of_laid {W:World} (h:laidMetH Tryz.prog laidL W):S6.Lay W:=by
  rw [MakeChecks.laidMetH_plain _ _ _ (by kernel_rfl)] at h
  have h1:=laidMet.tail h
  have h2:=laidMet.tail h1
  have h3:=laidMet.tail h2
  unfold laidL at h
  rw [tabW] at h
  rw [tabD] at h3
  refine ⟨⟨Lib.tabIs_of_head gPow tPow Tryz.underlying575 Tryz.underlying302 cellsU cellsT h3,?_,?_⟩,wid_of (Lib.tabIs_of_head gWid tWid Tryz.underlying501 Tryz.underlying3 cells3 cellsW h)⟩
  · obtain ⟨a0,s0,hv0,-,-,-⟩:=laid_sentinel h1 gSyn tSyn Tryz.underlying305 rowE Tryz.underlying571 Tryz.underlying573 rfl rfl Tryz.underlying9 cellsE cells9
    exact ⟨_,_,hv0⟩
  · obtain ⟨a0,s0,hv0,-,-,-⟩:=laid_sentinel h2 gRng tRng Tryz.underlying305 rowE Tryz.underlying571 Tryz.underlying573 rfl rfl Tryz.underlying9 cellsE cells9
    exact ⟨_,_,hv0⟩
end Go.Proofs.YtiefeeoellagnaaGreatDoor
