import Derived.Test.YtiefeeoellagnaaGreatDoorRows
import Derived.JoinedOf
import Derived.SevenTiedAt
import Derived.KernelRfl
import Derived.Carry
namespace Go.Proofs.YtiefeeoellagnaaGreatDoor
open Go
set_option maxRecDepth 100000
theorem goes_at {P:Program} (h:P.funcs.any Func.goes=false) (g:Nat):(P.funcs[g]?).any Func.goes=false:=by
  cases hg:P.funcs[g]? with
  | none=>rfl
  | some fn =>
    have hm:fn ∈ P.funcs:=Array.mem_of_getElem? hg
    have:=(Array.any_eq_false'.1 h) fn hm
    simpa using this
theorem goes_none {P:Program} (h:P.funcs.any Func.goes=false) (f:FuncId):P.goes f=false:=by
  unfold Program.goes
  rw [h,Bool.and_false,Bool.or_false,List.any_eq_false]
  intro g _
  rw [goes_at h g]
  decide
theorem goesBy_none {P:Program} (h:P.funcs.any Func.goes=false) (c:OpenClaim) (hs:c.start=.entering):false=c.goesBy P:=by
  unfold OpenClaim.goesBy Program.goesAt Program.goesFrom
  rw [hs]
  cases P.funcNamed c.func with
  | none=>rfl
  | some f=>simp [goes_none h f]
theorem cd_funcs:Tryz.prog.funcs.any Func.goes=false:=by kernel_rfl
theorem cd_goes:false=Rows.valueTextsRow.goesBy Tryz.prog:=goesBy_none cd_funcs Rows.valueTextsRow rfl
end Go.Proofs.YtiefeeoellagnaaGreatDoor
