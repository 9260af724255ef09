import Derived.Test.YtiefeeoellagnaaGreatDoorRows
import Derived.LaidByTextLater
import Derived.SevenTiedAt
import Derived.LaidSub
import Derived.LaidOnce
namespace Go.Proofs.YtiefeeoellagnaaGreatDoor
open Go
set_option maxRecDepth 100000
abbrev laidO:List (String × DataW Unit):=[("cistern/listpack.widths",Rows.laid_cistern_listpack_widths),("strconv.ErrSyntax",Rows.laid_strconv_ErrSyntax),("strconv.ErrRange",Rows.laid_strconv_ErrRange),("internal/strconv.uint64pow10",Rows.laid_internal_strconv_uint64pow10),("math/bits.deBruijn32tab",Rows.laid_math_bits_deBruijn32tab),("math/bits.deBruijn64tab",Rows.laid_math_bits_deBruijn64tab)]
theorem noOwnUnsafe:Tryz.pinned.checked.prog.headLifts.contains "ownunsafe"=false:=by kernel_rfl
theorem t_hw:Tryz.prog.worded (varsWordLater true)=true:=by kernel_rfl
theorem t_hx:Tryz.prog.worded (varsWordLater !true)=false:=by kernel_rfl
theorem t_root:Tryz.prog.worded rootWordLater=true:=by kernel_rfl
theorem t_kind:laidO.map (fun x=>Tryz.prog.kindOfLater x.1)=[LaidKind.data,.sentinel,.sentinel,.data,.data,.data].map some:=by kernel_rfl
theorem t_vars:(Tryz.prog.funcNamed "gosem.cut.vars").isSome=true:=by kernel_rfl
theorem t_named:varsNamedLaterB Tryz.prog (varsId Tryz.prog) laidO=true:=by kernel_rfl
theorem t_run:∀ os tape,doorLeaves Tryz.prog 72 8 65 laidO os tape=some (laidO.filter fun x=>x.2.handleName?.isNone,(funcsListed laidO).map (·.2.funcsOut)):=fun _ _=>by kernel_rfl
theorem tie:Tryz.prog.laidByTextLater laidO [.data,.sentinel,.sentinel,.data,.data,.data] true:=Program.laidByTextLater_by_one 72 8 65 t_hw t_hx t_root t_kind t_vars t_named t_run
theorem valueTexts_row_tie:Rows.valueTextsRow.laidByTextAt .later Tryz.pinned [.data,.sentinel,.sentinel,.data,.data,.data] true:=OpenClaim.laidByTextAt_later rfl rfl tie noOwnUnsafe
end Go.Proofs.YtiefeeoellagnaaGreatDoor
