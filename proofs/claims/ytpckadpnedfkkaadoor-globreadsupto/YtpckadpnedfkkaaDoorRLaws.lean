import Derived.Test.YtpckadpnedfkkaaDoorRSetM
import Derived.Deep.Cut
import Derived.Deep.WholeRow
namespace Go.Proofs.YtpckadpnedfkkaaDoor
open Go.RowKit Gb
set_option linter.unusedVariables false
/-- the cells of a step of the document's: Any, Set, One, In. -/
def sc (a b : Bool) (c : UInt8) (f : UInt8 → Bool) : Array Value := #[.bool a, .bool b, .int .u8 (c.toNat : Int)] ++ bt f
def Z51 : Array Value := sc false false 0 (fun _ => false)
theorem infoT : (Tryd.prog.info? 51).map (fun i => (i.zero, i.size)) = some (some (.agg Z51), 259) := by kernel_rfl
theorem sc_size (a b : Bool) (c : UInt8) (f : UInt8 → Bool) : (sc a b c f).size = 259 := by unfold sc; rw [Array.size_append, bt_size]; rfl
theorem sc_one (a b : Bool) (c : UInt8) (f : UInt8 → Bool) : (sc a b c f).all (·.oneCell') = true := by
  unfold sc
  rw [Array.all_append, bt_one, Bool.and_true]; simp [Value.oneCell']
theorem wpList_build_at {P : Program} {w : World} {ops : Array Oper} {rest : List Oper} {o : Oper} {a : Act} {Q : Exit → Act → World → Prop}
    (hg : o.guard = none) (t : TypeId) (v : Value) (hop : o.op = Op.build t #[]) (hrun : (Instr.build t #[]).run P w = .ok v w)
    (hK : wpList P ops Q rest (a.put o.dst v) w) : wpList P ops Q (o :: rest) a w := by
  refine wpList_plain hg fun K hK' => ?_
  unfold Oper.wp
  simp [execOp, hop, hrun, Result.andThen]
  exact hK' _ _ hK
theorem wpList_load_at {P : Program} {w : World} {ops : Array Oper} {rest : List Oper} {o : Oper} {a : Act} {Q : Exit → Act → World → Prop}
    (hg : o.guard = none) (t : TypeId) (p : Operand) (v x : Value) (hop : o.op = Op.load t p) (hp : a.eval p = v) (hrun : (Instr.loadAt t v).run P w = .ok x w)
    (hK : wpList P ops Q rest (a.put o.dst x) w) : wpList P ops Q (o :: rest) a w := by
  refine wpList_plain hg fun K hK' => ?_
  unfold Oper.wp
  simp [execOp, hop, hp, hrun, Result.andThen]
  exact hK' _ _ hK
theorem wpList_store_at {P : Program} {w w' : World} {ops : Array Oper} {rest : List Oper} {o : Oper} {a : Act} {Q : Exit → Act → World → Prop}
    (hg : o.guard = none) (t : TypeId) (p q : Operand) (v x : Value) (hop : o.op = Op.store t p q) (hp : a.eval p = v) (hq : a.eval q = x) (hrun : (Instr.storeAt t v x).run P w = .ok () w')
    (hK : wpList P ops Q rest (a.put o.dst undef) w') : wpList P ops Q (o :: rest) a w := by
  refine wpList_plain hg fun K hK' => ?_
  unfold Oper.wp
  simp [execOp, hop, hp, hq, hrun, Result.andThen]
  rw [Oper.upon_skip]
  exact hK' _ _ hK
theorem build_zero (w : World) : (Instr.build 51 #[]).run Tryd.prog w = .ok (.agg Z51) w := by
  obtain ⟨hzv, _⟩ := zero_of_info infoT
  unfold Instr.build
  simp only [Sem.run_bind, hzv, Result.andThen]
  simp [run_underlying Tryd.underlying51, Value.cells, Instr.fill, Sem.run_bind, Result.andThen]
end Go.Proofs.YtpckadpnedfkkaaDoor
