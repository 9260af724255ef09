import Derived.Test.YtnnpnccnpojfmaaTbM
namespace Go.Proofs.Ytnnpnccnpojfmaa
open Go.RowKit
set_option linter.unusedVariables false
/-- operations without a guard, one behind the other, that hand on values. -/
def runL (P : Program) : List Oper → Act → World → Option (Act × World)
  | [], a, w => some (a, w)
  | o :: L, a, w => match o.guard with
    | none => match (execOp a.eval o).run P w with
      | .ok (.value v) w' => runL P L (a.put o.dst v) w'
      | _ => none
    | some _ => none
theorem runL_wp {P : Program} {ops : Array Oper} {Q : Exit → Act → World → Prop} : ∀ (L : List Oper) (a : Act) (w : World) (a' : Act) (w' : World), runL P L a w = some (a', w') → Q .normal a' w' → wpList P ops Q L a w
  | [], a, w, a', w', h, hq => by
    simp only [runL, Option.some.injEq, Prod.mk.injEq] at h
    obtain ⟨rfl, rfl⟩ := h
    exact hq
  | o :: L, a, w, a', w', h, hq => by
    unfold runL at h
    split at h
    · rename_i hg
      split at h
      · rename_i v w1 hr
        refine wpList_plain hg fun K hK => ?_
        unfold Oper.wp
        rw [hr]
        exact hK _ _ (runL_wp L _ _ _ _ h hq)
      · cases h
    · cases h
/-- code without loops and calls. -/
def evC (P : Program) : Code → Act → World → Option (Exit × Act × World)
  | .skip, a, w => some (.normal, a, w)
  | .ret, a, w => some (.ret, a, w)
  | .seq x y, a, w => match evC P x a w with
    | some (.normal, a', w') => evC P y a' w'
    | _ => none
  | .region _ ops false, a, w => match runL P ops.toList a w with
    | some (a', w') => some (.normal, a', w')
    | none => none
  | _, _, _ => none
theorem evC_wp {P : Program} : ∀ (c : Code) (Q : Exit → Act → World → Prop) (a : Act) (w : World) (e : Exit) (a' : Act) (w' : World), evC P c a w = some (e, a', w') → Q e a' w' → c.wp P Q a w := by
  intro c
  induction c with
  | skip =>
    intro Q a w e a' w' h hq
    simp only [evC, Option.some.injEq, Prod.mk.injEq] at h
    obtain ⟨rfl, rfl, rfl⟩ := h
    exact wp_skip hq
  | ret =>
    intro Q a w e a' w' h hq
    simp only [evC, Option.some.injEq, Prod.mk.injEq] at h
    obtain ⟨rfl, rfl, rfl⟩ := h
    exact wp_ret hq
  | seq x y ihx ihy =>
    intro Q a w e a' w' h hq
    simp only [evC] at h
    split at h
    · rename_i a1 w1 h1
      exact wp_seq (ihx _ _ _ _ _ _ h1 (ihy _ _ _ _ _ _ h hq))
    · cases h
  | region id ops d =>
    intro Q a w e a' w' h hq
    cases d with
    | true => simp [evC] at h
    | false =>
      simp only [evC] at h
      split at h
      · rename_i a1 w1 h1
        simp only [Option.some.injEq, Prod.mk.injEq] at h
        obtain ⟨rfl, rfl, rfl⟩ := h
        exact wp_region_list (runL_wp _ _ _ _ _ h1 hq)
      · cases h
  | _ => intro Q a w e a' w' h hq; simp [evC] at h
theorem calls_ev {P : Program} {f : FuncId} {fn : Func} {c : Code} {args : Array Value} {w w' : World} {a' : Act} {v : Value} (hf : P.funcs[f]? = some fn) (hb : fn.body = some c)
    (h : evC P c { tmps := args ++ Array.replicate (fn.ntmps - args.size) undef, defers := [] } w = some (.ret, a', w')) (hd : a'.defers = []) (hr : (results fn a'.tmps).run P w' = .ok v w') :
    Calls P f args w fun e w2 => e = .returned v ∧ w2 = w' :=
  calls_of_wp hf hb (evC_wp _ _ _ _ _ _ _ h (bodyPost_ret hr hd ⟨rfl, rfl⟩))
def actOf : Option (Exit × Act × World) → Act
  | some (_, a, _) => a
  | none => { tmps := #[], defers := [] }
def codeOf (fn : Func) : Code := match fn.body with
  | some c => c
  | none => .skip
def evF (P : Program) (fn : Func) (args : Array Value) (w : World) : Option (Exit × Act × World) := evC P (codeOf fn) { tmps := args ++ Array.replicate (fn.ntmps - args.size) undef, defers := [] } w
theorem calls_evF {P : Program} {f : FuncId} {fn : Func} {args : Array Value} {w w' : World} {v : Value} (hf : P.funcs[f]? = some fn) (hb : fn.body.isSome = true)
    (h : evF P fn args w = some (.ret, actOf (evF P fn args w), w')) (hd : (actOf (evF P fn args w)).defers = []) (hr : (results fn (actOf (evF P fn args w)).tmps).run P w' = .ok v w') :
    Calls P f args w fun e w2 => e = .returned v ∧ w2 = w' := by
  have hc : fn.body = some (codeOf fn) := by
    unfold codeOf
    cases hh : fn.body with
    | none => rw [hh] at hb; cases hb
    | some c => rfl
  exact calls_ev hf hc h hd hr
end Go.Proofs.Ytnnpnccnpojfmaa
