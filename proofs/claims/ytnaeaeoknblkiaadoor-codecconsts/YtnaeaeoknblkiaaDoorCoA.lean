import Derived.Test.YtnaeaeoknblkiaaDoorRow
import Derived.Deep.MidRow
namespace Go.Proofs.YtnaeaeoknblkiaaDoor
open Go.RowKit
set_option linter.unusedVariables false
set_option linter.unusedSimpArgs false
/-- The rows of the table. -/
def rowC : Nat → Array Value
  | 0 => #[.int .i64 0, .int .i64 1, .string ⟨#[]⟩, .int .i64 0, .bool false, .bool false]
  | 1 => #[.int .i64 2, .int .i64 3, .string ⟨#[104, 97, 115, 104, 116, 97, 98, 108, 101]⟩, .int .i64 1, .bool false, .bool false]
  | 2 => #[.int .i64 3, .int .i64 4, .string ⟨#[115, 107, 105, 112, 108, 105, 115, 116]⟩, .int .i64 2, .bool false, .bool false]
  | 3 => #[.int .i64 4, .int .i64 5, .string ⟨#[104, 97, 115, 104, 116, 97, 98, 108, 101]⟩, .int .i64 2, .bool false, .bool false]
  | 4 => #[.int .i64 11, .int .i64 3, .string ⟨#[105, 110, 116, 115, 101, 116]⟩, .int .i64 0, .bool true, .bool false]
  | 5 => #[.int .i64 16, .int .i64 5, .string ⟨#[108, 105, 115, 116, 112, 97, 99, 107]⟩, .int .i64 0, .bool true, .bool false]
  | 6 => #[.int .i64 17, .int .i64 4, .string ⟨#[108, 105, 115, 116, 112, 97, 99, 107]⟩, .int .i64 0, .bool true, .bool false]
  | 7 => #[.int .i64 18, .int .i64 2, .string ⟨#[]⟩, .int .i64 1, .bool true, .bool true]
  | 8 => #[.int .i64 20, .int .i64 3, .string ⟨#[108, 105, 115, 116, 112, 97, 99, 107]⟩, .int .i64 0, .bool true, .bool false]
  | _ => #[]
def Lc : Array Value := #[.int .i64 0, .int .i64 1, .string ⟨#[]⟩, .int .i64 0, .bool false, .bool false, .int .i64 2, .int .i64 3, .string ⟨#[104, 97, 115, 104, 116, 97, 98, 108, 101]⟩, .int .i64 1, .bool false, .bool false, .int .i64 3, .int .i64 4, .string ⟨#[115, 107, 105, 112, 108, 105, 115, 116]⟩, .int .i64 2, .bool false, .bool false, .int .i64 4, .int .i64 5, .string ⟨#[104, 97, 115, 104, 116, 97, 98, 108, 101]⟩, .int .i64 2, .bool false, .bool false, .int .i64 11, .int .i64 3, .string ⟨#[105, 110, 116, 115, 101, 116]⟩, .int .i64 0, .bool true, .bool false, .int .i64 16, .int .i64 5, .string ⟨#[108, 105, 115, 116, 112, 97, 99, 107]⟩, .int .i64 0, .bool true, .bool false, .int .i64 17, .int .i64 4, .string ⟨#[108, 105, 115, 116, 112, 97, 99, 107]⟩, .int .i64 0, .bool true, .bool false, .int .i64 18, .int .i64 2, .string ⟨#[]⟩, .int .i64 1, .bool true, .bool true, .int .i64 20, .int .i64 3, .string ⟨#[108, 105, 115, 116, 112, 97, 99, 107]⟩, .int .i64 0, .bool true, .bool false]
def typL : List Int := [0, 2, 3, 4, 11, 16, 17, 18, 20]
def kinL : List Int := [1, 3, 4, 5, 3, 5, 4, 2, 3]
/-- The kind of a type. -/
def kindFrom : List Int → List Int → Int → Int
  | t :: ts, k :: ks, x => if t = x then k else kindFrom ts ks x
  | _, _, _ => 0
def kindF (x : Int) : Int := kindFrom typL kinL x
def typAt (i : Nat) : Int := typL.getD i 0
def kinAt (i : Nat) : Int := kinL.getD i 0
theorem kind_at (i : Nat) (hi : i < 9) (x : Int) (h : ∀ k, k < i → typAt k ≠ x) (he : typAt i = x) : kindF x = kinAt i := by
  have h0 := h 0
  have h1 := h 1
  have h2 := h 2
  have h3 := h 3
  have h4 := h 4
  have h5 := h 5
  have h6 := h 6
  have h7 := h 7
  simp only [typAt, typL, List.getD_cons_zero, List.getD_cons_succ] at h0 h1 h2 h3 h4 h5 h6 h7
  match i, hi with
  | 0, _ =>
    simp only [typAt, typL, List.getD_cons_zero, List.getD_cons_succ] at he
    subst he
    rfl
  | 1, _ =>
    simp only [typAt, typL, List.getD_cons_zero, List.getD_cons_succ] at he
    subst he
    rfl
  | 2, _ =>
    simp only [typAt, typL, List.getD_cons_zero, List.getD_cons_succ] at he
    subst he
    rfl
  | 3, _ =>
    simp only [typAt, typL, List.getD_cons_zero, List.getD_cons_succ] at he
    subst he
    rfl
  | 4, _ =>
    simp only [typAt, typL, List.getD_cons_zero, List.getD_cons_succ] at he
    subst he
    rfl
  | 5, _ =>
    simp only [typAt, typL, List.getD_cons_zero, List.getD_cons_succ] at he
    subst he
    rfl
  | 6, _ =>
    simp only [typAt, typL, List.getD_cons_zero, List.getD_cons_succ] at he
    subst he
    rfl
  | 7, _ =>
    simp only [typAt, typL, List.getD_cons_zero, List.getD_cons_succ] at he
    subst he
    rfl
  | 8, _ =>
    simp only [typAt, typL, List.getD_cons_zero, List.getD_cons_succ] at he
    subst he
    rfl
theorem kind_none (x : Int) (h : ∀ k, k < 9 → typAt k ≠ x) : kindF x = 0 := by
  have h0 := h 0 (by omega)
  have h1 := h 1 (by omega)
  have h2 := h 2 (by omega)
  have h3 := h 3 (by omega)
  have h4 := h 4 (by omega)
  have h5 := h 5 (by omega)
  have h6 := h 6 (by omega)
  have h7 := h 7 (by omega)
  have h8 := h 8 (by omega)
  simp only [typAt, typL, List.getD_cons_zero, List.getD_cons_succ] at h0 h1 h2 h3 h4 h5 h6 h7 h8
  unfold kindF typL kinL
  simp only [kindFrom]
  rw [if_neg h0, if_neg h1, if_neg h2, if_neg h3, if_neg h4, if_neg h5, if_neg h6, if_neg h7, if_neg h8]
theorem rowC_size (i : Nat) (hi : i < 9) : (rowC i).size = 6 := by
  match i, hi with
  | 0, _ => rfl
  | 1, _ => rfl
  | 2, _ => rfl
  | 3, _ => rfl
  | 4, _ => rfl
  | 5, _ => rfl
  | 6, _ => rfl
  | 7, _ => rfl
  | 8, _ => rfl
theorem ro0 : (rowC 0).all (·.oneCell') = true := by kernel_rfl
theorem ro1 : (rowC 1).all (·.oneCell') = true := by kernel_rfl
theorem ro2 : (rowC 2).all (·.oneCell') = true := by kernel_rfl
theorem ro3 : (rowC 3).all (·.oneCell') = true := by kernel_rfl
theorem ro4 : (rowC 4).all (·.oneCell') = true := by kernel_rfl
theorem ro5 : (rowC 5).all (·.oneCell') = true := by kernel_rfl
theorem ro6 : (rowC 6).all (·.oneCell') = true := by kernel_rfl
theorem ro7 : (rowC 7).all (·.oneCell') = true := by kernel_rfl
theorem ro8 : (rowC 8).all (·.oneCell') = true := by kernel_rfl
theorem rowC_one (i : Nat) (hi : i < 9) : (rowC i).all (·.oneCell') = true := by
  match i, hi with
  | 0, _ => exact ro0
  | 1, _ => exact ro1
  | 2, _ => exact ro2
  | 3, _ => exact ro3
  | 4, _ => exact ro4
  | 5, _ => exact ro5
  | 6, _ => exact ro6
  | 7, _ => exact ro7
  | 8, _ => exact ro8
theorem rowC_typ (i : Nat) (hi : i < 9) : (rowC i)[0]? = some (.int .i64 (typAt i)) ∧ (rowC i)[1]? = some (.int .i64 (kinAt i)) := by
  match i, hi with
  | 0, _ => exact ⟨rfl, rfl⟩
  | 1, _ => exact ⟨rfl, rfl⟩
  | 2, _ => exact ⟨rfl, rfl⟩
  | 3, _ => exact ⟨rfl, rfl⟩
  | 4, _ => exact ⟨rfl, rfl⟩
  | 5, _ => exact ⟨rfl, rfl⟩
  | 6, _ => exact ⟨rfl, rfl⟩
  | 7, _ => exact ⟨rfl, rfl⟩
  | 8, _ => exact ⟨rfl, rfl⟩
/-- The table in memory. -/
def Lay (w : World) : Prop := ∀ (j : Nat) (v : Value), Lc.toList[j]? = some v → w.cell? ⟨0, j, none⟩ = some v
theorem Lay.on {w w' : World} (h : Lay w) (hb : Below w.heap.size w w') : Lay w' := fun j v hv => cell_on (h j v hv) hb
theorem szL : (Tryd.prog.info? 36).map (·.size) = some 54 := by kernel_rfl
theorem szR : (Tryd.prog.info? 27).map (·.size) = some 6 := by kernel_rfl
theorem cellC {w : World} {r T : Nat} {C : Array Value} (h : w.heap[r]? = some (.cells C T)) (j : Nat) : w.cell? ⟨r, j, none⟩ = C[j]? := by rw [cell_of_row _ _ _ _ _ _ h]
theorem ldL {ops : Array Oper} {rest : List Oper} {op : Oper} {a : Act} {w : World} {Q : Exit → Act → World → Prop} (L : Array Value) (hL : L = Lc) (x : Operand) (hg : op.guard = none) (ho : op.op = .load 36 x) (hx : a.eval x = .pointer (some ⟨0, 0, none⟩)) (hc : Lay w) (h : wpList Tryd.prog ops Q rest (a.put op.dst (.agg L)) w) : wpList Tryd.prog ops Q (op :: rest) a w := by
  subst hL
  refine wpList_load_mid hg _ x ho _ 0 hx Lc.toList _ (fun j v hv => by rw [Nat.zero_add]; exact hc j v hv) Tryd.underlying36 rfl szL ?_
  rw [Array.toArray_toList]
  exact h
theorem ldR {ops : Array Oper} {rest : List Oper} {op : Oper} {a : Act} {w : World} {Q : Exit → Act → World → Prop} (C : Array Value) (r : Nat) (x : Operand) (hg : op.guard = none) (ho : op.op = .load 27 x) (hx : a.eval x = .pointer (some ⟨r, 0, none⟩)) (hc : w.heap[r]? = some (.cells C 27)) (h6 : C.size = 6) (h : wpList Tryd.prog ops Q rest (a.put op.dst (.agg C)) w) : wpList Tryd.prog ops Q (op :: rest) a w := by
  refine wpList_load_mid hg _ x ho r 0 hx C.toList _ (fun j v hv => by rw [cellC hc, Nat.zero_add]; simpa using hv) Tryd.underlying27 rfl (by rw [Array.length_toList, h6]; exact szR) ?_
  rw [Array.toArray_toList]
  exact h
theorem setCellsP (g T : Nat) : ∀ (vs : List Value) (pre old : List Value) (w : World), old.length = vs.length → w.heap[g]? = some (.cells (pre ++ old).toArray T) → (w.setCells g pre.length vs).heap[g]? = some (.cells (pre ++ vs).toArray T) ∧ Only w (w.setCells g pre.length vs) g := by
  intro vs
  induction vs with
  | nil =>
    intro pre old w hl h
    have : old = [] := List.eq_nil_of_length_eq_zero hl
    subst this
    exact ⟨by simpa [World.setCells] using h, Only.refl _ _⟩
  | cons v vs ih =>
    intro pre old w hl h
    cases old with
    | nil => simp at hl
    | cons o old =>
      have h1 : (w.setCell ⟨g, pre.length, none⟩ v).heap[g]? = some (.cells ((pre ++ [v]) ++ old).toArray T) := by
        rw [heap_setCell_same _ _ _ _ _ _ h]
        simp
      have h2 := ih (pre ++ [v]) old _ (by simpa using hl) h1
      rw [List.length_append] at h2
      refine ⟨?_, ?_⟩
      · have := h2.1
        simpa [World.setCells] using this
      · have := h2.2
        have h3 : Only w (w.setCell ⟨g, pre.length, none⟩ v) g := (Only.refl _ _).set _ _
        exact h3.trans (by simpa [World.setCells] using this)
theorem stR {ops : Array Oper} {rest : List Oper} {op : Oper} {a : Act} {w : World} {Q : Exit → Act → World → Prop} (hg : op.guard = none) (x y : Operand) (ho : op.op = .store 27 x y) (g : Nat) (C Z : Array Value) (hx : a.eval x = .pointer (some ⟨g, 0, none⟩)) (hy : a.eval y = .agg C) (h6 : C.size = 6) (h1 : C.all (·.oneCell') = true) (hZ : Z.size = 6) (hr : w.heap[g]? = some (.cells Z 27)) (h : ∀ W, W.heap[g]? = some (.cells C 27) → Only w W g → wpList Tryd.prog ops Q rest (a.put op.dst undef) W) : wpList Tryd.prog ops Q (op :: rest) a w := by
  refine wpList_store_mid hg 27 x y ho g 0 C hx hy ?_ (by rw [h6]; exact szR) h1 ?_
  · intro j hj
    rw [h6] at hj
    refine ⟨?_, frozen_of_row _ _ _ _ _ hr⟩
    rw [cell_of_row _ _ _ _ _ _ hr]
    simp; omega
  have h3 := setCellsP g 27 C.toList [] Z.toList w (by simp [h6, hZ]) (by simpa using hr)
  rw [List.length_nil] at h3
  simp only [List.nil_append, Array.toArray_toList] at h3
  exact h _ h3.1 h3.2
def zR : Array Value := #[.int .i64 0, .int .i64 0, .string ByteArray.empty, .int .i64 0, .bool false, .bool false]
theorem alR {ops : Array Oper} {rest : List Oper} {op : Oper} {a : Act} {w : World} {Q : Exit → Act → World → Prop} (hg : op.guard = none) (ho : op.op = .alloc 27) (Z : Array Value) (hZ : Z = zR) (h : wpList Tryd.prog ops Q rest (a.put op.dst (.pointer (some ⟨w.heap.size, 0, none⟩))) (w.alloc (.cells Z 27))) : wpList Tryd.prog ops Q (op :: rest) a w := by
  subst hZ
  refine wpList_plain hg fun K hK => ?_
  unfold Oper.wp
  have : (execOp a.eval op).run Tryd.prog w = .ok (.value (.pointer (some ⟨w.heap.size, 0, none⟩))) (w.alloc (.cells zR 27)) := by
    unfold execOp
    rw [ho]
    kernel_rfl
  rw [this]
  exact hK _ _ h
theorem ix0 (w : World) : (Instr.index 36 (.agg Lc) (.int .i64 0)).run Tryd.prog w = .ok (.agg (rowC 0)) w := by kernel_rfl
theorem ix1 (w : World) : (Instr.index 36 (.agg Lc) (.int .i64 1)).run Tryd.prog w = .ok (.agg (rowC 1)) w := by kernel_rfl
theorem ix2 (w : World) : (Instr.index 36 (.agg Lc) (.int .i64 2)).run Tryd.prog w = .ok (.agg (rowC 2)) w := by kernel_rfl
theorem ix3 (w : World) : (Instr.index 36 (.agg Lc) (.int .i64 3)).run Tryd.prog w = .ok (.agg (rowC 3)) w := by kernel_rfl
theorem ix4 (w : World) : (Instr.index 36 (.agg Lc) (.int .i64 4)).run Tryd.prog w = .ok (.agg (rowC 4)) w := by kernel_rfl
theorem ix5 (w : World) : (Instr.index 36 (.agg Lc) (.int .i64 5)).run Tryd.prog w = .ok (.agg (rowC 5)) w := by kernel_rfl
theorem ix6 (w : World) : (Instr.index 36 (.agg Lc) (.int .i64 6)).run Tryd.prog w = .ok (.agg (rowC 6)) w := by kernel_rfl
theorem ix7 (w : World) : (Instr.index 36 (.agg Lc) (.int .i64 7)).run Tryd.prog w = .ok (.agg (rowC 7)) w := by kernel_rfl
theorem ix8 (w : World) : (Instr.index 36 (.agg Lc) (.int .i64 8)).run Tryd.prog w = .ok (.agg (rowC 8)) w := by kernel_rfl
theorem ix_run (i : Nat) (hi : i < 9) (w : World) : (Instr.index 36 (.agg Lc) (.int .i64 (i : Int))).run Tryd.prog w = .ok (.agg (rowC i)) w := by
  match i, hi with
  | 0, _ => exact ix0 w
  | 1, _ => exact ix1 w
  | 2, _ => exact ix2 w
  | 3, _ => exact ix3 w
  | 4, _ => exact ix4 w
  | 5, _ => exact ix5 w
  | 6, _ => exact ix6 w
  | 7, _ => exact ix7 w
  | 8, _ => exact ix8 w
theorem ixR {ops : Array Oper} {rest : List Oper} {op : Oper} {a : Act} {w : World} {Q : Exit → Act → World → Prop} (L : Array Value) (hL : L = Lc) (i : Nat) (hi : i < 9) (C : Array Value) (hC : C = rowC i) (x y : Operand) (hg : op.guard = none) (ho : op.op = .index 36 x y) (hx : a.eval x = .agg L) (hy : a.eval y = .int .i64 (i : Int)) (h : wpList Tryd.prog ops Q rest (a.put op.dst (.agg C)) w) : wpList Tryd.prog ops Q (op :: rest) a w := by
  subst hL
  subst hC
  refine wpList_plain hg fun K hK => ?_
  unfold Oper.wp
  simp only [execOp, ho, hx, hy, Sem.run_bind, ix_run i hi, Result.andThen_ok, Sem.run_pure]
  exact hK _ _ h
end Go.Proofs.YtnaeaeoknblkiaaDoor
