import Derived.Test.YtnnpnccnpojfmaaEv
namespace Go.Proofs.Ytnnpnccnpojfmaa
open Go.RowKit
set_option linter.unusedVariables false
set_option linter.unusedSimpArgs false
def regA : Code → Array Oper
  | .seq (.region _ o _) _ => o
  | _ => #[]
def regB : Code → Array Oper
  | .seq _ (.seq (.region _ o _) _) => o
  | _ => #[]
def bv (r : Rw) : Value := .agg (TB.cells r).toArray
def bop (i : Nat) (r : Rw) : Oper := { dst := some (i + 1), op := .build 53 #[(0, .const (.string r.nm)), (1, .const (.int .i64 r.le)), (2, .const (.int .i64 r.mo)), (3, .const (.string ⟨#[r.wh]⟩)), (4, .const (.int .i64 r.fi)), (5, .const (.int .i64 r.la)), (6, .const (.int .i64 r.st)), (7, .const (.int .i64 r.co))], type := 53, pos := "ref.go:26", after := #[], guard := none }
theorem run_bop (i : Nat) (r : Rw) (a : Act) (w : World) : (execOp a.eval (bop i r)).run Try.prog w = .ok (.value (bv r)) w := by kernel_rfl
def putsB : Nat → List Rw → Act → Act
  | _, [], a => a
  | k, r :: T, a => putsB (k + 1) T (a.put (some (k + 1)) (bv r))
def bopsB : Nat → List Rw → List Oper
  | _, [] => []
  | k, r :: T => bop k r :: bopsB (k + 1) T
theorem wp_bops {ops : Array Oper} {Q : Exit → Act → World → Prop} : ∀ (T : List Rw) (k : Nat) (tail : List Oper) (a : Act) (w : World), wpList Try.prog ops Q tail (putsB k T a) w → wpList Try.prog ops Q (bopsB k T ++ tail) a w
  | [], k, tail, a, w, h => h
  | r :: T, k, tail, a, w, h => by
    refine wpList_plain rfl fun K hK => ?_
    unfold Oper.wp
    rw [run_bop]
    exact hK _ _ (wp_bops T (k + 1) tail _ w h)
theorem putsB_size : ∀ (T : List Rw) (k : Nat) (a : Act), (putsB k T a).tmps.size = a.tmps.size ∧ (putsB k T a).defers = a.defers
  | [], k, a => ⟨rfl, rfl⟩
  | r :: T, k, a => by
    obtain ⟨h1, h2⟩ := putsB_size T (k + 1) (a.put (some (k + 1)) (bv r))
    exact ⟨by unfold putsB; rw [h1]; simp [Act.put], by unfold putsB; rw [h2]; rfl⟩
theorem putsB_old : ∀ (T : List Rw) (k : Nat) (a : Act) (m : Nat), m ≤ k → (putsB k T a).tmps.getD m undef = a.tmps.getD m undef
  | [], k, a, m, h => rfl
  | r :: T, k, a, m, h => by
    unfold putsB
    rw [putsB_old T (k + 1) _ m (by omega)]
    simp only [Act.put, Array.getD_eq_getD_getElem?, Array.getElem?_setIfInBounds]
    rw [if_neg (by omega)]
theorem putsB_new : ∀ (T : List Rw) (k : Nat) (a : Act) (j : Nat) (hj : j < T.length), k + T.length < a.tmps.size → (putsB k T a).tmps.getD (k + 1 + j) undef = bv T[j]
  | r :: T, k, a, 0, hj, h => by
    unfold putsB
    rw [putsB_old T (k + 1) _ (k + 1 + 0) (by omega)]
    simp only [List.length_cons] at h
    simp only [Act.put, Array.getD_eq_getD_getElem?, Array.getElem?_setIfInBounds, Nat.add_zero]
    rw [if_pos trivial, if_pos (show k + 1 < a.tmps.size from by omega)]
    rfl
  | r :: T, k, a, j + 1, hj, h => by
    unfold putsB
    simp only [List.length_cons] at h hj
    have := putsB_new T (k + 1) (a.put (some (k + 1)) (bv r)) j (by omega) (by simp [Act.put]; omega)
    rw [show k + 1 + (j + 1) = k + 1 + 1 + j from by omega, this]
    rfl
/-- the parts of a list of rows. -/
def partsB : Nat → List Rw → List (Nat × Value)
  | _, [] => []
  | k, r :: T => (k, bv r) :: partsB (k + 1) T
theorem set_at_len (pre : List Value) (x y : Value) (suf : List Value) (n : Nat) (hn : n = pre.length) : (pre ++ x :: suf).set n y = pre ++ y :: suf := by
  subst hn
  rw [List.set_append_right _ _ (Nat.le_refl _)]
  simp
theorem fill_one (r : Rw) (pre suf : List Value) (k : Nat) (hp : pre.length = k * 8) (x0 x1 x2 x3 x4 x5 x6 x7 : Value) :
    (bv r).cells.zipIdx.foldl (fun cs (c, j) => cs.setIfInBounds (k * 8 + j) c) (pre ++ x0 :: x1 :: x2 :: x3 :: x4 :: x5 :: x6 :: x7 :: suf).toArray = (pre ++ TB.cells r ++ suf).toArray := by
  have e : (bv r).cells.zipIdx = #[(Value.string r.nm, 0), (.int .i64 r.le, 1), (.int .i64 r.mo, 2), (.string ⟨#[r.wh]⟩, 3), (.int .i64 r.fi, 4), (.int .i64 r.la, 5), (.int .i64 r.st, 6), (.int .i64 r.co, 7)] := by kernel_rfl
  rw [e]
  simp only [List.foldl_toArray', List.foldl_cons, List.foldl_nil, List.setIfInBounds_toArray, List.size_toArray, List.length_cons, List.length_nil]
  have s0 := set_at_len pre x0 (.string r.nm) (x1 :: x2 :: x3 :: x4 :: x5 :: x6 :: x7 :: suf) (k * 8 + 0) (by omega)
  have s1 := set_at_len (pre ++ [.string r.nm]) x1 (.int .i64 r.le) (x2 :: x3 :: x4 :: x5 :: x6 :: x7 :: suf) (k * 8 + 1) (by simp; omega)
  have s2 := set_at_len (pre ++ [.string r.nm, .int .i64 r.le]) x2 (.int .i64 r.mo) (x3 :: x4 :: x5 :: x6 :: x7 :: suf) (k * 8 + 2) (by simp; omega)
  have s3 := set_at_len (pre ++ [.string r.nm, .int .i64 r.le, .int .i64 r.mo]) x3 (.string ⟨#[r.wh]⟩) (x4 :: x5 :: x6 :: x7 :: suf) (k * 8 + 3) (by simp; omega)
  have s4 := set_at_len (pre ++ [.string r.nm, .int .i64 r.le, .int .i64 r.mo, .string ⟨#[r.wh]⟩]) x4 (.int .i64 r.fi) (x5 :: x6 :: x7 :: suf) (k * 8 + 4) (by simp; omega)
  have s5 := set_at_len (pre ++ [.string r.nm, .int .i64 r.le, .int .i64 r.mo, .string ⟨#[r.wh]⟩, .int .i64 r.fi]) x5 (.int .i64 r.la) (x6 :: x7 :: suf) (k * 8 + 5) (by simp; omega)
  have s6 := set_at_len (pre ++ [.string r.nm, .int .i64 r.le, .int .i64 r.mo, .string ⟨#[r.wh]⟩, .int .i64 r.fi, .int .i64 r.la]) x6 (.int .i64 r.st) (x7 :: suf) (k * 8 + 6) (by simp; omega)
  have s7 := set_at_len (pre ++ [.string r.nm, .int .i64 r.le, .int .i64 r.mo, .string ⟨#[r.wh]⟩, .int .i64 r.fi, .int .i64 r.la, .int .i64 r.st]) x7 (.int .i64 r.co) suf (k * 8 + 7) (by simp; omega)
  simp only [List.append_assoc, List.cons_append, List.nil_append] at s0 s1 s2 s3 s4 s5 s6 s7
  rw [s0, s1, s2, s3, s4, s5, s6, s7]
  simp [TB.cells]
theorem fill_rows : ∀ (T : List Rw) (k : Nat) (pre suf : List Value), pre.length = k * 8 → suf.length = T.length * 8 → Instr.fill (fun i => some (i * 8, 8)) (pre ++ suf).toArray (partsB k T) = some (pre ++ T.flatMap TB.cells).toArray
  | [], k, pre, suf, hp, hs => by
    have : suf = [] := List.eq_nil_of_length_eq_zero (by simpa using hs)
    subst this
    simp [partsB, Instr.fill]
  | r :: T, k, pre, suf, hp, hs => by
    rcases suf with _ | ⟨x0, _ | ⟨x1, _ | ⟨x2, _ | ⟨x3, _ | ⟨x4, _ | ⟨x5, _ | ⟨x6, _ | ⟨x7, suf⟩⟩⟩⟩⟩⟩⟩⟩ <;> simp only [List.length_cons, List.length_nil] at hs <;> try omega
    unfold partsB Instr.fill
    have hsz : (bv r).cells.size = 8 := by kernel_rfl
    simp only [hsz]
    rw [if_neg (by simp; omega), fill_one r pre suf k hp, fill_rows T (k + 1) (pre ++ TB.cells r) suf (by rw [List.length_append, TB.cells_len]; omega) (by omega)]
    simp [List.flatMap_cons]
theorem fill_tab (base : Array Value) (hb : base.size = 1288) : Instr.fill (fun i => some (i * 8, 8)) base (partsB 0 TB.tab) = some TB.tabCells.toArray := by
  have := fill_rows TB.tab 0 [] base.toList rfl (by rw [TB.tab_len]; simpa using hb)
  simpa [TB.tabCells] using this
theorem parts_eval (f : Operand → Value) : ∀ (T : List Rw) (k : Nat), (∀ j (hj : j < T.length), f (.tmp (k + 1 + j)) = bv T[j]) → (List.range' k T.length).map (fun i => (i, f (.tmp (i + 1)))) = partsB k T
  | [], k, h => rfl
  | r :: T, k, h => by
    rw [List.length_cons, List.range'_succ, List.map_cons]
    unfold partsB
    rw [show k + 1 = k + 1 + 0 from rfl, h 0 (by simp)]
    congr 1
    exact parts_eval f T (k + 1) (fun j hj => by
      have := h (j + 1) (by simp; omega)
      rw [show k + 1 + 1 + j = k + 1 + (j + 1) from by omega, this]
      rfl)
set_option maxRecDepth 100000 in
theorem rows_code : Try.f31.body = some (.seq (.region 0 (regA (codeOf Try.f31)) false) (.seq (.region 1 (regB (codeOf Try.f31)) false) .ret)) := by kernel_rfl
set_option maxRecDepth 100000 in
theorem rows_take : (regB (codeOf Try.f31)).toList.take 161 = bopsB 0 TB.tab := by kernel_rfl
theorem rows_len : (regB (codeOf Try.f31)).toList.length = 163 := by kernel_rfl
theorem rows_slop : ((regB (codeOf Try.f31)).toList[161]?).map (fun o => (o.op, o.dst, o.guard)) = some (.buildSlice 50 161 ((List.range' 0 161).map fun i => (i, Operand.tmp (i + 1))).toArray, some 162, none) := by kernel_rfl
theorem rows_last : ((regB (codeOf Try.f31)).toList[162]?).map (fun o => (o.op, o.dst, o.guard)) = some (.assign (.tmp 162), some 0, none) := by kernel_rfl
theorem rows_first : (regA (codeOf Try.f31)).toList.map (fun o => (o.op, o.dst, o.guard)) = [(.assign (.const (.slice none 0 0)), some 0, none)] := by kernel_rfl
theorem list_two {L : List Oper} (n : Nat) (hl : L.length = n + 2) : ∃ o1 o2, L[n]? = some o1 ∧ L[n + 1]? = some o2 ∧ L = L.take n ++ [o1, o2] := by
  refine ⟨L[n], L[n + 1], List.getElem?_eq_getElem _, List.getElem?_eq_getElem _, ?_⟩
  conv => lhs; rw [← List.take_append_drop n L]
  rw [List.drop_eq_getElem_cons (by omega), List.drop_eq_getElem_cons (by omega), List.drop_eq_nil_of_le (by omega)]
def zrow : Array Value := #[.string ⟨#[]⟩, .int .i64 0, .int .i64 0, .string ⟨#[]⟩, .int .i64 0, .int .i64 0, .int .i64 0, .int .i64 0]
theorem run_z1 (w : World) : (zeroValue 53).run Try.prog w = .ok (.agg zrow) w := by kernel_rfl
theorem run_z2 (w : World) : (sizeOf 53).run Try.prog w = .ok 8 w := by kernel_rfl
theorem run_z3 (w : World) : (underlying 50).run Try.prog w = .ok (.slice 53) w := by kernel_rfl
theorem run_z4 (w : World) (X : Array Value) : (newRow 53 X).run Try.prog w = .ok ⟨w.heap.size, 0, none⟩ (w.alloc (.cells X 53)) := by kernel_rfl
theorem run_slice (parts : Array (Nat × Value)) (X : Array Value) (hf : ∀ base : Array Value, base.size = 1288 → Instr.fill (fun i => some (i * 8, 8)) base parts.toList = some X) (w : World) : (Instr.buildSlice 50 161 parts).run Try.prog w = .ok (.slice (some ⟨w.heap.size, 0, none⟩) 161 161) (w.alloc (.cells X 53)) := by
  unfold Instr.buildSlice
  rw [Sem.run_bind, run_z3, Result.andThen_ok]
  dsimp only
  rw [Sem.run_bind, run_z2, Result.andThen_ok]
  rw [if_neg (by decide), if_neg (by decide), Sem.run_bind, run_z1, Result.andThen_ok, Sem.run_bind, Sem.run_pure, Result.andThen_ok]
  rw [hf _ (by rw [Array.size_map, Array.size_range])]
  dsimp only
  rw [Sem.run_bind, run_z4, Result.andThen_ok, Sem.run_pure]
theorem exec_slice (ρ : Operand → Value) (o : Oper) (t n : Nat) (parts : Array (Nat × Operand)) (ho : o.op = .buildSlice t n parts) (w w' : World) (v : Value) (h : (Instr.buildSlice t n (parts.map fun (i, x) => (i, ρ x))).run Try.prog w = .ok v w') : (execOp ρ o).run Try.prog w = .ok (.value v) w' := by
  unfold execOp
  rw [ho]
  dsimp only
  rw [Sem.run_bind, h, Result.andThen_ok, Sem.run_pure]
theorem exec_assign (ρ : Operand → Value) (o : Oper) (x : Operand) (ho : o.op = .assign x) (w : World) : (execOp ρ o).run Try.prog w = .ok (.value (ρ x)) w := by
  unfold execOp
  rw [ho]
  rfl
theorem rows_of (tb : List Rw) (htb : tb.length = 161) (X : Array Value) (hft : ∀ base : Array Value, base.size = 1288 → Instr.fill (fun i => some (i * 8, 8)) base (partsB 0 tb) = some X) (fn : Func) (O O1 : Array Oper) (hf : Try.prog.funcs[31]? = some fn) (hb : fn.body = some (.seq (.region 0 O false) (.seq (.region 1 O1 false) .ret))) (hn : fn.ntmps = 163) (hres : fn.results = #[.tmp 0])
    (hOf : O.toList.map (fun o => (o.op, o.dst, o.guard)) = [(.assign (.const (.slice none 0 0)), some 0, none)]) (hlen : O1.toList.length = 163) (htake : O1.toList.take 161 = bopsB 0 tb)
    (e1 : (O1.toList[161]?).map (fun o => (o.op, o.dst, o.guard)) = some (.buildSlice 50 161 ((List.range' 0 161).map fun i => (i, Operand.tmp (i + 1))).toArray, some 162, none))
    (e2 : (O1.toList[162]?).map (fun o => (o.op, o.dst, o.guard)) = some (.assign (.tmp 162), some 0, none)) (w : World) : Calls Try.prog 31 #[] w fun e w' => e = .returned (.slice (some ⟨w.heap.size, 0, none⟩) 161 161) ∧ w' = w.alloc (.cells X 53) := by
  refine calls_of_wp hf hb ?_
  obtain ⟨o1, o2, h1, h2, hL⟩ := list_two (L := O1.toList) 161 hlen
  rw [h1] at e1
  rw [h2] at e2
  simp only [Option.map_some, Option.some.injEq, Prod.mk.injEq] at e1 e2
  obtain ⟨e1, d1, g1⟩ := e1
  obtain ⟨e2, d2, g2⟩ := e2
  obtain ⟨a0, ha0⟩ : ∃ a : Act, a = { tmps := (#[] : Array Value) ++ Array.replicate (fn.ntmps - (#[] : Array Value).size) undef, defers := [] } := ⟨_, rfl⟩
  have hs0 : a0.tmps.size = 163 := by rw [ha0, hn]; simp
  have hd0 : a0.defers = [] := by rw [ha0]
  rw [← ha0]
  clear ha0
  obtain ⟨o0, hl0⟩ : ∃ o0, O.toList = [o0] := by
    match hh : O.toList with
    | [] => rw [hh] at hOf; simp at hOf
    | [o0] => exact ⟨o0, rfl⟩
    | a :: b :: c => rw [hh] at hOf; simp at hOf
  rw [hl0] at hOf
  simp only [List.map_cons, List.map_nil, List.cons.injEq, Prod.mk.injEq, and_true] at hOf
  obtain ⟨e0, d0, g0⟩ := hOf
  refine wp_seq (wp_region_list ?_)
  rw [hl0]
  refine wpList_plain g0 fun K hK => ?_
  unfold Oper.wp
  have r0 : (execOp a0.eval o0).run Try.prog w = .ok (.value (.slice none 0 0)) w := exec_assign _ _ _ e0 w
  rw [r0]
  refine hK _ _ ?_
  obtain ⟨a1, ha1⟩ : ∃ a1, a1 = a0.put o0.dst (.slice none 0 0) := ⟨_, rfl⟩
  have hs1 : a1.tmps.size = 163 := by rw [ha1, d0]; simpa [Act.put] using hs0
  have hd1 : a1.defers = [] := by rw [ha1, d0]; exact hd0
  rw [← ha1]
  refine wpList_nil ?_
  refine wp_seq (wp_region_list ?_)
  rw [hL, htake]
  refine wp_bops tb 0 [o1, o2] a1 w ?_
  obtain ⟨a2, ha2⟩ : ∃ a2, a2 = putsB 0 tb a1 := ⟨_, rfl⟩
  have hs2 : a2.tmps.size = 163 := by rw [ha2, (putsB_size _ _ _).1, hs1]
  have hd2 : a2.defers = [] := by rw [ha2, (putsB_size _ _ _).2, hd1]
  have hv2 : ∀ j (hj : j < tb.length), a2.eval (.tmp (0 + 1 + j)) = bv tb[j] := fun j hj => by
    rw [ha2]; exact putsB_new tb 0 a1 j hj (by rw [htb, hs1]; omega)
  rw [← ha2]
  have hpl := parts_eval a2.eval tb 0 hv2
  rw [htb] at hpl
  refine wpList_plain g1 fun K2 hK2 => ?_
  unfold Oper.wp
  have r1 : (execOp a2.eval o1).run Try.prog w = .ok (.value (.slice (some ⟨w.heap.size, 0, none⟩) 161 161)) (w.alloc (.cells X 53)) :=
    exec_slice _ _ _ _ _ e1 _ _ _ (run_slice _ X (fun base hb => by rw [List.map_toArray, List.map_map, show (List.map ((fun (p : Nat × Operand) => (p.1, a2.eval p.2)) ∘ fun i => (i, Operand.tmp (i + 1))) (List.range' 0 161)) = _ from hpl]; exact hft base hb) w)
  rw [r1]
  refine hK2 _ _ ?_
  refine wpList_plain g2 fun K3 hK3 => ?_
  unfold Oper.wp
  have r2 : (execOp (a2.put o1.dst (.slice (some ⟨w.heap.size, 0, none⟩) 161 161)).eval o2).run Try.prog (w.alloc (.cells X 53)) = .ok (.value (.slice (some ⟨w.heap.size, 0, none⟩) 161 161)) (w.alloc (.cells X 53)) := by
    rw [exec_assign _ _ _ e2, d1]
    congr 2
    simp [Act.eval, Act.put, hs2]
  rw [r2]
  refine hK3 _ _ ?_
  refine wpList_nil ?_
  refine wp_ret ?_
  refine bodyPost_ret (v := .slice (some ⟨w.heap.size, 0, none⟩) 161 161) ?_ ?_ ⟨rfl, rfl⟩
  · rw [d2, d1]
    simp [results, hres, go_sem, Act.put, hs2]
  · rw [d2, d1]; exact hd2
theorem rows_any (w : World) : Calls Try.prog 31 #[] w fun e w' => e = .returned (.slice (some ⟨w.heap.size, 0, none⟩) 161 161) ∧ w' = w.alloc (.cells TB.tabCells.toArray 53) :=
  rows_of TB.tab TB.tab_len TB.tabCells.toArray fill_tab Try.f31 _ _ Try.func31 rows_code (by kernel_rfl) (by kernel_rfl) rows_first rows_len rows_take rows_slop rows_last w
end Go.Proofs.Ytnnpnccnpojfmaa
