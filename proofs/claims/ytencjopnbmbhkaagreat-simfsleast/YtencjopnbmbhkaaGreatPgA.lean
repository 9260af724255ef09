import Derived.Test.YtencjopnbmbhkaaGreatMD
namespace Go.Proofs.YtencjopnbmbhkaaGreat
open Go.RowKit Go.Maps
set_option linter.unusedVariables false
set_option linter.unusedSimpArgs false
def spl (cur : Array Value) (o : Nat) (vs : List Value) : Array Value := (cur.toList.take o ++ (vs ++ cur.toList.drop (o + vs.length))).toArray
theorem spl_size (cur : Array Value) (o : Nat) (vs : List Value) (h : o + vs.length ≤ cur.size) : (spl cur o vs).size = cur.size := by
  unfold spl; simp; omega
theorem spl_nil (cur : Array Value) (o : Nat) : spl cur o [] = cur := by unfold spl; simp
theorem take_set_one {l : List Value} {o : Nat} {v : Value} (h : o < l.length) : (l.set o v).take (o + 1) = l.take o ++ [v] := by
  rw [List.take_add_one, List.getElem?_set_self h, List.take_set_of_le (Nat.le_refl o)]; rfl
theorem spl_cons (cur : Array Value) (o : Nat) (v : Value) (vs : List Value) (h : o + (vs.length + 1) ≤ cur.size) : spl (cur.setIfInBounds o v) (o + 1) vs = spl cur o (v :: vs) := by
  unfold spl
  congr 1
  have ho : o < cur.toList.length := by simp; omega
  rw [Array.toList_setIfInBounds, take_set_one ho, List.drop_set_of_lt (by omega)]
  simp [Nat.add_assoc, Nat.add_comm 1]
theorem heap_cells (E T : Nat) : ∀ (vs : List Value) (o : Nat) (w : World) (cur : Array Value), w.heap[E]? = some (.cells cur T) → o + vs.length ≤ cur.size → (w.setCells E o vs).heap[E]? = some (.cells (spl cur o vs) T)
  | [], o, w, cur, h, _ => by rw [spl_nil]; exact h
  | v :: r, o, w, cur, h, hl => by
    simp only [List.length_cons] at hl
    rw [World.setCells, heap_cells E T r (o + 1) _ _ (heap_setCell_same _ _ _ _ _ _ h) (by simp; omega), spl_cons cur o v r (by omega)]
theorem grown_cells (E : Nat) : ∀ (vs : List Value) (o : Nat) (w : World), w.grownBy (w.setCells E o vs) (some E)
  | [], _, w => World.grownBy.refl w _
  | v :: r, o, w => by
    have ih := grown_cells E r (o + 1) (w.setCell ⟨E, o, none⟩ v)
    refine ⟨ih.os, ih.tape, ih.output, by have := ih.size; rw [World.size_setCell] at this; exact this, fun k hk hne => ?_⟩
    rw [World.setCells]
    rw [ih.block k (by rw [World.size_setCell]; exact hk) hne]
    exact heap_setCell_other _ _ _ _ (fun e => hne (by rw [e]))
theorem grown_trans {a b c : World} {r : Option Nat} (h1 : a.grownBy b r) (h2 : b.grownBy c r) : a.grownBy c r :=
  ⟨h2.os.trans h1.os, h2.tape.trans h1.tape, h2.output.trans h1.output, Nat.le_trans h1.size h2.size, fun k hk hne => (h2.block k (Nat.lt_of_lt_of_le hk h1.size) hne).trans (h1.block k hk hne)⟩
theorem grown_drew (w : World) (r : Option Nat) : w.grownBy w.drew r := ⟨rfl, rfl, rfl, Nat.le_refl _, fun _ _ _ => rfl⟩
theorem grown_wide {w w' : World} {r : Option Nat} (h : w.grownBy w' none) : w.grownBy w' r := ⟨h.os, h.tape, h.output, h.size, fun k hk _ => h.block k hk (by simp)⟩
theorem spl_take (cur : Array Value) (o k : Nat) (vs : List Value) (hk : k ≤ o) (ho : o ≤ cur.size) : (spl cur o vs).toList.take k = cur.toList.take k := by
  unfold spl
  rw [List.toList_toArray, List.take_append_of_le_length (by simp; omega), List.take_take]; congr 1; omega
/-- a node as the program has it: its bytes, how many, large. -/
theorem grown_only (E : Nat) : ∀ (vs : List Value) (o : Nat) (w : World), Only w (w.setCells E o vs) E
  | [], o, w => Only.refl _ _
  | v :: vs, o, w => ((Only.refl w E).set o v).trans (grown_only E vs (o + 1) _)
theorem szP : (Tryz.prog.info? 81).map (·.size) = some 3 := by kernel_rfl
theorem ldP {ops : Array Oper} {rest : List Oper} {op : Oper} {a : Act} {w : World} {Q : Exit → Act → World → Prop} (r o : Nat) (a0 a1 a2 : Value) (x : Operand) (hg : op.guard = none) (ho : op.op = .load 81 x) (hx : a.eval x = .pointer (some ⟨r, o, none⟩)) (h0 : w.cell? ⟨r, o, none⟩ = some a0) (h1 : w.cell? ⟨r, o + 1, none⟩ = some a1) (h2 : w.cell? ⟨r, o + 2, none⟩ = some a2) (h : wpList Tryz.prog ops Q rest (a.put op.dst (.agg #[a0, a1, a2])) w) : wpList Tryz.prog ops Q (op :: rest) a w := by
  refine wpList_load_mid hg _ x ho r o hx [a0, a1, a2] _ (fun j v hv => ?_) Tryz.underlying81 rfl szP h
  rcases j with _ | _ | _ | j
  · simp at hv; subst hv; exact h0
  · simp at hv; subst hv; exact h1
  · simp at hv; subst hv; exact h2
  · simp at hv
theorem stP {ops : Array Oper} {rest : List Oper} {op : Oper} {a : Act} {w : World} {Q : Exit → Act → World → Prop} (hg : op.guard = none) (x y : Operand) (ho : op.op = .store 81 x y) (r o : Nat) (a0 a1 a2 : Value) (cur : Array Value) (hx : a.eval x = .pointer (some ⟨r, o, none⟩)) (hy : a.eval y = .agg #[a0, a1, a2]) (h1 : a0.oneCell' = true ∧ a1.oneCell' = true ∧ a2.oneCell' = true) (hr : w.heap[r]? = some (.cells cur 81)) (hs : o + 3 ≤ cur.size) (h : ∀ W, W.heap[r]? = some (.cells (spl cur o [a0, a1, a2]) 81) → Only w W r → wpList Tryz.prog ops Q rest (a.put op.dst undef) W) : wpList Tryz.prog ops Q (op :: rest) a w := by
  refine wpList_store_mid hg 81 x y ho r o #[a0, a1, a2] hx hy ?_ szP (by simp [h1.1, h1.2.1, h1.2.2]) ?_
  · intro j hj
    refine ⟨?_, frozen_of_row _ _ _ _ _ hr⟩
    rw [cell_of_row _ _ _ _ _ _ hr]
    have hj' : j < 3 := hj
    simp; omega
  exact h _ (heap_cells r _ [a0, a1, a2] o w cur hr (by simpa using hs)) (grown_only r _ o w)
def DueNo (w : World) (e : Ending) (w' : World) : Prop := e = .returned (.tuple #[.agg #[.int .i64 0, .bool false, .nilFunc], .bool false]) ∧ Below w.heap.size w w'
theorem fsC7 {W : World} {g : Nat} {a0 a1 a2 a3 a4 a5 a6 : Value} (h : W.heap[g]? = some (.cells #[a0, a1, a2, a3, a4, a5, a6] 60)) : W.cell? ⟨g, 0, none⟩ = some a0 ∧ W.cell? ⟨g, 1, none⟩ = some a1 ∧ W.cell? ⟨g, 2, none⟩ = some a2 ∧ W.cell? ⟨g, 3, none⟩ = some a3 ∧ W.cell? ⟨g, 4, none⟩ = some a4 ∧ W.cell? ⟨g, 5, none⟩ = some a5 ∧ W.cell? ⟨g, 6, none⟩ = some a6 ∧ ∀ j, W.frozen? ⟨g, j, none⟩ = false := by
  refine ⟨?_, ?_, ?_, ?_, ?_, ?_, ?_, fun j => frozen_of_row _ _ _ _ _ h⟩ <;> (rw [cell_of_row _ _ _ _ _ _ h]; rfl)
theorem row3 {W : World} {g T : Nat} {a0 a1 a2 : Value} (h : W.heap[g]? = some (.cells #[a0, a1, a2] T)) : W.cell? ⟨g, 0, none⟩ = some a0 ∧ W.cell? ⟨g, 1, none⟩ = some a1 ∧ W.cell? ⟨g, 2, none⟩ = some a2 ∧ ∀ j, W.frozen? ⟨g, j, none⟩ = false := by
  refine ⟨?_, ?_, ?_, fun j => frozen_of_row _ _ _ _ _ h⟩ <;> (rw [cell_of_row _ _ _ _ _ _ h]; rfl)
set_option maxHeartbeats 4000000 in
set_option maxRecDepth 100000 in
theorem due_none (g : Nat) (a0 a2 a3 a4 a5 : Value) (s : Nat) (P : Option Addr) (c : Nat) (w : World) (h : w.heap[g]? = some (.cells #[a0, .int .i64 (s : Int), a2, a3, a4, a5, .slice P 0 c] 60)) :
    Calls Tryz.prog 100 #[ptr (some g)] w fun e w' => DueNo w e w' := by
  obtain ⟨R, hR⟩ : ∃ R, w.heap.size = R := ⟨_, rfl⟩
  obtain ⟨W0, hW0⟩ : ∃ W0, w.alloc (.cells #[.int .i64 0, .bool false, .nilFunc] 81) = W0 := ⟨_, rfl⟩
  have hb0 : Below R w W0 := by rw [← hW0]; exact (Below.refl _ _).alloc (by omega) _
  have hr0 : W0.heap[R]? = some (.cells #[.int .i64 0, .bool false, .nilFunc] 81) := by rw [← hW0, ← hR]; exact one_alloc _ _
  have hg0 := (hb0.block g (by rw [← hR]; exact row_lt h)).trans h
  obtain ⟨_, c1, _, _, _, _, c6, _⟩ := fsC7 hg0
  obtain ⟨r0, r1, r2, rf⟩ := row3 hr0
  have HB : Hid (Below R w W0) := hb0
  have HR : Hid (w.heap.size = R) := hR
  have HR0 : Hid (W0.heap[R]? = some (.cells #[.int .i64 0, .bool false, .nilFunc] 81)) := hr0
  clear h hg0 hb0 hr0 r0 r1 r2 rf
  unfold ptr
  go_enter Tryz.func100, Tryz.ntmps100
  go_upto_region 1 with fail
  go_quiet (fail)
  obtain ⟨W1, hW1⟩ : ∃ W1, W0.drewN nq = W1 := ⟨_, rfl⟩
  have hr1 : W1.heap[R]? = some (.cells #[.int .i64 0, .bool false, .nilFunc] 81) := by rw [← hW1]; exact HR0.out
  have hb1 : Below R w W1 := by rw [← hW1]; exact below_dn HB.out _
  rw [hW1]
  obtain ⟨r0, r1, r2, rf⟩ := row3 hr1
  have f0 := rf 0
  have f1 := rf 1
  have f2 := rf 2
  have HB1 : Hid (Below R w W1) := hb1
  have HR1 : Hid (W1.heap[R]? = some (.cells #[.int .i64 0, .bool false, .nilFunc] 81)) := hr1
  clear hW1 hr1 hb1 hR rf c1 c6 hW0
  go_wp2_with (refine stP rfl _ _ rfl R 0 (.int .i64 0) (.bool false) .nilFunc #[.int .i64 0, .bool false, .nilFunc] rfl rfl ⟨rfl, rfl, rfl⟩ HR1.out (by simp) ?_; intro W2 hr2 ho2; clear r0 r1 r2 f0 f1 f2)
  have hr3 : W2.heap[R]? = some (.cells #[.int .i64 0, .bool false, .nilFunc] 81) := hr2
  obtain ⟨r0, r1, r2, rf⟩ := row3 hr3
  refine bodyPost_ret (v := .tuple #[.agg #[.int .i64 0, .bool false, .nilFunc], .bool false]) (by simp [results, Tryz.results100, go_sem, r0, r1, r2]) rfl ⟨rfl, ?_⟩
  rw [HR.out]
  exact HB1.out.trans (ho2.below (Nat.le_refl _))
theorem fl_cons (q : Pq) (l : List Pq) : plnE.fl (q :: l) = [.int .i64 (q.s : Int), .bool q.c, meetV q] ++ plnE.fl l := by
  unfold ET.fl; rw [List.flatMap_cons]; rfl
def DueYes (w : World) (g : Nat) (a0 a2 a3 a4 a5 : Value) (s : Nat) (qv : Value) (q : Pq) (l : List Pq) (e : Ending) (w' : World) : Prop := e = .returned (.tuple #[.agg #[.int .i64 (q.s : Int), .bool q.c, meetV q], .bool true]) ∧ ∃ qv', w'.heap[g]? = some (.cells #[a0, .int .i64 (s : Int), a2, a3, a4, a5, qv'] 60) ∧ PRow w' qv' l ∧ (∀ k, qv'.ownBlock = some k → qv.ownBlock = some k) ∧ ModP (fun k => k = g ∨ qv.ownBlock = some k) w w'
set_option maxHeartbeats 4000000 in
set_option maxRecDepth 100000 in
theorem due_other (g : Nat) (a0 a2 a3 a4 a5 : Value) (s : Nat) (hs : s ≤ 4611686018427387904) (qv : Value) (q : Pq) (l : List Pq) (hq : q.s ≠ s) (hl : l.length ≤ 2199023255552) (w : World) (hp : PRow w qv (q :: l)) (h : w.heap[g]? = some (.cells #[a0, .int .i64 (s : Int), a2, a3, a4, a5, qv] 60)) :
    Calls Tryz.prog 100 #[ptr (some g)] w fun e w' => DueNo w e w' := by
  rcases hp with ⟨_, hp⟩ | ⟨E, o, c, cur, rfl, hE, hcs, hlc, hoc, hcell⟩
  · cases hp
  obtain ⟨R, hR⟩ : ∃ R, w.heap.size = R := ⟨_, rfl⟩
  obtain ⟨W0, hW0⟩ : ∃ W0, w.alloc (.cells #[.int .i64 0, .bool false, .nilFunc] 81) = W0 := ⟨_, rfl⟩
  have hb0 : Below R w W0 := by rw [← hW0]; exact (Below.refl _ _).alloc (by omega) _
  have hr0 : W0.heap[R]? = some (.cells #[.int .i64 0, .bool false, .nilFunc] 81) := by rw [← hW0, ← hR]; exact one_alloc _ _
  have hg0 := (hb0.block g (by rw [← hR]; exact row_lt h)).trans h
  have hE0 := (hb0.block E (by rw [← hR]; exact row_lt hE)).trans hE
  obtain ⟨_, c1, _, _, _, _, c6, _⟩ := fsC7 hg0
  have e0 : W0.cell? ⟨E, o * 3, none⟩ = some (.int .i64 (q.s : Int)) := by
    rw [cell_of_row _ _ _ _ _ _ hE0]
    exact hcell 0 _ (by rw [fl_cons]; rfl)
  have hln : (q :: l).length = l.length + 1 := rfl
  obtain ⟨n, hn⟩ : ∃ n, (q :: l).length = n := ⟨_, rfl⟩
  rw [hn] at c6
  have hn0 : ¬ (n : Int) = 0 := by omega
  have hn1 : (0 : Int) < (n : Int) := by omega
  have hn2 : ((n : Int) == 0) = false := by simp; omega
  have hne : ((q.s : Int) == (s : Int)) = false := by simp; omega
  have hne' : ¬ (q.s : Int) = (s : Int) := by omega
  have HB : Hid (Below R w W0) := hb0
  have HR : Hid (w.heap.size = R) := hR
  have HR0 : Hid (W0.heap[R]? = some (.cells #[.int .i64 0, .bool false, .nilFunc] 81)) := hr0
  clear h hg0 hb0 hr0 hE hE0 hcell hcs hlc hn hln hq
  unfold ptr
  go_enter Tryz.func100, Tryz.ntmps100
  go_upto_region 1 with fail
  go_quiet (fail)
  obtain ⟨W1, hW1⟩ : ∃ W1, W0.drewN nq = W1 := ⟨_, rfl⟩
  have hr1 : W1.heap[R]? = some (.cells #[.int .i64 0, .bool false, .nilFunc] 81) := by rw [← hW1]; exact HR0.out
  have hb1 : Below R w W1 := by rw [← hW1]; exact below_dn HB.out _
  rw [hW1]
  have HB1 : Hid (Below R w W1) := hb1
  have HR1 : Hid (W1.heap[R]? = some (.cells #[.int .i64 0, .bool false, .nilFunc] 81)) := hr1
  clear hW1 hr1 hb1 hR c1 c6 hW0
  go_wp2_with (refine stP rfl _ _ rfl R 0 (.int .i64 0) (.bool false) .nilFunc #[.int .i64 0, .bool false, .nilFunc] rfl rfl ⟨rfl, rfl, rfl⟩ HR1.out (by simp) ?_; intro W2 hr2 ho2)
  have hr3 : W2.heap[R]? = some (.cells #[.int .i64 0, .bool false, .nilFunc] 81) := hr2
  obtain ⟨r0, r1, r2, rf⟩ := row3 hr3
  refine bodyPost_ret (v := .tuple #[.agg #[.int .i64 0, .bool false, .nilFunc], .bool false]) (by simp [results, Tryz.results100, go_sem, r0, r1, r2]) rfl ⟨rfl, ?_⟩
  rw [HR.out]
  exact HB1.out.trans (ho2.below (Nat.le_refl _))
end Go.Proofs.YtencjopnbmbhkaaGreat
