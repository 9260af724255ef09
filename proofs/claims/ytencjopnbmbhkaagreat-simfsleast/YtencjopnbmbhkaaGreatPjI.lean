import Derived.Test.YtencjopnbmbhkaaGreatPjG
import Derived.Test.YtencjopnbmbhkaaGreatPjH
namespace Go.Proofs.YtencjopnbmbhkaaGreat
open Go.RowKit Go.Maps
set_option linter.unusedVariables false
set_option linter.unusedSimpArgs false
/-- slices.Insert of one plan. -/
theorem insP_any (X i vc : Nat) (p : Pq) (qv : Value) (l : List Pq) (hl : l.length ≤ 2199023255552) (w : World) (h : PRow w qv l) (hi : i ≤ l.length) (hX : w.heap[X]? = some (.cells #[.int .i64 (p.s : Int), .bool p.c, meetV p] 81)) (hXE : qv.ownBlock ≠ some X) :
    Calls Tryz.prog 85 #[qv, .int .i64 (i : Int), .slice (some ⟨X, 0, none⟩) 1 vc] w fun r w' => InsP w qv (l.take i ++ p :: l.drop i) r w' := by
  rcases h.px with ⟨rfl, rfl⟩ | ⟨E, o, c, rfl, hB⟩
  · have : i = 0 := by simpa using hi
    subst this
    exact insE_nil X vc p w hX
  · by_cases he : i = l.length
    · subst he
      rw [ins_all]
      by_cases hr : l.length + 1 ≤ c
      · exact insE_fit X vc p E o c l w hB hl hr hX
      · exact insE_grow X vc p E o c l w hB hl (by omega) hX
    · by_cases hr : l.length + 1 ≤ c
      · exact ins_shift X i vc p E o c l hl w hB (by omega) hX (fun e => hXE (by rw [e]; rfl)) hr
      · exact ins_grow X i vc p E o c l hl w hB (by omega) hX (by omega)
theorem step_stP {ops : Array Oper} {op : Oper} {a : Act} {w : World} {K : Act → World → Prop} {Q : Exit → Act → World → Prop} {E0 : Prop} (hg : op.guard = none) (x y : Operand) (ho : op.op = .store 81 x y) (r o : Nat) (a0 a1 a2 : Value) (cur : Array Value) (hx : a.eval x = .pointer (some ⟨r, o, none⟩)) (hy : a.eval y = .agg #[a0, a1, a2]) (h1 : a0.oneCell' = true ∧ a1.oneCell' = true ∧ a2.oneCell' = true) (hr : w.heap[r]? = some (.cells cur 81)) (hs : o + 3 ≤ cur.size) (h : ∀ W, W.heap[r]? = some (.cells (spl cur o [a0, a1, a2]) 81) → Only w W r → K (a.put op.dst undef) W) : if Region.wanted op (yielded ops a.tmps) = true then Oper.wp Tryz.prog op a w K Q else E0 := by
  have hw : Region.wanted op (yielded ops a.tmps) = true := by simp [Region.wanted, hg]
  rw [if_pos hw]
  refine wp_store_mid 81 x y ho r o #[a0, a1, a2] hx hy ?_ szP (by simp [h1.1, h1.2.1, h1.2.2]) ?_
  · intro j hj
    refine ⟨?_, frozen_of_row _ _ _ _ _ hr⟩
    rw [cell_of_row _ _ _ _ _ _ hr]
    have hj' : j < 3 := hj
    simp; omega
  exact h _ (heap_cells r _ [a0, a1, a2] o w cur hr (by simpa using hs)) (grown_only r _ o w)
/-- one is put in another's place. -/
theorem PX.set {W : World} {E o c : Nat} {l : List Pq} {p : Pq} {cur : Array Value} {i : Nat} (hi : i < l.length) (hc : l.length ≤ c) (hm : o + c ≤ 9223372036854775807) (hs : (o + c) * 3 ≤ cur.size) (h3 : ∀ j u, (plnE.fl l)[j]? = some u → cur[o * 3 + j]? = some u)
    (hW : W.heap[E]? = some (.cells (spl cur (o * 3 + i * 3) (plnE.enc p)) 81)) : PX W E o c (l.set i p) := by
  have hp : (plnE.enc p).length = 3 := rfl
  have hz : (o * 3 + i * 3) + (plnE.enc p).length ≤ cur.size := by rw [hp]; omega
  refine ⟨⟨_, hW, by rw [spl_size _ _ _ hz]; exact hs, fun j u hj => ?_⟩, by simpa using hc, hm⟩
  have hset : l.set i p = l.take i ++ p :: l.drop (i + 1) := by
    rw [List.set_eq_take_append_cons_drop, if_pos hi]
  have hf : plnE.fl (l.set i p) = plnE.fl (l.take i) ++ (plnE.enc p ++ plnE.fl (l.drop (i + 1))) := by rw [hset, flq_app, fl_cons]; rfl
  have ht : (plnE.fl (l.take i)).length = i * 3 := by rw [flq_len, List.length_take]; congr 1; omega
  rw [hf, List.getElem?_append, ht] at hj
  rw [spl_get _ _ _ _ hz, hp]
  by_cases h1 : j < i * 3
  · rw [if_pos h1, flq_take l i (by omega), List.getElem?_take_of_lt h1] at hj
    rw [if_pos (by omega)]
    exact h3 j u hj
  · rw [if_neg h1, List.getElem?_append, hp] at hj
    by_cases h2 : j - i * 3 < 3
    · rw [if_pos h2] at hj
      rw [if_neg (by omega), if_pos (by omega), ← hj]
      congr 1; omega
    · rw [if_neg h2, flq_drop l (i + 1) (by omega), List.getElem?_drop] at hj
      rw [if_neg (by omega), if_neg (by omega)]
      have := h3 _ u hj
      rw [← this]; congr 1; omega
/-- What lay does. -/
def LayL (qs : List Pq) (p : Pq) (qs' : List Pq) : Prop := ∃ i, Plc qs p i ∧ ((∃ h : i < qs.length, qs[i].s = p.s ∧ qs[i].c = p.c ∧ qs' = qs.set i p) ∨ ((¬ ∃ h : i < qs.length, qs[i].s = p.s ∧ qs[i].c = p.c) ∧ qs' = qs.take i ++ p :: qs.drop i))
def LayP (w : World) (g : Nat) (a0 a1 a2 a3 a4 a5 qv : Value) (qs : List Pq) (p : Pq) (e : Ending) (w' : World) : Prop := e = .returned (.tuple #[]) ∧ ∃ qv' qs', LayL qs p qs' ∧ w'.heap[g]? = some (.cells #[a0, a1, a2, a3, a4, a5, qv'] 60) ∧ PRow w' qv' qs' ∧ (∀ k, qv'.ownBlock = some k → qv.ownBlock = some k ∨ w.heap.size ≤ k) ∧ ModP (fun k => k = g ∨ qv.ownBlock = some k) w w'
end Go.Proofs.YtencjopnbmbhkaaGreat
