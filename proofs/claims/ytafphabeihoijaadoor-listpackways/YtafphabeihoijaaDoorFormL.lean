import Derived.Test.YtafphabeihoijaaDoorWlkB
import Derived.Test.YtafphabeihoijaaDoorWks
import Derived.Test.YtafphabeihoijaaDoorApi2
namespace Go.Proofs.YtafphabeihoijaaDoor
open Go.RowKit
set_option linter.unusedVariables false
theorem nI_nil (vs : List ByteArray) : newI [] 0 0 vs = vs.map (fun v => LM.itemOf v.data.toList) := by unfold newI; simp
theorem fI_nil (vs : List ByteArray) : fitI [] 0 0 vs ↔ ((∀ v ∈ vs, v.size ≤ 524288) ∧ vs.length ≤ 1048576 ∧ 7 + LM.bsum (vs.map (fun v => LM.itemOf v.data.toList)) ≤ 1073741824) := by
  unfold fitI; rw [nI_nil]; simp
/-- the values of items. -/
def valsOf (l : List LM.Item) : List ByteArray := l.map (fun it => strB (LM.val it))
theorem vals_len (l : List LM.Item) : (valsOf l).length = l.length := by simp [valsOf]
theorem vals_its (l : List LM.Item) (h : ∀ it ∈ l, LM.Wf it) : (valsOf l).map (fun v => LM.itemOf v.data.toList) = l := by
  unfold valsOf
  rw [List.map_map]
  conv => rhs; rw [← List.map_id l]
  refine List.map_congr_left (fun it hit => ?_)
  simp only [Function.comp, id]
  rw [strB_list, LM.itemOf_val it (h it hit)]
theorem its_vals (vs : List ByteArray) : valsOf (vs.map (fun v => LM.itemOf v.data.toList)) = vs := by
  unfold valsOf
  rw [List.map_map]
  conv => rhs; rw [← List.map_id vs]
  refine List.map_congr_left (fun v hv => ?_)
  simp only [Function.comp, id]
  rw [LM.val_itemOf]
  exact bytes_ext (strB_list _)
theorem pk_fit {p : List UInt8} {l : List LM.Item} (h : LM.Pk p l) : fitI [] 0 0 (valsOf l) := by
  rw [fI_nil, vals_its l h.wf, vals_len]
  refine ⟨fun v hv => ?_, h.len, by have := h.size; rw [h.eq, LM.build_len] at this; exact this⟩
  obtain ⟨it, hit, rfl⟩ := List.mem_map.1 hv
  rw [strB_size]; exact LM.val_len it (h.wf it hit)
theorem fit_pk {vs : List ByteArray} (h : fitI [] 0 0 vs) : LM.Pk (LM.build (newI [] 0 0 vs)) (vs.map (fun v => LM.itemOf v.data.toList)) := by
  obtain ⟨h1, h2, h3⟩ := (fI_nil vs).1 h
  refine ⟨fun it hit => ?_, by simpa using h2, by rw [nI_nil], by rw [nI_nil, LM.build_len]; exact h3⟩
  obtain ⟨v, hv, rfl⟩ := List.mem_map.1 hit
  exact LM.itemOf_wf _ (by rw [list_len]; exact h1 v hv)
theorem pk_head {p q : List UInt8} {l m : List LM.Item} (h : LM.Pk p l) (h' : LM.Pk q m) (e : p.take 4 = q.take 4) : p.length = q.length := by
  rw [← h.reads.head, ← h'.reads.head, e]
theorem pk_cut {p : List UInt8} {l : List LM.Item} (h : LM.Pk p l) (i : Nat) (hi : i < p.length) : ∀ m, ¬ LM.Pk (p.take i) m := fun m h' => by
  have h7 := h'.reads.len7
  rw [List.length_take] at h7
  have := pk_head h h' (by rw [List.take_take, show min 4 i = 4 by omega])
  rw [List.length_take] at this; omega
theorem pk_more {p r : List UInt8} {l : List LM.Item} (h : LM.Pk p l) (hr : r ≠ []) : ∀ m, ¬ LM.Pk (p ++ r) m := fun m h' => by
  have h7 := h.reads.len7
  have := pk_head h h' (by rw [List.take_append_of_le_length (by omega)])
  rw [List.length_append] at this
  exact hr (List.eq_nil_of_length_eq_zero (by omega))
/-- New of what a listpack holds. -/
theorem New_pk (p : ByteArray) (l : List LM.Item) (h : LM.Pk p.data.toList l) (v : Value) (w : World) (hv : SRow w v (valsOf l)) (hw : Lay w) :
    Calls Tryd.prog 10 #[v] w fun e w' => e = .returned (.tuple #[.string p, .int .i64 0]) ∧ Below w.heap.size w w' := by
  have hl := h.len
  have hf := pk_fit h
  have := New_any v (valsOf l) (by rw [vals_len]; omega) (fun x hx => by have := hf.1 x hx; omega) w hv hw
  unfold outS at this
  rw [if_pos hf, nI_nil, vals_its l h.wf, ← h.eq] at this
  have e : strB p.data.toList = p := bytes_ext (strB_list _)
  rwa [e] at this
theorem walk_row {w : World} {base g n : Nat} {l : List LM.Item} (h : w.ownsRow base 9 1 (.slice (some ⟨g, 0, none⟩) n n) n (l.map (fun it => Value.string (strB (LM.val it))))) (hn : n = l.length) : SRow w (.slice (some ⟨g, 0, none⟩) n n) (valsOf l) :=
  srow_of_own (n := n) (by unfold valsOf; rw [List.map_map]; exact h) (by rw [vals_len]; exact hn)
end Go.Proofs.YtafphabeihoijaaDoor
