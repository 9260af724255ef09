import Derived.Test.YtnfbaeajalnmmaaGreatDoorGC
namespace Go.Proofs.YtnfbaeajalnmmaaGreatDoor
open Go.RowKit
set_option linter.unusedVariables false
set_option linter.unusedSimpArgs false
/-- a parser in memory: where it stands, how many bytes are held, its line or word, its words, how many others, the bytes of all, the bytes of this one. -/
def PrR (w : World) (q st held : Nat) (pv wv : Value) (more total size : Int) : Prop := w.heap[q]? = some (.cells #[.int .i64 (st : Int), .int .i64 (held : Int), pv, wv, .int .i64 more, .int .i64 total, .int .i64 size] 66)
theorem New_any (w : World) : Calls Tryz.prog 12 #[] w fun e w' => e = .returned (.pointer (some ⟨w.heap.size, 0, none⟩)) ∧ PrR w' w.heap.size 0 0 (.slice none 0 0) (.slice none 0 0) 0 0 0 ∧ Below w.heap.size w w' := by
  go_enter Tryz.func12, Tryz.ntmps12
  go_wp2
  go_returns
  exact ⟨rfl, one_alloc _ _, (Below.refl _ _).alloc (Nat.le_refl _) _⟩
theorem Held_any (q st held : Nat) (pv wv : Value) (more total size : Int) (w : World) (h : PrR w q st held pv wv more total size) : Calls Tryz.prog 15 #[.pointer (some ⟨q, 0, none⟩)] w fun e w' => e = .returned (.int .i64 (held : Int)) ∧ w' = w := by
  have hc : w.cell? ⟨q, 1, none⟩ = some (.int .i64 (held : Int)) := by unfold PrR at h; rw [cell_of_row _ _ _ _ _ _ h]; rfl
  go_enter Tryz.func15, Tryz.ntmps15
  go_wp2
  go_returns
  exact ⟨rfl, rfl⟩
theorem PrR.cells {w : World} {q st held : Nat} {pv wv : Value} {more total size : Int} (h : PrR w q st held pv wv more total size) : w.cell? ⟨q, 0, none⟩ = some (.int .i64 (st : Int)) ∧ w.cell? ⟨q, 1, none⟩ = some (.int .i64 (held : Int)) ∧ w.cell? ⟨q, 2, none⟩ = some pv ∧ w.cell? ⟨q, 3, none⟩ = some wv ∧ w.cell? ⟨q, 4, none⟩ = some (.int .i64 more) ∧ w.cell? ⟨q, 5, none⟩ = some (.int .i64 total) ∧ w.cell? ⟨q, 6, none⟩ = some (.int .i64 size) ∧ ∀ j, w.frozen? ⟨q, j, none⟩ = false := by
  unfold PrR at h
  refine ⟨?_, ?_, ?_, ?_, ?_, ?_, ?_, fun j => frozen_of_row _ _ _ _ _ h⟩ <;> (rw [cell_of_row _ _ _ _ _ _ h]; rfl)
theorem heap_set7 (w : World) (g T : Nat) (a b c d e f i v0 v1 v2 v3 v4 v5 v6 : Value) (h : w.heap[g]? = some (.cells #[a, b, c, d, e, f, i] T)) :
    (((((((w.setCell ⟨g, 0, none⟩ v0).setCell ⟨g, 1, none⟩ v1).setCell ⟨g, 2, none⟩ v2).setCell ⟨g, 3, none⟩ v3).setCell ⟨g, 4, none⟩ v4).setCell ⟨g, 5, none⟩ v5).setCell ⟨g, 6, none⟩ v6).heap[g]? = some (.cells #[v0, v1, v2, v3, v4, v5, v6] T) ∧ Only w (((((((w.setCell ⟨g, 0, none⟩ v0).setCell ⟨g, 1, none⟩ v1).setCell ⟨g, 2, none⟩ v2).setCell ⟨g, 3, none⟩ v3).setCell ⟨g, 4, none⟩ v4).setCell ⟨g, 5, none⟩ v5).setCell ⟨g, 6, none⟩ v6) g := by
  refine ⟨?_, (((((((Only.refl w g).set _ _).set _ _).set _ _).set _ _).set _ _).set _ _).set _ _⟩
  rw [heap_setCell_same _ _ _ _ _ _ (heap_setCell_same _ _ _ _ _ _ (heap_setCell_same _ _ _ _ _ _ (heap_setCell_same _ _ _ _ _ _ (heap_setCell_same _ _ _ _ _ _ (heap_setCell_same _ _ _ _ _ _ (heap_setCell_same _ _ _ _ _ _ h))))))]; rfl
theorem stop_wait (w : World) : Calls Tryz.prog 47 #[.string ⟨#[]⟩] w fun e w' => e = .returned (.tuple #[.string ⟨#[]⟩, .agg #[.slice none 0 0, .string ⟨#[]⟩], .int .i64 0]) ∧ Below w.heap.size w w' := by
  go_enter Tryz.func47, Tryz.ntmps47
  go_wp2
  go_returns
  exact ⟨rfl, (Below.refl _ _).alloc (Nat.le_refl _) _⟩
theorem forget_no (q st held : Nat) (pv wv : Value) (more total size : Int) (w : World) (h : PrR w q st held pv wv more total size) : Calls Tryz.prog 26 #[.pointer (some ⟨q, 0, none⟩), .bool false] w fun e w' => (∃ r, e = .returned r) ∧ PrR w' q 0 0 (.slice none 0 0) (.slice none 0 0) 0 0 0 ∧ Only w w' q := by
  obtain ⟨c0, c1, c2, c3, c4, c5, c6, cf⟩ := h.cells
  have H : Hid _ := h
  clear h
  go_enter Tryz.func26, Tryz.ntmps26
  go_wp2
  go_returns
  exact ⟨⟨_, rfl⟩, heap_set7 _ _ _ _ _ _ _ _ _ _ _ _ _ _ _ _ _ H.out⟩
end Go.Proofs.YtnfbaeajalnmmaaGreatDoor
