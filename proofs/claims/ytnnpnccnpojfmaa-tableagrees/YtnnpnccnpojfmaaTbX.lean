import Derived.Test.YtnnpnccnpojfmaaTbM
namespace Go.Proofs.Ytnnpnccnpojfmaa
open Go.RowKit
set_option linter.unusedVariables false
theorem set_row {w : World} {g T : Nat} {l : List Value} (h : w.heap[g]? = some (.cells l.toArray T)) (i : Nat) (x : Value) : (w.setCell ⟨g, i, none⟩ x).heap[g]? = some (.cells (l.set i x).toArray T) := by
  rw [heap_setCell_same _ _ _ _ _ _ h, List.setIfInBounds_toArray]
theorem row8 {w : World} {g T : Nat} {v0 v1 v2 v3 v4 v5 v6 v7 : Value} (h : w.heap[g]? = some (.cells #[v0, v1, v2, v3, v4, v5, v6, v7] T)) :
    w.cell? ⟨g, 0, none⟩ = some v0 ∧ w.cell? ⟨g, 1, none⟩ = some v1 ∧ w.cell? ⟨g, 2, none⟩ = some v2 ∧ w.cell? ⟨g, 3, none⟩ = some v3 ∧ w.cell? ⟨g, 4, none⟩ = some v4 ∧ w.cell? ⟨g, 5, none⟩ = some v5 ∧ w.cell? ⟨g, 6, none⟩ = some v6 ∧ w.cell? ⟨g, 7, none⟩ = some v7 ∧ ∀ j, w.frozen? ⟨g, j, none⟩ = false := by
  refine ⟨?_, ?_, ?_, ?_, ?_, ?_, ?_, ?_, fun j => frozen_of_row _ _ _ _ _ h⟩ <;> rw [cell_of_row _ _ _ _ _ _ h] <;> rfl
theorem heap_set8 (w : World) (g T : Nat) (a0 a1 a2 a3 a4 a5 a6 a7 v0 v1 v2 v3 v4 v5 v6 v7 : Value) (h : w.heap[g]? = some (.cells #[a0, a1, a2, a3, a4, a5, a6, a7] T)) :
    ((((((((w.setCell ⟨g, 0, none⟩ v0).setCell ⟨g, 1, none⟩ v1).setCell ⟨g, 2, none⟩ v2).setCell ⟨g, 3, none⟩ v3).setCell ⟨g, 4, none⟩ v4).setCell ⟨g, 5, none⟩ v5).setCell ⟨g, 6, none⟩ v6).setCell ⟨g, 7, none⟩ v7).heap[g]? = some (.cells #[v0, v1, v2, v3, v4, v5, v6, v7] T) ∧ Only w ((((((((w.setCell ⟨g, 0, none⟩ v0).setCell ⟨g, 1, none⟩ v1).setCell ⟨g, 2, none⟩ v2).setCell ⟨g, 3, none⟩ v3).setCell ⟨g, 4, none⟩ v4).setCell ⟨g, 5, none⟩ v5).setCell ⟨g, 6, none⟩ v6).setCell ⟨g, 7, none⟩ v7) g := by
  have o0 := Only.refl w g
  have h0 := h
  have o1 := o0.set 0 v0
  have h1 := set_row h0 0 v0
  obtain ⟨w1, e1⟩ : ∃ x, x = w.setCell ⟨g, 0, none⟩ v0 := ⟨_, rfl⟩
  rw [← e1] at o1 h1 ⊢
  clear o0 h0
  have o2 := o1.set 1 v1
  have h2 := set_row h1 1 v1
  obtain ⟨w2, e2⟩ : ∃ x, x = w1.setCell ⟨g, 1, none⟩ v1 := ⟨_, rfl⟩
  rw [← e2] at o2 h2 ⊢
  clear o1 h1
  have o3 := o2.set 2 v2
  have h3 := set_row h2 2 v2
  obtain ⟨w3, e3⟩ : ∃ x, x = w2.setCell ⟨g, 2, none⟩ v2 := ⟨_, rfl⟩
  rw [← e3] at o3 h3 ⊢
  clear o2 h2
  have o4 := o3.set 3 v3
  have h4 := set_row h3 3 v3
  obtain ⟨w4, e4⟩ : ∃ x, x = w3.setCell ⟨g, 3, none⟩ v3 := ⟨_, rfl⟩
  rw [← e4] at o4 h4 ⊢
  clear o3 h3
  have o5 := o4.set 4 v4
  have h5 := set_row h4 4 v4
  obtain ⟨w5, e5⟩ : ∃ x, x = w4.setCell ⟨g, 4, none⟩ v4 := ⟨_, rfl⟩
  rw [← e5] at o5 h5 ⊢
  clear o4 h4
  have o6 := o5.set 5 v5
  have h6 := set_row h5 5 v5
  obtain ⟨w6, e6⟩ : ∃ x, x = w5.setCell ⟨g, 5, none⟩ v5 := ⟨_, rfl⟩
  rw [← e6] at o6 h6 ⊢
  clear o5 h5
  have o7 := o6.set 6 v6
  have h7 := set_row h6 6 v6
  obtain ⟨w7, e7⟩ : ∃ x, x = w6.setCell ⟨g, 6, none⟩ v6 := ⟨_, rfl⟩
  rw [← e7] at o7 h7 ⊢
  clear o6 h6
  have o8 := o7.set 7 v7
  have h8 := set_row h7 7 v7
  obtain ⟨w8, e8⟩ : ∃ x, x = w7.setCell ⟨g, 7, none⟩ v7 := ⟨_, rfl⟩
  rw [← e8] at o8 h8 ⊢
  clear o7 h7
  exact ⟨by simpa using h8, o8⟩
theorem row10 {w : World} {g T : Nat} {v0 v1 v2 v3 v4 v5 v6 v7 v8 v9 : Value} (h : w.heap[g]? = some (.cells #[v0, v1, v2, v3, v4, v5, v6, v7, v8, v9] T)) :
    w.cell? ⟨g, 0, none⟩ = some v0 ∧ w.cell? ⟨g, 1, none⟩ = some v1 ∧ w.cell? ⟨g, 2, none⟩ = some v2 ∧ w.cell? ⟨g, 3, none⟩ = some v3 ∧ w.cell? ⟨g, 4, none⟩ = some v4 ∧ w.cell? ⟨g, 5, none⟩ = some v5 ∧ w.cell? ⟨g, 6, none⟩ = some v6 ∧ w.cell? ⟨g, 7, none⟩ = some v7 ∧ w.cell? ⟨g, 8, none⟩ = some v8 ∧ w.cell? ⟨g, 9, none⟩ = some v9 ∧ ∀ j, w.frozen? ⟨g, j, none⟩ = false := by
  refine ⟨?_, ?_, ?_, ?_, ?_, ?_, ?_, ?_, ?_, ?_, fun j => frozen_of_row _ _ _ _ _ h⟩ <;> rw [cell_of_row _ _ _ _ _ _ h] <;> rfl
theorem heap_set10 (w : World) (g T : Nat) (a0 a1 a2 a3 a4 a5 a6 a7 a8 a9 v0 v1 v2 v3 v4 v5 v6 v7 v8 v9 : Value) (h : w.heap[g]? = some (.cells #[a0, a1, a2, a3, a4, a5, a6, a7, a8, a9] T)) :
    ((((((((((w.setCell ⟨g, 0, none⟩ v0).setCell ⟨g, 1, none⟩ v1).setCell ⟨g, 2, none⟩ v2).setCell ⟨g, 3, none⟩ v3).setCell ⟨g, 4, none⟩ v4).setCell ⟨g, 5, none⟩ v5).setCell ⟨g, 6, none⟩ v6).setCell ⟨g, 7, none⟩ v7).setCell ⟨g, 8, none⟩ v8).setCell ⟨g, 9, none⟩ v9).heap[g]? = some (.cells #[v0, v1, v2, v3, v4, v5, v6, v7, v8, v9] T) ∧ Only w ((((((((((w.setCell ⟨g, 0, none⟩ v0).setCell ⟨g, 1, none⟩ v1).setCell ⟨g, 2, none⟩ v2).setCell ⟨g, 3, none⟩ v3).setCell ⟨g, 4, none⟩ v4).setCell ⟨g, 5, none⟩ v5).setCell ⟨g, 6, none⟩ v6).setCell ⟨g, 7, none⟩ v7).setCell ⟨g, 8, none⟩ v8).setCell ⟨g, 9, none⟩ v9) g := by
  have o0 := Only.refl w g
  have h0 := h
  have o1 := o0.set 0 v0
  have h1 := set_row h0 0 v0
  obtain ⟨w1, e1⟩ : ∃ x, x = w.setCell ⟨g, 0, none⟩ v0 := ⟨_, rfl⟩
  rw [← e1] at o1 h1 ⊢
  clear o0 h0
  have o2 := o1.set 1 v1
  have h2 := set_row h1 1 v1
  obtain ⟨w2, e2⟩ : ∃ x, x = w1.setCell ⟨g, 1, none⟩ v1 := ⟨_, rfl⟩
  rw [← e2] at o2 h2 ⊢
  clear o1 h1
  have o3 := o2.set 2 v2
  have h3 := set_row h2 2 v2
  obtain ⟨w3, e3⟩ : ∃ x, x = w2.setCell ⟨g, 2, none⟩ v2 := ⟨_, rfl⟩
  rw [← e3] at o3 h3 ⊢
  clear o2 h2
  have o4 := o3.set 3 v3
  have h4 := set_row h3 3 v3
  obtain ⟨w4, e4⟩ : ∃ x, x = w3.setCell ⟨g, 3, none⟩ v3 := ⟨_, rfl⟩
  rw [← e4] at o4 h4 ⊢
  clear o3 h3
  have o5 := o4.set 4 v4
  have h5 := set_row h4 4 v4
  obtain ⟨w5, e5⟩ : ∃ x, x = w4.setCell ⟨g, 4, none⟩ v4 := ⟨_, rfl⟩
  rw [← e5] at o5 h5 ⊢
  clear o4 h4
  have o6 := o5.set 5 v5
  have h6 := set_row h5 5 v5
  obtain ⟨w6, e6⟩ : ∃ x, x = w5.setCell ⟨g, 5, none⟩ v5 := ⟨_, rfl⟩
  rw [← e6] at o6 h6 ⊢
  clear o5 h5
  have o7 := o6.set 6 v6
  have h7 := set_row h6 6 v6
  obtain ⟨w7, e7⟩ : ∃ x, x = w6.setCell ⟨g, 6, none⟩ v6 := ⟨_, rfl⟩
  rw [← e7] at o7 h7 ⊢
  clear o6 h6
  have o8 := o7.set 7 v7
  have h8 := set_row h7 7 v7
  obtain ⟨w8, e8⟩ : ∃ x, x = w7.setCell ⟨g, 7, none⟩ v7 := ⟨_, rfl⟩
  rw [← e8] at o8 h8 ⊢
  clear o7 h7
  have o9 := o8.set 8 v8
  have h9 := set_row h8 8 v8
  obtain ⟨w9, e9⟩ : ∃ x, x = w8.setCell ⟨g, 8, none⟩ v8 := ⟨_, rfl⟩
  rw [← e9] at o9 h9 ⊢
  clear o8 h8
  have o10 := o9.set 9 v9
  have h10 := set_row h9 9 v9
  obtain ⟨w10, e10⟩ : ∃ x, x = w9.setCell ⟨g, 9, none⟩ v9 := ⟨_, rfl⟩
  rw [← e10] at o10 h10 ⊢
  clear o9 h9
  exact ⟨by simpa using h10, o10⟩
end Go.Proofs.Ytnnpnccnpojfmaa
