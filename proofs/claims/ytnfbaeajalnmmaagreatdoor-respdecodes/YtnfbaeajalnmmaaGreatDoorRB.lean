import Derived.Test.YtnfbaeajalnmmaaGreatDoorBase
import Derived.Lib.AppendZerosOnto
import Derived.RangeFuncOwn
import Derived.Lib.ItoaMem
namespace Go.Proofs.YtnfbaeajalnmmaaGreatDoor
open Go.RowKit
set_option linter.unusedVariables false
structure Only (w w' : World) (g : Nat) : Prop where
  os : w'.os = w.os
  tape : w'.tape = w.tape
  output : w'.output = w.output
  size : w'.heap.size = w.heap.size
  other : ∀ k, k ≠ g → w'.heap[k]? = w.heap[k]?
theorem Only.refl (w : World) (g : Nat) : Only w w g := ⟨rfl, rfl, rfl, rfl, fun _ _ => rfl⟩
theorem Only.trans {w w1 w2 : World} {g : Nat} (h : Only w w1 g) (h' : Only w1 w2 g) : Only w w2 g :=
  ⟨h'.os.trans h.os, h'.tape.trans h.tape, h'.output.trans h.output, h'.size.trans h.size, fun k hk => (h'.other k hk).trans (h.other k hk)⟩
theorem Only.below {w w' : World} {g B : Nat} (h : Only w w' g) (hg : B ≤ g) : Below B w w' :=
  ⟨h.os, h.tape, h.output, by rw [h.size]; exact Nat.le_refl _, fun k hk => h.other k (by omega)⟩
theorem Only.set {w w' : World} {g : Nat} (h : Only w w' g) (i : Nat) (v : Value) : Only w (w'.setCell ⟨g, i, none⟩ v) g :=
  h.trans ⟨rfl, rfl, rfl, by simp, fun k hk => heap_setCell_other _ _ _ _ hk⟩
theorem one_alloc (w : World) (A : Obj) : (w.alloc A).heap[w.heap.size]? = some A := by
  show (w.heap.push A)[w.heap.size]? = some A
  rw [Array.getElem?_push, if_pos rfl]
theorem heap_set3 (w : World) (g T : Nat) (a b c v0 v1 v2 : Value) (h : w.heap[g]? = some (.cells #[a, b, c] T)) :
    (((w.setCell ⟨g, 0, none⟩ v0).setCell ⟨g, 1, none⟩ v1).setCell ⟨g, 2, none⟩ v2).heap[g]? = some (.cells #[v0, v1, v2] T) ∧ Only w (((w.setCell ⟨g, 0, none⟩ v0).setCell ⟨g, 1, none⟩ v1).setCell ⟨g, 2, none⟩ v2) g := by
  refine ⟨?_, (((Only.refl w g).set _ _).set _ _).set _ _⟩
  rw [heap_setCell_same _ _ _ _ _ _ (heap_setCell_same _ _ _ _ _ _ (heap_setCell_same _ _ _ _ _ _ h))]; rfl
theorem row3 {w : World} {g T : Nat} {v0 v1 v2 : Value} (h : w.heap[g]? = some (.cells #[v0, v1, v2] T)) :
    w.cell? ⟨g, 0, none⟩ = some v0 ∧ w.cell? ⟨g, 1, none⟩ = some v1 ∧ w.cell? ⟨g, 2, none⟩ = some v2 ∧ ∀ j, w.frozen? ⟨g, j, none⟩ = false := by
  refine ⟨?_, ?_, ?_, fun j => frozen_of_row _ _ _ _ _ h⟩ <;> rw [cell_of_row _ _ _ _ _ _ h] <;> rfl
theorem heap_set5 (w : World) (g T : Nat) (a b c d e v0 v1 v2 v3 v4 : Value) (h : w.heap[g]? = some (.cells #[a, b, c, d, e] T)) :
    (((((w.setCell ⟨g, 0, none⟩ v0).setCell ⟨g, 1, none⟩ v1).setCell ⟨g, 2, none⟩ v2).setCell ⟨g, 3, none⟩ v3).setCell ⟨g, 4, none⟩ v4).heap[g]? = some (.cells #[v0, v1, v2, v3, v4] T) ∧ Only w (((((w.setCell ⟨g, 0, none⟩ v0).setCell ⟨g, 1, none⟩ v1).setCell ⟨g, 2, none⟩ v2).setCell ⟨g, 3, none⟩ v3).setCell ⟨g, 4, none⟩ v4) g := by
  refine ⟨?_, (((((Only.refl w g).set _ _).set _ _).set _ _).set _ _).set _ _⟩
  rw [heap_setCell_same _ _ _ _ _ _ (heap_setCell_same _ _ _ _ _ _ (heap_setCell_same _ _ _ _ _ _ (heap_setCell_same _ _ _ _ _ _ (heap_setCell_same _ _ _ _ _ _ h))))]; rfl
theorem row5 {w : World} {g T : Nat} {v0 v1 v2 v3 v4 : Value} (h : w.heap[g]? = some (.cells #[v0, v1, v2, v3, v4] T)) :
    w.cell? ⟨g, 0, none⟩ = some v0 ∧ w.cell? ⟨g, 1, none⟩ = some v1 ∧ w.cell? ⟨g, 2, none⟩ = some v2 ∧ w.cell? ⟨g, 3, none⟩ = some v3 ∧ w.cell? ⟨g, 4, none⟩ = some v4 ∧ ∀ j, w.frozen? ⟨g, j, none⟩ = false := by
  refine ⟨?_, ?_, ?_, ?_, ?_, fun j => frozen_of_row _ _ _ _ _ h⟩ <;> rw [cell_of_row _ _ _ _ _ _ h] <;> rfl
theorem lt_of_cell {w : World} {a : Addr} {v : Value} (h : w.cell? a = some v) : a.block < w.heap.size := by
  obtain ⟨o, ho, _⟩ := cells_of_cell h; exact row_lt ho
theorem cell_on {w w' : World} {a : Addr} {v : Value} (h : w.cell? a = some v) (hb : Below w.heap.size w w') : w'.cell? a = some v :=
  (hb.cell (p := a) (lt_of_cell h)).trans h
theorem keep_row {w w' : World} {g : Nat} {o : Obj} (h : w.heap[g]? = some o) (hb : Below w.heap.size w w') : w'.heap[g]? = some o := (hb.block g (row_lt h)).trans h
theorem bel_to {B : Nat} {w w1 w2 : World} (h1 : Below B w w1) (h2 : Below w1.heap.size w1 w2) (hB : B ≤ w.heap.size) : Below B w w2 := h1.trans (h2.mono (Nat.le_trans hB h1.size))
theorem row1 {w : World} {g T : Nat} {v0 : Value} (h : w.heap[g]? = some (.cells #[v0] T)) : w.cell? ⟨g, 0, none⟩ = some v0 ∧ ∀ j, w.frozen? ⟨g, j, none⟩ = false := by
  refine ⟨?_, fun j => frozen_of_row _ _ _ _ _ h⟩ <;> rw [cell_of_row _ _ _ _ _ _ h] <;> rfl
set_option linter.unusedVariables false
theorem prow2 {w : World} {g T : Nat} {v0 v1 : Value} (h : w.heap[g]? = some (.cells #[v0, v1] T)) :
    w.cell? ⟨g, 0, none⟩ = some v0 ∧ w.cell? ⟨g, 1, none⟩ = some v1 ∧ ∀ j, w.frozen? ⟨g, j, none⟩ = false := by
  refine ⟨?_, ?_, fun j => frozen_of_row _ _ _ _ _ h⟩ <;> rw [cell_of_row _ _ _ _ _ _ h] <;> rfl
theorem two_rows {w w1 : World} {a b : Obj} (h : Below ((w.alloc a).alloc b).heap.size ((w.alloc a).alloc b) w1) : Below w.heap.size w w1 ∧ w1.heap[w.heap.size]? = some a ∧ w1.heap[w.heap.size + 1]? = some b := by
  refine ⟨bel_to (((Below.refl _ w).alloc (Nat.le_refl _) _).alloc (by simp) _) h (Nat.le_refl _), keep_row (keep_row (one_alloc w a) ((Below.refl _ _).alloc (Nat.le_refl _) _)) h, ?_⟩
  have := one_alloc (w.alloc a) b
  rw [World.size_alloc] at this
  exact keep_row this h
theorem lrow4 {w : World} {g T : Nat} {v0 v1 v2 v3 : Value} (h : w.heap[g]? = some (.cells #[v0, v1, v2, v3] T)) : w.cell? ⟨g, 0, none⟩ = some v0 ∧ w.cell? ⟨g, 1, none⟩ = some v1 ∧ w.cell? ⟨g, 2, none⟩ = some v2 ∧ w.cell? ⟨g, 3, none⟩ = some v3 ∧ ∀ j, w.frozen? ⟨g, j, none⟩ = false := by
  refine ⟨?_, ?_, ?_, ?_, fun j => frozen_of_row _ _ _ _ _ h⟩ <;> rw [cell_of_row _ _ _ _ _ _ h] <;> rfl
theorem cell_a1 {w : World} {a : Addr} {v : Value} (h : w.cell? a = some v) (o : Obj) : (w.alloc o).cell? a = some v := cell_on h ((Below.refl _ _).alloc (Nat.le_refl _) _)
theorem cell_a2 {w : World} {a : Addr} {v : Value} (h : w.cell? a = some v) (o o' : Obj) : ((w.alloc o).alloc o').cell? a = some v := cell_a1 (cell_a1 h o) o'
set_option linter.unusedVariables false
set_option linter.unusedSimpArgs false
theorem own_on {W W' : World} {base T k n : Nat} {v : Value} {xs : List Value} (h : W.ownsRow base T k v n xs) (hb : Below W.heap.size W W') : W'.ownsRow base T k v n xs := by
  obtain ⟨q1, q | ⟨gg, cap, cur, q2, q3, q4, q5⟩⟩ := h
  · exact ⟨q1, Or.inl q⟩
  · exact ⟨q1, Or.inr ⟨gg, cap, cur, q2, q3, keep_row q4 hb, q5⟩⟩
theorem own_block {W : World} {base T k n : Nat} {v : Value} {xs : List Value} (h : W.ownsRow base T k v n xs) : ∀ b, v.ownBlock = some b → base ≤ b := fun b hb => by
  obtain ⟨q1, ⟨q, _⟩ | ⟨gg, cap, cur, q2, q3, q4, q5⟩⟩ := h
  · rw [q] at hb; simp [Value.ownBlock] at hb
  · rw [q2] at hb; simp [Value.ownBlock] at hb; omega
theorem own_lower {w : World} {b b' e size n : Nat} {v : Value} {xs : List Value} (h : w.ownsRow b' e size v n xs) (hb : b ≤ b') : w.ownsRow b e size v n xs := by
  refine ⟨h.1, ?_⟩
  rcases h.2 with q | ⟨a1, a2, a3, a4, a5, a6⟩
  · exact Or.inl q
  · exact Or.inr ⟨a1, a2, a3, a4, by omega, a6⟩
theorem own_addr {w : World} {base n T : Nat} {v : Value} {xs : List Value} (h : w.ownsRow base T 1 v n xs) (hn : 0 < n) : ∃ g cap cur, v = .slice (some ⟨g, 0, none⟩) n cap ∧ base ≤ g ∧ w.heap[g]? = some (.cells cur T) ∧ ∀ j u, xs[j]? = some u → w.cell? ⟨g, j, none⟩ = some u := by
  rcases h.2 with ⟨_, e⟩ | ⟨g, cap, cur, rfl, hb, hg, _⟩
  · omega
  · refine ⟨g, cap, cur, rfl, hb, hg, fun j u hu => ?_⟩
    have := World.ownsRow.cells h (g := g) rfl j u hu
    rw [Lib.add_plain] at this
    simpa using this
set_option linter.unusedVariables false
theorem bytes_ext {a b : ByteArray} (h : a.data.toList = b.data.toList) : a = b := WideShapes.bytes_inj h
theorem dec_t {p : Prop} [Decidable p] (h : p) : decide p = true := by simpa using h
theorem dec_f {p : Prop} [Decidable p] (h : ¬ p) : decide p = false := by simpa using h
/-- a row of texts. -/
def SRow (w : World) (v : Value) (vs : List ByteArray) : Prop :=
  (vs = [] ∧ ∃ p c, v = .slice p 0 c) ∨ (∃ g o c, v = .slice (some ⟨g, o, none⟩) vs.length c ∧ ∀ j (h : j < vs.length), w.cell? ⟨g, o + j, none⟩ = some (.string vs[j]))
theorem SRow.on {w w' : World} {v : Value} {vs : List ByteArray} (h : SRow w v vs) (hb : Below w.heap.size w w') : SRow w' v vs := by
  rcases h with h | ⟨g, o, c, h1, h2⟩
  · exact Or.inl h
  · exact Or.inr ⟨g, o, c, h1, fun j hj => cell_on (h2 j hj) hb⟩
theorem SRow.onB {B : Nat} {w w' w0 : World} {v : Value} {vs : List ByteArray} (h : SRow w0 v vs) (hb0 : Below w0.heap.size w0 w') : SRow w' v vs := h.on hb0
theorem SRow.form {w : World} {v : Value} {vs : List ByteArray} (h : SRow w v vs) : ∃ p c, v = .slice p vs.length c := by
  rcases h with ⟨rfl, p, c, h⟩ | ⟨g, o, c, h1, _⟩
  · exact ⟨p, c, h⟩
  · exact ⟨_, _, h1⟩
theorem SRow.cell {w : World} {P : Option Addr} {n c : Nat} {vs : List ByteArray} (h : SRow w (.slice P n c) vs) (j : Nat) (hj : j < vs.length) : ∃ g o, P = some ⟨g, o, none⟩ ∧ w.cell? ⟨g, o + j, none⟩ = some (.string vs[j]) := by
  rcases h with ⟨he, _⟩ | ⟨g, o, c', h1, h2⟩
  · rw [he] at hj; simp at hj
  · injection h1 with h1 _ _
    exact ⟨g, o, h1, h2 j hj⟩
end Go.Proofs.YtnfbaeajalnmmaaGreatDoor
