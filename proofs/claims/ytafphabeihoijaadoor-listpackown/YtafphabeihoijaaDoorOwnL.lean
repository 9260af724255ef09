import Derived.Test.YtafphabeihoijaaDoorFormM
import Derived.ArgAppend
namespace Go.Proofs.YtafphabeihoijaaDoor
open Go.RowKit
set_option linter.unusedVariables false
/-- a row of texts in a block of its own, with room for c. -/
def RowAt (w : World) (g c : Nat) (xs : List Value) : Prop := ∃ cur, w.heap[g]? = some (.cells cur 9) ∧ cur.size = c ∧ cur.toList.take xs.length = xs ∧ xs.length ≤ c
theorem RowAt.lt {w : World} {g c : Nat} {xs : List Value} (h : RowAt w g c xs) : g < w.heap.size := by obtain ⟨cur, h1, _⟩ := h; exact row_lt h1
theorem RowAt.on {w w' : World} {g c : Nat} {xs : List Value} (h : RowAt w g c xs) (hb : Below w.heap.size w w') : RowAt w' g c xs := by
  obtain ⟨cur, h1, h2⟩ := h; exact ⟨cur, keep_row h1 hb, h2⟩
theorem RowAt.grown {w w' : World} {g c : Nat} {xs : List Value} {row : Option Nat} (h : RowAt w g c xs) (hg : w.grownBy w' row) (hn : row ≠ some g) : RowAt w' g c xs := by
  obtain ⟨cur, h1, h2⟩ := h; exact ⟨cur, (hg.block g (row_lt h1) (fun e => hn e.symm)).trans h1, h2⟩
theorem RowAt.alloc {w : World} {g c : Nat} {xs : List Value} (h : RowAt w g c xs) (o : Obj) : RowAt (w.alloc o) g c xs := h.on ((Below.refl _ _).alloc (Nat.le_refl _) _)
theorem RowAt.of {w : World} {base g k c : Nat} {xs : List Value} (h : w.ownsRow base 9 1 (.slice (some ⟨g, 0, none⟩) k c) k xs) : RowAt w g c xs := by
  have hl := h.1
  obtain ⟨cur, h1, h2, h3⟩ := rown_form h
  rw [Nat.mul_one] at hl
  refine ⟨cur, h1, h2, by rw [hl]; exact h3, ?_⟩
  have := congrArg List.length h3
  rw [List.length_take, Array.length_toList] at this; omega
theorem RowAt.own {w : World} {g c : Nat} {xs : List Value} (h : RowAt w g c xs) (hc : c ≤ maxLen) : w.ownsRow g 9 1 (.slice (some ⟨g, 0, none⟩) xs.length c) xs.length xs := by
  obtain ⟨cur, h1, h2, h3, h4⟩ := h; exact rown_mk (Nat.le_refl _) h4 hc h1 h2 h3
theorem RowAt.cell {w : World} {g c : Nat} {xs : List Value} (h : RowAt w g c xs) (j : Nat) (x : Value) (hj : xs[j]? = some x) : w.cell? ⟨g, j, none⟩ = some x := by
  obtain ⟨cur, h1, h2, h3, h4⟩ := h
  have hlt := (List.getElem?_eq_some_iff.1 hj).1
  rw [cell_of_row _ _ _ _ _ _ h1, ← Array.getElem?_toList]
  rw [← h3, List.getElem?_take_of_lt hlt] at hj
  exact hj
theorem RowAt.frozen {w : World} {g c : Nat} {xs : List Value} (h : RowAt w g c xs) (j : Nat) : w.frozen? ⟨g, j, none⟩ = false := by
  obtain ⟨cur, h1, _⟩ := h; exact frozen_of_row _ _ _ _ _ h1
/-- one cell of it is written. -/
theorem RowAt.set {w : World} {g c : Nat} {xs : List Value} (h : RowAt w g c xs) (j : Nat) (x : Value) (hj : j < xs.length) : RowAt (w.setCell ⟨g, j, none⟩ x) g c (xs.set j x) := by
  obtain ⟨cur, h1, h2, h3, h4⟩ := h
  refine ⟨cur.setIfInBounds j x, ?_, by simpa using h2, ?_, by simpa using h4⟩
  · rw [heap_setCell_same _ _ _ _ _ _ h1]
  · rw [List.length_set, Array.toList_setIfInBounds, List.take_set, h3]
theorem RowAt.other {w : World} {g c : Nat} {xs : List Value} (h : RowAt w g c xs) (a : Addr) (x : Value) (hn : g ≠ a.block) : RowAt (w.setCell a x) g c xs := by
  obtain ⟨cur, h1, h2⟩ := h; exact ⟨cur, (heap_setCell_other _ _ _ _ hn).trans h1, h2⟩
theorem maxLen_big : (70368744177664 : Nat) ≤ maxLen := by unfold maxLen; omega
/-- append of one text: in its place, or in a new block. -/
theorem wpList_append_row (w : World) {ops : Array Oper} {rest : List Oper} {o : Oper} {a : Act} {Q : Exit → Act → World → Prop} (hg : o.guard = none) (s x : Operand)
    (hop : o.op = Op.call { callee := Callee.builtin Builtin.append, args := #[s, x], argTypes := #[22, 22] })
    (g k c : Nat) (xs : List Value) (hs : a.eval s = .slice (some ⟨g, 0, none⟩) k c) (hk : k = xs.length) (hr : RowAt w g c xs) (hc : c ≤ maxLen) (ad : Addr) (y : ByteArray) (hx : a.eval x = .slice (some ad) 1 1) (hy : w.cell? ad = some (.string y)) (hl : xs.length + 1 ≤ 4398046511104)
    (h : ∀ g' c' w', RowAt w' g' c' (xs ++ [.string y]) → c' ≤ maxLen → ((c < xs.length + 1 ∧ w.heap.size ≤ g' ∧ w.grownBy w' none) ∨ (xs.length + 1 ≤ c ∧ g' = g ∧ w.grownBy w' (some g))) → wpList Tryd.prog ops Q rest (a.put o.dst (.slice (some ⟨g', 0, none⟩) (k + 1) c')) w') :
    wpList Tryd.prog ops Q (o :: rest) a w := by
  subst hk
  obtain ⟨i0, hi, hz0, hz1, hz2⟩ := info_parts info9
  have hnews : ∀ j u, [Value.string y][j]? = some u → w.cell? (ad.add j) = some u := by
    intro j u hj
    match j, hj with
    | 0, hj => simp at hj; subst hj; simpa [Addr.add] using hy
  have h1c : ∀ u ∈ [Value.string y], u.oneCell' = true := by intro u hu; simp at hu; subst hu; rfl
  by_cases hf : xs.length + 1 ≤ c
  · refine wpList_append_fits w hg s x 22 hop g 9 i0 1 Tryd.underlying22 hi hz1 g xs.length c xs hs (hr.own hc) ad 1 1 [.string y] hx rfl hnews h1c hf ?_
    intro w' ho hgr
    refine h g c w' ?_ hc (Or.inr ⟨hf, rfl, hgr⟩)
    exact RowAt.of ho
  · refine wpList_append_grows w hg s x 22 hop 9 i0 (.string ⟨#[]⟩) 1 16 Tryd.underlying22 hi hz0 hz1 hz2 rfl (by decide) (some ⟨g, 0, none⟩) xs.length c xs hs (fun e => by cases e) (by simp) ?_ ad 1 1 [.string y] hx rfl hnews h1c (by omega) (by have := maxLen_big; omega) (by omega) ?_
    · rintro b rfl' j u hj
      cases rfl'
      rw [Lib.add_plain, Nat.zero_add]; exact hr.cell j u hj
    · intro v' w' ho hgr
      obtain ⟨hl', ⟨_, h0⟩ | ⟨g', cap, cur, rfl, hb, hg', q1, q2, q3, q4⟩⟩ := ho
      · omega
      · refine h g' cap w' ⟨cur, hg', by omega, ?_, ?_⟩ q2 (Or.inl ⟨by omega, hb, hgr⟩)
        · rw [List.length_append]; simpa using q4
        · rw [List.length_append]; simpa using q1
/-- what another row has of an append. -/
theorem app_keep {w w' : World} {g g' c n h : Nat} (hcase : (c < n ∧ w.heap.size ≤ g' ∧ w.grownBy w' none) ∨ (n ≤ c ∧ g' = g ∧ w.grownBy w' (some g))) (hne : n ≤ c → h ≠ g) (hlt : h < w.heap.size) :
    g' ≠ h ∧ ∀ k xs, RowAt w h k xs → RowAt w' h k xs := by
  rcases hcase with ⟨h1, h2, h3⟩ | ⟨h1, rfl, h3⟩
  · exact ⟨by omega, fun k xs hr => hr.grown h3 (by intro e; cases e)⟩
  · exact ⟨fun e => hne h1 e.symm, fun k xs hr => hr.grown h3 (by intro e; injection e with e; exact hne h1 e.symm)⟩
theorem app_below {w0 w w' : World} {g g' c n : Nat} (hcase : (c < n ∧ w.heap.size ≤ g' ∧ w.grownBy w' none) ∨ (n ≤ c ∧ g' = g ∧ w.grownBy w' (some g))) (hb : Below w0.heap.size w0 w) (hg : w0.heap.size ≤ g) : Below w0.heap.size w0 w' ∧ w0.heap.size ≤ g' := by
  rcases hcase with ⟨h1, h2, h3⟩ | ⟨h1, rfl, h3⟩
  · exact ⟨hb.grown h3 hb.size (fun k e => by cases e), Nat.le_trans hb.size h2⟩
  · exact ⟨hb.grown h3 hb.size (fun k e => by injection e with e; rw [← e]; exact hg), hg⟩
end Go.Proofs.YtafphabeihoijaaDoor
