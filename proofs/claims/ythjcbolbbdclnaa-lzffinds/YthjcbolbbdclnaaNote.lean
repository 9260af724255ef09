import Derived.Test.YthjcbolbbdclnaaTab
namespace Go.Proofs.Ythjcbolbbdclnaa
open Go.RowKit Lz
set_option linter.unusedVariables false
theorem lastB_le (s : ByteArray) (sh x m : Nat) : lastB s sh x m ≤ m := lastP_le _ _
/-- what note leaves as it was. -/
structure NoteF (w w' : World) (gh ga : Nat) : Prop where
  os : w'.os = w.os
  tape : w'.tape = w.tape
  output : w'.output = w.output
  size : w'.heap.size = w.heap.size
  other : ∀ k, k ≠ gh → k ≠ ga → w'.heap[k]? = w.heap[k]?
theorem heap_set2 (w1 : World) (ga i gh q : Nat) (v v' : Value) (k : Nat) (h1 : k ≠ gh) (h2 : k ≠ ga) : ((w1.setCell ⟨ga, i, none⟩ v).setCell ⟨gh, q, none⟩ v').heap[k]? = w1.heap[k]? := by
  rw [heap_setCell_other _ _ _ _ (by exact h1), heap_setCell_other _ _ _ _ (by exact h2)]
theorem lastB_succ (s : ByteArray) (sh x i : Nat) : lastB s sh x (i + 1) = if bk s sh i = x then i + 1 else lastB s sh x i := by
  unfold lastB
  simp only [lastP, beq_iff_eq]
theorem Tab.noted {w w2 : World} {b gh ga sh W i : Nat} {s : ByteArray} (h : Tab w b gh ga sh W s i) (hi : i < s.size)
    (hh : w2.heap = ((w.setCell ⟨ga, i, none⟩ (.int .i32 (lastB s sh (bk s sh i) i : Int))).setCell ⟨gh, bk s sh i, none⟩ (.int .i32 ((i : Int) + 1))).heap) :
    Tab w2 b gh ga sh W s (i + 1) ∧ w2.heap.size = w.heap.size ∧ ∀ k, k ≠ gh → k ≠ ga → w2.heap[k]? = w.heap[k]? := by
  obtain ⟨hs, e1, e2, e3⟩ := h.heads
  obtain ⟨bs, f1, f2, f3⟩ := h.aheads
  have oth : ∀ k, k ≠ gh → k ≠ ga → w2.heap[k]? = w.heap[k]? := by
    intro k h1 h2
    rw [hh, heap_set2 _ _ _ _ _ _ _ _ h1 h2]
  refine ⟨⟨?_, ?_, ?_, h.h1, h.h2, h.h3, h.small, h.hW, h.hsh⟩, ?_, oth⟩
  · rw [oth b h.h1 h.h2]; exact h.row
  · have g0 : (w.setCell ⟨ga, i, none⟩ (.int .i32 (lastB s sh (bk s sh i) i : Int))).heap[gh]? = some (.cells hs 21) := by
      rw [heap_setCell_other _ _ _ _ (by exact h.h3)]; exact e1
    refine ⟨_, by rw [hh]; exact heap_setCell_same _ _ _ _ _ _ g0, by simpa using e2, fun j hj => ?_⟩
    rw [Array.getElem?_setIfInBounds, lastB_succ]
    by_cases hq : bk s sh i = j
    · rw [if_pos hq, if_pos hq, if_pos (by rw [hq, e2]; exact hj)]; rfl
    · rw [if_neg hq, if_neg hq]; exact e3 j hj
  · have g0 : (w.setCell ⟨ga, i, none⟩ (.int .i32 (lastB s sh (bk s sh i) i : Int))).heap[ga]? = some (.cells (bs.setIfInBounds i (.int .i32 (lastB s sh (bk s sh i) i : Int))) 21) := heap_setCell_same _ _ _ _ _ _ f1
    refine ⟨_, by rw [hh, heap_setCell_other _ _ _ _ (by exact fun e => h.h3 e.symm)]; exact g0, by simpa using f2, fun j hj => ?_⟩
    rw [Array.getElem?_setIfInBounds]
    by_cases hq : i = j
    · subst hq
      rw [if_pos rfl, if_pos (by omega)]
    · rw [if_neg hq]; exact f3 j (by omega)
  · rw [hh, World.size_setCell, World.size_setCell]
set_option maxHeartbeats 1000000 in
set_option maxRecDepth 20000 in
theorem note_any (w : World) (b gh ga sh W : Nat) (s : ByteArray) (i : Nat) (hT : Tab w b gh ga sh W s i) (hi : i + 3 ≤ s.size) (hm : s.size ≤ 524288) :
    Calls Try.prog 20 #[.pointer (some ⟨b, 0, none⟩), .int .i64 i] w fun e w' => (∃ v, e = .returned v) ∧ Tab w' b gh ga sh W s (i + 1) ∧ NoteF w w' gh ga := by
  have HT : Hid (Tab w b gh ga sh W s i) := hT
  have hi0 : i < s.size := by omega
  have HBK : Hid _ := bucket_any w b gh ga sh W s i i hT hi hm
  have hsm := hT.small i
  obtain ⟨hs, e1, e2, e3⟩ := hT.heads
  obtain ⟨bs, f1, f2, f3⟩ := hT.aheads
  have c2 : w.cell? ⟨b, 2, none⟩ = some (.slice (some ⟨gh, 0, none⟩) W W) := by rw [cell_of_row _ _ _ _ _ _ hT.row]; rfl
  have c3 : w.cell? ⟨b, 3, none⟩ = some (.slice (some ⟨ga, 0, none⟩) s.size s.size) := by rw [cell_of_row _ _ _ _ _ _ hT.row]; rfl
  have d1 : w.cell? ⟨gh, bk s sh i, none⟩ = some (.int .i32 (lastB s sh (bk s sh i) i : Int)) := by rw [cell_of_row _ _ _ _ _ _ e1]; exact e3 _ hsm
  have d2 : ∀ x, w.frozen? ⟨ga, x, none⟩ = false := fun x => frozen_of_row _ _ _ _ _ f1
  obtain ⟨x0, d3⟩ : ∃ x, w.cell? ⟨ga, i, none⟩ = some x := ⟨bs[i]'(by omega), by rw [cell_of_row _ _ _ _ _ _ f1]; exact Array.getElem?_eq_getElem (by omega)⟩
  have k1 : ∀ n v, ((w.drewN n).setCell ⟨ga, i, none⟩ v).cell? ⟨b, 2, none⟩ = some (.slice (some ⟨gh, 0, none⟩) W W) := fun n v => by
    rw [World.cell?_of_block (w := w.drewN n) (heap_setCell_other _ _ _ _ (by exact hT.h2))]; exact c2
  have k2 : ∀ n v x, ((w.drewN n).setCell ⟨ga, i, none⟩ v).frozen? ⟨gh, x, none⟩ = false := fun n v x => by
    rw [World.frozen?_of_block (w := w.drewN n) (heap_setCell_other _ _ _ _ (by exact hT.h3))]; exact frozen_of_row _ _ _ _ _ e1
  have k3 : ∀ n v, ((w.drewN n).setCell ⟨ga, i, none⟩ v).cell? ⟨gh, bk s sh i, none⟩ = some (.int .i32 (lastB s sh (bk s sh i) i : Int)) := fun n v => by
    rw [World.cell?_of_block (w := w.drewN n) (heap_setCell_other _ _ _ _ (by exact hT.h3))]; exact d1
  have hW := hT.hW
  have hsz : s.size < 2147483647 := by omega
  have HN : Hid (∀ w2 : World, _ → _) := fun w2 => hT.noted hi0 (w2 := w2)
  clear hT e1 e2 e3 f1 f2 f3
  have hq : ∃ q, bk s sh i = q := ⟨_, rfl⟩
  obtain ⟨q, hq⟩ := hq
  have HQ : Hid (bk s sh i = q) := hq
  rw [hq] at d1 hsm k3
  clear hq
  go_enter Try.func20, Try.ntmps20
  go_wp2_with fail
  refine (show Calls _ _ _ _ _ from HBK.out).mono ?_
  rintro e w1 ⟨rfl, n1, rfl⟩
  rw [HQ.out]
  go_wp2
  go_region
  all_goals
    go_wp2
    go_end0
    have hn := HN.out (((w.drewN (n1 + 1)).setCell ⟨ga, i, none⟩ (.int .i32 (lastB s sh q i : Int))).setCell ⟨gh, q, none⟩ (.int .i32 ((i : Int) + 1))) (by rw [HQ.out]; rfl)
    exact ⟨⟨_, rfl⟩, hn.1, rfl, rfl, rfl, hn.2.1, hn.2.2⟩
end Go.Proofs.Ythjcbolbbdclnaa
