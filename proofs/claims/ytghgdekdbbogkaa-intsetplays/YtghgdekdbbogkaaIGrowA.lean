import Derived.Test.YtghgdekdbbogkaaIFind
namespace Go.Proofs.Ytghgdekdbbogkaa
open Go.RowKit IM
set_option linter.unusedVariables false
theorem grown_m {B b : Nat} {W : Int} {w : World} {cs : Array Value} (hB : B ≤ b) (hbk : w.heap[b]? = some (.cells (mcells b (.slice none 0 0) W) 54 (0, 0))) (hBw : B ≤ w.heap.size) (hm : cs.size ≤ maxLen) :
    MakerAt B b W [] ((w.setCell ⟨b, 1, none⟩ (.slice (some ⟨w.heap.size, 0, none⟩) 0 cs.size)).alloc (.cells cs 5)).drew.drew.drew ∧
      Below B w ((w.setCell ⟨b, 1, none⟩ (.slice (some ⟨w.heap.size, 0, none⟩) 0 cs.size)).alloc (.cells cs 5)).drew.drew.drew := by
  have hlt := row_lt hbk
  have hb2 : (w.alloc (.cells cs 5)).heap[b]? = some (.cells (mcells b (.slice none 0 0) W) 54 (0, 0)) := (heap_alloc_old w _ hlt).trans hbk
  have hown : (w.alloc (.cells cs 5)).ownsRow B 5 1 (.slice (some ⟨w.heap.size, 0, none⟩) 0 cs.size) ([] : List UInt8).length (bcells []) :=
    ⟨rfl, .inr ⟨w.heap.size, cs.size, cs, rfl, hBw, heap_alloc_new w _, Nat.zero_le _, hm, by simp, by simp [bcells]⟩⟩
  have h := maker_put hB hb2 hown
  have h2 := ((Below.refl B w).alloc hBw (.cells cs 5)).setCell (p := ⟨b, 1, none⟩) hB (.slice (some ⟨w.heap.size, 0, none⟩) 0 cs.size)
  rw [World.setCell_alloc_past _ b 1 _ hlt] at h h2
  exact ⟨h, h2.drew.drew.drew⟩
set_option maxHeartbeats 1000000 in
set_option maxRecDepth 1000000 in
theorem grow_fresh (B b n : Nat) (W : Int) (w : World) (hB : B ≤ b) (hbk : w.heap[b]? = some (.cells (mcells b (.slice none 0 0) W) 54 (0, 0))) (hBw : B ≤ w.heap.size) (hn : n ≤ 281474976710656) :
    Calls Try.prog 57 #[.pointer (some ⟨b, 0, none⟩), .int .i64 n] w fun e w' => e = .returned (.tuple #[]) ∧ (MakerAt B b W [] w' ∧ Below B w w') := by
  obtain ⟨cs, hrun, hle, hmax⟩ := Lib.run_makeNoZero (P := Try.prog) w.drew #[3] 50 5 Try.underlying50 n hn
  have hw : IntKind.i64.wrap (IntKind.i64.wrap 0 + (n : Int)) = n := by
    rw [IntKind.wrap_i64, IntKind.wrap_i64]
    omega
  have hcall : (callFunc 61 #[.int .i64 (IntKind.i64.wrap (IntKind.i64.wrap 0 + (n : Int)))]).run Try.prog w.drew = .ok (.value (.slice (some ⟨w.drew.heap.size, 0, none⟩) n cs.size)) (w.drew.drew.drew.alloc (.cells cs 5)) := by
    rw [hw, run_callFunc_extern Try.func61 (by kernel_rfl) (by kernel_rfl) (by kernel_rfl) (e := Extern.BytealgMakeNoZero.makeNoZero #[3] #[50]) (by kernel_rfl), hrun]
    rfl
  have hlt := row_lt hbk
  have c1 : w.drew.cell? ⟨b, 1, none⟩ = some (.slice none 0 0) := by
    have : w.drew.heap[b]? = _ := hbk
    rw [cell_heap this]; rfl
  have hb2 : (w.alloc (.cells cs 5)).heap[b]? = some (.cells (mcells b (.slice none 0 0) W) 54 (0, 0)) := (heap_alloc_old w _ hlt).trans hbk
  have c2 : (w.alloc (.cells cs 5)).cell? ⟨b, 1, none⟩ = some (.slice none 0 0) := by rw [cell_heap hb2]; rfl
  have f2 : (w.alloc (.cells cs 5)).frozen? ⟨b, 1, none⟩ = false := Lib.frozen_of_heap hb2 1
  have hcopy : ∀ W : World, (Builtin.copy_ #[50, 50] 3 #[.slice (some ⟨w.heap.size, 0, none⟩) 0 cs.size, .slice none 0 0]).run Try.prog W = .ok (goInt 0) W :=
    fun W => run_copy_none W 50 50 3 5 _ _ 0 cs.size 0 0 Try.underlying50 (by kernel_rfl) rfl
  clear hw hb2
  have hfin := grown_m (cs := cs) hB hbk hBw (hmax (by unfold maxLen; omega))
  have HFIN : Hid _ := hfin
  clear hfin
  go_enter Try.func57, Try.ntmps57
  go_wp2
  go_region
  all_goals (go_wp2; go_end0; exact ⟨rfl, HFIN.out⟩)
end Go.Proofs.Ytghgdekdbbogkaa
