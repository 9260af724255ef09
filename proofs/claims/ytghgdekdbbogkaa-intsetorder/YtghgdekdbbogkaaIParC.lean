import Derived.Test.YtghgdekdbbogkaaIParse
namespace Go.Proofs.Ytghgdekdbbogkaa
open Go.RowKit IM
set_option linter.unusedVariables false
set_option maxHeartbeats 400000 in
set_option maxRecDepth 100000 in
theorem parse_c (p : ByteArray) (h : 8 ≤ p.size) (hp : p.size ≤ 9223372036854775807) (h3 : W3 (wid p.data.toList)) (hm : 1048576 < cnt p.data.toList) (w : World) :
    Calls Try.prog 31 #[.string p] w fun e w' => e = .returned (.tuple #[setV ⟨#[]⟩ 0 0, .bool false]) ∧ Below w.heap.size w w' := by
  obtain ⟨hd, hw, hc⟩ := head_split p h
  have hrw := fun W => readWord_any p 0 (by omega) W hp
  have hand := and_32 _ _ hw hc
  rw [← hd] at hand
  generalize leN ((p.data.toList.drop 0).take 8) = X at *
  generalize wid p.data.toList = W at *
  generalize cnt p.data.toList = C at *
  have hshr : (X : Int) / 4294967296 = (C : Int) := by omega
  have hX : X < 18446744073709551616 := by omega
  rw [show ((0 : Nat) : Int) = 0 from rfl] at hrw
  have HR : Hid _ := hrw
  clear hrw hd
  unfold setV
  rcases h3 with rfl | rfl | rfl
  all_goals (
    go_enter Try.func31, Try.ntmps31
    go_wp2_with fail
    refine (HR.out _).mono ?_
    rintro e w1 ⟨rfl, hb1⟩
    have hz : w.heap.size < w1.heap.size := by have := hb1.size; simp at this; omega
    have hrow : w1.heap[w.heap.size]? = some (.cells #[.string ⟨#[]⟩, .int .i64 0, .int .i64 0] 58 (0, 0)) := by rw [hb1.block _ (by simp)]; exact heap_last w _
    have k0 : w1.cell? ⟨w.heap.size, 0, none⟩ = some (.string ⟨#[]⟩) := by rw [cell_of_row _ _ _ _ _ _ hrow]; rfl
    have k1 : w1.cell? ⟨w.heap.size, 1, none⟩ = some (.int .i64 0) := by rw [cell_of_row _ _ _ _ _ _ hrow]; rfl
    have k2 : w1.cell? ⟨w.heap.size, 2, none⟩ = some (.int .i64 0) := by rw [cell_of_row _ _ _ _ _ _ hrow]; rfl
    have f0 : w1.frozen? ⟨w.heap.size, 0, none⟩ = false := Lib.frozen_of_heap hrow 0
    have f1 : w1.frozen? ⟨w.heap.size, 1, none⟩ = false := Lib.frozen_of_heap hrow 1
    have f2 : w1.frozen? ⟨w.heap.size, 2, none⟩ = false := Lib.frozen_of_heap hrow 2
    have HB1 : Hid (Below w.heap.size w w1) := ((Below.refl _ w).alloc (Nat.le_refl _) _).trans (hb1.mono (by simp))
    have HROW : Hid _ := hrow
    clear hb1 hrow
    go_wp2
    refine bodyPost_ret (v := .tuple #[.agg #[.string ⟨#[]⟩, .int .i64 0, .int .i64 0], .bool false]) (by simp [results, Try.results31, go_sem, fun o => (cells_sss HROW.out (.string ⟨#[]⟩) (.int .i64 0) (.int .i64 0) o).1, fun o => (cells_sss HROW.out (.string ⟨#[]⟩) (.int .i64 0) (.int .i64 0) o).2.1, fun o => (cells_sss HROW.out (.string ⟨#[]⟩) (.int .i64 0) (.int .i64 0) o).2.2]) rfl ⟨rfl, bel_sss HB1.out (Nat.le_refl _) (by omega) _ _ _ _⟩)
end Go.Proofs.Ytghgdekdbbogkaa
