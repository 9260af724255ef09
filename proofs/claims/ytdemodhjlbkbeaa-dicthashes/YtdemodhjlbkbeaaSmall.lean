import Derived.Test.YtdemodhjlbkbeaaHsh
import Derived.OwnWalk
import Derived.Deep.OwnRows
namespace Go.Proofs.Ytdemodhjlbkbeaa
open Go.RowKit
set_option linter.unusedVariables false
theorem size_any (g o : Nat) (P : Option Addr) (n c : Nat) (w : World) (h : w.cell? ⟨g, o, none⟩ = some (.slice P n c)) : Calls Try.prog 33 #[.pointer (some ⟨g, o, none⟩)] w fun e w' => e = .returned (.int .i64 (n : Int)) ∧ w' = w := by
  go_enter Try.func33, Try.ntmps33
  go_wp2
  go_ret
  exact ⟨rfl, rfl⟩
theorem moves_no (g : Nat) (P : Option Addr) (c : Nat) (w : World) (h : w.cell? ⟨g, 3, none⟩ = some (.slice P 0 c)) : Calls Try.prog 28 #[.pointer (some ⟨g, 0, none⟩)] w fun e w' => e = .returned (.bool false) ∧ w' = w := by
  have HS : Hid _ := size_any g 3 P 0 c w h
  clear h
  go_enter Try.func28, Try.ntmps28
  go_wp2_with fail
  refine (show Calls _ _ _ _ _ from HS.out).mono ?_
  rintro e w1 ⟨rfl, rfl⟩
  go_wp2
  go_ret
  exact ⟨rfl, rfl⟩
theorem step_no (g : Nat) (P : Option Addr) (c : Nat) (w : World) (h : w.cell? ⟨g, 3, none⟩ = some (.slice P 0 c)) : Calls Try.prog 24 #[.pointer (some ⟨g, 0, none⟩)] w fun e w' => e = .returned (.tuple #[]) ∧ w' = w := by
  have HS : Hid _ := moves_no g P c w h
  clear h
  go_enter Try.func24, Try.ntmps24
  go_wp2_with fail
  refine (show Calls _ _ _ _ _ from HS.out).mono ?_
  rintro e w1 ⟨rfl, rfl⟩
  go_wp2
  go_returns
  exact ⟨rfl, rfl⟩
theorem place_nil (g o : Nat) (P : Option Addr) (c : Nat) (h : Int) (s : ByteArray) (w : World) (hc : w.cell? ⟨g, o, none⟩ = some (.slice P 0 c)) : Calls Try.prog 45 #[.pointer (some ⟨g, o, none⟩), .int .i64 h, .string s] w fun e w' => e = .returned (.tuple #[.int .i64 0, .int .i64 0, .bool false]) ∧ w' = w := by
  have HS : Hid _ := size_any g o P 0 c w hc
  clear hc
  go_enter Try.func45, Try.ntmps45
  go_wp2_with fail
  refine (show Calls _ _ _ _ _ from HS.out).mono ?_
  rintro e w1 ⟨rfl, rfl⟩
  go_wp2
  go_returns
  exact ⟨rfl, rfl⟩
theorem tfind_nil (g o : Nat) (P : Option Addr) (c : Nat) (h : Int) (s : ByteArray) (w : World) (hc : w.cell? ⟨g, o, none⟩ = some (.slice P 0 c)) : Calls Try.prog 41 #[.pointer (some ⟨g, o, none⟩), .int .i64 h, .string s] w fun e w' => e = .returned (.pointer none) ∧ w' = w := by
  have HS : Hid _ := place_nil g o P c h s w hc
  clear hc
  go_enter Try.func41, Try.ntmps41
  go_wp2_with fail
  refine (show Calls _ _ _ _ _ from HS.out).mono ?_
  rintro e w1 ⟨rfl, rfl⟩
  go_wp2
  go_ret
  exact ⟨rfl, rfl⟩
theorem find_nil (g : Nat) (P Q : Option Addr) (c d : Nat) (h : Int) (s : ByteArray) (w : World) (h1 : w.cell? ⟨g, 1, none⟩ = some (.slice P 0 c)) (h2 : w.cell? ⟨g, 3, none⟩ = some (.slice Q 0 d)) : Calls Try.prog 25 #[.pointer (some ⟨g, 0, none⟩), .int .i64 h, .string s] w fun e w' => e = .returned (.pointer none) ∧ w' = w := by
  have HS1 : Hid _ := tfind_nil g 1 P c h s w h1
  have HS2 : Hid _ := tfind_nil g 3 Q d h s w h2
  clear h1 h2
  go_enter Try.func25, Try.ntmps25
  go_wp2_with fail
  refine (show Calls _ _ _ _ _ from HS1.out).mono ?_
  rintro e w1 ⟨rfl, rfl⟩
  go_wp2_with fail
  refine (show Calls _ _ _ _ _ from HS2.out).mono ?_
  rintro e w1 ⟨rfl, rfl⟩
  go_wp2
  go_ret
  exact ⟨rfl, rfl⟩
theorem infoB : (Try.prog.info? 71).map (fun i => (i.zero, i.size, i.bytes)) = some (some (.slice none 0 0), 1, 24) := by kernel_rfl
set_option maxHeartbeats 1000000 in
set_option maxRecDepth 100000 in
theorem newTable_any (n : Nat) (hn : n ≤ 1099511627776) (w : World) : Calls Try.prog 42 #[.int .i64 (n : Int)] w fun e w' => e = .returned (.agg #[.slice (some ⟨w.heap.size + 1, 0, none⟩) n n, .int .i64 0]) ∧ w'.heap[w.heap.size + 1]? = some (.cells (madeCells #[.slice none 0 0] n) 71) ∧ Below w.heap.size w w' := by
  have hmk := run_make_row' (P := Try.prog) 54 71 (.slice none 0 0) 24 Try.underlying54 infoB rfl .i64 .i64 n (by omega) (by omega)
  go_enter Try.func42, Try.ntmps42
  go_wp2
  have hr1 := keep_row (one_alloc w (.cells #[.slice (some ⟨w.heap.size + 1, 0, none⟩) n n, .int .i64 0] 56)) ((Below.refl _ _).alloc (Nat.le_refl _) (.cells (madeCells #[.slice none 0 0] n) 71))
  have hr2 := one_alloc (w.alloc (.cells #[.slice (some ⟨w.heap.size + 1, 0, none⟩) n n, .int .i64 0] 56)) (.cells (madeCells #[.slice none 0 0] n) 71)
  rw [World.size_alloc] at hr2
  have c0 : ((w.alloc (.cells #[.slice (some ⟨w.heap.size + 1, 0, none⟩) n n, .int .i64 0] 56)).alloc (.cells (madeCells #[.slice none 0 0] n) 71)).cell? ⟨w.heap.size, 0, none⟩ = some (.slice (some ⟨w.heap.size + 1, 0, none⟩) n n) := by rw [cell_of_row _ _ _ _ _ _ hr1]; rfl
  have c1 : ((w.alloc (.cells #[.slice (some ⟨w.heap.size + 1, 0, none⟩) n n, .int .i64 0] 56)).alloc (.cells (madeCells #[.slice none 0 0] n) 71)).cell? ⟨w.heap.size, 1, none⟩ = some (.int .i64 0) := by rw [cell_of_row _ _ _ _ _ _ hr1]; rfl
  refine bodyPost_ret (v := .agg #[.slice (some ⟨w.heap.size + 1, 0, none⟩) n n, .int .i64 0]) (by simp [results, Try.results42, go_sem, c0, c1]) rfl ⟨rfl, hr2, ?_⟩
  exact ((Below.refl _ w).alloc (Nat.le_refl _) _).alloc (by simp) _
theorem newTable_4 (w : World) : Calls Try.prog 42 #[.int .i64 4] w fun e w' => e = .returned (.agg #[.slice (some ⟨w.heap.size + 1, 0, none⟩) 4 4, .int .i64 0]) ∧ w'.heap[w.heap.size + 1]? = some (.cells #[.slice none 0 0, .slice none 0 0, .slice none 0 0, .slice none 0 0] 71) ∧ Below w.heap.size w w' := by
  have h := newTable_any 4 (by decide) w
  rw [show madeCells #[.slice none 0 0] 4 = #[.slice none 0 0, .slice none 0 0, .slice none 0 0, .slice none 0 0] by kernel_rfl, show ((4 : Nat) : Int) = 4 from rfl] at h
  exact h
theorem row6 {w : World} {g T : Nat} {v0 v1 v2 v3 v4 v5 : Value} (h : w.heap[g]? = some (.cells #[v0, v1, v2, v3, v4, v5] T)) :
    w.cell? ⟨g, 0, none⟩ = some v0 ∧ w.cell? ⟨g, 1, none⟩ = some v1 ∧ w.cell? ⟨g, 2, none⟩ = some v2 ∧ w.cell? ⟨g, 3, none⟩ = some v3 ∧ w.cell? ⟨g, 4, none⟩ = some v4 ∧ w.cell? ⟨g, 5, none⟩ = some v5 ∧ ∀ j, w.frozen? ⟨g, j, none⟩ = false := by
  refine ⟨?_, ?_, ?_, ?_, ?_, ?_, fun j => frozen_of_row _ _ _ _ _ h⟩ <;> rw [cell_of_row _ _ _ _ _ _ h] <;> rfl
/-- a dict as it lies. -/
def dcells (P : Option Addr) (n c : Nat) (k : Int) : Array Value := #[.int .i64 0, .slice P n c, .int .i64 k, .slice none 0 0, .int .i64 0, .int .i64 0]
set_option maxHeartbeats 1000000 in
set_option maxRecDepth 100000 in
theorem makeRoom_0 (g : Nat) (w : World) (h : w.heap[g]? = some (.cells (dcells none 0 0 0) 58)) : Calls Try.prog 26 #[.pointer (some ⟨g, 0, none⟩)] w fun e w' => e = .returned (.tuple #[]) ∧ ∃ B, w.heap.size ≤ B ∧ w'.heap[g]? = some (.cells (dcells (some ⟨B, 0, none⟩) 4 4 0) 58) ∧ w'.heap[B]? = some (.cells #[.slice none 0 0, .slice none 0 0, .slice none 0 0, .slice none 0 0] 71) ∧ w.heap.size ≤ w'.heap.size ∧ Below g w w' := by
  have HR : Hid _ := h
  obtain ⟨c0, c1, c2, c3, c4, c5, cf⟩ := row6 h
  have HS : Hid _ := size_any g 1 none 0 0 w c1
  have HN : Hid _ := newTable_4 w
  clear h
  go_enter Try.func26, Try.ntmps26
  go_wp2_with fail
  refine (show Calls _ _ _ _ _ from HS.out).mono ?_
  rintro e w1 ⟨rfl, rfl⟩
  go_wp2_with fail
  refine (show Calls _ _ _ _ _ from HN.out).mono ?_
  rintro e w2 ⟨rfl, hB, hb⟩
  have HR2 : Hid _ := keep_row HR.out hb
  have HB : Hid _ := hB
  have HBL : Hid (Below _ _ w2) := hb
  clear c0 c1 c2 c3 c4 c5 cf hb hB
  obtain ⟨c0, c1, c2, c3, c4, c5, cf⟩ := row6 HR2.out
  go_wp2
  go_returns
  have hgl := row_lt HR.out
  refine ⟨rfl, w1.heap.size + 1, by omega, ?_, ?_, ?_, ?_⟩
  · rw [heap_setCell_same _ _ _ _ _ _ (heap_setCell_same _ _ _ _ _ _ HR2.out)]; rfl
  · rw [heap_setCell_other _ _ _ _ (show w1.heap.size + 1 ≠ g by omega), heap_setCell_other _ _ _ _ (show w1.heap.size + 1 ≠ g by omega)]; exact HB.out
  · rw [World.size_setCell, World.size_setCell]; exact HBL.out.size
  · exact ((HBL.out.mono (show g ≤ w1.heap.size by omega)).setCell (p := ⟨g, 1, none⟩) (Nat.le_refl _) _).setCell (p := ⟨g, 2, none⟩) (Nat.le_refl _) _
end Go.Proofs.Ytdemodhjlbkbeaa
