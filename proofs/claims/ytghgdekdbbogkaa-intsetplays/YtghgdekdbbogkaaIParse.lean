import Derived.Test.YtghgdekdbbogkaaIRise
import Derived.Test.YtghgdekdbbogkaaIBld
namespace Go.Proofs.Ytghgdekdbbogkaa
open Go.RowKit IM
set_option linter.unusedVariables false
theorem heap_last (w : World) (o : Obj) : (w.alloc o).heap[w.heap.size]? = some o := heap_alloc_new w o
theorem cells_sss {b : Nat} {w1 : World} {a0 a1 a2 : Value} {T : TypeId} (hrow : w1.heap[b]? = some (.cells #[a0, a1, a2] T (0, 0))) (v0 v1 v2 : Value) (o : Obj) :
    ((((w1.setCell ⟨b, 0, none⟩ v0).setCell ⟨b, 1, none⟩ v1).setCell ⟨b, 2, none⟩ v2).alloc o).cell? ⟨b, 0, none⟩ = some v0 ∧ ((((w1.setCell ⟨b, 0, none⟩ v0).setCell ⟨b, 1, none⟩ v1).setCell ⟨b, 2, none⟩ v2).alloc o).cell? ⟨b, 1, none⟩ = some v1 ∧ ((((w1.setCell ⟨b, 0, none⟩ v0).setCell ⟨b, 1, none⟩ v1).setCell ⟨b, 2, none⟩ v2).alloc o).cell? ⟨b, 2, none⟩ = some v2 := by
  have hlt := row_lt hrow
  have h1 : (((w1.setCell ⟨b, 0, none⟩ v0).setCell ⟨b, 1, none⟩ v1).setCell ⟨b, 2, none⟩ v2).heap[b]? = some (.cells #[v0, v1, v2] T (0, 0)) := by simp [World.setCell, Array.getElem?_modify, hrow]
  have h2 : ((((w1.setCell ⟨b, 0, none⟩ v0).setCell ⟨b, 1, none⟩ v1).setCell ⟨b, 2, none⟩ v2).alloc o).heap[b]? = some (.cells #[v0, v1, v2] T (0, 0)) := by
    rw [heap_alloc_old _ _ (by simpa [World.setCell] using hlt)]; exact h1
  refine ⟨?_, ?_, ?_⟩ <;> (rw [cell_heap h2]; rfl)
theorem cells_sss0 {b : Nat} {w1 : World} {a0 a1 a2 : Value} {T : TypeId} (hrow : w1.heap[b]? = some (.cells #[a0, a1, a2] T (0, 0))) (v0 v1 v2 : Value) :
    (((w1.setCell ⟨b, 0, none⟩ v0).setCell ⟨b, 1, none⟩ v1).setCell ⟨b, 2, none⟩ v2).cell? ⟨b, 0, none⟩ = some v0 ∧ (((w1.setCell ⟨b, 0, none⟩ v0).setCell ⟨b, 1, none⟩ v1).setCell ⟨b, 2, none⟩ v2).cell? ⟨b, 1, none⟩ = some v1 ∧ (((w1.setCell ⟨b, 0, none⟩ v0).setCell ⟨b, 1, none⟩ v1).setCell ⟨b, 2, none⟩ v2).cell? ⟨b, 2, none⟩ = some v2 := by
  have h1 : (((w1.setCell ⟨b, 0, none⟩ v0).setCell ⟨b, 1, none⟩ v1).setCell ⟨b, 2, none⟩ v2).heap[b]? = some (.cells #[v0, v1, v2] T (0, 0)) := by simp [World.setCell, Array.getElem?_modify, hrow]
  refine ⟨?_, ?_, ?_⟩ <;> (rw [cell_heap h1]; rfl)
theorem bel_sss {B b : Nat} {w w1 : World} (h : Below B w w1) (hb : B ≤ b) (hs : B ≤ w1.heap.size) (v0 v1 v2 : Value) (o : Obj) : Below B w ((((w1.setCell ⟨b, 0, none⟩ v0).setCell ⟨b, 1, none⟩ v1).setCell ⟨b, 2, none⟩ v2).alloc o) :=
  (((h.setCell (p := ⟨b, 0, none⟩) hb _).setCell (p := ⟨b, 1, none⟩) hb _).setCell (p := ⟨b, 2, none⟩) hb _).alloc (by simpa [World.setCell] using hs) _
theorem bel_sss0 {B b : Nat} {w w1 : World} (h : Below B w w1) (hb : B ≤ b) (v0 v1 v2 : Value) : Below B w (((w1.setCell ⟨b, 0, none⟩ v0).setCell ⟨b, 1, none⟩ v1).setCell ⟨b, 2, none⟩ v2) :=
  ((h.setCell (p := ⟨b, 0, none⟩) hb _).setCell (p := ⟨b, 1, none⟩) hb _).setCell (p := ⟨b, 2, none⟩) hb _
theorem head_split (p : ByteArray) (h : 8 ≤ p.size) : leN ((p.data.toList.drop 0).take 8) = wid p.data.toList + 4294967296 * cnt p.data.toList ∧ wid p.data.toList < 4294967296 ∧ cnt p.data.toList < 4294967296 := by
  have e4 : (256 : Nat) ^ 4 = 4294967296 := by decide
  have l1 : (p.data.toList.take 4).length = 4 := by rw [List.length_take, list_len]; omega
  have l2 : ((p.data.toList.drop 4).take 4).length = 4 := by rw [List.length_take, List.length_drop, list_len]; omega
  have h1 := leN_lt (p.data.toList.take 4); have h2 := leN_lt ((p.data.toList.drop 4).take 4)
  rw [l1, e4] at h1; rw [l2, e4] at h2
  refine ⟨?_, h1, h2⟩
  rw [List.drop_zero, show 8 = 4 + 4 from rfl, List.take_add, leN_app, l1, e4]
  rfl
theorem and_32 (a b : Nat) (ha : a < 4294967296) (hb : b < 4294967296) : bits .and .u64 ((a + 4294967296 * b : Nat) : Int) 4294967295 = (a : Int) := by
  have e : (4294967295 : Int) = ((4294967295 : Nat) : Int) := rfl
  rw [e, bits_and_u64_nat _ _ (by omega) (by omega)]
  have h := Nat.and_two_pow_sub_one_eq_mod (a + 4294967296 * b) 32
  rw [show (2 : Nat) ^ 32 - 1 = 4294967295 from rfl, show (2 : Nat) ^ 32 = 4294967296 from rfl] at h
  rw [h]
  omega
set_option maxHeartbeats 400000 in
set_option maxRecDepth 100000 in
theorem parse_short (p : ByteArray) (h : p.size < 8) (w : World) :
    Calls Try.prog 31 #[.string p] w fun e w' => e = .returned (.tuple #[setV ⟨#[]⟩ 0 0, .bool false]) ∧ Below w.heap.size w w' := by
  unfold setV
  go_enter Try.func31, Try.ntmps31
  go_wp2
  refine bodyPost_ret (v := .tuple #[.agg #[.string ⟨#[]⟩, .int .i64 0, .int .i64 0], .bool false]) (by simp [results, Try.results31, go_sem]) rfl ⟨rfl, (Below.refl _ w).alloc (Nat.le_refl _) _⟩
set_option maxHeartbeats 400000 in
set_option maxRecDepth 100000 in
theorem parse_w (p : ByteArray) (h : 8 ≤ p.size) (hp : p.size ≤ 9223372036854775807) (h3 : ¬ W3 (wid p.data.toList)) (w : World) :
    Calls Try.prog 31 #[.string p] w fun e w' => e = .returned (.tuple #[setV ⟨#[]⟩ 0 0, .bool false]) ∧ Below w.heap.size w w' := by
  obtain ⟨hd, hw, hc⟩ := head_split p h
  have hrw := fun W => readWord_any p 0 (by omega) W hp
  have hand := and_32 _ _ hw hc
  rw [← hd] at hand
  generalize leN ((p.data.toList.drop 0).take 8) = X at *
  generalize wid p.data.toList = W at *
  generalize cnt p.data.toList = C at *
  have hshr : (X : Int) / 4294967296 = (C : Int) := by omega
  have hX : X < 18446744073709551616 := by omega
  rw [show ((0 : Nat) : Int) = 0 from rfl] at hrw
  have HR : Hid _ := hrw
  clear hrw hd
  have n2 : ((W : Int) != 2) = true := bne_iff_ne.2 (fun e => h3 (Or.inl (by omega)))
  have n4 : ((W : Int) != 4) = true := bne_iff_ne.2 (fun e => h3 (Or.inr (Or.inl (by omega))))
  have n8 : ((W : Int) != 8) = true := bne_iff_ne.2 (fun e => h3 (Or.inr (Or.inr (by omega))))
  clear h3
  unfold setV
  go_enter Try.func31, Try.ntmps31
  go_wp2_with fail
  refine (HR.out _).mono ?_
  rintro e w1 ⟨rfl, hb1⟩
  have hz : w.heap.size < w1.heap.size := by have := hb1.size; simp at this; omega
  have hrow : w1.heap[w.heap.size]? = some (.cells #[.string ⟨#[]⟩, .int .i64 0, .int .i64 0] 58 (0, 0)) := by rw [hb1.block _ (by simp)]; exact heap_last w _
  have k0 : w1.cell? ⟨w.heap.size, 0, none⟩ = some (.string ⟨#[]⟩) := by rw [cell_of_row _ _ _ _ _ _ hrow]; rfl
  have k1 : w1.cell? ⟨w.heap.size, 1, none⟩ = some (.int .i64 0) := by rw [cell_of_row _ _ _ _ _ _ hrow]; rfl
  have k2 : w1.cell? ⟨w.heap.size, 2, none⟩ = some (.int .i64 0) := by rw [cell_of_row _ _ _ _ _ _ hrow]; rfl
  have f0 : w1.frozen? ⟨w.heap.size, 0, none⟩ = false := Lib.frozen_of_heap hrow 0
  have f1 : w1.frozen? ⟨w.heap.size, 1, none⟩ = false := Lib.frozen_of_heap hrow 1
  have f2 : w1.frozen? ⟨w.heap.size, 2, none⟩ = false := Lib.frozen_of_heap hrow 2
  have HB1 : Hid (Below w.heap.size w w1) := ((Below.refl _ w).alloc (Nat.le_refl _) _).trans (hb1.mono (by simp))
  have HROW : Hid _ := hrow
  clear hb1 hrow
  go_wp2
  refine bodyPost_ret (v := .tuple #[.agg #[.string ⟨#[]⟩, .int .i64 0, .int .i64 0], .bool false]) (by simp [results, Try.results31, go_sem, fun o => (cells_sss HROW.out (.string ⟨#[]⟩) (.int .i64 0) (.int .i64 0) o).1, fun o => (cells_sss HROW.out (.string ⟨#[]⟩) (.int .i64 0) (.int .i64 0) o).2.1, fun o => (cells_sss HROW.out (.string ⟨#[]⟩) (.int .i64 0) (.int .i64 0) o).2.2]) rfl ⟨rfl, bel_sss HB1.out (Nat.le_refl _) (by omega) _ _ _ _⟩
end Go.Proofs.Ytghgdekdbbogkaa
