import Derived.Test.YtghgdekdbbogkaaIApi1
import Derived.Test.YtghgdekdbbogkaaIRow
namespace Go.Proofs.Ytghgdekdbbogkaa
open Go.RowKit IM
set_option linter.unusedVariables false
theorem made_at (z : Value) (n j : Nat) (h : j < n) : (madeCells #[z] n)[j]? = some z := by
  have e := toList_madeCells_one z n
  rw [← Array.getElem?_toList, e, List.getElem?_replicate, if_pos h]
set_option maxHeartbeats 400000 in
set_option maxRecDepth 100000 in
theorem all_set (p : ByteArray) (W : Nat) (l : List Int) (h : IsSet p.data.toList W l) (w : World) :
    Calls Try.prog 11 #[.string p] w fun e w' => ∃ v, e = .returned (.tuple #[v, .int .i64 0]) ∧ HoldsI w' v l ∧ Below w.heap.size w w' := by
  have HP : Hid (∀ w, Calls Try.prog 31 #[.string p] w fun e w' => e = .returned (.tuple #[setV p W l.length, .bool true]) ∧ Below w.heap.size w w') := fun w => parse_set p W l h w
  have hlen := h.len
  have HA : Hid (∀ k, (hk : k < l.length) → ∀ W', Calls Try.prog 34 #[setV p W l.length, .int .i64 k] W' fun e w' => e = .returned (.int .i64 l[k]) ∧ Below W'.heap.size W' w') := fun k hk W' => by
    have hs := set_size h
    have : l.length * W ≤ 1048576 * 8 := Nat.mul_le_mul h.len (by rcases h.w3 with rfl | rfl | rfl <;> omega)
    rw [← h.at k hk]; exact at_any p W _ k h.w3 (place_le hk hs) (by omega) W'
  clear h
  have hmk := run_make_row' (P := Try.prog) 24 3 (.int .i64 0) 8 Try.underlying24 info3 rfl .i64 .i64 l.length (by omega) (by omega)
  unfold setV at *
  go_enter Try.func11, Try.ntmps11
  go_wp2_with fail
  refine (HP.out _).mono ?_
  rintro e w1 ⟨rfl, hb⟩
  have HB : Hid (Below w.heap.size w w1) := hb
  have hz := hb.size
  clear hb
  obtain ⟨W1, hW1⟩ : ∃ W1, W1 = (w1.alloc (.cells #[.string p, .int .i64 (W : Int), .int .i64 (l.length : Int)] 58)).alloc (.cells (madeCells #[.int .i64 0] l.length) 3) := ⟨_, rfl⟩
  have hr1 : W1.heap[w1.heap.size]? = some (.cells #[.string p, .int .i64 (W : Int), .int .i64 (l.length : Int)] 58 (0, 0)) := by rw [hW1, heap_alloc_old _ _ (by simp)]; exact heap_last _ _
  have hr2 : W1.heap[w1.heap.size + 1]? = some (.cells (madeCells #[.int .i64 0] l.length) 3 (0, 0)) := by
    rw [hW1]
    have := heap_last (w1.alloc (.cells #[.string p, .int .i64 (W : Int), .int .i64 (l.length : Int)] 58)) (.cells (madeCells #[.int .i64 0] l.length) 3)
    rw [World.size_alloc] at this
    exact this
  have HBW : Hid (Below w.heap.size w W1) := by rw [hW1]; exact ((HB.out.alloc hz _).alloc (by simp; omega) _)
  have HR1 : Hid (W1.heap[w1.heap.size]? = some (.cells #[.string p, .int .i64 (W : Int), .int .i64 (l.length : Int)] 58 (0, 0))) := hr1
  have HR2 : Hid (W1.heap[w1.heap.size + 1]? = some (.cells (madeCells #[.int .i64 0] l.length) 3 (0, 0))) := hr2
  clear hr1 hr2
  go_wp2
  rw [← hW1]
  clear hW1
  go_loopw [7, 20] (fun ii cc wr => ∃ (k : Nat) (cur : Array Value), k ≤ l.length ∧ cc = .int .i64 k ∧ cur.size = l.length ∧ (∀ j, (hj : j < l.length) → j < k → cur[j]? = some (.int .i64 l[j])) ∧ wr.heap[w1.heap.size + 1]? = some (.cells cur 3 (0, 0)) ∧ wr.heap[w1.heap.size]? = some (.cells #[.string p, .int .i64 (W : Int), .int .i64 (l.length : Int)] 58 (0, 0)) ∧ Below w.heap.size w wr) (fun _ cc _ => l.length - (intOf cc).toNat)
  case atStart => exact ⟨0, _, by omega, rfl, size_madeCells _ _, by intro j hj h; omega, HR2.out, HR1.out, HBW.out⟩
  case round =>
    obtain ⟨k, cur, hk, rfl, hcs, hcur, hrow, hsr, hbel⟩ := hrel
    have t0 : wr.cell? ⟨w1.heap.size, 0, none⟩ = some (.string p) := by rw [cell_heap hsr]; rfl
    have t1 : wr.cell? ⟨w1.heap.size, 1, none⟩ = some (.int .i64 (W : Int)) := by rw [cell_heap hsr]; rfl
    have t2 : wr.cell? ⟨w1.heap.size, 2, none⟩ = some (.int .i64 (l.length : Int)) := by rw [cell_heap hsr]; rfl
    have HCUR : Hid (∀ j, (hj : j < l.length) → j < k → cur[j]? = some (.int .i64 l[j])) := hcur
    have HROW : Hid (wr.heap[w1.heap.size + 1]? = some (.cells cur 3 (0, 0))) := hrow
    have HSR : Hid (wr.heap[w1.heap.size]? = some (.cells #[.string p, .int .i64 (W : Int), .int .i64 (l.length : Int)] 58 (0, 0))) := hsr
    have HBL : Hid (Below w.heap.size w wr) := hbel
    clear hcur hrow hsr hbel
    by_cases hlt : k < l.length
    · have hat := HA.out k hlt
      have HN : Hid (∀ x, x = l[k] → l[k] = x) := fun x e => e.symm
      generalize hnn : l[k] = n at hat HN
      have HNN : Hid (l[k] = n) := hnn
      have HAT : Hid (∀ W', Calls Try.prog 34 #[.agg #[.string p, .int .i64 (W : Int), .int .i64 (l.length : Int)], .int .i64 k] W' fun e w' => e = .returned (.int .i64 n) ∧ Below W'.heap.size W' w') := hat
      clear hat hnn
      go_wp2_with fail
      refine (HAT.out _).mono ?_
      rintro e w2 ⟨rfl, hb2⟩
      have hr2 : w2.heap[w1.heap.size + 1]? = some (.cells cur 3 (0, 0)) := by rw [hb2.block _ (row_lt HROW.out)]; exact HROW.out
      have hs2 : w2.heap[w1.heap.size]? = some (.cells #[.string p, .int .i64 (W : Int), .int .i64 (l.length : Int)] 58 (0, 0)) := by rw [hb2.block _ (row_lt HSR.out)]; exact HSR.out
      have kc : ∃ x, w2.cell? ⟨w1.heap.size + 1, k, none⟩ = some x := by
        rw [cell_heap hr2, Array.getElem?_eq_getElem (by omega)]; exact ⟨_, rfl⟩
      obtain ⟨x, kc⟩ := kc
      have kf : w2.frozen? ⟨w1.heap.size + 1, k, none⟩ = false := Lib.frozen_of_heap hr2 k
      have HR2' : Hid (w2.heap[w1.heap.size + 1]? = some (.cells cur 3 (0, 0))) := hr2
      have HS2' : Hid (w2.heap[w1.heap.size]? = some (.cells #[.string p, .int .i64 (W : Int), .int .i64 (l.length : Int)] 58 (0, 0))) := hs2
      have HB2 : Hid (Below w.heap.size w w2) := HBL.out.trans (hb2.mono HBL.out.size)
      clear hr2 hs2 hb2 t0 t1 t2
      go_wp2
      go_roundw
      case rel =>
        refine ⟨k + 1, cur.set! k (.int .i64 n), by omega, by go_num, by simp [hcs], ?_, ?_, ?_, HB2.out.setCell (p := ⟨w1.heap.size + 1, k, none⟩) (show w.heap.size ≤ w1.heap.size + 1 by omega) _⟩
        · intro j hj hjk
          rcases Nat.lt_or_ge j k with hjl | hjl
          · rw [Array.set!_eq_setIfInBounds, Array.getElem?_setIfInBounds_ne (by omega)]; exact HCUR.out j hj hjl
          · have : j = k := by omega
            subst this
            rw [HNN.out]
            simp [Array.set!_eq_setIfInBounds, hcs, hj]
        · simp [World.setCell, Array.getElem?_modify, HR2'.out]
        · rw [World.setCell]
          simp [Array.getElem?_modify, HS2'.out]
      case measure => simp [intOf]; omega
    · have hke : k = l.length := by omega
      go_wp2
      go_ret2
      refine ⟨_, rfl, ⟨_, l.length, rfl, fun _ => ⟨_, rfl, fun j hj => ?_⟩⟩, HBL.out⟩
      rw [cell_heap HROW.out]
      exact HCUR.out j hj (by omega)
set_option maxHeartbeats 400000 in
set_option maxRecDepth 100000 in
theorem all_none (p : ByteArray) (hp : bigS p) (h : ¬ OkP p.data.toList) (w : World) :
    Calls Try.prog 11 #[.string p] w fun e w' => e = .returned (.tuple #[.slice none 0 0, .int .i64 50]) ∧ Below w.heap.size w w' := by
  have HP : Hid (∀ w, Calls Try.prog 31 #[.string p] w fun e w' => e = .returned (.tuple #[setV ⟨#[]⟩ 0 0, .bool false]) ∧ Below w.heap.size w w') := fun w => parse_none p hp h w
  clear h hp
  unfold setV at *
  go_enter Try.func11, Try.ntmps11
  go_wp2_with fail
  refine (HP.out _).mono ?_
  rintro e w1 ⟨rfl, hb⟩
  have HB : Hid (Below w.heap.size w w1) := hb
  have hz := hb.size
  clear hb
  go_wp2
  go_ret2
  exact ⟨rfl, HB.out.alloc hz _⟩
end Go.Proofs.Ytghgdekdbbogkaa
