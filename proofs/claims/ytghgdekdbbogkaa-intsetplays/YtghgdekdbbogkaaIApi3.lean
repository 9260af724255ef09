import Derived.Test.YtghgdekdbbogkaaIApi2
import Derived.Test.YtghgdekdbbogkaaIWith
import Derived.Test.YtghgdekdbbogkaaIWout
namespace Go.Proofs.Ytghgdekdbbogkaa
open Go.RowKit IM
set_option linter.unusedVariables false
set_option maxHeartbeats 400000 in
set_option maxRecDepth 100000 in
theorem add_in (p : ByteArray) (W : Nat) (l : List Int) (h : IsSet p.data.toList W l) (n : Int) (hn : n ∈ l) (w : World) :
    Calls Try.prog 10 #[.string p, .int .i64 n] w fun e w' => e = .returned (.tuple #[.string p, .bool false, .int .i64 0]) ∧ Below w.heap.size w w' := by
  have HP : Hid (∀ w, Calls Try.prog 31 #[.string p] w fun e w' => e = .returned (.tuple #[setV p W l.length, .bool true]) ∧ Below w.heap.size w w') := fun w => parse_set p W l h w
  have HF : Hid (∀ W', Calls Try.prog 32 #[setV p W l.length, .int .i64 n] W' fun e w' => e = .returned (.tuple #[.int .i64 (pos l n : Nat), .bool (decide (n ∈ l))]) ∧ Below W'.heap.size W' w') := fun W' => find_any p W l h n W'
  rw [decide_eq_true hn] at HF
  have hple := pos_le l n
  clear h
  unfold setV at *
  go_enter Try.func10, Try.ntmps10
  go_wp2_with fail
  refine (HP.out _).mono ?_
  rintro e w1 ⟨rfl, hb⟩
  have HB : Hid (Below w.heap.size w w1) := hb
  have hz := hb.size
  clear hb
  obtain ⟨W1, hW1⟩ : ∃ W1, W1 = w1.alloc (.cells #[.string p, .int .i64 (W : Int), .int .i64 (l.length : Int)] 58) := ⟨_, rfl⟩
  have hrow : W1.heap[w1.heap.size]? = some (.cells #[.string p, .int .i64 (W : Int), .int .i64 (l.length : Int)] 58 (0, 0)) := by rw [hW1]; exact heap_last _ _
  have t0 : W1.cell? ⟨w1.heap.size, 0, none⟩ = some (.string p) := by rw [cell_heap hrow]; rfl
  have t1 : W1.cell? ⟨w1.heap.size, 1, none⟩ = some (.int .i64 (W : Int)) := by rw [cell_heap hrow]; rfl
  have t2 : W1.cell? ⟨w1.heap.size, 2, none⟩ = some (.int .i64 (l.length : Int)) := by rw [cell_heap hrow]; rfl
  have hz1 : w1.heap.size < W1.heap.size := row_lt hrow
  have HBW : Hid (Below w.heap.size w W1) := HB.out.trans (by rw [hW1]; exact ((Below.refl _ w1).alloc (Nat.le_refl _) _).mono hz)
  clear hrow
  go_wp2_with fail
  rw [← hW1]
  clear hW1
  refine (HF.out _).mono ?_
  rintro e w2 ⟨rfl, hb2⟩
  have HB2 : Hid (Below w.heap.size w w2) := HBW.out.trans (hb2.mono (by omega))
  clear hb2
  go_wp2
  go_ret3
  exact ⟨rfl, HB2.out⟩
set_option maxHeartbeats 400000 in
set_option maxRecDepth 100000 in
theorem add_full (p : ByteArray) (W : Nat) (l : List Int) (h : IsSet p.data.toList W l) (n : Int) (hn : n ∉ l) (hf : l.length = 1048576) (w : World) :
    Calls Try.prog 10 #[.string p, .int .i64 n] w fun e w' => e = .returned (.tuple #[.string ⟨#[]⟩, .bool false, .int .i64 3]) ∧ Below w.heap.size w w' := by
  have HP : Hid (∀ w, Calls Try.prog 31 #[.string p] w fun e w' => e = .returned (.tuple #[setV p W l.length, .bool true]) ∧ Below w.heap.size w w') := fun w => parse_set p W l h w
  have HF : Hid (∀ W', Calls Try.prog 32 #[setV p W l.length, .int .i64 n] W' fun e w' => e = .returned (.tuple #[.int .i64 (pos l n : Nat), .bool (decide (n ∈ l))]) ∧ Below W'.heap.size W' w') := fun W' => find_any p W l h n W'
  rw [decide_eq_false hn] at HF
  have hple := pos_le l n
  have HFL : Hid (l.length = 1048576) := hf
  clear hf
  clear h
  unfold setV at *
  go_enter Try.func10, Try.ntmps10
  go_wp2_with fail
  refine (HP.out _).mono ?_
  rintro e w1 ⟨rfl, hb⟩
  have HB : Hid (Below w.heap.size w w1) := hb
  have hz := hb.size
  clear hb
  obtain ⟨W1, hW1⟩ : ∃ W1, W1 = w1.alloc (.cells #[.string p, .int .i64 (W : Int), .int .i64 (l.length : Int)] 58) := ⟨_, rfl⟩
  have hrow : W1.heap[w1.heap.size]? = some (.cells #[.string p, .int .i64 (W : Int), .int .i64 (l.length : Int)] 58 (0, 0)) := by rw [hW1]; exact heap_last _ _
  have t0 : W1.cell? ⟨w1.heap.size, 0, none⟩ = some (.string p) := by rw [cell_heap hrow]; rfl
  have t1 : W1.cell? ⟨w1.heap.size, 1, none⟩ = some (.int .i64 (W : Int)) := by rw [cell_heap hrow]; rfl
  have t2 : W1.cell? ⟨w1.heap.size, 2, none⟩ = some (.int .i64 (l.length : Int)) := by rw [cell_heap hrow]; rfl
  have hz1 : w1.heap.size < W1.heap.size := row_lt hrow
  have HBW : Hid (Below w.heap.size w W1) := HB.out.trans (by rw [hW1]; exact ((Below.refl _ w1).alloc (Nat.le_refl _) _).mono hz)
  clear hrow
  go_wp2_with fail
  rw [← hW1]
  clear hW1
  refine (HF.out _).mono ?_
  rintro e w2 ⟨rfl, hb2⟩
  have HB2 : Hid (Below w.heap.size w w2) := HBW.out.trans (hb2.mono (by omega))
  have t0 : w2.cell? ⟨w1.heap.size, 0, none⟩ = some (.string p) := (cell_below hb2 hz1).trans t0
  have t1 : w2.cell? ⟨w1.heap.size, 1, none⟩ = some (.int .i64 (W : Int)) := (cell_below hb2 hz1).trans t1
  have t2 : w2.cell? ⟨w1.heap.size, 2, none⟩ = some (.int .i64 (l.length : Int)) := (cell_below hb2 hz1).trans t2
  have hfl : ((l.length : Int) == 1048576) = true := by rw [HFL.out]; rfl
  clear hb2
  go_wp2
  go_ret3
  exact ⟨rfl, HB2.out⟩
set_option maxHeartbeats 400000 in
set_option maxRecDepth 100000 in
theorem add_new (p : ByteArray) (W : Nat) (l : List Int) (h : IsSet p.data.toList W l) (n : Int) (hi : I64 n) (hn : n ∉ l) (hf : l.length ≠ 1048576) (w : World) :
    Calls Try.prog 10 #[.string p, .int .i64 n] w fun e w' => e = .returned (.tuple #[.string (strB (txt (max W (needs n)) (ins l n))), .bool true, .int .i64 0]) ∧ Below w.heap.size w w' := by
  have HP : Hid (∀ w, Calls Try.prog 31 #[.string p] w fun e w' => e = .returned (.tuple #[setV p W l.length, .bool true]) ∧ Below w.heap.size w w') := fun w => parse_set p W l h w
  have HF : Hid (∀ W', Calls Try.prog 32 #[setV p W l.length, .int .i64 n] W' fun e w' => e = .returned (.tuple #[.int .i64 (pos l n : Nat), .bool (decide (n ∈ l))]) ∧ Below W'.heap.size W' w') := fun W' => find_any p W l h n W'
  rw [decide_eq_false hn] at HF
  have hple := pos_le l n
  have HW : Hid (∀ W', Calls Try.prog 33 #[setV p W l.length, .int .i64 (pos l n : Nat), .int .i64 n] W' fun e w' => e = .returned (.string (strB (txt (max W (needs n)) (ins l n)))) ∧ Below W'.heap.size W' w') := fun W' => with_any p W l h n hi (by have := h.len; omega) (pos l n) (pos_le l n) W'
  have hlen := h.len
  have HFL : Hid (l.length ≠ 1048576) := hf
  clear hf
  clear h
  unfold setV at *
  go_enter Try.func10, Try.ntmps10
  go_wp2_with fail
  refine (HP.out _).mono ?_
  rintro e w1 ⟨rfl, hb⟩
  have HB : Hid (Below w.heap.size w w1) := hb
  have hz := hb.size
  clear hb
  obtain ⟨W1, hW1⟩ : ∃ W1, W1 = w1.alloc (.cells #[.string p, .int .i64 (W : Int), .int .i64 (l.length : Int)] 58) := ⟨_, rfl⟩
  have hrow : W1.heap[w1.heap.size]? = some (.cells #[.string p, .int .i64 (W : Int), .int .i64 (l.length : Int)] 58 (0, 0)) := by rw [hW1]; exact heap_last _ _
  have t0 : W1.cell? ⟨w1.heap.size, 0, none⟩ = some (.string p) := by rw [cell_heap hrow]; rfl
  have t1 : W1.cell? ⟨w1.heap.size, 1, none⟩ = some (.int .i64 (W : Int)) := by rw [cell_heap hrow]; rfl
  have t2 : W1.cell? ⟨w1.heap.size, 2, none⟩ = some (.int .i64 (l.length : Int)) := by rw [cell_heap hrow]; rfl
  have hz1 : w1.heap.size < W1.heap.size := row_lt hrow
  have HBW : Hid (Below w.heap.size w W1) := HB.out.trans (by rw [hW1]; exact ((Below.refl _ w1).alloc (Nat.le_refl _) _).mono hz)
  clear hrow
  go_wp2_with fail
  rw [← hW1]
  clear hW1
  refine (HF.out _).mono ?_
  rintro e w2 ⟨rfl, hb2⟩
  have HB2 : Hid (Below w.heap.size w w2) := HBW.out.trans (hb2.mono (by omega))
  have t0 : w2.cell? ⟨w1.heap.size, 0, none⟩ = some (.string p) := (cell_below hb2 hz1).trans t0
  have t1 : w2.cell? ⟨w1.heap.size, 1, none⟩ = some (.int .i64 (W : Int)) := (cell_below hb2 hz1).trans t1
  have t2 : w2.cell? ⟨w1.heap.size, 2, none⟩ = some (.int .i64 (l.length : Int)) := (cell_below hb2 hz1).trans t2
  have hfl : ((l.length : Int) == 1048576) = false := beq_eq_false_iff_ne.2 (by have := HFL.out; omega)
  have hz2 : w2.heap.size = w2.heap.size := rfl
  clear hb2
  go_wp2_with fail
  refine (HW.out _).mono ?_
  rintro e w3 ⟨rfl, hb3⟩
  have HB3 : Hid (Below w.heap.size w w3) := HB2.out.trans (hb3.mono HB2.out.size)
  clear hb3
  go_wp2
  go_ret3
  exact ⟨rfl, HB3.out⟩
set_option maxHeartbeats 400000 in
set_option maxRecDepth 100000 in
theorem add_none (p : ByteArray) (hp : bigS p) (h : ¬ OkP p.data.toList) (n : Int) (w : World) :
    Calls Try.prog 10 #[.string p, .int .i64 n] w fun e w' => e = .returned (.tuple #[.string ⟨#[]⟩, .bool false, .int .i64 50]) ∧ Below w.heap.size w w' := by
  have HP : Hid (∀ w, Calls Try.prog 31 #[.string p] w fun e w' => e = .returned (.tuple #[setV ⟨#[]⟩ 0 0, .bool false]) ∧ Below w.heap.size w w') := fun w => parse_none p hp h w
  clear h hp
  unfold setV at *
  go_enter Try.func10, Try.ntmps10
  go_wp2_with fail
  refine (HP.out _).mono ?_
  rintro e w1 ⟨rfl, hb⟩
  have HB : Hid (Below w.heap.size w w1) := hb
  have hz := hb.size
  clear hb
  go_wp2
  go_ret3
  exact ⟨rfl, HB.out.alloc hz _⟩
set_option maxHeartbeats 400000 in
set_option maxRecDepth 100000 in
theorem drop_out (p : ByteArray) (W : Nat) (l : List Int) (h : IsSet p.data.toList W l) (n : Int) (hn : n ∉ l) (w : World) :
    Calls Try.prog 17 #[.string p, .int .i64 n] w fun e w' => e = .returned (.tuple #[.string p, .bool false, .int .i64 0]) ∧ Below w.heap.size w w' := by
  have HP : Hid (∀ w, Calls Try.prog 31 #[.string p] w fun e w' => e = .returned (.tuple #[setV p W l.length, .bool true]) ∧ Below w.heap.size w w') := fun w => parse_set p W l h w
  have HF : Hid (∀ W', Calls Try.prog 32 #[setV p W l.length, .int .i64 n] W' fun e w' => e = .returned (.tuple #[.int .i64 (pos l n : Nat), .bool (decide (n ∈ l))]) ∧ Below W'.heap.size W' w') := fun W' => find_any p W l h n W'
  rw [decide_eq_false hn] at HF
  have hple := pos_le l n
  clear h
  unfold setV at *
  go_enter Try.func17, Try.ntmps17
  go_wp2_with fail
  refine (HP.out _).mono ?_
  rintro e w1 ⟨rfl, hb⟩
  have HB : Hid (Below w.heap.size w w1) := hb
  have hz := hb.size
  clear hb
  obtain ⟨W1, hW1⟩ : ∃ W1, W1 = w1.alloc (.cells #[.string p, .int .i64 (W : Int), .int .i64 (l.length : Int)] 58) := ⟨_, rfl⟩
  have hrow : W1.heap[w1.heap.size]? = some (.cells #[.string p, .int .i64 (W : Int), .int .i64 (l.length : Int)] 58 (0, 0)) := by rw [hW1]; exact heap_last _ _
  have t0 : W1.cell? ⟨w1.heap.size, 0, none⟩ = some (.string p) := by rw [cell_heap hrow]; rfl
  have t1 : W1.cell? ⟨w1.heap.size, 1, none⟩ = some (.int .i64 (W : Int)) := by rw [cell_heap hrow]; rfl
  have t2 : W1.cell? ⟨w1.heap.size, 2, none⟩ = some (.int .i64 (l.length : Int)) := by rw [cell_heap hrow]; rfl
  have hz1 : w1.heap.size < W1.heap.size := row_lt hrow
  have HBW : Hid (Below w.heap.size w W1) := HB.out.trans (by rw [hW1]; exact ((Below.refl _ w1).alloc (Nat.le_refl _) _).mono hz)
  clear hrow
  go_wp2_with fail
  rw [← hW1]
  clear hW1
  refine (HF.out _).mono ?_
  rintro e w2 ⟨rfl, hb2⟩
  have HB2 : Hid (Below w.heap.size w w2) := HBW.out.trans (hb2.mono (by omega))
  clear hb2
  go_wp2
  go_ret3
  exact ⟨rfl, HB2.out⟩
set_option maxHeartbeats 400000 in
set_option maxRecDepth 100000 in
theorem drop_in (p : ByteArray) (W : Nat) (l : List Int) (h : IsSet p.data.toList W l) (n : Int) (hn : n ∈ l) (w : World) :
    Calls Try.prog 17 #[.string p, .int .i64 n] w fun e w' => e = .returned (.tuple #[.string (strB (txt W (del l n))), .bool true, .int .i64 0]) ∧ Below w.heap.size w w' := by
  have HP : Hid (∀ w, Calls Try.prog 31 #[.string p] w fun e w' => e = .returned (.tuple #[setV p W l.length, .bool true]) ∧ Below w.heap.size w w') := fun w => parse_set p W l h w
  have HF : Hid (∀ W', Calls Try.prog 32 #[setV p W l.length, .int .i64 n] W' fun e w' => e = .returned (.tuple #[.int .i64 (pos l n : Nat), .bool (decide (n ∈ l))]) ∧ Below W'.heap.size W' w') := fun W' => find_any p W l h n W'
  rw [decide_eq_true hn] at HF
  have hple := pos_le l n
  have HW : Hid (∀ W', Calls Try.prog 38 #[setV p W l.length, .int .i64 (pos l n : Nat)] W' fun e w' => e = .returned (.string (strB (txt W (del l n)))) ∧ Below W'.heap.size W' w') := fun W' => without_any p W l h (pos l n) ((pos_mem h.rise n).1 hn).1 W'
  clear h
  unfold setV at *
  go_enter Try.func17, Try.ntmps17
  go_wp2_with fail
  refine (HP.out _).mono ?_
  rintro e w1 ⟨rfl, hb⟩
  have HB : Hid (Below w.heap.size w w1) := hb
  have hz := hb.size
  clear hb
  obtain ⟨W1, hW1⟩ : ∃ W1, W1 = w1.alloc (.cells #[.string p, .int .i64 (W : Int), .int .i64 (l.length : Int)] 58) := ⟨_, rfl⟩
  have hrow : W1.heap[w1.heap.size]? = some (.cells #[.string p, .int .i64 (W : Int), .int .i64 (l.length : Int)] 58 (0, 0)) := by rw [hW1]; exact heap_last _ _
  have t0 : W1.cell? ⟨w1.heap.size, 0, none⟩ = some (.string p) := by rw [cell_heap hrow]; rfl
  have t1 : W1.cell? ⟨w1.heap.size, 1, none⟩ = some (.int .i64 (W : Int)) := by rw [cell_heap hrow]; rfl
  have t2 : W1.cell? ⟨w1.heap.size, 2, none⟩ = some (.int .i64 (l.length : Int)) := by rw [cell_heap hrow]; rfl
  have hz1 : w1.heap.size < W1.heap.size := row_lt hrow
  have HBW : Hid (Below w.heap.size w W1) := HB.out.trans (by rw [hW1]; exact ((Below.refl _ w1).alloc (Nat.le_refl _) _).mono hz)
  clear hrow
  go_wp2_with fail
  rw [← hW1]
  clear hW1
  refine (HF.out _).mono ?_
  rintro e w2 ⟨rfl, hb2⟩
  have HB2 : Hid (Below w.heap.size w w2) := HBW.out.trans (hb2.mono (by omega))
  have t0 : w2.cell? ⟨w1.heap.size, 0, none⟩ = some (.string p) := (cell_below hb2 hz1).trans t0
  have t1 : w2.cell? ⟨w1.heap.size, 1, none⟩ = some (.int .i64 (W : Int)) := (cell_below hb2 hz1).trans t1
  have t2 : w2.cell? ⟨w1.heap.size, 2, none⟩ = some (.int .i64 (l.length : Int)) := (cell_below hb2 hz1).trans t2
  have hz2 : w2.heap.size = w2.heap.size := rfl
  clear hb2
  go_wp2_with fail
  refine (HW.out _).mono ?_
  rintro e w3 ⟨rfl, hb3⟩
  have HB3 : Hid (Below w.heap.size w w3) := HB2.out.trans (hb3.mono HB2.out.size)
  clear hb3
  go_wp2
  go_ret3
  exact ⟨rfl, HB3.out⟩
set_option maxHeartbeats 400000 in
set_option maxRecDepth 100000 in
theorem drop_none (p : ByteArray) (hp : bigS p) (h : ¬ OkP p.data.toList) (n : Int) (w : World) :
    Calls Try.prog 17 #[.string p, .int .i64 n] w fun e w' => e = .returned (.tuple #[.string ⟨#[]⟩, .bool false, .int .i64 50]) ∧ Below w.heap.size w w' := by
  have HP : Hid (∀ w, Calls Try.prog 31 #[.string p] w fun e w' => e = .returned (.tuple #[setV ⟨#[]⟩ 0 0, .bool false]) ∧ Below w.heap.size w w') := fun w => parse_none p hp h w
  clear h hp
  unfold setV at *
  go_enter Try.func17, Try.ntmps17
  go_wp2_with fail
  refine (HP.out _).mono ?_
  rintro e w1 ⟨rfl, hb⟩
  have HB : Hid (Below w.heap.size w w1) := hb
  have hz := hb.size
  clear hb
  go_wp2
  go_ret3
  exact ⟨rfl, HB.out.alloc hz _⟩
end Go.Proofs.Ytghgdekdbbogkaa
