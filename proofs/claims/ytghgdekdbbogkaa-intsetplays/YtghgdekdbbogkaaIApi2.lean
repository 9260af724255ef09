import Derived.Test.YtghgdekdbbogkaaIApi1
namespace Go.Proofs.Ytghgdekdbbogkaa
open Go.RowKit IM
set_option linter.unusedVariables false
set_option maxHeartbeats 400000 in
set_option maxRecDepth 100000 in
theorem at_in (p : ByteArray) (W : Nat) (l : List Int) (h : IsSet p.data.toList W l) (k : Nat) (hk : k < l.length) (w : World) :
    Calls Try.prog 24 #[.string p, .int .i64 k] w fun e w' => e = .returned (.tuple #[.int .i64 l[k], .bool true]) ∧ Below w.heap.size w w' := by
  have HP : Hid (∀ w, Calls Try.prog 31 #[.string p] w fun e w' => e = .returned (.tuple #[setV p W l.length, .bool true]) ∧ Below w.heap.size w w') := fun w => parse_set p W l h w
  have HA : Hid (∀ W', Calls Try.prog 34 #[setV p W l.length, .int .i64 k] W' fun e w' => e = .returned (.int .i64 l[k]) ∧ Below W'.heap.size W' w') := fun W' => by
    have hs := set_size h
    have : l.length * W ≤ 1048576 * 8 := Nat.mul_le_mul h.len (by rcases h.w3 with rfl | rfl | rfl <;> omega)
    rw [← h.at k hk]; exact at_any p W _ k h.w3 (place_le hk hs) (by omega) W'
  generalize l[k] = n at *
  clear h
  unfold setV at *
  go_enter Try.func24, Try.ntmps24
  go_wp2_with fail
  refine (HP.out _).mono ?_
  rintro e w1 ⟨rfl, hb⟩
  have HB : Hid (Below w.heap.size w w1) := hb
  have hz := hb.size
  clear hb
  obtain ⟨W1, hW1⟩ : ∃ W1, W1 = w1.alloc (.cells #[.string p, .int .i64 (W : Int), .int .i64 (l.length : Int)] 58) := ⟨_, rfl⟩
  have hrow : W1.heap[w1.heap.size]? = some (.cells #[.string p, .int .i64 (W : Int), .int .i64 (l.length : Int)] 58 (0, 0)) := by rw [hW1]; exact heap_last _ _
  have t0 : W1.cell? ⟨w1.heap.size, 0, none⟩ = some (.string p) := by rw [cell_heap hrow]; rfl
  have t1 : W1.cell? ⟨w1.heap.size, 1, none⟩ = some (.int .i64 (W : Int)) := by rw [cell_heap hrow]; rfl
  have t2 : W1.cell? ⟨w1.heap.size, 2, none⟩ = some (.int .i64 (l.length : Int)) := by rw [cell_heap hrow]; rfl
  have hz1 : w1.heap.size < W1.heap.size := row_lt hrow
  have HBW : Hid (Below w.heap.size w W1) := HB.out.trans (by rw [hW1]; exact ((Below.refl _ w1).alloc (Nat.le_refl _) _).mono hz)
  clear hrow
  go_wp2_with fail
  rw [← hW1]
  clear hW1
  refine (HA.out _).mono ?_
  rintro e w2 ⟨rfl, hb2⟩
  have HB2 : Hid (Below w.heap.size w w2) := HBW.out.trans (hb2.mono (by omega))
  clear hb2
  go_wp2
  go_ret2
  exact ⟨rfl, HB2.out⟩
set_option maxHeartbeats 400000 in
set_option maxRecDepth 100000 in
theorem at_out (p : ByteArray) (W : Nat) (l : List Int) (h : IsSet p.data.toList W l) (i : Int) (hi : i < 0 ∨ (l.length : Int) ≤ i) (w : World) :
    Calls Try.prog 24 #[.string p, .int .i64 i] w fun e w' => e = .returned (.tuple #[.int .i64 0, .bool false]) ∧ Below w.heap.size w w' := by
  have HP : Hid (∀ w, Calls Try.prog 31 #[.string p] w fun e w' => e = .returned (.tuple #[setV p W l.length, .bool true]) ∧ Below w.heap.size w w') := fun w => parse_set p W l h w
  clear h
  unfold setV at *
  go_enter Try.func24, Try.ntmps24
  go_wp2_with fail
  refine (HP.out _).mono ?_
  rintro e w1 ⟨rfl, hb⟩
  have HB : Hid (Below w.heap.size w w1) := hb
  have hz := hb.size
  clear hb
  rcases hi with hi | hi
  · go_wp2
    go_ret2
    exact ⟨rfl, HB.out.alloc hz _⟩
  · go_wp2
    go_ret2
    exact ⟨rfl, HB.out.alloc hz _⟩
set_option maxHeartbeats 400000 in
set_option maxRecDepth 100000 in
theorem at_none (p : ByteArray) (hp : bigS p) (h : ¬ OkP p.data.toList) (i : Int) (w : World) :
    Calls Try.prog 24 #[.string p, .int .i64 i] w fun e w' => e = .returned (.tuple #[.int .i64 0, .bool false]) ∧ Below w.heap.size w w' := by
  have HP : Hid (∀ w, Calls Try.prog 31 #[.string p] w fun e w' => e = .returned (.tuple #[setV ⟨#[]⟩ 0 0, .bool false]) ∧ Below w.heap.size w w') := fun w => parse_none p hp h w
  clear h hp
  unfold setV at *
  go_enter Try.func24, Try.ntmps24
  go_wp2_with fail
  refine (HP.out _).mono ?_
  rintro e w1 ⟨rfl, hb⟩
  have HB : Hid (Below w.heap.size w w1) := hb
  have hz := hb.size
  clear hb
  go_wp2
  go_ret2
  exact ⟨rfl, HB.out.alloc hz _⟩
set_option maxHeartbeats 400000 in
set_option maxRecDepth 100000 in
theorem has_set (p : ByteArray) (W : Nat) (l : List Int) (h : IsSet p.data.toList W l) (n : Int) (w : World) :
    Calls Try.prog 14 #[.string p, .int .i64 n] w fun e w' => e = .returned (.bool (decide (n ∈ l))) ∧ Below w.heap.size w w' := by
  have HP : Hid (∀ w, Calls Try.prog 31 #[.string p] w fun e w' => e = .returned (.tuple #[setV p W l.length, .bool true]) ∧ Below w.heap.size w w') := fun w => parse_set p W l h w
  have HF : Hid (∀ W', Calls Try.prog 32 #[setV p W l.length, .int .i64 n] W' fun e w' => e = .returned (.tuple #[.int .i64 (pos l n : Nat), .bool (decide (n ∈ l))]) ∧ Below W'.heap.size W' w') := fun W' => find_any p W l h n W'
  generalize decide (n ∈ l) = bb at *
  clear h
  unfold setV at *
  go_enter Try.func14, Try.ntmps14
  go_wp2_with fail
  refine (HP.out _).mono ?_
  rintro e w1 ⟨rfl, hb⟩
  have HB : Hid (Below w.heap.size w w1) := hb
  have hz := hb.size
  clear hb
  obtain ⟨W1, hW1⟩ : ∃ W1, W1 = w1.alloc (.cells #[.string p, .int .i64 (W : Int), .int .i64 (l.length : Int)] 58) := ⟨_, rfl⟩
  have hrow : W1.heap[w1.heap.size]? = some (.cells #[.string p, .int .i64 (W : Int), .int .i64 (l.length : Int)] 58 (0, 0)) := by rw [hW1]; exact heap_last _ _
  have t0 : W1.cell? ⟨w1.heap.size, 0, none⟩ = some (.string p) := by rw [cell_heap hrow]; rfl
  have t1 : W1.cell? ⟨w1.heap.size, 1, none⟩ = some (.int .i64 (W : Int)) := by rw [cell_heap hrow]; rfl
  have t2 : W1.cell? ⟨w1.heap.size, 2, none⟩ = some (.int .i64 (l.length : Int)) := by rw [cell_heap hrow]; rfl
  have hz1 : w1.heap.size < W1.heap.size := row_lt hrow
  have HBW : Hid (Below w.heap.size w W1) := HB.out.trans (by rw [hW1]; exact ((Below.refl _ w1).alloc (Nat.le_refl _) _).mono hz)
  clear hrow
  go_wp2_with fail
  rw [← hW1]
  clear hW1
  refine (HF.out _).mono ?_
  rintro e w2 ⟨rfl, hb2⟩
  have HB2 : Hid (Below w.heap.size w w2) := HBW.out.trans (hb2.mono (by omega))
  clear hb2
  go_wp2
  go_ret
  exact ⟨rfl, HB2.out⟩
set_option maxHeartbeats 400000 in
set_option maxRecDepth 100000 in
theorem has_none (p : ByteArray) (hp : bigS p) (h : ¬ OkP p.data.toList) (n : Int) (w : World) :
    Calls Try.prog 14 #[.string p, .int .i64 n] w fun e w' => e = .returned (.bool false) ∧ Below w.heap.size w w' := by
  have HP : Hid (∀ w, Calls Try.prog 31 #[.string p] w fun e w' => e = .returned (.tuple #[setV ⟨#[]⟩ 0 0, .bool false]) ∧ Below w.heap.size w w') := fun w => parse_none p hp h w
  clear h hp
  unfold setV at *
  go_enter Try.func14, Try.ntmps14
  go_wp2_with fail
  refine (HP.out _).mono ?_
  rintro e w1 ⟨rfl, hb⟩
  have HB : Hid (Below w.heap.size w w1) := hb
  have hz := hb.size
  clear hb
  go_wp2
  go_ret
  exact ⟨rfl, HB.out.alloc hz _⟩
end Go.Proofs.Ytghgdekdbbogkaa
