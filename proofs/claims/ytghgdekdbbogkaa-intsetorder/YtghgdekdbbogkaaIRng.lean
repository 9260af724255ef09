import Derived.Test.YtghgdekdbbogkaaIApi1
namespace Go.Proofs.Ytghgdekdbbogkaa
open Go.RowKit IM
set_option linter.unusedVariables false
/-- how many are at most a number. -/
def posG (l : List Int) (n : Int) : Nat := l.countP fun y => decide (y ≤ n)
theorem posG_pos (l : List Int) (n : Int) : posG l n = pos l (n + 1) := by
  unfold posG pos
  congr 1
  funext y
  exact decide_eq_decide.2 (by omega)
set_option maxHeartbeats 400000 in
set_option maxRecDepth 100000 in
theorem geqR_any (b : Nat) (m n : Int) (w : World) (hc : w.cell? ⟨b, 0, none⟩ = some (.int .i64 n)) :
    Calls Try.prog 41 (#[.int .i64 m] ++ #[.pointer (some ⟨b, 0, none⟩)]) w fun e w' => e = .returned (.bool (decide (n ≤ m))) ∧ Below w.heap.size w w' := by
  show Calls _ _ #[.int .i64 m, .pointer (some ⟨b, 0, none⟩)] _ _
  go_enter Try.func41, Try.ntmps41
  go_wp2
  go_ret
  exact ⟨rfl, Below.refl _ _⟩
set_option maxHeartbeats 400000 in
set_option maxRecDepth 100000 in
theorem gtrR_any (b : Nat) (m n : Int) (w : World) (hc : w.cell? ⟨b, 0, none⟩ = some (.int .i64 n)) :
    Calls Try.prog 42 (#[.int .i64 m] ++ #[.pointer (some ⟨b, 0, none⟩)]) w fun e w' => e = .returned (.bool (decide (n < m))) ∧ Below w.heap.size w w' := by
  show Calls _ _ #[.int .i64 m, .pointer (some ⟨b, 0, none⟩)] _ _
  go_enter Try.func42, Try.ntmps42
  go_wp2
  go_ret
  exact ⟨rfl, Below.refl _ _⟩
set_option maxHeartbeats 400000 in
set_option maxRecDepth 100000 in
theorem range_none (p : ByteArray) (hp : bigS p) (h : ¬ OkP p.data.toList) (i j : Int) (w : World) :
    Calls Try.prog 26 #[.string p, .int .i64 i, .int .i64 j] w fun e w' => e = .returned (.tuple #[.int .i64 0, .int .i64 0]) ∧ Below w.heap.size w w' := by
  have HP : Hid (∀ w, Calls Try.prog 31 #[.string p] w fun e w' => e = .returned (.tuple #[setV ⟨#[]⟩ 0 0, .bool false]) ∧ Below w.heap.size w w') := fun w => parse_none p hp h w
  clear h hp
  unfold setV at *
  go_enter Try.func26, Try.ntmps26
  go_wp2_with fail
  refine (HP.out _).mono ?_
  rintro e w1 ⟨rfl, hb⟩
  have HB : Hid (Below w.heap.size w w1) := (((Below.refl _ w).alloc (Nat.le_refl _) _).alloc (by simp) _).trans (hb.mono (by simp; omega))
  have hz := HB.out.size
  clear hb
  go_wp2
  go_ret2
  exact ⟨rfl, HB.out.alloc hz _⟩
set_option maxHeartbeats 400000 in
set_option maxRecDepth 100000 in
theorem range_turned (p : ByteArray) (W : Nat) (l : List Int) (h : IsSet p.data.toList W l) (i j : Int) (hij : j < i) (w : World) :
    Calls Try.prog 26 #[.string p, .int .i64 i, .int .i64 j] w fun e w' => e = .returned (.tuple #[.int .i64 0, .int .i64 0]) ∧ Below w.heap.size w w' := by
  have HP : Hid (∀ w, Calls Try.prog 31 #[.string p] w fun e w' => e = .returned (.tuple #[setV p W l.length, .bool true]) ∧ Below w.heap.size w w') := fun w => parse_set p W l h w
  clear h
  unfold setV at *
  go_enter Try.func26, Try.ntmps26
  go_wp2_with fail
  refine (HP.out _).mono ?_
  rintro e w1 ⟨rfl, hb⟩
  have hz3 : w.heap.size + 1 + 1 ≤ w1.heap.size := by have := hb.size; simpa using this
  obtain ⟨W1, hW1⟩ : ∃ W1, W1 = w1.alloc (.cells #[.string p, .int .i64 (W : Int), .int .i64 (l.length : Int)] 58) := ⟨_, rfl⟩
  have hbW : Below w1.heap.size w1 W1 := by rw [hW1]; exact (Below.refl _ w1).alloc (Nat.le_refl _) _
  have hrow : W1.heap[w1.heap.size]? = some (.cells #[.string p, .int .i64 (W : Int), .int .i64 (l.length : Int)] 58 (0, 0)) := by rw [hW1]; exact heap_last _ _
  have c1 : W1.cell? ⟨w.heap.size, 0, none⟩ = some (.int .i64 i) := by rw [cell_below hbW (show w.heap.size < w1.heap.size by omega), cell_below hb (by simp; omega)]; simp [go_sem]
  have c2 : W1.cell? ⟨w.heap.size + 1, 0, none⟩ = some (.int .i64 j) := by rw [cell_below hbW (show w.heap.size + 1 < w1.heap.size by omega), cell_below hb (by simp)]; simp [go_sem]
  have t0 : W1.cell? ⟨w1.heap.size, 0, none⟩ = some (.string p) := by rw [cell_heap hrow]; rfl
  have t1 : W1.cell? ⟨w1.heap.size, 1, none⟩ = some (.int .i64 (W : Int)) := by rw [cell_heap hrow]; rfl
  have t2 : W1.cell? ⟨w1.heap.size, 2, none⟩ = some (.int .i64 (l.length : Int)) := by rw [cell_heap hrow]; rfl
  have hz1 : w1.heap.size < W1.heap.size := row_lt hrow
  have HB : Hid (Below w.heap.size w W1) := ((((Below.refl _ w).alloc (Nat.le_refl _) _).alloc (by simp) _).trans (hb.mono (by simp; omega))).trans (hbW.mono (by omega))
  clear hb hbW hrow
  subst hW1
  go_wp2_with fail
  go_ret2
  exact ⟨rfl, HB.out⟩
set_option maxHeartbeats 400000 in
set_option maxRecDepth 100000 in
theorem range_in (p : ByteArray) (W : Nat) (l : List Int) (h : IsSet p.data.toList W l) (i j : Int) (hij : i ≤ j) (w : World) :
    Calls Try.prog 26 #[.string p, .int .i64 i, .int .i64 j] w fun e w' => e = .returned (.tuple #[.int .i64 (pos l i : Nat), .int .i64 (((posG l j : Nat) : Int) - ((pos l i : Nat) : Int))]) ∧ Below w.heap.size w w' := by
  have HP : Hid (∀ w, Calls Try.prog 31 #[.string p] w fun e w' => e = .returned (.tuple #[setV p W l.length, .bool true]) ∧ Below w.heap.size w w') := fun w => parse_set p W l h w
  have hs := set_size h
  have hlen := h.len
  have H3 : Hid (W3 W) := h.w3
  have hN := h.at
  have hm1 : ∀ a b, a ≤ b → b < l.length → decide (i ≤ numAt W p.data.toList a) = true → decide (i ≤ numAt W p.data.toList b) = true := by
    intro a b hab hb ha
    rw [hN a (by omega), decide_eq_true_eq] at ha
    rw [hN b hb, decide_eq_true_eq]
    rcases Nat.eq_or_lt_of_le hab with e | hlt
    · subst e; exact ha
    · have := h.rise.lt a b hlt hb; omega
  have hm2 : ∀ a b, a ≤ b → b < l.length → decide (j < numAt W p.data.toList a) = true → decide (j < numAt W p.data.toList b) = true := by
    intro a b hab hb ha
    rw [hN a (by omega), decide_eq_true_eq] at ha
    rw [hN b hb, decide_eq_true_eq]
    rcases Nat.eq_or_lt_of_le hab with e | hlt
    · subst e; exact ha
    · have := h.rise.lt a b hlt hb; omega
  have HM1 : Hid _ := hm1
  have HM2 : Hid _ := hm2
  have HP1 : Hid (∀ r, r ≤ l.length → (∀ t, t < r → decide (i ≤ numAt W p.data.toList t) = false) → (∀ t, r ≤ t → t < l.length → decide (i ≤ numAt W p.data.toList t) = true) → r = pos l i) := fun r hr h1 h2 => pos_of (numAt W p.data.toList) hN hr h1 h2
  have HP2 : Hid (∀ r, r ≤ l.length → (∀ t, t < r → decide (j < numAt W p.data.toList t) = false) → (∀ t, r ≤ t → t < l.length → decide (j < numAt W p.data.toList t) = true) → r = posG l j) := fun r hr h1 h2 => by
    rw [posG_pos]
    refine pos_of (n := j + 1) (numAt W p.data.toList) hN hr (fun t ht => ?_) (fun t h3 h4 => ?_)
    · have := of_decide_eq_false (h1 t ht); exact decide_eq_false (by omega)
    · have := of_decide_eq_true (h2 t h3 h4); exact decide_eq_true (by omega)
  have hpl := pos_le l i
  have hpg : posG l j ≤ l.length := List.countP_le_length
  clear h hN hm1 hm2
  generalize posG l j = G at *
  generalize pos l i = X at *
  unfold setV at *
  go_enter Try.func26, Try.ntmps26
  go_wp2_with fail
  refine (HP.out _).mono ?_
  rintro e w1 ⟨rfl, hb⟩
  have hz3 : w.heap.size + 1 + 1 ≤ w1.heap.size := by have := hb.size; simpa using this
  obtain ⟨W1, hW1⟩ : ∃ W1, W1 = w1.alloc (.cells #[.string p, .int .i64 (W : Int), .int .i64 (l.length : Int)] 58) := ⟨_, rfl⟩
  have hbW : Below w1.heap.size w1 W1 := by rw [hW1]; exact (Below.refl _ w1).alloc (Nat.le_refl _) _
  have hrow : W1.heap[w1.heap.size]? = some (.cells #[.string p, .int .i64 (W : Int), .int .i64 (l.length : Int)] 58 (0, 0)) := by rw [hW1]; exact heap_last _ _
  have c1 : W1.cell? ⟨w.heap.size, 0, none⟩ = some (.int .i64 i) := by rw [cell_below hbW (show w.heap.size < w1.heap.size by omega), cell_below hb (by simp; omega)]; simp [go_sem]
  have c2 : W1.cell? ⟨w.heap.size + 1, 0, none⟩ = some (.int .i64 j) := by rw [cell_below hbW (show w.heap.size + 1 < w1.heap.size by omega), cell_below hb (by simp)]; simp [go_sem]
  have t0 : W1.cell? ⟨w1.heap.size, 0, none⟩ = some (.string p) := by rw [cell_heap hrow]; rfl
  have t1 : W1.cell? ⟨w1.heap.size, 1, none⟩ = some (.int .i64 (W : Int)) := by rw [cell_heap hrow]; rfl
  have t2 : W1.cell? ⟨w1.heap.size, 2, none⟩ = some (.int .i64 (l.length : Int)) := by rw [cell_heap hrow]; rfl
  have hz1 : w1.heap.size < W1.heap.size := row_lt hrow
  have HB : Hid (Below w.heap.size w W1) := ((((Below.refl _ w).alloc (Nat.le_refl _) _).alloc (by simp) _).trans (hb.mono (by simp; omega))).trans (hbW.mono (by omega))
  clear hb hbW hrow
  have K0 : Hid (W1.cell? ⟨w1.heap.size, 0, none⟩ = some (.string p)) := t0
  have K1 : Hid (W1.cell? ⟨w1.heap.size, 1, none⟩ = some (.int .i64 (W : Int))) := t1
  have K2 : Hid (W1.cell? ⟨w1.heap.size, 2, none⟩ = some (.int .i64 (l.length : Int))) := t2
  have KJ : Hid (W1.cell? ⟨w.heap.size + 1, 0, none⟩ = some (.int .i64 j)) := c2
  have KI : Hid (W1.cell? ⟨w.heap.size, 0, none⟩ = some (.int .i64 i)) := c1
  have hx1 := first_any 41 #[.pointer (some ⟨w.heap.size, 0, none⟩)] p W l.length (fun m => decide (i ≤ m)) H3.out hlen hs W1 (enters_my Try.func41 (by kernel_rfl) rfl)
    (fun m W' hW' => geqR_any w.heap.size m i W' ((cell_below hW' (show w.heap.size < W1.heap.size by omega)).trans KI.out)) HM1.out
  unfold setV at hx1
  subst hW1
  go_wp2_with fail
  refine hx1.mono ?_
  rintro e w2 ⟨r, rfl, hr, h1, h2, hb2⟩
  have hrX := HP1.out r hr h1 h2
  subst hrX
  clear hx1 h1 h2 hr t0 t1 t2 c1 c2
  generalize w1.alloc (.cells #[.string p, .int .i64 (W : Int), .int .i64 (l.length : Int)] 58) = W1 at *
  have t0 : w2.cell? ⟨w1.heap.size, 0, none⟩ = some (.string p) := (cell_below hb2 hz1).trans K0.out
  have t1 : w2.cell? ⟨w1.heap.size, 1, none⟩ = some (.int .i64 (W : Int)) := (cell_below hb2 hz1).trans K1.out
  have t2 : w2.cell? ⟨w1.heap.size, 2, none⟩ = some (.int .i64 (l.length : Int)) := (cell_below hb2 hz1).trans K2.out
  have c2 : w2.cell? ⟨w.heap.size + 1, 0, none⟩ = some (.int .i64 j) := (cell_below hb2 (show w.heap.size + 1 < W1.heap.size by omega)).trans KJ.out
  have hz2 := hb2.size
  have HB2 : Hid (Below w.heap.size w w2) := HB.out.trans (hb2.mono (by omega))
  clear hb2
  have hx2 := first_any 42 #[.pointer (some ⟨w.heap.size + 1, 0, none⟩)] p W l.length (fun m => decide (j < m)) H3.out hlen hs w2 (enters_my Try.func42 (by kernel_rfl) rfl)
    (fun m W' hW' => gtrR_any (w.heap.size + 1) m j W' ((cell_below hW' (show w.heap.size + 1 < w2.heap.size by omega)).trans c2)) HM2.out
  unfold setV at hx2
  go_wp2_with fail
  refine hx2.mono ?_
  rintro e w3 ⟨r, rfl, hr, h1, h2, hb3⟩
  have hrX := HP2.out r hr h1 h2
  subst hrX
  have HB3 : Hid (Below w.heap.size w w3) := HB2.out.trans (hb3.mono HB2.out.size)
  clear hx2 h1 h2 hr hb3 t0 t1 t2 c2
  go_wp2
  go_ret2
  exact ⟨rfl, HB3.out⟩
end Go.Proofs.Ytghgdekdbbogkaa
