import Derived.Test.YtcnicdcjdieodabDoorRdr
namespace Go.Proofs.YtcnicdcjdieodabDoor
open Go.RowKit Vi
set_option linter.unusedVariables false

set_option maxHeartbeats 400000 in
theorem left_ref (s : ByteArray) (a : Nat) (ha : a ≤ s.size) (hm : s.size ≤ 281474976710656) (w : World) :
    Calls Tryd.prog 20 #[.agg #[.string s, .int .i64 (a : Int)]] w fun e w' => e = .returned (.string (rest s a)) ∧ Below w.heap.size w w' := by
  go_enter Tryd.func20, Tryd.ntmps20
  go_wp2
  go_returns
  exact ⟨rfl, (Below.refl _ _).alloc (Nat.le_refl _) _⟩
theorem bcell {W w1 : World} (hb : Below W.heap.size W w1) : (∀ b o, b < W.heap.size → w1.cell? ⟨b, o, none⟩ = W.cell? ⟨b, o, none⟩) ∧ (∀ b o, b < W.heap.size → w1.frozen? ⟨b, o, none⟩ = W.frozen? ⟨b, o, none⟩) :=
  ⟨fun b o h => hb.cell (p := ⟨b, o, none⟩) h, fun b o h => hb.frozen (p := ⟨b, o, none⟩) h⟩
theorem rest_empty (s : ByteArray) (a : Nat) (h : s.size ≤ a) : (rest s a).toList.isEmpty = true := by
  rw [ByteArray.toList_eq, rest_list, List.drop_of_length_le (by rw [list_len]; exact h)]; rfl
theorem rest_full (s : ByteArray) (a : Nat) (h : a < s.size) : (rest s a).toList.isEmpty = false := by
  apply full_str; rw [rest_size]; omega
theorem own_cell {w w1 : World} {o1 o2 : Obj} {v0 v1 : Value} {t : TypeId} (h1 : o1 = .cells #[v0, v1] t) (hb : Below ((w.alloc o1).alloc o2).heap.size ((w.alloc o1).alloc o2) w1) (x : Value) :
    (w1.setCell ⟨w.heap.size, 1, none⟩ x).cell? ⟨w.heap.size, 1, none⟩ = some x := by
  subst h1
  have h : w1.heap[w.heap.size]? = some (.cells #[v0, v1] t) := by
    rw [hb.block w.heap.size (by simp; omega)]
    exact heap_alloc2_old _ _ _
  rw [cell_of_row _ _ _ _ _ _ (heap_setCell_same _ _ _ _ _ _ h)]
  rfl
set_option maxHeartbeats 1000000 in
set_option maxRecDepth 20000 in
theorem refByte_end (s : ByteArray) (hm : s.size ≤ 281474976710656)  (w : World) :
    Calls Tryd.prog 7 #[.agg #[.string s, .int .i64 (s.size : Int)]] w fun e w' => e = .returned (.tuple #[.agg #[.string s, .int .i64 (s.size : Int)], .int .i64 0, .int .i64 20]) ∧ Below w.heap.size w w' := by
  have he := rest_empty s s.size (Nat.le_refl _)
  go_enter Tryd.func7, Tryd.ntmps7
  go_wp2_with fail
  refine (left_ref s s.size (Nat.le_refl _) hm _).mono ?_
  rintro e w1 ⟨rfl, hb1⟩
  obtain ⟨hc, hf⟩ := bcell hb1
  have hset := own_cell rfl hb1
  have hz : w.heap.size + 1 < w1.heap.size := by have := hb1.size; simp at this; omega
  have hbw : Below w.heap.size w w1 := (((Below.refl _ _).alloc (Nat.le_refl _) _).alloc (by simp) _).trans (hb1.mono (by simp; omega))
  go_wp2
  refine bodyPost_ret (v := .tuple #[.agg #[.string s, .int .i64 (s.size : Int)], .int .i64 0, .int .i64 20]) (by simp [results, Tryd.results7, go_sem, hc]) rfl ⟨rfl, ?_⟩
  go_grown
set_option maxHeartbeats 1000000 in
set_option maxRecDepth 20000 in
theorem refByte_ok (s : ByteArray) (a : Nat) (hm : s.size ≤ 281474976710656) (ha : a < s.size) (w : World) :
    Calls Tryd.prog 7 #[.agg #[.string s, .int .i64 (a : Int)]] w fun e w' => e = .returned (.tuple #[.agg #[.string s, .int .i64 (a + 1 : Int)], .int .i64 (s[a].toNat : Int), .int .i64 0]) ∧ Below w.heap.size w w' := by
  have he := rest_full s a ha
  go_enter Tryd.func7, Tryd.ntmps7
  go_wp2_with fail
  refine (left_ref s a (by omega) hm _).mono ?_
  rintro e w1 ⟨rfl, hb1⟩
  obtain ⟨hc, hf⟩ := bcell hb1
  have hset := own_cell rfl hb1
  have hz : w.heap.size + 1 < w1.heap.size := by have := hb1.size; simp at this; omega
  have hbw : Below w.heap.size w w1 := (((Below.refl _ _).alloc (Nat.le_refl _) _).alloc (by simp) _).trans (hb1.mono (by simp; omega))
  go_wp2
  refine bodyPost_ret (v := .tuple #[.agg #[.string s, .int .i64 (a + 1 : Int)], .int .i64 (s[a].toNat : Int), .int .i64 0]) (by simp [results, Tryd.results7, go_sem, hc, wrap_b]) rfl ⟨rfl, ?_⟩
  go_grown
set_option maxHeartbeats 1000000 in
set_option maxRecDepth 20000 in
theorem refTake_neg (s : ByteArray) (a : Nat) (n : Int) (hm : s.size ≤ 281474976710656) (hn : n < 0) (w : World) :
    Calls Tryd.prog 9 #[.agg #[.string s, .int .i64 (a : Int)], .int .i64 n] w fun e w' => e = .returned (.tuple #[.agg #[.string s, .int .i64 (a : Int)], .string ⟨#[]⟩, .int .i64 1]) ∧ Below w.heap.size w w' := by
  go_enter Tryd.func9, Tryd.ntmps9
  go_wp2
  refine bodyPost_ret (v := .tuple #[.agg #[.string s, .int .i64 (a : Int)], .string ⟨#[]⟩, .int .i64 1]) (by simp [results, Tryd.results9, go_sem]) rfl ⟨rfl, ?_⟩
  go_grown
set_option maxHeartbeats 1000000 in
set_option maxRecDepth 20000 in
theorem refTake_short (s : ByteArray) (a : Nat) (n : Int) (hm : s.size ≤ 281474976710656) (ha : a ≤ s.size) (hn : ((s.size - a : Nat) : Int) < n) (w : World) :
    Calls Tryd.prog 9 #[.agg #[.string s, .int .i64 (a : Int)], .int .i64 n] w fun e w' => e = .returned (.tuple #[.agg #[.string s, .int .i64 (a : Int)], .string ⟨#[]⟩, .int .i64 20]) ∧ Below w.heap.size w w' := by
  have hr := rest_size s a
  have hn0 : 0 ≤ n := by omega
  have hr2 : ((rest s a).size : Int) < n := by rw [hr]; exact hn
  clear hr
  go_enter Tryd.func9, Tryd.ntmps9
  go_wp2_with fail
  refine (left_ref s a ha hm _).mono ?_
  rintro e w1 ⟨rfl, hb1⟩
  obtain ⟨hc, hf⟩ := bcell hb1
  have hset := own_cell rfl hb1
  have hz : w.heap.size + 1 < w1.heap.size := by have := hb1.size; simp at this; omega
  have hbw : Below w.heap.size w w1 := (((Below.refl _ _).alloc (Nat.le_refl _) _).alloc (by simp) _).trans (hb1.mono (by simp; omega))
  go_wp2
  refine bodyPost_ret (v := .tuple #[.agg #[.string s, .int .i64 (a : Int)], .string ⟨#[]⟩, .int .i64 20]) (by simp [results, Tryd.results9, go_sem, hc]) rfl ⟨rfl, ?_⟩
  go_grown
theorem rest_cut (s : ByteArray) (a n : Nat) (h : a + n ≤ s.size) : (rest s a).extract 0 n = s.extract a (a + n) := by
  apply WideShapes.bytes_inj
  rw [ext_list, rest_list, ByteArray.data_extract]
  simp [Array.toList_extract, List.extract_eq_take_drop]
set_option maxHeartbeats 1000000 in
set_option maxRecDepth 20000 in
theorem refTake_ok (s : ByteArray) (a : Nat) (n : Nat) (hm : s.size ≤ 281474976710656) (ha : a + n ≤ s.size) (w : World) :
    Calls Tryd.prog 9 #[.agg #[.string s, .int .i64 (a : Int)], .int .i64 (n : Int)] w fun e w' => e = .returned (.tuple #[.agg #[.string s, .int .i64 (a + n : Int)], .string (s.extract a (a + n)), .int .i64 0]) ∧ Below w.heap.size w w' := by
  have hr := rest_size s a
  have hr2 : (n : Int) ≤ ((rest s a).size : Int) := by rw [hr]; omega
  have hcut := rest_cut s a n ha
  clear hr
  go_enter Tryd.func9, Tryd.ntmps9
  go_wp2_with fail
  refine (left_ref s a (by omega) hm _).mono ?_
  rintro e w1 ⟨rfl, hb1⟩
  obtain ⟨hc0, hf0⟩ := bcell hb1
  have hz0 : w.heap.size + 1 < w1.heap.size := by have := hb1.size; simp at this; omega
  go_wp2_with fail
  refine (left_ref s a (by omega) hm _).mono ?_
  rintro e w2 ⟨rfl, hb2⟩
  replace hb2 := hb1.trans (hb2.mono hb1.size)
  clear hc0 hf0 hb1
  obtain ⟨hc, hf⟩ := bcell hb2
  have hset := own_cell rfl hb2
  have hz : w.heap.size + 1 < w2.heap.size := by have := hb2.size; simp at this; omega
  have hbw : Below w.heap.size w w2 := (((Below.refl _ _).alloc (Nat.le_refl _) _).alloc (by simp) _).trans (hb2.mono (by simp; omega))
  go_wp2
  refine bodyPost_ret (v := .tuple #[.agg #[.string s, .int .i64 (a + n : Int)], .string (s.extract a (a + n)), .int .i64 0]) (by simp [results, Tryd.results9, go_sem, hc]) rfl ⟨rfl, ?_⟩
  go_grown
set_option maxHeartbeats 1000000 in
set_option maxRecDepth 20000 in
theorem refRLen (s : ByteArray) (a k : Nat) (hm : s.size ≤ 281474976710656) (ha : a ≤ s.size) (hk : rs (rest s a).data.toList = (k : Int)) (hk9 : k ≤ 9) (w : World) :
    Calls Tryd.prog 11 #[.agg #[.string s, .int .i64 (a : Int)]] w fun e w' => e = .returned (.tuple #[.agg #[.string s, .int .i64 (a + k : Int)], .int .i64 (rn (rest s a).data.toList), .int .i64 (rp (rest s a).data.toList), .int .i64 (re (rest s a).data.toList)]) ∧ Below w.heap.size w w' := by
  have HC : ∀ w : World, Calls Tryd.prog 21 #[.string (rest s a)] w fun e w' => e = .returned (.tuple #[.int .i64 (rn (rest s a).data.toList), .int .i64 (k : Int), .int .i64 (rp (rest s a).data.toList), .int .i64 (re (rest s a).data.toList)]) ∧ Below w.heap.size w w' := by
    intro w
    have := refLen_t (rest s a) w
    rw [hk] at this
    exact this
  have HC' : Hid _ := HC
  clear HC hk
  go_enter Tryd.func11, Tryd.ntmps11
  go_wp2_with fail
  refine (left_ref s a (by omega) hm _).mono ?_
  rintro e w1 ⟨rfl, hb1⟩
  obtain ⟨hc0, hf0⟩ := bcell hb1
  have hz0 : w.heap.size + 1 < w1.heap.size := by have := hb1.size; simp at this; omega
  go_wp2_with fail
  refine (HC'.out _).mono ?_
  rintro e w2 ⟨rfl, hb2⟩
  replace hb2 := hb1.trans (hb2.mono hb1.size)
  clear hc0 hf0 hb1
  obtain ⟨hc, hf⟩ := bcell hb2
  have hset := own_cell rfl hb2
  have hz : w.heap.size + 1 < w2.heap.size := by have := hb2.size; simp at this; omega
  have hbw : Below w.heap.size w w2 := (((Below.refl _ _).alloc (Nat.le_refl _) _).alloc (by simp) _).trans (hb2.mono (by simp; omega))
  go_wp2
  refine bodyPost_ret (v := .tuple #[.agg #[.string s, .int .i64 (a + k : Int)], .int .i64 (rn (rest s a).data.toList), .int .i64 (rp (rest s a).data.toList), .int .i64 (re (rest s a).data.toList)]) (by simp [results, Tryd.results11, go_sem, hc]) rfl ⟨rfl, ?_⟩
  go_grown
set_option maxHeartbeats 1000000 in
set_option maxRecDepth 20000 in
theorem refRInt (s : ByteArray) (a k : Nat) (hm : s.size ≤ 281474976710656) (ha : a ≤ s.size) (hk : js (rest s a).data.toList = (k : Int)) (hk9 : k ≤ 5) (w : World) :
    Calls Tryd.prog 13 #[.agg #[.string s, .int .i64 (a : Int)]] w fun e w' => e = .returned (.tuple #[.agg #[.string s, .int .i64 (a + k : Int)], .int .i64 (jn (rest s a).data.toList), .int .i64 (je (rest s a).data.toList)]) ∧ Below w.heap.size w w' := by
  have HC : ∀ w : World, Calls Tryd.prog 23 #[.string (rest s a)] w fun e w' => e = .returned (.tuple #[.int .i64 (jn (rest s a).data.toList), .int .i64 (k : Int), .int .i64 (je (rest s a).data.toList)]) ∧ Below w.heap.size w w' := by
    intro w
    have := refInt_t (rest s a) w
    rw [hk] at this
    exact this
  have HC' : Hid _ := HC
  clear HC hk
  go_enter Tryd.func13, Tryd.ntmps13
  go_wp2_with fail
  refine (left_ref s a (by omega) hm _).mono ?_
  rintro e w1 ⟨rfl, hb1⟩
  obtain ⟨hc0, hf0⟩ := bcell hb1
  have hz0 : w.heap.size + 1 < w1.heap.size := by have := hb1.size; simp at this; omega
  go_wp2_with fail
  refine (HC'.out _).mono ?_
  rintro e w2 ⟨rfl, hb2⟩
  replace hb2 := hb1.trans (hb2.mono hb1.size)
  clear hc0 hf0 hb1
  obtain ⟨hc, hf⟩ := bcell hb2
  have hset := own_cell rfl hb2
  have hz : w.heap.size + 1 < w2.heap.size := by have := hb2.size; simp at this; omega
  have hbw : Below w.heap.size w w2 := (((Below.refl _ _).alloc (Nat.le_refl _) _).alloc (by simp) _).trans (hb2.mono (by simp; omega))
  go_wp2
  refine bodyPost_ret (v := .tuple #[.agg #[.string s, .int .i64 (a + k : Int)], .int .i64 (jn (rest s a).data.toList), .int .i64 (je (rest s a).data.toList)]) (by simp [results, Tryd.results13, go_sem, hc]) rfl ⟨rfl, ?_⟩
  go_grown
end Go.Proofs.YtcnicdcjdieodabDoor
