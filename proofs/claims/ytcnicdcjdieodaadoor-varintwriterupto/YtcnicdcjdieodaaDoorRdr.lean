import Derived.Test.YtcnicdcjdieodaaDoorTup
import Derived.Deep.QuietTactic
import Derived.BigQuiet
namespace Go.Proofs.YtcnicdcjdieodaaDoor
open Go.RowKit Vi
set_option linter.unusedVariables false

/-- a Reader's block. -/
def Rd (w : World) (b : Nat) (s : ByteArray) (a : Nat) : Prop := w.heap[b]? = some (.cells #[.string s, .int .i64 (a : Int)] 83)
theorem Rd.data {w : World} {b : Nat} {s : ByteArray} {a : Nat} (h : Rd w b s a) : w.cell? ⟨b, 0, none⟩ = some (.string s) := by
  rw [cell_of_row _ _ _ _ _ _ h]; rfl
theorem Rd.pos {w : World} {b : Nat} {s : ByteArray} {a : Nat} (h : Rd w b s a) : w.cell? ⟨b, 1, none⟩ = some (.int .i64 (a : Int)) := by
  rw [cell_of_row _ _ _ _ _ _ h]; rfl
theorem Rd.free {w : World} {b : Nat} {s : ByteArray} {a : Nat} (h : Rd w b s a) (o : Nat) : w.frozen? ⟨b, o, none⟩ = false := frozen_of_row _ _ _ _ _ h
/-- the reader stands at a', nothing else has turned. -/
structure Moved (w w' : World) (b : Nat) (s : ByteArray) (a' : Nat) : Prop where
  rd : Rd w' b s a'
  other : ∀ k, k ≠ b → w'.heap[k]? = w.heap[k]?
  size : w'.heap.size = w.heap.size
  os : w'.os = w.os
  tape : w'.tape = w.tape
  output : w'.output = w.output
theorem Moved.below {w w' : World} {b : Nat} {s : ByteArray} {a' B : Nat} (h : Moved w w' b s a') (hB : B ≤ b) : Below B w w' :=
  ⟨h.os, h.tape, h.output, by rw [h.size]; exact Nat.le_refl _, fun k hk => h.other k (by omega)⟩
theorem Moved.stay {w : World} {b : Nat} {s : ByteArray} {a : Nat} (h : Rd w b s a) (n : Nat) : Moved w (w.drewN n) b s a :=
  ⟨h, fun _ _ => rfl, rfl, rfl, rfl, rfl⟩
theorem Moved.stay0 {w : World} {b : Nat} {s : ByteArray} {a : Nat} (h : Rd w b s a) : Moved w w b s a :=
  ⟨h, fun _ _ => rfl, rfl, rfl, rfl, rfl⟩
theorem Moved.set {w : World} {b : Nat} {s : ByteArray} {a : Nat} (h : Rd w b s a) (n : Nat) (x : Int) (a' : Nat) (hx : x = (a' : Int)) : Moved w ((w.drewN n).setCell ⟨b, 1, none⟩ (.int .i64 x)) b s a' := by
  subst hx
  refine ⟨?_, fun k hk => ?_, ?_, rfl, rfl, rfl⟩
  · show _ = _
    rw [heap_setCell_same _ _ _ _ _ _ (show (w.drewN n).heap[b]? = _ from h)]
    rfl
  · rw [heap_setCell_other _ _ _ _ (by simpa using hk)]
    rfl
  · rw [World.size_setCell]; rfl

set_option maxHeartbeats 400000 in
theorem at_any (b : Nat) (s : ByteArray) (a : Nat) (w : World) (h : Rd w b s a) :
    Calls Tryd.prog 27 #[.pointer (some ⟨b, 0, none⟩)] w fun e w' => e = .returned (.int .i64 (a : Int)) ∧ w' = w := by
  have hc0 := h.data
  have hc1 := h.pos
  go_enter Tryd.func27, Tryd.ntmps27
  go_wp2
  go_ret
  exact ⟨rfl, rfl⟩
set_option maxHeartbeats 400000 in
theorem left_any (b : Nat) (s : ByteArray) (a : Nat) (ha : a ≤ s.size) (hm : s.size ≤ maxLen) (w : World) (h : Rd w b s a) :
    Calls Tryd.prog 28 #[.pointer (some ⟨b, 0, none⟩)] w fun e w' => e = .returned (.int .i64 ((s.size - a : Nat) : Int)) ∧ ∃ n, w' = w.drewN n := by
  have hc0 := h.data
  have hc1 := h.pos
  unfold maxLen at hm
  go_enter Tryd.func28, Tryd.ntmps28
  go_wp2
  go_quiet (fail)
  go_wp2
  go_ret
  exact ⟨ret_int (by go_num), _, rfl⟩
set_option maxHeartbeats 400000 in
theorem byte_end (b : Nat) (s : ByteArray) (hm : s.size ≤ maxLen) (w : World) (h : Rd w b s s.size) :
    Calls Tryd.prog 29 #[.pointer (some ⟨b, 0, none⟩)] w fun e w' => e = .returned (.tuple #[.int .i64 0, .int .i64 20]) ∧ Moved w w' b s s.size := by
  have HR : Hid (Rd w b s s.size) := h
  have HL := left_any b s s.size (Nat.le_refl _) hm w h
  rw [show ((s.size - s.size : Nat) : Int) = 0 by omega] at HL
  clear h
  go_enter Tryd.func29, Tryd.ntmps29
  go_wp2_with fail
  refine HL.mono ?_
  rintro e w1 ⟨rfl, n, rfl⟩
  go_wp2
  go_ret2
  exact ⟨rfl, Moved.stay HR.out n⟩
set_option maxHeartbeats 400000 in
set_option maxRecDepth 20000 in
theorem byte_ok (b : Nat) (s : ByteArray) (a : Nat) (ha : a < s.size) (hm : s.size ≤ maxLen) (w : World) (h : Rd w b s a) :
    Calls Tryd.prog 29 #[.pointer (some ⟨b, 0, none⟩)] w fun e w' => e = .returned (.tuple #[.int .i64 (s[a].toNat : Int), .int .i64 0]) ∧ Moved w w' b s (a + 1) := by
  have HR : Hid (Rd w b s a) := h
  have HL := left_any b s a (by omega) hm w h
  have hc0 := h.data
  have hc1 := h.pos
  have hf := h.free 1
  have hwb := wrap_b s[a]
  unfold maxLen at hm
  have hz : (((s.size - a : Nat) : Int) == 0) = false := by simp; omega
  have HL' : Hid _ := HL
  clear h HL
  generalize ((s.size - a : Nat) : Int) = L at *
  go_enter Tryd.func29, Tryd.ntmps29
  go_wp2_with fail
  refine Calls.mono HL'.out ?_
  rintro e w1 ⟨rfl, n, rfl⟩
  go_wp2
  go_quiet (fail)
  go_wp2
  go_ret2
  exact ⟨by simp only [wrap_b]; rfl, Moved.set HR.out _ _ (a + 1) (by go_num)⟩
set_option maxHeartbeats 400000 in
theorem take_neg (b : Nat) (s : ByteArray) (a : Nat) (n : Int) (hn : n < 0) (w : World) (h : Rd w b s a) :
    Calls Tryd.prog 26 #[.pointer (some ⟨b, 0, none⟩), .int .i64 n] w fun e w' => e = .returned (.tuple #[.string ⟨#[]⟩, .int .i64 1]) ∧ Moved w w' b s a := by
  have HR : Hid (Rd w b s a) := h
  clear h
  go_enter Tryd.func26, Tryd.ntmps26
  go_wp2
  go_ret2
  exact ⟨rfl, Moved.stay0 HR.out⟩
set_option maxHeartbeats 400000 in
theorem take_short (b : Nat) (s : ByteArray) (a : Nat) (ha : a ≤ s.size) (hm : s.size ≤ maxLen) (n : Int) (hn : ((s.size - a : Nat) : Int) < n) (w : World) (h : Rd w b s a) :
    Calls Tryd.prog 26 #[.pointer (some ⟨b, 0, none⟩), .int .i64 n] w fun e w' => e = .returned (.tuple #[.string ⟨#[]⟩, .int .i64 20]) ∧ Moved w w' b s a := by
  have HR : Hid (Rd w b s a) := h
  have HL := left_any b s a ha hm w h
  have hn0 : 0 ≤ n := by omega
  have HL' : Hid _ := HL
  clear h HL
  generalize ((s.size - a : Nat) : Int) = L at *
  go_enter Tryd.func26, Tryd.ntmps26
  go_wp2_with fail
  refine Calls.mono HL'.out ?_
  rintro e w1 ⟨rfl, k, rfl⟩
  go_wp2
  go_ret2
  exact ⟨rfl, Moved.stay HR.out k⟩
set_option maxHeartbeats 400000 in
set_option maxRecDepth 20000 in
theorem take_ok (b : Nat) (s : ByteArray) (a : Nat) (n : Nat) (ha : a + n ≤ s.size) (hm : s.size ≤ maxLen) (w : World) (h : Rd w b s a) :
    Calls Tryd.prog 26 #[.pointer (some ⟨b, 0, none⟩), .int .i64 (n : Int)] w fun e w' => e = .returned (.tuple #[.string (s.extract a (a + n)), .int .i64 0]) ∧ Moved w w' b s (a + n) := by
  have HR : Hid (Rd w b s a) := h
  have HL := left_any b s a (by omega) hm w h
  have hc0 := h.data
  have hc1 := h.pos
  have hf := h.free 1
  unfold maxLen at hm
  have hn : (n : Int) ≤ ((s.size - a : Nat) : Int) := by omega
  have hn0 : 0 ≤ (n : Int) := by omega
  have HL' : Hid _ := HL
  clear h HL
  generalize ((s.size - a : Nat) : Int) = L at *
  go_enter Tryd.func26, Tryd.ntmps26
  go_wp2_with fail
  refine Calls.mono HL'.out ?_
  rintro e w1 ⟨rfl, k, rfl⟩
  go_wp2
  go_quiet (fail)
  go_wp2
  go_ret2
  exact ⟨rfl, Moved.set HR.out _ _ (a + n) (by go_num)⟩

/-- what is left. -/
def rest (s : ByteArray) (a : Nat) : ByteArray := s.extract a s.size
theorem rest_list (s : ByteArray) (a : Nat) : (rest s a).data.toList = s.data.toList.drop a := by
  unfold rest
  rw [ByteArray.data_extract]
  have := list_len s
  simp [Array.toList_extract, List.extract_eq_take_drop]
  rw [List.take_of_length_le (by simp)]
theorem rest_size (s : ByteArray) (a : Nat) : (rest s a).size = s.size - a := by
  unfold rest; rw [ByteArray.size_extract]; omega
theorem rs_nat (s : ByteArray) (a : Nat) (ha : a ≤ s.size) : ∃ k : Nat, rs (rest s a).data.toList = (k : Int) ∧ a + k ≤ s.size ∧ k ≤ 9 := by
  obtain ⟨_, _, h0, h9, hl, _⟩ := readLen_range (rest s a).data.toList
  rw [list_len, rest_size] at hl
  refine ⟨(readLen (rest s a).data.toList).size.toNat, ?_, ?_, ?_⟩
  · unfold rs; omega
  · omega
  · omega
set_option maxHeartbeats 400000 in
set_option maxRecDepth 20000 in
theorem rlen_any (b : Nat) (s : ByteArray) (a k : Nat) (ha : a ≤ s.size) (hk : rs (rest s a).data.toList = (k : Int)) (hk9 : k ≤ 9) (hm : s.size ≤ 281474976710656) (w : World) (h : Rd w b s a) :
    Calls Tryd.prog 25 #[.pointer (some ⟨b, 0, none⟩)] w fun e w' => e = .returned (.tuple #[.int .i64 (rn (rest s a).data.toList), .int .i64 (rp (rest s a).data.toList), .int .i64 (re (rest s a).data.toList)]) ∧ Moved w w' b s (a + k) := by
  have HR : Hid (Rd w b s a) := h
  have hc0 := h.data
  have hc1 := h.pos
  have hf := h.free 1
  have HC : ∀ w : World, Calls Tryd.prog 10 #[.string (s.extract a s.size)] w fun e w' => e = .returned (.tuple #[.int .i64 (rn (rest s a).data.toList), .int .i64 (k : Int), .int .i64 (rp (rest s a).data.toList), .int .i64 (re (rest s a).data.toList)]) ∧ w' = w := by
    intro w
    have := len_t (rest s a) w
    rw [hk] at this
    exact this
  have HC' : Hid _ := HC
  clear h HC hk
  generalize rn (rest s a).data.toList = x1 at *
  generalize rp (rest s a).data.toList = x2 at *
  generalize re (rest s a).data.toList = x3 at *
  go_enter Tryd.func25, Tryd.ntmps25
  go_wp2
  go_quiet ((go_at_call 10; exact Calls.quiet_of_same (HC'.out _)))
  go_wp2
  go_ret3
  exact ⟨rfl, Moved.set HR.out _ _ (a + k) (by go_num)⟩
set_option maxHeartbeats 400000 in
theorem newReader_any (s : ByteArray) (w : World) :
    Calls Tryd.prog 24 #[.string s] w fun e w' => e = .returned (.pointer (some ⟨w.heap.size, 0, none⟩)) ∧ w' = w.alloc (.cells #[.string s, .int .i64 0] 83) := by
  go_enter Tryd.func24, Tryd.ntmps24
  go_wp2
  go_ret
  exact ⟨rfl, rfl⟩
end Go.Proofs.YtcnicdcjdieodaaDoor
