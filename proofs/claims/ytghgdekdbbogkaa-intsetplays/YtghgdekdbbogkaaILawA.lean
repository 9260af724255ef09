import Derived.Test.YtghgdekdbbogkaaILaw
import Derived.Test.YtghgdekdbbogkaaIRAddN
import Derived.Test.YtghgdekdbbogkaaIRDrop
import Derived.Test.YtghgdekdbbogkaaIRAsk
namespace Go.Proofs.Ytghgdekdbbogkaa
open Go.RowKit IM
set_option linter.unusedVariables false
theorem wf64 {n : Int} (h : (Lit.int .i64 n).wf = true) : I64 n := by
  simp [Lit.wf, IntKind.min, IntKind.max, IntKind.signed, IntKind.bits] at h
  unfold I64; omega
set_option maxHeartbeats 400000 in
set_option maxRecDepth 100000 in
theorem IntsetConsts_walk (w : World) : Calls Try.prog 3 #[] w fun e w' => e = .returned (.bool true) ∧ Below w.heap.size w w' := by
  have hlit := lit0
  have HNW : Hid (∀ w, Calls Try.prog 9 #[] w fun e w' => e = .returned (.string (strB (txt 2 []))) ∧ Below w.heap.size w w') := fun w => new_any w
  generalize strB (txt 2 []) = P0 at *
  go_enter Try.func3, Try.ntmps3
  go_wp2_with fail
  refine (HNW.out _).mono ?_
  rintro e w1 ⟨rfl, hb1⟩
  go_wp2
  go_ret
  exact ⟨rfl, hb1⟩
/-- both answers to an Add are one. -/
theorem adds_two (p : ByteArray) (hp : bigS p) (n : Int) (hn : I64 n) : ∃ (q : ByteArray) (b : Bool) (e : Int), (∀ w, Calls Try.prog 10 #[.string p, .int .i64 n] w fun x w' => x = .returned (.tuple #[.string q, .bool b, .int .i64 e]) ∧ Below w.heap.size w w') ∧ (∀ w, Calls Try.prog 16 #[.string p, .int .i64 n] w fun x w' => x = .returned (.tuple #[.string q, .bool b, .int .i64 e]) ∧ Below w.heap.size w w') ∧ 0 ≤ e ∧ e ≤ 50 ∧ q.size ≤ max p.size 10000000 := by
  by_cases h : OkP p.data.toList
  · have hs := h.set
    generalize wid p.data.toList = W at hs
    generalize nums W (cnt p.data.toList) p.data.toList = l at hs
    by_cases hm : n ∈ l
    · exact ⟨p, false, 0, fun w => add_in p W l hs n hm w, fun w => radd_in p W l hs n hm w, by omega, by omega, by omega⟩
    · by_cases hf : l.length = 1048576
      · exact ⟨⟨#[]⟩, false, 3, fun w => add_full p W l hs n hm hf w, fun w => radd_full p W l hs n hm hf w, by omega, by omega, Nat.zero_le _⟩
      · refine ⟨strB (txt (max W (needs n)) (ins l n)), true, 0, fun w => add_new p W l hs n hn hm hf w, fun w => radd_new p W l hs n hn hm hf w, by omega, by omega, ?_⟩
        have h2 := hs.add n hm hn (by have := hs.len; omega)
        rw [strB_size, h2.size]
        have : (ins l n).length * max W (needs n) ≤ 1048576 * 8 := Nat.mul_le_mul h2.len (by rcases h2.w3 with h | h | h <;> omega)
        omega
  · exact ⟨⟨#[]⟩, false, 50, fun w => add_none p hp h n w, fun w => radd_none p hp h n w, by omega, by omega, Nat.zero_le _⟩
theorem drops_two (p : ByteArray) (hp : bigS p) (n : Int) : ∃ (q : ByteArray) (b : Bool) (e : Int), (∀ w, Calls Try.prog 17 #[.string p, .int .i64 n] w fun x w' => x = .returned (.tuple #[.string q, .bool b, .int .i64 e]) ∧ Below w.heap.size w w') ∧ (∀ w, Calls Try.prog 18 #[.string p, .int .i64 n] w fun x w' => x = .returned (.tuple #[.string q, .bool b, .int .i64 e]) ∧ Below w.heap.size w w') ∧ 0 ≤ e ∧ e ≤ 50 ∧ q.size ≤ max p.size 10000000 := by
  by_cases h : OkP p.data.toList
  · have hs := h.set
    generalize wid p.data.toList = W at hs
    generalize nums W (cnt p.data.toList) p.data.toList = l at hs
    by_cases hm : n ∈ l
    · refine ⟨strB (txt W (del l n)), true, 0, fun w => drop_in p W l hs n hm w, fun w => rdrop_in p W l hs n hm w, by omega, by omega, ?_⟩
      have h2 := hs.drop n ((pos_mem hs.rise n).1 hm).1
      rw [strB_size, h2.size]
      have : (del l n).length * W ≤ 1048576 * 8 := Nat.mul_le_mul h2.len (by rcases h2.w3 with h | h | h <;> omega)
      omega
    · exact ⟨p, false, 0, fun w => drop_out p W l hs n hm w, fun w => rdrop_out p W l hs n hm w, by omega, by omega, by omega⟩
  · exact ⟨⟨#[]⟩, false, 50, fun w => drop_none p hp h n w, fun w => rdrop_none p hp h n w, by omega, by omega, Nat.zero_le _⟩
theorem self_same (q : ByteArray) : (q.toList == q.toList) = true := by simp
set_option maxHeartbeats 400000 in
set_option maxRecDepth 100000 in
theorem IntsetAdds_walk (p : ByteArray) (n : Int) (hz : p.size ≤ 140737488351232) (hn : (Lit.int .i64 n).wf = true) (w : World) : Calls Try.prog 5 #[.string p, .int .i64 n] w fun e w' => e = .returned (.bool true) ∧ Below w.heap.size w w' := by
  obtain ⟨q, b, ee, h1, h2, he0, he1, _⟩ := adds_two p (by unfold bigS; omega) n (wf64 hn)
  have H1 : Hid (∀ w, Calls Try.prog 10 #[.string p, .int .i64 n] w fun x w' => x = .returned (.tuple #[.string q, .bool b, .int .i64 ee]) ∧ Below w.heap.size w w') := h1
  have H2 : Hid (∀ w, Calls Try.prog 16 #[.string p, .int .i64 n] w fun x w' => x = .returned (.tuple #[.string q, .bool b, .int .i64 ee]) ∧ Below w.heap.size w w') := h2
  have HSU : Hid (∀ w, Calls Try.prog 15 #[] w fun e w' => e = .returned (.bool true) ∧ Below w.heap.size w w') := fun w => sure_any w
  clear h1 h2 hn
  go_enter Try.func5, Try.ntmps5
  go_wp2_with fail
  refine (H1.out _).mono ?_
  rintro e w1 ⟨rfl, hb1⟩
  go_wp2_with fail
  refine (H2.out _).mono ?_
  rintro e w2 ⟨rfl, hb2⟩
  have HB2 : Hid (Below w.heap.size w w2) := hb1.trans (hb2.mono hb1.size)
  clear hb1 hb2
  go_wp2_with fail
  refine (HSU.out _).mono ?_
  rintro e w3 ⟨rfl, hb3⟩
  have HB3 : Hid (Below w.heap.size w w3) := HB2.out.trans (hb3.mono HB2.out.size)
  clear hb3
  go_wp2
  go_ret
  exact ⟨rfl, HB3.out⟩
set_option maxHeartbeats 400000 in
set_option maxRecDepth 100000 in
theorem IntsetDrops_walk (p : ByteArray) (n : Int) (hz : p.size ≤ 140737488351232) (hn : (Lit.int .i64 n).wf = true) (w : World) : Calls Try.prog 6 #[.string p, .int .i64 n] w fun e w' => e = .returned (.bool true) ∧ Below w.heap.size w w' := by
  obtain ⟨q, b, ee, h1, h2, he0, he1, _⟩ := drops_two p (by unfold bigS; omega) n
  have H1 : Hid (∀ w, Calls Try.prog 17 #[.string p, .int .i64 n] w fun x w' => x = .returned (.tuple #[.string q, .bool b, .int .i64 ee]) ∧ Below w.heap.size w w') := h1
  have H2 : Hid (∀ w, Calls Try.prog 18 #[.string p, .int .i64 n] w fun x w' => x = .returned (.tuple #[.string q, .bool b, .int .i64 ee]) ∧ Below w.heap.size w w') := h2
  have HSU : Hid (∀ w, Calls Try.prog 15 #[] w fun e w' => e = .returned (.bool true) ∧ Below w.heap.size w w') := fun w => sure_any w
  clear h1 h2 hn
  go_enter Try.func6, Try.ntmps6
  go_wp2_with fail
  refine (H1.out _).mono ?_
  rintro e w1 ⟨rfl, hb1⟩
  go_wp2_with fail
  refine (H2.out _).mono ?_
  rintro e w2 ⟨rfl, hb2⟩
  have HB2 : Hid (Below w.heap.size w w2) := hb1.trans (hb2.mono hb1.size)
  clear hb1 hb2
  go_wp2_with fail
  refine (HSU.out _).mono ?_
  rintro e w3 ⟨rfl, hb3⟩
  have HB3 : Hid (Below w.heap.size w w3) := HB2.out.trans (hb3.mono HB2.out.size)
  clear hb3
  go_wp2
  go_ret
  exact ⟨rfl, HB3.out⟩
end Go.Proofs.Ytghgdekdbbogkaa
