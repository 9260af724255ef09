import Derived.Test.YtghgdekdbbogkaaINew
namespace Go.Proofs.Ytghgdekdbbogkaa
open Go.RowKit IM
set_option linter.unusedVariables false
def bigS (p : ByteArray) : Prop := p.size ≤ 9223372036854775807
set_option maxHeartbeats 400000 in
set_option maxRecDepth 100000 in
theorem new_any (w : World) :
    Calls Try.prog 9 #[] w fun e w' => e = .returned (.string (strB (txt 2 []))) ∧ Below w.heap.size w w' := by
  have hnm := newMaker_any 2 0 (Or.inl rfl) (by omega) w
  rw [show ((2 : Nat) : Int) = 2 from rfl, show ((0 : Nat) : Int) = 0 from rfl] at hnm
  have HNM : Hid (Calls Try.prog 29 #[.int .i64 2, .int .i64 0] w fun e w' => e = .returned (.pointer (some ⟨w.heap.size, 0, none⟩)) ∧ MakerAt w.heap.size w.heap.size 2 (txt 2 []) w' ∧ Below w.heap.size w w') := hnm
  clear hnm
  go_enter Try.func9, Try.ntmps9
  go_wp2_with fail
  refine HNM.out.mono ?_
  rintro e w1 ⟨rfl, hm, hb⟩
  have HM : Hid (MakerAt w.heap.size w.heap.size 2 (txt 2 []) w1) := hm
  have HB : Hid (Below w.heap.size w w1) := hb
  clear hm hb
  go_wp2_with fail
  refine (string_any w.heap.size w.heap.size 2 (txt 2 []) w1 HM.out (by decide)).mono ?_
  rintro e w2 ⟨rfl, hb2⟩
  have HB2 : Hid (Below w.heap.size w w2) := HB.out.trans hb2
  clear hb2
  go_wp2
  go_ret
  exact ⟨rfl, HB2.out⟩
set_option maxHeartbeats 400000 in
set_option maxRecDepth 100000 in
theorem valid_set (p : ByteArray) (W : Nat) (l : List Int) (h : IsSet p.data.toList W l)  (w : World) :
    Calls Try.prog 12 #[.string p] w fun e w' => e = .returned (.int .i64 0) ∧ Below w.heap.size w w' := by
  have HP : Hid (∀ w, Calls Try.prog 31 #[.string p] w fun e w' => e = .returned (.tuple #[setV p W l.length, .bool true]) ∧ Below w.heap.size w w') := fun w => parse_set p W l h w
  clear h
  unfold setV at *
  go_enter Try.func12, Try.ntmps12
  go_wp2_with fail
  refine (HP.out _).mono ?_
  rintro e w1 ⟨rfl, hb⟩
  have HB : Hid (Below w.heap.size w w1) := hb
  have hz := hb.size
  clear hb
  go_wp2
  go_ret
  exact ⟨rfl, HB.out.alloc hz _⟩
set_option maxHeartbeats 400000 in
set_option maxRecDepth 100000 in
theorem valid_none (p : ByteArray) (hp : bigS p) (h : ¬ OkP p.data.toList)  (w : World) :
    Calls Try.prog 12 #[.string p] w fun e w' => e = .returned (.int .i64 50) ∧ Below w.heap.size w w' := by
  have HP : Hid (∀ w, Calls Try.prog 31 #[.string p] w fun e w' => e = .returned (.tuple #[setV ⟨#[]⟩ 0 0, .bool false]) ∧ Below w.heap.size w w') := fun w => parse_none p hp h w
  clear h hp
  unfold setV at *
  go_enter Try.func12, Try.ntmps12
  go_wp2_with fail
  refine (HP.out _).mono ?_
  rintro e w1 ⟨rfl, hb⟩
  have HB : Hid (Below w.heap.size w w1) := hb
  have hz := hb.size
  clear hb
  go_wp2
  go_ret
  exact ⟨rfl, HB.out.alloc hz _⟩
set_option maxHeartbeats 400000 in
set_option maxRecDepth 100000 in
theorem len_set (p : ByteArray) (W : Nat) (l : List Int) (h : IsSet p.data.toList W l)  (w : World) :
    Calls Try.prog 20 #[.string p] w fun e w' => e = .returned (.tuple #[.int .i64 (l.length : Nat), .int .i64 0]) ∧ Below w.heap.size w w' := by
  have HP : Hid (∀ w, Calls Try.prog 31 #[.string p] w fun e w' => e = .returned (.tuple #[setV p W l.length, .bool true]) ∧ Below w.heap.size w w') := fun w => parse_set p W l h w
  clear h
  unfold setV at *
  go_enter Try.func20, Try.ntmps20
  go_wp2_with fail
  refine (HP.out _).mono ?_
  rintro e w1 ⟨rfl, hb⟩
  have HB : Hid (Below w.heap.size w w1) := hb
  have hz := hb.size
  clear hb
  go_wp2
  go_ret2
  exact ⟨rfl, HB.out.alloc hz _⟩
set_option maxHeartbeats 400000 in
set_option maxRecDepth 100000 in
theorem len_none (p : ByteArray) (hp : bigS p) (h : ¬ OkP p.data.toList)  (w : World) :
    Calls Try.prog 20 #[.string p] w fun e w' => e = .returned (.tuple #[.int .i64 0, .int .i64 50]) ∧ Below w.heap.size w w' := by
  have HP : Hid (∀ w, Calls Try.prog 31 #[.string p] w fun e w' => e = .returned (.tuple #[setV ⟨#[]⟩ 0 0, .bool false]) ∧ Below w.heap.size w w') := fun w => parse_none p hp h w
  clear h hp
  unfold setV at *
  go_enter Try.func20, Try.ntmps20
  go_wp2_with fail
  refine (HP.out _).mono ?_
  rintro e w1 ⟨rfl, hb⟩
  have HB : Hid (Below w.heap.size w w1) := hb
  have hz := hb.size
  clear hb
  go_wp2
  go_ret2
  exact ⟨rfl, HB.out.alloc hz _⟩
end Go.Proofs.Ytghgdekdbbogkaa
