import Derived.Test.YtghgdekdbbogkaaIRAt
import Derived.Test.YtghgdekdbbogkaaIRTxt
import Derived.Laws.AppendOwnNone
namespace Go.Proofs.Ytghgdekdbbogkaa
open Go.RowKit IM
set_option linter.unusedVariables false
set_option maxHeartbeats 400000 in
set_option maxRecDepth 100000 in
theorem needs_any (n : Int) (w : World) :
    Calls Try.prog 37 #[.int .i64 n] w fun e w' => e = .returned (.int .i64 (needs n : Nat)) ∧ w' = w := by
  by_cases h2 : -32768 ≤ n ∧ n ≤ 32767
  · have HN : Hid (needs n = 2) := by unfold needs; rw [if_pos h2]; exact rfl
    obtain ⟨h2a, h2b⟩ := h2
    go_enter Try.func37, Try.ntmps37
    go_wp2
    go_ret
    exact ⟨by rw [HN.out]; rfl, rfl⟩
  · by_cases h4 : -2147483648 ≤ n ∧ n ≤ 2147483647
    · have HN : Hid (needs n = 4) := by unfold needs; rw [if_neg h2, if_pos h4]; exact rfl
      obtain ⟨h4a, h4b⟩ := h4
      rcases (show n < -32768 ∨ 32767 < n by omega) with h | h
      all_goals clear h2
      all_goals go_enter Try.func37, Try.ntmps37
      all_goals go_wp2
      all_goals go_ret
      all_goals exact ⟨by rw [HN.out]; rfl, rfl⟩
    · have HN : Hid (needs n = 8) := by unfold needs; rw [if_neg h2, if_neg h4]; exact rfl
      rcases (show n < -2147483648 ∨ 2147483647 < n by omega) with h | h
      all_goals clear h2 h4
      all_goals go_enter Try.func37, Try.ntmps37
      all_goals go_wp2
      all_goals go_ret
      all_goals exact ⟨by rw [HN.out]; rfl, rfl⟩
set_option maxHeartbeats 400000 in
set_option maxRecDepth 100000 in
theorem radd_none (p : ByteArray) (hp : p.size ≤ 9223372036854775807) (h : ¬ OkP p.data.toList) (n : Int) (w : World) :
    Calls Try.prog 16 #[.string p, .int .i64 n] w fun e w' => e = .returned (.tuple #[.string ⟨#[]⟩, .bool false, .int .i64 50]) ∧ Below w.heap.size w w' := by
  have HP : Hid _ := fun w => read_none p hp h w
  clear h hp
  go_enter Try.func16, Try.ntmps16
  go_wp2_with fail
  refine (HP.out _).mono ?_
  rintro e w1 ⟨rfl, hb⟩
  have HB : Hid (Below w.heap.size w w1) := hb
  clear hb
  go_wp2
  go_ret3
  exact ⟨rfl, HB.out⟩
set_option maxHeartbeats 400000 in
set_option maxRecDepth 100000 in
theorem radd_in (p : ByteArray) (W : Nat) (l : List Int) (h : IsSet p.data.toList W l) (n : Int) (hm : n ∈ l) (w : World) :
    Calls Try.prog 16 #[.string p, .int .i64 n] w fun e w' => e = .returned (.tuple #[.string p, .bool false, .int .i64 0]) ∧ Below w.heap.size w w' := by
  have HP : Hid (∀ w, Calls Try.prog 21 #[.string p] w fun e w' => ∃ v, e = .returned (.tuple #[.int .i64 (W : Nat), v, .bool true]) ∧ w'.ownsRow w.heap.size 3 1 v l.length (icells l) ∧ Below w.heap.size w w') := fun w => read_set p W l h w
  have hlen := h.len
  have HH : Hid (IsSet p.data.toList W l) := h
  have HAT : Hid (∀ v w, HoldsI w v l → Calls Try.prog 35 #[v, .int .i64 n] w fun e w' => e = .returned (.tuple #[.int .i64 (pos l n : Nat), .bool true]) ∧ Below w.heap.size w w') := fun v w hv => by
    have := refat_any v l h.rise h.len n w hv
    rw [decide_eq_true hm] at this
    exact this
  have hple := pos_le l n
  clear h
  go_enter Try.func16, Try.ntmps16
  go_wp2_with fail
  refine (HP.out _).mono ?_
  rintro e w1 ⟨v, rfl, hown, hb⟩
  have HO : Hid (w1.ownsRow w.heap.size 3 1 v l.length (icells l)) := hown
  have HB : Hid (Below w.heap.size w w1) := hb
  have hz := hb.size
  clear hown hb
  obtain ⟨q, c, rfl⟩ := own_form HO.out
  go_wp2_with fail
  refine (HAT.out _ _ (HoldsI.own HO.out)).mono ?_
  rintro e w2 ⟨rfl, hb2⟩
  have HO2 : Hid (w2.ownsRow w.heap.size 3 1 (.slice q l.length c) l.length (icells l)) := own_keep HO.out (fun b _ hb => hb2.block b hb)
  have HB2 : Hid (Below w.heap.size w w2) := HB.out.trans (hb2.mono hz)
  have hzz : w.heap.size ≤ w2.heap.size := HB2.out.size
  clear hb2
  go_wp2
  go_ret3
  exact ⟨rfl, HB2.out⟩
set_option maxHeartbeats 400000 in
set_option maxRecDepth 100000 in
theorem radd_full (p : ByteArray) (W : Nat) (l : List Int) (h : IsSet p.data.toList W l) (n : Int) (hm : n ∉ l) (hf : l.length = 1048576) (w : World) :
    Calls Try.prog 16 #[.string p, .int .i64 n] w fun e w' => e = .returned (.tuple #[.string ⟨#[]⟩, .bool false, .int .i64 3]) ∧ Below w.heap.size w w' := by
  have HP : Hid (∀ w, Calls Try.prog 21 #[.string p] w fun e w' => ∃ v, e = .returned (.tuple #[.int .i64 (W : Nat), v, .bool true]) ∧ w'.ownsRow w.heap.size 3 1 v l.length (icells l) ∧ Below w.heap.size w w') := fun w => read_set p W l h w
  have hlen := h.len
  have HH : Hid (IsSet p.data.toList W l) := h
  have HAT : Hid (∀ v w, HoldsI w v l → Calls Try.prog 35 #[v, .int .i64 n] w fun e w' => e = .returned (.tuple #[.int .i64 (pos l n : Nat), .bool false]) ∧ Below w.heap.size w w') := fun v w hv => by
    have := refat_any v l h.rise h.len n w hv
    rw [decide_eq_false hm] at this
    exact this
  have hple := pos_le l n
  have hfz : (1048576 : Int) ≤ (l.length : Int) := by omega
  clear hf hlen hple
  clear h
  go_enter Try.func16, Try.ntmps16
  go_wp2_with fail
  refine (HP.out _).mono ?_
  rintro e w1 ⟨v, rfl, hown, hb⟩
  have HO : Hid (w1.ownsRow w.heap.size 3 1 v l.length (icells l)) := hown
  have HB : Hid (Below w.heap.size w w1) := hb
  have hz := hb.size
  clear hown hb
  obtain ⟨q, c, rfl⟩ := own_form HO.out
  go_wp2_with fail
  refine (HAT.out _ _ (HoldsI.own HO.out)).mono ?_
  rintro e w2 ⟨rfl, hb2⟩
  have HO2 : Hid (w2.ownsRow w.heap.size 3 1 (.slice q l.length c) l.length (icells l)) := own_keep HO.out (fun b _ hb => hb2.block b hb)
  have HB2 : Hid (Below w.heap.size w w2) := HB.out.trans (hb2.mono hz)
  have hzz : w.heap.size ≤ w2.heap.size := HB2.out.size
  clear hb2
  go_wp2
  go_ret3
  exact ⟨rfl, HB2.out⟩
set_option maxHeartbeats 400000 in
set_option maxRecDepth 100000 in
theorem rdrop_out (p : ByteArray) (W : Nat) (l : List Int) (h : IsSet p.data.toList W l) (n : Int) (hm : n ∉ l) (w : World) :
    Calls Try.prog 18 #[.string p, .int .i64 n] w fun e w' => e = .returned (.tuple #[.string p, .bool false, .int .i64 0]) ∧ Below w.heap.size w w' := by
  have HP : Hid (∀ w, Calls Try.prog 21 #[.string p] w fun e w' => ∃ v, e = .returned (.tuple #[.int .i64 (W : Nat), v, .bool true]) ∧ w'.ownsRow w.heap.size 3 1 v l.length (icells l) ∧ Below w.heap.size w w') := fun w => read_set p W l h w
  have hlen := h.len
  have HH : Hid (IsSet p.data.toList W l) := h
  have HAT : Hid (∀ v w, HoldsI w v l → Calls Try.prog 35 #[v, .int .i64 n] w fun e w' => e = .returned (.tuple #[.int .i64 (pos l n : Nat), .bool false]) ∧ Below w.heap.size w w') := fun v w hv => by
    have := refat_any v l h.rise h.len n w hv
    rw [decide_eq_false hm] at this
    exact this
  have hple := pos_le l n
  clear h
  go_enter Try.func18, Try.ntmps18
  go_wp2_with fail
  refine (HP.out _).mono ?_
  rintro e w1 ⟨v, rfl, hown, hb⟩
  have HO : Hid (w1.ownsRow w.heap.size 3 1 v l.length (icells l)) := hown
  have HB : Hid (Below w.heap.size w w1) := hb
  have hz := hb.size
  clear hown hb
  obtain ⟨q, c, rfl⟩ := own_form HO.out
  go_wp2_with fail
  refine (HAT.out _ _ (HoldsI.own HO.out)).mono ?_
  rintro e w2 ⟨rfl, hb2⟩
  have HO2 : Hid (w2.ownsRow w.heap.size 3 1 (.slice q l.length c) l.length (icells l)) := own_keep HO.out (fun b _ hb => hb2.block b hb)
  have HB2 : Hid (Below w.heap.size w w2) := HB.out.trans (hb2.mono hz)
  have hzz : w.heap.size ≤ w2.heap.size := HB2.out.size
  clear hb2
  go_wp2
  go_ret3
  exact ⟨rfl, HB2.out⟩
end Go.Proofs.Ytghgdekdbbogkaa
