import Derived.Test.YtpckadpnedfkkaaDoorGLex
import Derived.Test.YtpckadpnedfkkaaDoorGMatch
namespace Go.Proofs.YtpckadpnedfkkaaDoor
open Go.RowKit Vi Gb
set_option linter.unusedVariables false
theorem w_b1 : bndT (boundOf [40, 53]) = .tuple #[.agg #[.int .i64 5, .int .i64 0, .bool true], .int .i64 0] := by
  have : boundOf [40, 53] = (5, 0, true, 0) := by decide +kernel
  rw [this]; rfl
theorem w_b2 : bndT (boundOf [120]) = .tuple #[.agg #[.int .i64 0, .int .i64 0, .bool false], .int .i64 40] := by
  have : boundOf [120] = (0, 0, false, 40) := by decide +kernel
  rw [this]; rfl
theorem w_l : lexT (lexOf [91, 97]) = .tuple #[.agg #[.string ⟨#[97]⟩, .int .i64 0, .bool false], .int .i64 0] := by
  have : lexOf [91, 97] = ([97], 0, false, 0) := by decide +kernel
  rw [this]; rfl
theorem w_m1 : match' [104, 91, 97, 45, 101, 93, 42, 111] [104, 101, 108, 108, 111] false = true := by decide +kernel
theorem w_m2 : match' [104, 63, 111] [104, 101, 108, 108, 111] false = false := by decide +kernel
theorem w_f : foldB ⟨#[97, 66]⟩ = ⟨#[97, 98]⟩ := by
  have : fold [97, 66] = [97, 98] := by decide +kernel
  unfold foldB
  rw [show (⟨#[97, 66]⟩ : ByteArray).data.toList = [97, 66] from rfl, this]; rfl
set_option maxHeartbeats 2000000 in
set_option maxRecDepth 20000 in
theorem works_any (w : World) (hL : Laid w) :
    Calls Tryd.prog 5 #[] w fun e w' => e = .returned (.bool true) ∧ Below w.heap.size w w' := by
  have HL : Hid (Laid w) := hL
  clear hL
  have HM1 : Hid (∀ w : World, Calls Tryd.prog 6 #[.string ⟨#[104, 91, 97, 45, 101, 93, 42, 111]⟩, .string ⟨#[104, 101, 108, 108, 111]⟩, .bool false] w fun e w' => e = .returned (.bool true) ∧ Below w.heap.size w w') := fun w => by
    have := match_any ⟨#[104, 91, 97, 45, 101, 93, 42, 111]⟩ ⟨#[104, 101, 108, 108, 111]⟩ false (by decide) (by decide) w
    rw [show match' (⟨#[104, 91, 97, 45, 101, 93, 42, 111]⟩ : ByteArray).data.toList (⟨#[104, 101, 108, 108, 111]⟩ : ByteArray).data.toList false = true from w_m1] at this
    exact this
  have HM2 : Hid (∀ w : World, Calls Tryd.prog 6 #[.string ⟨#[104, 63, 111]⟩, .string ⟨#[104, 101, 108, 108, 111]⟩, .bool false] w fun e w' => e = .returned (.bool false) ∧ Below w.heap.size w w') := fun w => by
    have := match_any ⟨#[104, 63, 111]⟩ ⟨#[104, 101, 108, 108, 111]⟩ false (by decide) (by decide) w
    rw [show match' (⟨#[104, 63, 111]⟩ : ByteArray).data.toList (⟨#[104, 101, 108, 108, 111]⟩ : ByteArray).data.toList false = false from w_m2] at this
    exact this
  have HFo : Hid (∀ w : World, Calls Tryd.prog 16 #[.string ⟨#[97, 66]⟩] w fun e w' => e = .returned (.string ⟨#[97, 98]⟩) ∧ Below w.heap.size w w') := fun w => by
    have := fold_any ⟨#[97, 66]⟩ (by decide) w
    rw [w_f] at this
    exact this
  go_enter Tryd.func5, Tryd.ntmps5
  go_wp2_with fail
  refine (bound_any ⟨#[40, 53]⟩ (by decide) w HL.out).mono ?_
  rintro e w1 ⟨rfl, hb1⟩
  have HB1 : Hid (Below w.heap.size w w1) := hb1
  rw [show bndT (boundOf (⟨#[40, 53]⟩ : ByteArray).data.toList) = _ from w_b1]
  clear hb1
  go_wp2_with fail
  refine (lex_any ⟨#[91, 97]⟩ _).mono ?_
  rintro e w2 ⟨rfl, hb2⟩
  have HB2 : Hid (Below w.heap.size w w2) := (HB1.out.alloc HB1.out.size _).trans (hb2.mono (by simp; have := HB1.out.size; omega))
  have HP2 : Hid (w2.heap[w1.heap.size]? = some (.cells #[.int .i64 5, .int .i64 0, .bool true] 25)) := (hb2.block _ (by simp)).trans (one_alloc w1 _)
  clear hb2
  rw [show lexT (lexOf (⟨#[91, 97]⟩ : ByteArray).data.toList) = _ from w_l]
  go_wp2_with fail
  have HL2 : Hid (Laid (w2.alloc (.cells #[.string ⟨#[97]⟩, .int .i64 0, .bool false] 32))) := HL.out.on (HB2.out.alloc HB2.out.size _)
  refine (bound_any ⟨#[120]⟩ (by decide) _ HL2.out).mono ?_
  rintro e w3 ⟨rfl, hb3⟩
  have HB3 : Hid (Below w.heap.size w w3) := (HB2.out.alloc HB2.out.size _).trans (hb3.mono (by simp; have := HB2.out.size; omega))
  have HP3 : Hid (w3.heap[w1.heap.size]? = some (.cells #[.int .i64 5, .int .i64 0, .bool true] 25)) := (hb3.block _ (by simp; have := row_lt HP2.out; omega)).trans ((heap_alloc_old _ _ (row_lt HP2.out)).trans HP2.out)
  have HQ3 : Hid (w3.heap[w2.heap.size]? = some (.cells #[.string ⟨#[97]⟩, .int .i64 0, .bool false] 32)) := (hb3.block _ (by simp)).trans (one_alloc w2 _)
  clear hb3
  rw [show bndT (boundOf (⟨#[120]⟩ : ByteArray).data.toList) = _ from w_b2]
  go_wp2_with fail
  refine (show Calls _ _ _ _ _ from HM1.out _).mono ?_
  rintro e w4 ⟨rfl, hb4⟩
  have HB4 : Hid (Below w.heap.size w w4) := (HB3.out.alloc HB3.out.size _).trans (hb4.mono (by simp; have := HB3.out.size; omega))
  have HP4 : Hid (w4.heap[w1.heap.size]? = some (.cells #[.int .i64 5, .int .i64 0, .bool true] 25)) := (hb4.block _ (by simp; have := row_lt HP3.out; omega)).trans ((heap_alloc_old _ _ (row_lt HP3.out)).trans HP3.out)
  have HQ4 : Hid (w4.heap[w2.heap.size]? = some (.cells #[.string ⟨#[97]⟩, .int .i64 0, .bool false] 32)) := (hb4.block _ (by simp; have := row_lt HQ3.out; omega)).trans ((heap_alloc_old _ _ (row_lt HQ3.out)).trans HQ3.out)
  clear hb4
  go_wp2_with fail
  refine (show Calls _ _ _ _ _ from HM2.out _).mono ?_
  rintro e w5 ⟨rfl, hb5⟩
  have HB5 : Hid (Below w.heap.size w w5) := HB4.out.trans (hb5.mono HB4.out.size)
  have HP5 : Hid (w5.heap[w1.heap.size]? = some (.cells #[.int .i64 5, .int .i64 0, .bool true] 25)) := (hb5.block _ (row_lt HP4.out)).trans HP4.out
  have HQ5 : Hid (w5.heap[w2.heap.size]? = some (.cells #[.string ⟨#[97]⟩, .int .i64 0, .bool false] 32)) := (hb5.block _ (row_lt HQ4.out)).trans HQ4.out
  obtain ⟨a0, a1, a2, af⟩ := row3 HP5.out
  obtain ⟨b0, b1, b2, bf⟩ := row3 HQ5.out
  clear hb5
  go_wp2_with fail
  refine (show Calls _ _ _ _ _ from HFo.out _).mono ?_
  rintro e w6 ⟨rfl, hb6⟩
  have HB6 : Hid (Below w.heap.size w w6) := HB5.out.trans (hb6.mono HB5.out.size)
  clear hb6
  go_wp2
  go_ret
  exact ⟨rfl, HB6.out⟩
end Go.Proofs.YtpckadpnedfkkaaDoor
