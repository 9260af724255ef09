import Derived.Test.YtafphabeihoijaaDoorWlk
namespace Go.Proofs.YtafphabeihoijaaDoor
open Go.RowKit
set_option linter.unusedVariables false
set_option maxHeartbeats 1000000 in
set_option maxRecDepth 100000 in
theorem Walk_bad (p : ByteArray) (hp : p.size ≤ 281474976710656) (b : Bool) (h : ∀ l, ¬ LM.Pk p.data.toList l) (w : World) (hw : Lay w) : Calls Tryd.prog 8 #[.string p, .bool b] w fun e w' => e = .returned (.tuple #[.slice none 0 0, .int .i64 60]) ∧ Below w.heap.size w w' := by
  have HRH : Hid (Calls Tryd.prog 24 #[.string p] w (rdP p w)) := read_any p hp w hw
  have HP : Hid _ := h
  clear hw h hp
  go_enter Tryd.func8, Tryd.ntmps8
  go_wp2_with fail
  refine (show Calls _ _ _ _ _ from HRH.out).mono ?_
  rintro e w1 ⟨⟨l', hl', rfl⟩ | ⟨hno, rfl⟩, hb1⟩
  · exact absurd hl' (HP.out l')
  · have HB : Hid (Below w.heap.size w w1) := hb1
    clear hb1 hno
    go_wp2
    go_ret2
    exact ⟨rfl, HB.out.alloc HB.out.size _⟩
end Go.Proofs.YtafphabeihoijaaDoor
