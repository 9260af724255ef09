import Derived.Test.YtpckadpnedfkkaaDoorRMatchY
import Derived.Test.YtpckadpnedfkkaaDoorRFold
import Derived.Test.YtpckadpnedfkkaaDoorGWorks
import Derived.Test.YtpckadpnedfkkaaDoorGMatch
namespace Go.Proofs.YtpckadpnedfkkaaDoor
open Go.RowKit Gb
set_option linter.unusedVariables false
theorem plen (l : List UInt8) : (parse l).length ≤ l.length := parse_len _ _
def StepsC : Prop := ∀ s : ByteArray, s.size ≤ 3000000 → ∀ w, Calls Tryd.prog 20 #[.string s] w fun e w' => ∃ v, e = .returned v ∧ w'.ownsRow w.heap.size 51 259 v (parse s.data.toList).length (rcells (parse s.data.toList)) ∧ Below w.heap.size w w'
theorem rmatch_any (HS : StepsC) (p t : ByteArray) (f : Bool) (hp : p.size ≤ 3000000) (ht : t.size ≤ 50000000) (w : World) :
    Calls Tryd.prog 7 #[.string p, .string t, .bool f] w fun e w' => e = .returned (.bool (match' p.data.toList t.data.toList f)) ∧ Below w.heap.size w w' := by
  cases f
  · exact rmatch_no p t (parse p.data.toList) rfl hp ht (by have := plen p.data.toList; rw [list_len] at this; omega) (HS p hp) w
  · have h1 := rmatch_yes p t (foldB p) (foldB t) (fun w => rfold_any p (by omega) w) (fun w => rfold_any t (by omega) w) (parse (foldB p).data.toList) rfl (by rw [foldB_size]; exact hp) (by rw [foldB_size]; exact ht) (by have := plen (foldB p).data.toList; rw [list_len, foldB_size] at this; omega) (HS (foldB p) (by rw [foldB_size]; exact hp)) w
    rw [foldB_list, foldB_list] at h1
    exact h1
set_option maxHeartbeats 400000 in
set_option maxRecDepth 20000 in
theorem matches_walk (HS : StepsC) (a0 a1 : ByteArray) (a2 : Bool) (z0 : a0.size ≤ 1048576) (z1 : a1.size ≤ 1048576) (w : World) (hL : Laid w) :
    Calls Tryd.prog 3 #[.string a0, .string a1, .bool a2] w fun e w' => e = .returned (.bool true) ∧ Below w.heap.size w w' := by
  have HL : Hid (Laid w) := hL
  have H1 : Hid (∀ w, Calls Tryd.prog 6 #[.string a0, .string a1, .bool a2] w fun e w' => e = .returned (.bool (match' a0.data.toList a1.data.toList a2)) ∧ Below w.heap.size w w') := fun w => match_any a0 a1 a2 (by omega) (by omega) w
  have H2 : Hid (∀ w, Calls Tryd.prog 7 #[.string a0, .string a1, .bool a2] w fun e w' => e = .returned (.bool (match' a0.data.toList a1.data.toList a2)) ∧ Below w.heap.size w w') := fun w => rmatch_any HS a0 a1 a2 (by omega) (by omega) w
  clear hL HS
  generalize match' a0.data.toList a1.data.toList a2 = M at *
  go_enter Tryd.func3, Tryd.ntmps3
  go_wp2_with fail
  refine (show Calls _ _ _ _ _ from works_any _ HL.out).mono ?_
  rintro e w1 ⟨rfl, hb1⟩
  go_wp2_with fail
  refine (H1.out _).mono ?_
  rintro e w2 ⟨rfl, hb2⟩
  go_wp2_with fail
  refine (H2.out _).mono ?_
  rintro e w3 ⟨rfl, hb3⟩
  have h12 := hb1.trans (hb2.mono hb1.size)
  have HB3 : Hid (Below w.heap.size w w3) := h12.trans (hb3.mono h12.size)
  clear hb1 hb2 hb3 h12
  go_wp2
  go_ret
  exact ⟨by first | rfl | simp, HB3.out⟩
end Go.Proofs.YtpckadpnedfkkaaDoor
