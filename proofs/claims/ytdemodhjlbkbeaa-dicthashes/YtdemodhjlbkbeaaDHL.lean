import Derived.Test.YtdemodhjlbkbeaaWrk
namespace Go.Proofs.Ytdemodhjlbkbeaa
open Go.RowKit
set_option linter.unusedVariables false
set_option maxHeartbeats 1000000 in
set_option maxRecDepth 100000 in
theorem DictHashes_walk (seed : Int) (s : ByteArray) (w0 : (Lit.int .i64 seed).wf = true) (hs : s.size ≤ 140737488351232) (w : World) : Calls Try.prog 3 #[.int .i64 seed, .string s] w fun e w' => e = .returned (.bool true) ∧ Below w.heap.size w w' := by
  clear w0
  have HWK : Hid _ := works_any w
  have HH : Hid (∀ W, Calls Try.prog 10 #[.int .i64 seed, .string s] W fun e w' => e = .returned (.int .i64 (hashT seed s)) ∧ w' = W) := fun W => Hash_any seed s (by omega) W
  have HR : Hid (∀ W, Calls Try.prog 11 #[.int .i64 seed, .string s] W fun e w' => e = .returned (.int .i64 (hashT seed s)) ∧ w' = W) := fun W => rHash_any seed s (by omega) W
  generalize hashT seed s = H at *
  have hhh : (H == H) = true := by simp
  go_enter Try.func3, Try.ntmps3
  go_wp2_with fail
  refine (show Calls _ _ _ _ _ from HWK.out).mono ?_
  rintro e w1 ⟨rfl, hb1⟩
  have HB1 : Hid (Below w.heap.size w w1) := hb1
  clear hb1
  go_wp2_with fail
  refine (show Calls _ _ _ _ _ from HH.out _).mono ?_
  rintro e w2 ⟨rfl, rfl⟩
  go_wp2_with fail
  refine (show Calls _ _ _ _ _ from HR.out _).mono ?_
  rintro e w2 ⟨rfl, rfl⟩
  go_wp2
  go_returns
  exact ⟨rfl, HB1.out⟩
end Go.Proofs.Ytdemodhjlbkbeaa
