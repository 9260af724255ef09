import Derived.Test.YtdemodhjlbkbeaaVis
namespace Go.Proofs.Ytdemodhjlbkbeaa
open Go.RowKit
set_option linter.unusedVariables false
theorem DW.drewN {W : World} {g B E c : Nat} {v : Int} (h : DW W g B E c v) (n : Nat) : DW (W.drewN n) g B E c v := h.on (below_dn (Below.refl _ _) n)
theorem meet_q (g B E c i : Nat) (v : Int) (hi : i = 0 ∨ i = 2 ∨ i = 3) (P : Option Addr) (n kc : Nat) (w : World) (hD : DW w g B E c v) : Calls Try.prog 34 #[.pointer (some ⟨g, 1, none⟩), .slice P n kc, .int .i64 (i : Int)] w fun e w' => e = .returned (.slice P n kc) ∧ w' = w := by
  have hr := row4 hD.b
  refine meet_nil g B i (by omega) P n kc w (row6 hD.d).2.1 ?_
  rcases hi with rfl | rfl | rfl
  · exact hr.1
  · exact hr.2.2.1
  · exact hr.2.2.2.1
set_option maxHeartbeats 1000000 in
set_option maxRecDepth 100000 in
theorem visit_q (g B E c i nx : Nat) (v : Int) (hi : i = 0 ∨ i = 2 ∨ i = 3) (P : Option Addr) (n kc : Nat) (w : World) (hcu : bits .and .i64 (i : Int) 3 = (i : Int)) (hN : ∀ W, Calls Try.prog 50 #[.int .i64 (i : Int), .int .i64 4] W fun e w' => e = .returned (.int .i64 (nx : Int)) ∧ w' = W) (hD : DW w g B E c v) :
    Calls Try.prog 37 #[.pointer (some ⟨g, 0, none⟩), .slice P n kc, .int .i64 (i : Int)] w fun e w' => e = .returned (.tuple #[.slice P n kc, .int .i64 (nx : Int)]) ∧ ∃ k, w' = w.drewN k := by
  have HN : Hid _ := hN
  have HD : Hid (DW w g B E c v) := hD
  have HMV : Hid _ := hD.moves
  have HSZ : Hid (∀ W, DW W g B E c v → Calls Try.prog 33 #[.pointer (some ⟨g, 1, none⟩)] W fun e w' => e = .returned (.int .i64 4) ∧ ∃ k, w' = W.drewN k) := fun W h => h.size.mono (fun e w' ⟨h1, h2⟩ => ⟨h1, 0, h2⟩)
  clear hN hD
  go_enter Try.func37, Try.ntmps37
  go_wp2_with fail
  refine (show Calls _ _ _ _ _ from HMV.out).mono ?_
  rintro e w1 ⟨rfl, rfl⟩
  go_wp2_with fail
  go_quiet ((first
    | (go_at_call 33; exact Calls.quiet_of_same (HD.out.drewN _).size)
    | (go_at_call 34; exact Calls.quiet_of_same (meet_q g B E c i v hi P n kc _ (HD.out.drewN _)))
    | (go_at_call 50; exact Calls.quiet_of_same (HN.out _))))
  go_wp2
  go_returns
  exact ⟨rfl, nq, rfl⟩
end Go.Proofs.Ytdemodhjlbkbeaa
