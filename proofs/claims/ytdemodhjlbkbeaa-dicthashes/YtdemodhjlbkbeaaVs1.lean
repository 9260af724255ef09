import Derived.Test.YtdemodhjlbkbeaaVsq
namespace Go.Proofs.Ytdemodhjlbkbeaa
open Go.RowKit
set_option linter.unusedVariables false
theorem meet_k (g B E c : Nat) (v : Int) (w : World) (hD : DW w g B E c v) : Calls Try.prog 34 #[.pointer (some ⟨g, 1, none⟩), .slice none 0 0, .int .i64 1] w fun e w' => ∃ K kc, e = .returned (.slice (some ⟨K, 0, none⟩) 1 kc) ∧ w.heap.size ≤ K ∧ w'.cell? ⟨K, 0, none⟩ = some (.string ⟨#[97]⟩) ∧ Below w.heap.size w w' := by
  refine (meet_one g B E c v w (row6 hD.d).2.1 (row4 hD.b).2.1 hD.o).mono ?_
  rintro e w' ⟨⟨r, rfl, K, kc, rfl, h1, h2⟩, hb⟩
  exact ⟨K, kc, rfl, h1, h2, hb⟩
set_option maxHeartbeats 600000 in
set_option maxRecDepth 100000 in
theorem visit_1 (g B E c : Nat) (v : Int) (w : World) (hD : DW w g B E c v) :
    Calls Try.prog 37 #[.pointer (some ⟨g, 0, none⟩), .slice none 0 0, .int .i64 1] w fun e w' => ∃ K kc, e = .returned (.tuple #[.slice (some ⟨K, 0, none⟩) 1 kc, .int .i64 3]) ∧ w.heap.size ≤ K ∧ w'.cell? ⟨K, 0, none⟩ = some (.string ⟨#[97]⟩) ∧ Below w.heap.size w w' := by
  have HN : Hid _ := next_1
  have HD : Hid (DW w g B E c v) := hD
  have HMV : Hid _ := hD.moves
  have HSZ : Hid (∀ W, DW W g B E c v → Calls Try.prog 33 #[.pointer (some ⟨g, 1, none⟩)] W fun e w' => e = .returned (.int .i64 4) ∧ w' = W) := fun W h => h.size
  have HMK : Hid (∀ W, DW W g B E c v → Calls Try.prog 34 #[.pointer (some ⟨g, 1, none⟩), .slice none 0 0, .int .i64 1] W fun e w' => ∃ K kc, e = .returned (.slice (some ⟨K, 0, none⟩) 1 kc) ∧ W.heap.size ≤ K ∧ w'.cell? ⟨K, 0, none⟩ = some (.string ⟨#[97]⟩) ∧ Below W.heap.size W w') := fun W h => meet_k g B E c v W h
  have hcu : bits .and .i64 1 3 = 1 := by kernel_rfl
  have HD1 : Hid (DW w.drew g B E c v) := hD.drew
  clear hD
  go_enter Try.func37, Try.ntmps37
  go_wp2_with fail
  refine (show Calls _ _ _ _ _ from HMV.out).mono ?_
  rintro e w1 ⟨rfl, rfl⟩
  go_wp2_with fail
  go_region_with (first
    | (go_at_call 33; refine (show Calls _ _ _ _ _ from HSZ.out _ ?_).mono ?_; (first | with_reducible assumption | with_reducible exact HD1.out); rintro e w2 ⟨rfl, rfl⟩)
    | (go_at_call 34; refine (show Calls _ _ _ _ _ from HMK.out _ HD1.out).mono ?_; rintro e w2 ⟨K, kc, rfl, hK, hkc, hb2⟩; have hD2 : DW w2 g B E c v := HD1.out.on hb2)
    | (go_at_call 50; refine (show Calls _ _ _ _ _ from HN.out _).mono ?_; rintro e w2 ⟨rfl, rfl⟩))
  all_goals
    go_wp2
    go_returns
    exact ⟨_, _, rfl, hK, hkc, bel_to ((Below.refl _ _).drew) hb2 (Nat.le_refl _)⟩
end Go.Proofs.Ytdemodhjlbkbeaa
