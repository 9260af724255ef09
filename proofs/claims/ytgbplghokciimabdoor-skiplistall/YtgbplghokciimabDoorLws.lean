import Derived.Test.YtgbplghokciimabDoorPly
namespace Go.Proofs.YtgbplghokciimabDoor
open Go.RowKit I
set_option linter.unusedVariables false
set_option maxHeartbeats 1000000 in
set_option maxRecDepth 100000 in
theorem SkiplistAll_walk (seed : Int) (ad : Option Addr) (len cap g off : Nat) (had : len ≠ 0 → ad = some ⟨g, off, none⟩) (hlen : len ≤ 9223372036854775807) (w : World) (hops : ∀ i, i < len → ∃ o, OpAt w g off i o) (hT : Tab w) : Calls Tryd.prog 3 #[.agg #[.int .i64 seed, .slice ad len cap]] w fun e w' => e = .returned (.bool true) ∧ Below w.heap.size w w' := by
  obtain ⟨W0, hW0⟩ : ∃ W0, W0 = w.alloc (.cells #[.int .i64 seed, .slice ad len cap] 24) := ⟨_, rfl⟩
  have hb0 : Below w.heap.size w W0 := by rw [hW0]; exact (Below.refl _ _).alloc (Nat.le_refl _) _
  have HPL : Hid _ := play_any seed ad len cap g off 1 10 had hlen W0 (fun i hi => let ⟨o, ho⟩ := hops i hi; ⟨o, ho.keep hb0⟩) (hT.on hb0)
  have HB0 : Hid (Below w.heap.size w W0) := hb0
  clear hops had hT hb0
  go_enter Tryd.func3, Tryd.ntmps3
  go_wp2_with fail
  rw [← hW0]
  clear hW0
  refine (show Calls _ _ _ _ _ from HPL.out).mono ?_
  rintro e w1 ⟨rfl, hb1⟩
  have HB1 : Hid (Below w.heap.size w w1) := bel_to HB0.out hb1 (Nat.le_refl _)
  clear hb1
  go_wp2
  go_returns
  exact ⟨by first | rfl | (simp; done), HB1.out⟩
end Go.Proofs.YtgbplghokciimabDoor
