import Derived.Test.YtadihhngegimkaaGreatDoorLMk3
namespace Go.Proofs.YtadihhngegimkaaGreatDoor
open Go.RowKit
set_option linter.unusedVariables false
set_option maxHeartbeats 1000000 in
set_option maxRecDepth 100000 in
theorem newMk (S C : Nat) (hS0 : 0 < S) (hS : S ≤ 1073741824) (hC : C ≤ 1048576) (w : World) :
    Calls Tryz.prog 58 #[.int .i64 S, .int .i64 C] w fun e w' => e = .returned (.pointer (some ⟨w.heap.size, 0, none⟩)) ∧ (MakerAt w.heap.size w.heap.size (LM.leB 4 (S : Int) ++ LM.leB 2 ((min C 65535 : Nat) : Int)) w' ∧ Below w.heap.size w w') := by
  have HGR : Hid (Calls Tryz.prog 75 #[.pointer (some ⟨w.heap.size, 0, none⟩), .int .i64 S] (w.alloc (.cells #[.pointer none, .slice none 0 0] 96)) fun e w' => e = .returned (.tuple #[]) ∧ (MakerAt w.heap.size w.heap.size [] w' ∧ Below w.heap.size (w.alloc (.cells #[.pointer none, .slice none 0 0] 96)) w')) :=
    Grow_fresh w.heap.size w.heap.size S (w.alloc (.cells #[.pointer none, .slice none 0 0] 96)) (Nat.le_refl _) (one_alloc w _) (by simp) hS0 (by omega)
  have HL1 : Hid (∀ W, MakerAt w.heap.size w.heap.size [] W → w.heap.size ≤ W.heap.size → Calls Tryz.prog 76 #[.pointer (some ⟨w.heap.size, 0, none⟩), .int .i64 S, .int .i64 4] W fun e w' => e = .returned (.tuple #[]) ∧ (MakerAt w.heap.size w.heap.size (LM.leB 4 (S : Int)) w' ∧ BK w.heap.size w.heap.size W w')) := fun W hM hB => low_mk _ _ [] (S : Int) 4 (by omega) ⟨by omega, by omega⟩ W hM (by simp) hB
  obtain ⟨M, hM⟩ : ∃ M : Int, min (C : Int) 65535 = M := ⟨_, rfl⟩
  have HMM : Hid (M = ((min C 65535 : Nat) : Int)) := by show _ = _; omega
  have HL2 : Hid (∀ W, MakerAt w.heap.size w.heap.size (LM.leB 4 (S : Int)) W → w.heap.size ≤ W.heap.size → Calls Tryz.prog 76 #[.pointer (some ⟨w.heap.size, 0, none⟩), .int .i64 M, .int .i64 2] W fun e w' => e = .returned (.tuple #[]) ∧ (MakerAt w.heap.size w.heap.size (LM.leB 4 (S : Int) ++ LM.leB 2 M) w' ∧ BK w.heap.size w.heap.size W w')) := fun W hM hB => low_mk _ _ (LM.leB 4 (S : Int)) M 2 (by omega) (by rw [HMM.out]; exact ⟨by omega, by omega⟩) W hM (by simp [LM.leB_len]) hB
  go_enter Tryz.func58, Tryz.ntmps58
  go_wp2_with fail
  refine (show Calls _ _ _ _ _ from HGR.out).mono ?_
  rintro e w1 ⟨rfl, hm1, hb1⟩
  have HM1 : Hid (MakerAt w.heap.size w.heap.size [] w1) := hm1
  have HB1 : Hid (Below w.heap.size w w1) := ((Below.refl _ w).alloc (Nat.le_refl _) _).trans hb1
  clear hm1 hb1
  go_wp2_with fail
  refine (show Calls _ _ _ _ _ from HL1.out _ HM1.out HB1.out.size).mono ?_
  rintro e w2 ⟨rfl, hm2, hb2⟩
  have HM2 : Hid (MakerAt w.heap.size w.heap.size _ w2) := hm2
  have HB2 : Hid (Below w.heap.size w w2) := HB1.out.trans hb2.bel
  clear hm2 hb2
  go_wp2_with fail
  refine (show Calls _ _ _ _ _ from HL2.out _ HM2.out HB2.out.size).mono ?_
  rintro e w3 ⟨rfl, hm3, hb3⟩
  have HM3 : Hid (MakerAt w.heap.size w.heap.size _ w3) := hm3
  have HB3 : Hid (Below w.heap.size w w3) := HB2.out.trans hb3.bel
  clear hm3 hb3
  go_wp2
  go_ret
  exact ⟨rfl, maker_eq HM3.out (by rw [HMM.out]), HB3.out⟩
end Go.Proofs.YtadihhngegimkaaGreatDoor
