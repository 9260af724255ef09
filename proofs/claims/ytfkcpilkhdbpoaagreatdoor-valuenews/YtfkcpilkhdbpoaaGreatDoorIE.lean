import Derived.Test.YtfkcpilkhdbpoaaGreatDoorXP
import Derived.Deep.RegionWith
import Derived.Deep.Cut
import Derived.Deep.RegionHeld3
namespace Go.Proofs.YtfkcpilkhdbpoaaGreatDoor.V
open Go.RowKit S5.IM
open S6 (Laid Lay)
set_option linter.unusedVariables false
set_option linter.unusedSimpArgs false
set_option maxHeartbeats 1000000 in
set_option maxRecDepth 20000 in
theorem pzscore_nil (b : Nat) (n s we z x : Int) (w : World) (hw : Lay w) (hb : w.heap[b]? = some (pkC 141 n s 2 we EP z x)) : Calls Tryz.prog 546 #[.pointer (some ⟨b, 0, none⟩), .string ⟨#[]⟩] w fun e w' => e = .returned (.tuple #[.int .i64 0, .bool false]) ∧ Below w.heap.size w w' := by
  have HF : Hid _ := behind_nil _ b n s we z x w hw hb
  have HN : Hid (∀ W, Below w.heap.size w W → Calls Tryz.prog 309 #[.string ⟨#[]⟩] W fun e w' => e = .returned (.tuple #[.int .i64 0, .bool false]) ∧ Below W.heap.size W w') := fun W hW => S6.number_any ⟨#[]⟩ (by decide) W (hw.on hW).laid
  unfold pkC at hb
  obtain ⟨c0, c1, c2, c3, c4, c5, c6, cf⟩ := row7 hb
  clear hb hw
  generalize EP = E at *
  have HB0 : Hid (Below w.heap.size w w) := Below.refl _ _
  go_enter Tryz.func546, Tryz.ntmps546
  go_wp2_with fail
  refine (show Calls _ _ _ _ _ from HF.out).mono ?_
  rintro e w1 ⟨rfl, hb1⟩
  have HB1 : Hid (Below w.heap.size w w1) := HB0.out.trans (hb1.mono HB0.out.size)
  clear hb1
  go_wp2_with fail
  refine (show Calls _ _ _ _ _ from HN.out _ HB1.out).mono ?_
  rintro e w2 ⟨rfl, hb2⟩
  have HB2 : Hid (Below w.heap.size w w2) := HB1.out.trans (hb2.mono HB1.out.size)
  clear hb2
  go_wp2
  go_returns
  exact ⟨rfl, HB2.out⟩
set_option maxHeartbeats 1000000 in
set_option maxRecDepth 20000 in
theorem pzrank_nil (b : Nat) (n s we z x : Int) (w : World) (hw : Lay w) (hb : w.heap[b]? = some (pkC 141 n s 2 we EP z x)) : Calls Tryz.prog 542 #[.pointer (some ⟨b, 0, none⟩), .string ⟨#[]⟩] w fun e w' => e = .returned (.tuple #[.int .i64 0, .bool false]) ∧ Below w.heap.size w w' := by
  have HF : Hid _ := place_nil _ b n s we z x w hw hb
  unfold pkC at hb
  obtain ⟨c0, c1, c2, c3, c4, c5, c6, cf⟩ := row7 hb
  clear hb hw
  generalize EP = E at *
  have HB0 : Hid (Below w.heap.size w w) := Below.refl _ _
  go_enter Tryz.func542, Tryz.ntmps542
  go_wp2_with fail
  refine (show Calls _ _ _ _ _ from HF.out).mono ?_
  rintro e w1 ⟨rfl, hb1⟩
  have HB1 : Hid (Below w.heap.size w w1) := HB0.out.trans (hb1.mono HB0.out.size)
  clear hb1
  go_wp2
  go_returns
  exact ⟨rfl, HB1.out⟩
set_option maxHeartbeats 1000000 in
set_option maxRecDepth 20000 in
theorem Score_pz (bv b : Nat) (n s we z x : Int)  (w : World) (hv : w.heap[bv]? = some (vC 4 (pzB b))) (hw : Lay w) (hb : w.heap[b]? = some (pkC 141 n s 2 we EP z x)) : Calls Tryz.prog 119 #[.pointer (some ⟨bv, 0, none⟩), .string ⟨#[]⟩] w fun e w' => e = .returned (.tuple #[.int .i64 0, .bool false, .int .i64 0]) ∧ Below w.heap.size w w' := by
  have HAS : Hid _ := asZset_pz bv 4 b w hv
  have HF : Hid _ := pzscore_nil b n s we z x w hw hb
  clear hw hb hv
  have HB0 : Hid (Below w.heap.size w w) := Below.refl _ _
  go_enter Tryz.func119, Tryz.ntmps119
  go_wp2_with fail
  refine (show Calls _ _ _ _ _ from HAS.out).mono ?_
  rintro e w1 ⟨rfl, he1⟩
  have he1 := he1.symm
  subst he1
  unfold pzB
  go_wp2_with fail
  refine (show Calls _ _ _ _ _ from HF.out).mono ?_
  rintro e w2 ⟨rfl, hb2⟩
  have HB2 : Hid (Below w.heap.size w w2) := HB0.out.trans (hb2.mono HB0.out.size)
  clear hb2
  go_wp2
  go_returns
  exact ⟨rfl, HB2.out⟩
set_option maxHeartbeats 1000000 in
set_option maxRecDepth 20000 in
theorem Rank_pz (bv b : Nat) (n s we z x : Int) (bk : Bool) (w : World) (hv : w.heap[bv]? = some (vC 4 (pzB b))) (hw : Lay w) (hb : w.heap[b]? = some (pkC 141 n s 2 we EP z x)) : Calls Tryz.prog 121 #[.pointer (some ⟨bv, 0, none⟩), .string ⟨#[]⟩, .bool bk] w fun e w' => e = .returned (.tuple #[.int .i64 0, .bool false, .int .i64 0]) ∧ Below w.heap.size w w' := by
  have HAS : Hid _ := asZset_pz bv 4 b w hv
  have HF : Hid _ := pzrank_nil b n s we z x w hw hb
  clear hw hb hv
  have HB0 : Hid (Below w.heap.size w w) := Below.refl _ _
  go_enter Tryz.func121, Tryz.ntmps121
  go_wp2_with fail
  refine (show Calls _ _ _ _ _ from HAS.out).mono ?_
  rintro e w1 ⟨rfl, he1⟩
  have he1 := he1.symm
  subst he1
  unfold pzB
  go_wp2_with fail
  refine (show Calls _ _ _ _ _ from HF.out).mono ?_
  rintro e w2 ⟨rfl, hb2⟩
  have HB2 : Hid (Below w.heap.size w w2) := HB0.out.trans (hb2.mono HB0.out.size)
  clear hb2
  go_wp2
  go_returns
  exact ⟨rfl, HB2.out⟩
theorem infoSc : (Tryz.prog.info? 274).map (fun i => (i.zero, i.size, i.bytes)) = some (some (.agg #[.string ⟨#[]⟩, .int .i64 0]), 2, 24) := by kernel_rfl
set_option maxHeartbeats 1000000 in
set_option maxRecDepth 20000 in
theorem readSc_nil (q : Option Addr) (c : Nat) (w : World) : Calls Tryz.prog 249 #[.slice q 0 c] w fun e w' => ∃ g, e = .returned (.tuple #[.slice (some ⟨g, 0, none⟩) 0 0, .bool true]) ∧ Below w.heap.size w w' := by
  obtain ⟨i0, hi, hz0, hz1, hz2⟩ := info_parts infoSc
  have hmk := fun W => run_make (P := Tryz.prog) W 30 274 i0 (.agg #[.string ⟨#[]⟩, .int .i64 0]) Tryz.underlying30 hi hz0 .i64 .i64 0 0 (by omega) (by omega) (by rw [hz2]; omega) (by omega)
  simp only [Int.toNat_zero] at hmk
  have HB0 : Hid (Below w.heap.size w w) := Below.refl _ _
  go_enter Tryz.func249, Tryz.ntmps249
  go_wp2
  go_rounds 1
  go_wp2
  go_returns
  exact ⟨_, rfl, by go_grown⟩
set_option maxHeartbeats 1000000 in
set_option maxRecDepth 20000 in
theorem inOrder_nil (b : Nat) (n s we z x : Int) (w : World) (hw : Lay w) (hb : w.heap[b]? = some (pkC 141 n s 2 we EP z x)) : Calls Tryz.prog 206 #[.pointer (some ⟨b, 0, none⟩)] w fun e w' => ∃ g, e = .returned (.slice (some ⟨g, 0, none⟩) 0 0) ∧ Below w.heap.size w w' := by
  have HE : Hid _ := entries_nil _ b n s 2 we z x w hw hb
  unfold pkC at hb
  obtain ⟨c0, c1, c2, c3, c4, c5, c6, cf⟩ := row7 hb
  clear hb hw
  generalize EP = E at *
  have HB0 : Hid (Below w.heap.size w w) := Below.refl _ _
  go_enter Tryz.func206, Tryz.ntmps206
  go_wp2_with fail
  refine (show Calls _ _ _ _ _ from HE.out).mono ?_
  rintro e w1 ⟨g, rfl, hb1⟩
  have HB1 : Hid (Below w.heap.size w w1) := HB0.out.trans (hb1.mono HB0.out.size)
  clear c0 c1 c2 c3 c4 c5 c6 cf
  clear hb1
  go_wp2_with fail
  refine (show Calls _ _ _ _ _ from readSc_nil _ _ _).mono ?_
  rintro e w2 ⟨g2, rfl, hb2⟩
  have HB2 : Hid (Below w.heap.size w w2) := HB1.out.trans (hb2.mono HB1.out.size)
  clear hb2
  go_wp2
  go_returns
  exact ⟨_, rfl, HB2.out⟩
set_option maxHeartbeats 1000000 in
set_option maxRecDepth 20000 in
theorem window_nil (g : Nat) (n : Int) (hn : n = 0 ∨ n = 5) (w : World) : Calls Tryz.prog 548 #[.slice (some ⟨g, 0, none⟩) 0 0, .bool false, .int .i64 0, .int .i64 n] w fun e w' => ∃ q c, e = .returned (.slice q 0 c) ∧ Below w.heap.size w w' := by
  rcases hn with rfl | rfl
  all_goals
    go_enter Tryz.func548, Tryz.ntmps548
    go_wp2
    go_returns
    exact ⟨_, _, rfl, Below.refl _ _⟩
set_option maxHeartbeats 1000000 in
set_option maxRecDepth 20000 in
theorem byRank_nil (b : Nat) (n s we z x : Int) (w : World) (hw : Lay w) (hb : w.heap[b]? = some (pkC 141 n s 2 we EP z x)) : Calls Tryz.prog 534 #[.pointer (some ⟨b, 0, none⟩), .int .i64 0, .int .i64 0, .bool false] w fun e w' => ∃ q c, e = .returned (.slice q 0 c) ∧ Below w.heap.size w w' := by
  have HE : Hid _ := inOrder_nil b n s we z x w hw hb
  clear hw hb
  have HB0 : Hid (Below w.heap.size w w) := Below.refl _ _
  go_enter Tryz.func534, Tryz.ntmps534
  go_wp2_with fail
  refine (show Calls _ _ _ _ _ from HE.out).mono ?_
  rintro e w1 ⟨g, rfl, hb1⟩
  have HB1 : Hid (Below w.heap.size w w1) := HB0.out.trans (hb1.mono HB0.out.size)
  clear hb1
  go_wp2_with fail
  refine (show Calls _ _ _ _ _ from window_nil _ _ (Or.inl rfl) _).mono ?_
  rintro e w2 ⟨q, c, rfl, hb2⟩
  have HB2 : Hid (Below w.heap.size w w2) := HB1.out.trans (hb2.mono HB1.out.size)
  clear hb2
  go_wp2
  go_returns
  exact ⟨_, _, rfl, HB2.out⟩
set_option maxHeartbeats 1000000 in
set_option maxRecDepth 20000 in
theorem idxS_nil (g : Nat) (f : Value) (w : World) : Calls Tryz.prog 561 #[.slice (some ⟨g, 0, none⟩) 0 0, f] w fun e w' => e = .returned (.int .i64 (-1)) ∧ Below w.heap.size w w' := by
  have HB0 : Hid (Below w.heap.size w w) := Below.refl _ _
  go_enter Tryz.func561, Tryz.ntmps561
  go_wp2
  go_rounds 1
  go_wp2
  go_returns
  exact ⟨rfl, by go_grown⟩
set_option maxHeartbeats 1000000 in
set_option maxRecDepth 20000 in
theorem delS_nil (g : Nat) (f : Value) (w : World) : Calls Tryz.prog 549 #[.slice (some ⟨g, 0, none⟩) 0 0, f] w fun e w' => e = .returned (.slice (some ⟨g, 0, none⟩) 0 0) ∧ Below w.heap.size w w' := by
  have HI : Hid _ := idxS_nil g f w
  have HB0 : Hid (Below w.heap.size w w) := Below.refl _ _
  go_enter Tryz.func549, Tryz.ntmps549
  go_wp2_with fail
  refine (show Calls _ _ _ _ _ from HI.out).mono ?_
  rintro e w1 ⟨rfl, hb1⟩
  have HB1 : Hid (Below w.heap.size w w1) := HB0.out.trans (hb1.mono HB0.out.size)
  clear hb1
  go_wp2
  go_returns
  exact ⟨rfl, HB1.out⟩
end Go.Proofs.YtfkcpilkhdbpoaaGreatDoor.V
namespace Go.Proofs.YtfkcpilkhdbpoaaGreatDoor.V
open Go.RowKit S5.IM
open S6 (Laid Lay)
set_option linter.unusedVariables false
set_option linter.unusedSimpArgs false
theorem cellC3 {C : Array Value} {T r j : Nat} {W : World} (h : W.heap[r]? = some (.cells C T)) : W.cell? ⟨r, j, none⟩ = C[j]? := cell_of_row _ _ _ _ _ _ h
set_option maxHeartbeats 1000000 in
set_option maxRecDepth 20000 in
theorem scoreEnd_nil (w : World) : Calls Tryz.prog 553 #[.agg #[.int .i64 0, .int .i64 0, .bool false]] w fun e w' => e = .returned (.agg #[.int .i64 0, .int .i64 0, .bool false]) ∧ w' = (w.alloc (.cells #[.int .i64 0, .int .i64 0, .bool false] 32)).alloc (.cells #[.int .i64 0, .int .i64 0, .bool false] 627) := by
  go_enter Tryz.func553, Tryz.ntmps553
  go_wp2
  go_returns
  exact ⟨rfl, rfl⟩
set_option maxHeartbeats 20000000 in
set_option maxRecDepth 20000 in
theorem byScore_nil (b : Nat) (n s we z x : Int) (w : World) (hw : Lay w) (hb : w.heap[b]? = some (pkC 141 n s 2 we EP z x)) : Calls Tryz.prog 535 #[.pointer (some ⟨b, 0, none⟩), .agg #[.int .i64 0, .int .i64 0, .bool false], .agg #[.int .i64 0, .int .i64 0, .bool false], .bool false, .int .i64 0, .int .i64 5] w fun e w' => ∃ q c, e = .returned (.slice q 0 c) ∧ Below w.heap.size w w' := by
  have HE : Hid (∀ W, Below w.heap.size w W → _) := fun W hW => inOrder_nil b n s we z x W (hw.on hW) (keep_row hb hW)
  have HS : Hid _ := scoreEnd_nil
  have HWN : Hid _ := window_nil
  have HDE : Hid _ := delS_nil
  clear hw hb
  go_enter Tryz.func535, Tryz.ntmps535
  obtain ⟨W2, hW2⟩ : ∃ W2, W2 = (w.alloc (.cells #[.int .i64 0, .int .i64 0, .bool false] 32)).alloc (.cells #[.int .i64 0, .int .i64 0, .bool false] 32) := ⟨_, rfl⟩
  obtain ⟨r, hr⟩ : ∃ r, w.heap.size = r := ⟨_, rfl⟩
  have HB2 : Hid (Below w.heap.size w W2) := by rw [hW2]; exact (two_rows (Below.refl _ _)).1
  have HKS : Hid (∀ W, Below W2.heap.size W2 W → W.cell? ⟨r, 0, none⟩ = some (.int .i64 0) ∧ W.cell? ⟨r, 1, none⟩ = some (.int .i64 0) ∧ W.cell? ⟨r, 2, none⟩ = some (.bool false) ∧ W.cell? ⟨r + 1, 0, none⟩ = some (.int .i64 0) ∧ W.cell? ⟨r + 1, 1, none⟩ = some (.int .i64 0) ∧ W.cell? ⟨r + 1, 2, none⟩ = some (.bool false)) := fun W hW => by
    have hk : W2.heap[r]? = some (.cells #[.int .i64 0, .int .i64 0, .bool false] 32) ∧ W2.heap[r + 1]? = some (.cells #[.int .i64 0, .int .i64 0, .bool false] 32) := by rw [hW2, ← hr]; exact (two_rows (Below.refl _ _)).2
    have k1 := keep_row hk.1 hW
    have k2 := keep_row hk.2 hW
    exact ⟨(cellC3 k1).trans rfl, (cellC3 k1).trans rfl, (cellC3 k1).trans rfl, (cellC3 k2).trans rfl, (cellC3 k2).trans rfl, (cellC3 k2).trans rfl⟩
  go_upto_region 1 with fail
  rw [← hW2]
  clear hW2
  go_cut [13, 14] from 15 (fun s13 s14 wx => (∃ p, s13 = .pointer p) ∧ (∃ p, s14 = .pointer p) ∧ Below w.heap.size w wx)
  case first =>
    go_region_held3 (fun W : World => W.cell? ⟨r, 0, none⟩ = some (.int .i64 0) ∧ W.cell? ⟨r, 1, none⟩ = some (.int .i64 0) ∧ W.cell? ⟨r, 2, none⟩ = some (.bool false) ∧ W.cell? ⟨r + 1, 0, none⟩ = some (.int .i64 0) ∧ W.cell? ⟨r + 1, 1, none⟩ = some (.int .i64 0) ∧ W.cell? ⟨r + 1, 2, none⟩ = some (.bool false)) (exact HKS.out _ (by go_grown)) (first | (go_at_call 553; refine (show Calls _ _ _ _ _ from HS.out _).mono ?_; rintro e a1 ⟨rfl, rfl⟩))
    all_goals
      go_wp2_with fail
      go_meet
      exact ⟨⟨_, rfl⟩, ⟨_, rfl⟩, HB2.out.trans (Below.mono (by go_grown) HB2.out.size)⟩
  case rest =>
    obtain ⟨⟨p, rfl⟩, ⟨p2, rfl⟩, hbc⟩ := hcut
    have HB1 : Hid (Below w.heap.size w wc) := hbc
    clear hbc
    go_wp2_with fail
    refine (show Calls _ _ _ _ _ from HE.out _ HB1.out).mono ?_
    rintro e w2 ⟨g, rfl, hb2⟩
    have HB2 : Hid (Below w.heap.size w w2) := HB1.out.trans (hb2.mono HB1.out.size)
    clear hb2
    go_wp2_with fail
    refine (show Calls _ _ _ _ _ from HDE.out _ _ _).mono ?_
    rintro e w3 ⟨rfl, hb3⟩
    have HB3 : Hid (Below w.heap.size w w3) := HB2.out.trans (hb3.mono HB2.out.size)
    clear hb3
    go_wp2_with fail
    refine (show Calls _ _ _ _ _ from HWN.out _ _ (Or.inr rfl) _).mono ?_
    rintro e w4 ⟨q, c, rfl, hb4⟩
    have HB4 : Hid (Below w.heap.size w w4) := HB3.out.trans (hb4.mono HB3.out.size)
    clear hb4
    go_wp2
    go_ret
    exact ⟨_, _, rfl, HB4.out⟩
set_option maxHeartbeats 1000000 in
set_option maxRecDepth 20000 in
theorem memberEnd_nil (w : World) : Calls Tryz.prog 547 #[.agg #[.string ⟨#[]⟩, .int .i64 0, .bool false]] w fun e w' => e = .returned (.agg #[.string ⟨#[]⟩, .int .i64 0, .bool false]) ∧ w' = (w.alloc (.cells #[.string ⟨#[]⟩, .int .i64 0, .bool false] 34)).alloc (.cells #[.string ⟨#[]⟩, .int .i64 0, .bool false] 621) := by
  go_enter Tryz.func547, Tryz.ntmps547
  go_wp2
  go_returns
  exact ⟨rfl, rfl⟩
set_option maxHeartbeats 20000000 in
set_option maxRecDepth 20000 in
theorem byLex_nil (b : Nat) (n s we z x : Int) (w : World) (hw : Lay w) (hb : w.heap[b]? = some (pkC 141 n s 2 we EP z x)) : Calls Tryz.prog 533 #[.pointer (some ⟨b, 0, none⟩), .agg #[.string ⟨#[]⟩, .int .i64 0, .bool false], .agg #[.string ⟨#[]⟩, .int .i64 0, .bool false], .bool false, .int .i64 0, .int .i64 5] w fun e w' => ∃ q c, e = .returned (.slice q 0 c) ∧ Below w.heap.size w w' := by
  have HE : Hid (∀ W, Below w.heap.size w W → _) := fun W hW => inOrder_nil b n s we z x W (hw.on hW) (keep_row hb hW)
  have HS : Hid _ := memberEnd_nil
  have HWN : Hid _ := window_nil
  have HDE : Hid _ := delS_nil
  clear hw hb
  go_enter Tryz.func533, Tryz.ntmps533
  obtain ⟨W2, hW2⟩ : ∃ W2, W2 = (w.alloc (.cells #[.string ⟨#[]⟩, .int .i64 0, .bool false] 34)).alloc (.cells #[.string ⟨#[]⟩, .int .i64 0, .bool false] 34) := ⟨_, rfl⟩
  obtain ⟨r, hr⟩ : ∃ r, w.heap.size = r := ⟨_, rfl⟩
  have HB2 : Hid (Below w.heap.size w W2) := by rw [hW2]; exact (two_rows (Below.refl _ _)).1
  have HKS : Hid (∀ W, Below W2.heap.size W2 W → W.cell? ⟨r, 0, none⟩ = some (.string ⟨#[]⟩) ∧ W.cell? ⟨r, 1, none⟩ = some (.int .i64 0) ∧ W.cell? ⟨r, 2, none⟩ = some (.bool false) ∧ W.cell? ⟨r + 1, 0, none⟩ = some (.string ⟨#[]⟩) ∧ W.cell? ⟨r + 1, 1, none⟩ = some (.int .i64 0) ∧ W.cell? ⟨r + 1, 2, none⟩ = some (.bool false)) := fun W hW => by
    have hk : W2.heap[r]? = some (.cells #[.string ⟨#[]⟩, .int .i64 0, .bool false] 34) ∧ W2.heap[r + 1]? = some (.cells #[.string ⟨#[]⟩, .int .i64 0, .bool false] 34) := by rw [hW2, ← hr]; exact (two_rows (Below.refl _ _)).2
    have k1 := keep_row hk.1 hW
    have k2 := keep_row hk.2 hW
    exact ⟨(cellC3 k1).trans rfl, (cellC3 k1).trans rfl, (cellC3 k1).trans rfl, (cellC3 k2).trans rfl, (cellC3 k2).trans rfl, (cellC3 k2).trans rfl⟩
  go_upto_region 1 with fail
  rw [← hW2]
  clear hW2
  go_cut [13, 14] from 15 (fun s13 s14 wx => (∃ p, s13 = .pointer p) ∧ (∃ p, s14 = .pointer p) ∧ Below w.heap.size w wx)
  case first =>
    go_region_held3 (fun W : World => W.cell? ⟨r, 0, none⟩ = some (.string ⟨#[]⟩) ∧ W.cell? ⟨r, 1, none⟩ = some (.int .i64 0) ∧ W.cell? ⟨r, 2, none⟩ = some (.bool false) ∧ W.cell? ⟨r + 1, 0, none⟩ = some (.string ⟨#[]⟩) ∧ W.cell? ⟨r + 1, 1, none⟩ = some (.int .i64 0) ∧ W.cell? ⟨r + 1, 2, none⟩ = some (.bool false)) (exact HKS.out _ (by go_grown)) (first | (go_at_call 547; refine (show Calls _ _ _ _ _ from HS.out _).mono ?_; rintro e a1 ⟨rfl, rfl⟩))
    all_goals
      go_wp2_with fail
      go_meet
      exact ⟨⟨_, rfl⟩, ⟨_, rfl⟩, HB2.out.trans (Below.mono (by go_grown) HB2.out.size)⟩
  case rest =>
    obtain ⟨⟨p, rfl⟩, ⟨p2, rfl⟩, hbc⟩ := hcut
    have HB1 : Hid (Below w.heap.size w wc) := hbc
    clear hbc
    go_wp2_with fail
    refine (show Calls _ _ _ _ _ from HE.out _ HB1.out).mono ?_
    rintro e w2 ⟨g, rfl, hb2⟩
    have HB2 : Hid (Below w.heap.size w w2) := HB1.out.trans (hb2.mono HB1.out.size)
    clear hb2
    go_wp2_with fail
    refine (show Calls _ _ _ _ _ from HDE.out _ _ _).mono ?_
    rintro e w3 ⟨rfl, hb3⟩
    have HB3 : Hid (Below w.heap.size w w3) := HB2.out.trans (hb3.mono HB2.out.size)
    clear hb3
    go_wp2_with fail
    refine (show Calls _ _ _ _ _ from HWN.out _ _ (Or.inr rfl) _).mono ?_
    rintro e w4 ⟨q, c, rfl, hb4⟩
    have HB4 : Hid (Below w.heap.size w w4) := HB3.out.trans (hb4.mono HB3.out.size)
    clear hb4
    go_wp2
    go_ret
    exact ⟨_, _, rfl, HB4.out⟩
end Go.Proofs.YtfkcpilkhdbpoaaGreatDoor.V
namespace Go.Proofs.YtfkcpilkhdbpoaaGreatDoor.V
open Go.RowKit S5.IM
open S6 (Laid Lay)
set_option linter.unusedVariables false
set_option linter.unusedSimpArgs false
set_option maxHeartbeats 1000000 in
set_option maxRecDepth 20000 in
theorem ByScore_pz (bv b : Nat) (n s we : Int) (w : World) (hv : w.heap[bv]? = some (vC 4 (pzB b))) (hw : Lay w) (hb : w.heap[b]? = some (pkC 141 n s 2 we EP 0 0)) : Calls Tryz.prog 126 #[.pointer (some ⟨bv, 0, none⟩), .agg #[.int .i64 0, .int .i64 0, .bool false], .agg #[.int .i64 0, .int .i64 0, .bool false], .bool false, .int .i64 0, .int .i64 5] w fun e w' => ∃ q c, e = .returned (.tuple #[.slice q 0 c, .int .i64 0]) ∧ Below w.heap.size w w' := by
  obtain ⟨W1, hW1⟩ : ∃ W1, W1 = (w.alloc (.cells #[.int .i64 0, .int .i64 0, .bool false] 32)).alloc (.cells #[.int .i64 0, .int .i64 0, .bool false] 32) := ⟨_, rfl⟩
  have HB1 : Hid (Below w.heap.size w W1) := by rw [hW1]; exact (two_rows (Below.refl _ _)).1
  obtain ⟨r, hr⟩ : ∃ r, w.heap.size = r := ⟨_, rfl⟩
  have HRR : Hid (w.heap.size = r) := hr
  have HKK : Hid (W1.heap[r]? = some (.cells #[.int .i64 0, .int .i64 0, .bool false] 32) ∧ W1.heap[r + 1]? = some (.cells #[.int .i64 0, .int .i64 0, .bool false] 32)) := by rw [hW1, ← hr]; exact (two_rows (Below.refl _ _)).2
  have HAS : Hid _ := asZset_pz bv 4 b W1 (keep_row hv HB1.out)
  have HF : Hid _ := byScore_nil b n s we 0 0 W1 (hw.on HB1.out) (keep_row hb HB1.out)
  clear hv hw hb hr
  go_enter Tryz.func126, Tryz.ntmps126
  go_upto_region 1 with fail
  rw [← hW1, HRR.out]
  clear hW1
  go_wp2_with fail
  refine (show Calls _ _ _ _ _ from HAS.out).mono ?_
  rintro e w2 ⟨rfl, he2⟩
  have he2 := he2.symm
  subst he2
  unfold pzB
  obtain ⟨x0, x1, x2, xf⟩ := row3 HKK.out.1
  obtain ⟨y0, y1, y2, yf⟩ := row3 HKK.out.2
  go_wp2_with fail
  refine (show Calls _ _ _ _ _ from HF.out).mono ?_
  rintro e w3 ⟨q, c, rfl, hb3⟩
  have HB3 : Hid (Below w.heap.size w w3) := HB1.out.trans (hb3.mono HB1.out.size)
  clear hb3 x0 x1 x2 xf y0 y1 y2 yf
  go_wp2
  go_ret2
  exact ⟨_, _, rfl, HB3.out⟩
set_option maxHeartbeats 1000000 in
set_option maxRecDepth 20000 in
theorem ByLex_pz (bv b : Nat) (n s we : Int) (w : World) (hv : w.heap[bv]? = some (vC 4 (pzB b))) (hw : Lay w) (hb : w.heap[b]? = some (pkC 141 n s 2 we EP 0 0)) : Calls Tryz.prog 128 #[.pointer (some ⟨bv, 0, none⟩), .agg #[.string ⟨#[]⟩, .int .i64 0, .bool false], .agg #[.string ⟨#[]⟩, .int .i64 0, .bool false], .bool false, .int .i64 0, .int .i64 5] w fun e w' => ∃ q c, e = .returned (.tuple #[.slice q 0 c, .int .i64 0]) ∧ Below w.heap.size w w' := by
  obtain ⟨W1, hW1⟩ : ∃ W1, W1 = (w.alloc (.cells #[.string ⟨#[]⟩, .int .i64 0, .bool false] 34)).alloc (.cells #[.string ⟨#[]⟩, .int .i64 0, .bool false] 34) := ⟨_, rfl⟩
  have HB1 : Hid (Below w.heap.size w W1) := by rw [hW1]; exact (two_rows (Below.refl _ _)).1
  obtain ⟨r, hr⟩ : ∃ r, w.heap.size = r := ⟨_, rfl⟩
  have HRR : Hid (w.heap.size = r) := hr
  have HKK : Hid (W1.heap[r]? = some (.cells #[.string ⟨#[]⟩, .int .i64 0, .bool false] 34) ∧ W1.heap[r + 1]? = some (.cells #[.string ⟨#[]⟩, .int .i64 0, .bool false] 34)) := by rw [hW1, ← hr]; exact (two_rows (Below.refl _ _)).2
  have HAS : Hid _ := asZset_pz bv 4 b W1 (keep_row hv HB1.out)
  have HF : Hid _ := byLex_nil b n s we 0 0 W1 (hw.on HB1.out) (keep_row hb HB1.out)
  clear hv hw hb hr
  go_enter Tryz.func128, Tryz.ntmps128
  go_upto_region 1 with fail
  rw [← hW1, HRR.out]
  clear hW1
  go_wp2_with fail
  refine (show Calls _ _ _ _ _ from HAS.out).mono ?_
  rintro e w2 ⟨rfl, he2⟩
  have he2 := he2.symm
  subst he2
  unfold pzB
  obtain ⟨x0, x1, x2, xf⟩ := row3 HKK.out.1
  obtain ⟨y0, y1, y2, yf⟩ := row3 HKK.out.2
  go_wp2_with fail
  refine (show Calls _ _ _ _ _ from HF.out).mono ?_
  rintro e w3 ⟨q, c, rfl, hb3⟩
  have HB3 : Hid (Below w.heap.size w w3) := HB1.out.trans (hb3.mono HB1.out.size)
  clear hb3 x0 x1 x2 xf y0 y1 y2 yf
  go_wp2
  go_ret2
  exact ⟨_, _, rfl, HB3.out⟩
set_option maxHeartbeats 1000000 in
set_option maxRecDepth 20000 in
theorem ByRank_pz (bv b : Nat) (n s we : Int) (w : World) (hv : w.heap[bv]? = some (vC 4 (pzB b))) (hw : Lay w) (hb : w.heap[b]? = some (pkC 141 n s 2 we EP 0 0)) : Calls Tryz.prog 123 #[.pointer (some ⟨bv, 0, none⟩), .int .i64 0, .int .i64 5, .bool false] w fun e w' => ∃ q c, e = .returned (.tuple #[.slice q 0 c, .int .i64 0]) ∧ Below w.heap.size w w' := by
  have HAS : Hid _ := asZset_pz bv 4 b w hv
  have HF : Hid (∀ W, Below w.heap.size w W → _) := fun W hW => byRank_nil b n s we 0 0 W (hw.on hW) (keep_row hb hW)
  have HCO : Hid (∀ W, Below w.heap.size w W → _) := fun W hW => pcount_nil _ b n s 2 we EP W (keep_row hb hW)
  have HKS : Hid (∀ W, Below w.heap.size w W → _) := fun W hW => keep_row hb hW
  clear hv hw hb
  go_enter Tryz.func123, Tryz.ntmps123
  go_wp2_with fail
  refine (show Calls _ _ _ _ _ from HAS.out).mono ?_
  rintro e w2 ⟨rfl, he2⟩
  have he2 := he2.symm
  subst he2
  unfold pzB
  have hk := HKS.out _ (Below.refl _ _)
  unfold pkC at hk
  obtain ⟨c0, c1, c2, c3, c4, c5, c6, cf⟩ := row7 hk
  clear hk
  go_wp2_with fail
  refine (show Calls _ _ _ _ _ from HCO.out _ (Below.refl _ _)).mono ?_
  rintro e w3 ⟨rfl, hb3⟩
  have HB3 : Hid (Below w.heap.size w w3) := hb3
  clear hb3 c0 c1 c2 c3 c4 c5 c6 cf
  go_wp2_with fail
  have hcur : Below w.heap.size w w3.drew := HB3.out.drew
  have hna : ∀ W, Sem.run Tryz.prog (nilAhead 783 69 (.pointer (some ⟨b, 0, none⟩)) "cistern/value.byRank") W = .ok (some false) W := fun W => by kernel_rfl
  go_region_held3 (fun W : World => True) (exact trivial)
    (first
      | (go_at_call 538; refine (show Calls _ _ _ _ _ from HCO.out _ hcur).mono ?_; rintro e a1 ⟨rfl, hb1⟩; have hcur := hcur.trans (hb1.mono hcur.size))
      | (go_at_call 534; refine (show Calls _ _ _ _ _ from HF.out _ hcur).mono ?_; rintro e a1 ⟨q, c, rfl, hb1⟩; have hcur := hcur.trans (hb1.mono hcur.size)))
  all_goals
    go_wp2
    go_ret2
    exact ⟨_, _, rfl, hcur⟩
end Go.Proofs.YtfkcpilkhdbpoaaGreatDoor.V
