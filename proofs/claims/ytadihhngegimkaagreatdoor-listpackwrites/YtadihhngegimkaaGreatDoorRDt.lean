import Derived.Test.YtadihhngegimkaaGreatDoorRLB
import Derived.Test.YtadihhngegimkaaGreatDoorRNm
import Derived.Test.YtadihhngegimkaaGreatDoorLMk3
namespace Go.Proofs.YtadihhngegimkaaGreatDoor
open Go.RowKit
set_option linter.unusedVariables false
set_option maxHeartbeats 1000000 in
set_option maxRecDepth 100000 in
theorem rdata_2 (s : ByteArray) (n : Int) (hn : LM.I64 n) (hc : ¬ (-4096 ≤ n ∧ n ≤ 4095) ∧ -32768 ≤ n ∧ n ≤ 32767) (hD : Vi.numberOf s.data.toList = some n) (hNU : ∀ W, Calls Tryz.prog 74 #[.string s] W fun e w' => e = .returned (numT s.data.toList) ∧ Below W.heap.size W w') (w : World) :
    Calls Tryz.prog 53 #[.string s] w fun e w' => e = .returned (.string (strB (LM.ndata n))) ∧ Below w.heap.size w w' := by
  have HNU : Hid (∀ W, Calls Tryz.prog 74 #[.string s] W fun e w' => e = .returned (.tuple #[.int .i64 n, .bool true]) ∧ Below W.heap.size W w') := fun W => by have := hNU W; rwa [numT_some hD] at this
  have HN : Hid _ := hn
  have HD : Hid (LM.ndata n = 241 :: LM.leB 2 n) := by show _ = _; unfold LM.ndata; rw [if_neg (by omega), if_neg (by omega), if_pos (by omega)]
  have HLO : Hid (∀ W, Calls Tryz.prog 55 #[.int .i64 n, .int .i64 2] W fun e w' => e = .returned (.string (strB (LM.leB 2 n))) ∧ Below W.heap.size W w') := fun W => rlow_any n hn 2 (by omega) W
  have hls : (strB (LM.leB 2 n)).size = 2 := by rw [strB_size, LM.leB_len]
  have HRS : Hid (strB (LM.ndata n) = ⟨#[241]⟩ ++ strB (LM.leB 2 n)) := by
    show _ = _; rw [HD.out]; apply WideShapes.bytes_inj; simp [strB]
  generalize strB (LM.leB 2 n) = L at *
  obtain ⟨hn0, hn1⟩ := hn
  clear hNU hD
  obtain ⟨hc1, hc2, hc3⟩ := hc
  rcases (show n < 0 ∨ 0 ≤ n by omega) with hs | hs
  all_goals
    go_enter Tryz.func53, Tryz.ntmps53
    go_wp2_with fail
    refine (show Calls _ _ _ _ _ from HNU.out _).mono ?_
    rintro e w1 ⟨rfl, hb1⟩
    have HB1 : Hid (Below w.heap.size w w1) := hb1
    clear hb1
    go_wp2_with fail
    refine (show Calls _ _ _ _ _ from HLO.out _).mono ?_
    rintro e w2 ⟨rfl, hb2⟩
    have HB2 : Hid (Below w.heap.size w w2) := bel_to HB1.out hb2 (Nat.le_refl _)
    clear hb2
    go_wp2
    go_ret
    exact ⟨by rw [HRS.out]; rfl, HB2.out⟩
set_option maxHeartbeats 1000000 in
set_option maxRecDepth 100000 in
theorem rdata_3 (s : ByteArray) (n : Int) (hn : LM.I64 n) (hc : ¬ (-32768 ≤ n ∧ n ≤ 32767) ∧ -8388608 ≤ n ∧ n ≤ 8388607) (hD : Vi.numberOf s.data.toList = some n) (hNU : ∀ W, Calls Tryz.prog 74 #[.string s] W fun e w' => e = .returned (numT s.data.toList) ∧ Below W.heap.size W w') (w : World) :
    Calls Tryz.prog 53 #[.string s] w fun e w' => e = .returned (.string (strB (LM.ndata n))) ∧ Below w.heap.size w w' := by
  have HNU : Hid (∀ W, Calls Tryz.prog 74 #[.string s] W fun e w' => e = .returned (.tuple #[.int .i64 n, .bool true]) ∧ Below W.heap.size W w') := fun W => by have := hNU W; rwa [numT_some hD] at this
  have HN : Hid _ := hn
  have HD : Hid (LM.ndata n = 242 :: LM.leB 3 n) := by show _ = _; unfold LM.ndata; rw [if_neg (by omega), if_neg (by omega), if_neg (by omega), if_pos (by omega)]
  have HLO : Hid (∀ W, Calls Tryz.prog 55 #[.int .i64 n, .int .i64 3] W fun e w' => e = .returned (.string (strB (LM.leB 3 n))) ∧ Below W.heap.size W w') := fun W => rlow_any n hn 3 (by omega) W
  have hls : (strB (LM.leB 3 n)).size = 3 := by rw [strB_size, LM.leB_len]
  have HRS : Hid (strB (LM.ndata n) = ⟨#[242]⟩ ++ strB (LM.leB 3 n)) := by
    show _ = _; rw [HD.out]; apply WideShapes.bytes_inj; simp [strB]
  generalize strB (LM.leB 3 n) = L at *
  obtain ⟨hn0, hn1⟩ := hn
  clear hNU hD
  obtain ⟨hc1, hc2, hc3⟩ := hc
  rcases (show n < 0 ∨ 0 ≤ n by omega) with hs | hs
  all_goals
    go_enter Tryz.func53, Tryz.ntmps53
    go_wp2_with fail
    refine (show Calls _ _ _ _ _ from HNU.out _).mono ?_
    rintro e w1 ⟨rfl, hb1⟩
    have HB1 : Hid (Below w.heap.size w w1) := hb1
    clear hb1
    go_wp2_with fail
    refine (show Calls _ _ _ _ _ from HLO.out _).mono ?_
    rintro e w2 ⟨rfl, hb2⟩
    have HB2 : Hid (Below w.heap.size w w2) := bel_to HB1.out hb2 (Nat.le_refl _)
    clear hb2
    go_wp2
    go_ret
    exact ⟨by rw [HRS.out]; rfl, HB2.out⟩
set_option maxHeartbeats 1000000 in
set_option maxRecDepth 100000 in
theorem rdata_4 (s : ByteArray) (n : Int) (hn : LM.I64 n) (hc : ¬ (-8388608 ≤ n ∧ n ≤ 8388607) ∧ -2147483648 ≤ n ∧ n ≤ 2147483647) (hD : Vi.numberOf s.data.toList = some n) (hNU : ∀ W, Calls Tryz.prog 74 #[.string s] W fun e w' => e = .returned (numT s.data.toList) ∧ Below W.heap.size W w') (w : World) :
    Calls Tryz.prog 53 #[.string s] w fun e w' => e = .returned (.string (strB (LM.ndata n))) ∧ Below w.heap.size w w' := by
  have HNU : Hid (∀ W, Calls Tryz.prog 74 #[.string s] W fun e w' => e = .returned (.tuple #[.int .i64 n, .bool true]) ∧ Below W.heap.size W w') := fun W => by have := hNU W; rwa [numT_some hD] at this
  have HN : Hid _ := hn
  have HD : Hid (LM.ndata n = 243 :: LM.leB 4 n) := by show _ = _; unfold LM.ndata; rw [if_neg (by omega), if_neg (by omega), if_neg (by omega), if_neg (by omega), if_pos (by omega)]
  have HLO : Hid (∀ W, Calls Tryz.prog 55 #[.int .i64 n, .int .i64 4] W fun e w' => e = .returned (.string (strB (LM.leB 4 n))) ∧ Below W.heap.size W w') := fun W => rlow_any n hn 4 (by omega) W
  have hls : (strB (LM.leB 4 n)).size = 4 := by rw [strB_size, LM.leB_len]
  have HRS : Hid (strB (LM.ndata n) = ⟨#[243]⟩ ++ strB (LM.leB 4 n)) := by
    show _ = _; rw [HD.out]; apply WideShapes.bytes_inj; simp [strB]
  generalize strB (LM.leB 4 n) = L at *
  obtain ⟨hn0, hn1⟩ := hn
  clear hNU hD
  obtain ⟨hc1, hc2, hc3⟩ := hc
  rcases (show n < 0 ∨ 0 ≤ n by omega) with hs | hs
  all_goals
    go_enter Tryz.func53, Tryz.ntmps53
    go_wp2_with fail
    refine (show Calls _ _ _ _ _ from HNU.out _).mono ?_
    rintro e w1 ⟨rfl, hb1⟩
    have HB1 : Hid (Below w.heap.size w w1) := hb1
    clear hb1
    go_wp2_with fail
    refine (show Calls _ _ _ _ _ from HLO.out _).mono ?_
    rintro e w2 ⟨rfl, hb2⟩
    have HB2 : Hid (Below w.heap.size w w2) := bel_to HB1.out hb2 (Nat.le_refl _)
    clear hb2
    go_wp2
    go_ret
    exact ⟨by rw [HRS.out]; rfl, HB2.out⟩
set_option maxHeartbeats 1000000 in
set_option maxRecDepth 100000 in
theorem rdata_8 (s : ByteArray) (n : Int) (hn : LM.I64 n) (hc : ¬ (-2147483648 ≤ n ∧ n ≤ 2147483647)) (hD : Vi.numberOf s.data.toList = some n) (hNU : ∀ W, Calls Tryz.prog 74 #[.string s] W fun e w' => e = .returned (numT s.data.toList) ∧ Below W.heap.size W w') (w : World) :
    Calls Tryz.prog 53 #[.string s] w fun e w' => e = .returned (.string (strB (LM.ndata n))) ∧ Below w.heap.size w w' := by
  have HNU : Hid (∀ W, Calls Tryz.prog 74 #[.string s] W fun e w' => e = .returned (.tuple #[.int .i64 n, .bool true]) ∧ Below W.heap.size W w') := fun W => by have := hNU W; rwa [numT_some hD] at this
  have HN : Hid _ := hn
  have HD : Hid (LM.ndata n = 244 :: LM.leB 8 n) := by show _ = _; unfold LM.ndata; rw [if_neg (by omega), if_neg (by omega), if_neg (by omega), if_neg (by omega), if_neg (by omega)]
  have HLO : Hid (∀ W, Calls Tryz.prog 55 #[.int .i64 n, .int .i64 8] W fun e w' => e = .returned (.string (strB (LM.leB 8 n))) ∧ Below W.heap.size W w') := fun W => rlow_any n hn 8 (by omega) W
  have hls : (strB (LM.leB 8 n)).size = 8 := by rw [strB_size, LM.leB_len]
  have HRS : Hid (strB (LM.ndata n) = ⟨#[244]⟩ ++ strB (LM.leB 8 n)) := by
    show _ = _; rw [HD.out]; apply WideShapes.bytes_inj; simp [strB]
  generalize strB (LM.leB 8 n) = L at *
  obtain ⟨hn0, hn1⟩ := hn
  clear hNU hD
  rcases (show n < 0 ∨ 0 ≤ n by omega) with hs | hs
  all_goals
    go_enter Tryz.func53, Tryz.ntmps53
    go_wp2_with fail
    refine (show Calls _ _ _ _ _ from HNU.out _).mono ?_
    rintro e w1 ⟨rfl, hb1⟩
    have HB1 : Hid (Below w.heap.size w w1) := hb1
    clear hb1
    go_wp2_with fail
    refine (show Calls _ _ _ _ _ from HLO.out _).mono ?_
    rintro e w2 ⟨rfl, hb2⟩
    have HB2 : Hid (Below w.heap.size w w2) := bel_to HB1.out hb2 (Nat.le_refl _)
    clear hb2
    go_wp2
    go_ret
    exact ⟨by rw [HRS.out]; rfl, HB2.out⟩
end Go.Proofs.YtadihhngegimkaaGreatDoor
namespace Go.Proofs.YtadihhngegimkaaGreatDoor
open Go.RowKit
set_option linter.unusedVariables false
set_option maxHeartbeats 1000000 in
set_option maxRecDepth 100000 in
theorem rdata_1 (s : ByteArray) (n : Int) (hn : 0 ≤ n ∧ n ≤ 127) (hD : Vi.numberOf s.data.toList = some n) (hNU : ∀ W, Calls Tryz.prog 74 #[.string s] W fun e w' => e = .returned (numT s.data.toList) ∧ Below W.heap.size W w') (w : World) :
    Calls Tryz.prog 53 #[.string s] w fun e w' => e = .returned (.string (strB (LM.ndata n))) ∧ Below w.heap.size w w' := by
  have HNU : Hid (∀ W, Calls Tryz.prog 74 #[.string s] W fun e w' => e = .returned (.tuple #[.int .i64 n, .bool true]) ∧ Below W.heap.size W w') := fun W => by have := hNU W; rwa [numT_some hD] at this
  have HLO : Hid (∀ W, Calls Tryz.prog 55 #[.int .i64 n, .int .i64 1] W fun e w' => e = .returned (.string (strB (LM.ndata n))) ∧ Below W.heap.size W w') := fun W => by
    have := rlow_any n ⟨by omega, by omega⟩ 1 (by omega) W
    have e : LM.leB 1 n = LM.ndata n := by
      unfold LM.ndata; rw [if_pos hn]
      show [UInt8.ofNat (n % 256).toNat] = _
      rw [show (n % 256).toNat = n.toNat by omega]
    rwa [e] at this
  generalize strB (LM.ndata n) = L at *
  obtain ⟨h0, h1⟩ := hn
  clear hNU hD
  go_enter Tryz.func53, Tryz.ntmps53
  go_wp2_with fail
  refine (show Calls _ _ _ _ _ from HNU.out _).mono ?_
  rintro e w1 ⟨rfl, hb1⟩
  have HB1 : Hid (Below w.heap.size w w1) := hb1
  clear hb1
  go_wp2_with fail
  refine (show Calls _ _ _ _ _ from HLO.out _).mono ?_
  rintro e w2 ⟨rfl, hb2⟩
  have HB2 : Hid (Below w.heap.size w w2) := bel_to HB1.out hb2 (Nat.le_refl _)
  clear hb2
  go_wp2
  go_ret
  exact ⟨rfl, HB2.out⟩
set_option maxHeartbeats 1000000 in
set_option maxRecDepth 100000 in
theorem rdata_t1 (s : ByteArray) (hs : s.size ≤ 63) (hD : Vi.numberOf s.data.toList = none) (hNU : ∀ W, Calls Tryz.prog 74 #[.string s] W fun e w' => e = .returned (numT s.data.toList) ∧ Below W.heap.size W w') (w : World) :
    Calls Tryz.prog 53 #[.string s] w fun e w' => e = .returned (.string (strB (LM.tdata s.data.toList))) ∧ Below w.heap.size w w' := by
  have HNU : Hid (∀ W, Calls Tryz.prog 74 #[.string s] W fun e w' => e = .returned (.tuple #[.int .i64 0, .bool false]) ∧ Below W.heap.size W w') := fun W => by have := hNU W; rwa [numT_none hD] at this
  obtain ⟨b1, hb1e⟩ : ∃ b, UInt8.ofNat (128 + s.size) = b := ⟨_, rfl⟩
  have HRS : Hid (strB (LM.tdata s.data.toList) = ⟨#[b1]⟩ ++ s) := by
    show _ = _; unfold LM.tdata; rw [list_len, if_pos hs, hb1e]; apply WideShapes.bytes_inj; simp [strB]
  have HE1 : Hid _ := hb1e
  clear hNU hD hb1e
  go_enter Tryz.func53, Tryz.ntmps53
  go_wp2_with fail
  refine (show Calls _ _ _ _ _ from HNU.out _).mono ?_
  rintro e w1 ⟨rfl, hb1⟩
  have HB1 : Hid (Below w.heap.size w w1) := hb1
  clear hb1
  go_wp2_with fail
  refine (rlow1 (128 + s.size) _ (by omega) (by omega) _ b1 HE1.out).mono ?_
  rintro e w2 ⟨rfl, hb2⟩
  have HB2 : Hid (Below w.heap.size w w2) := bel_to HB1.out hb2 (Nat.le_refl _)
  clear hb2
  go_wp2
  go_ret
  exact ⟨by rw [HRS.out]; rfl, HB2.out⟩
set_option maxHeartbeats 1000000 in
set_option maxRecDepth 100000 in
theorem rdata_t2 (s : ByteArray) (hs0 : 64 ≤ s.size) (hs : s.size ≤ 4095) (hD : Vi.numberOf s.data.toList = none) (hNU : ∀ W, Calls Tryz.prog 74 #[.string s] W fun e w' => e = .returned (numT s.data.toList) ∧ Below W.heap.size W w') (w : World) :
    Calls Tryz.prog 53 #[.string s] w fun e w' => e = .returned (.string (strB (LM.tdata s.data.toList))) ∧ Below w.heap.size w w' := by
  have HNU : Hid (∀ W, Calls Tryz.prog 74 #[.string s] W fun e w' => e = .returned (.tuple #[.int .i64 0, .bool false]) ∧ Below W.heap.size W w') := fun W => by have := hNU W; rwa [numT_none hD] at this
  obtain ⟨b1, hb1e⟩ : ∃ b, UInt8.ofNat (224 + s.size / 256) = b := ⟨_, rfl⟩
  obtain ⟨b2, hb2e⟩ : ∃ b, UInt8.ofNat (s.size % 256) = b := ⟨_, rfl⟩
  have HRS : Hid (strB (LM.tdata s.data.toList) = ⟨#[b1]⟩ ++ ⟨#[b2]⟩ ++ s) := by
    show _ = _; unfold LM.tdata; rw [list_len, if_neg (by omega), if_pos hs, hb1e, hb2e]; apply WideShapes.bytes_inj; simp [strB]
  have HE1 : Hid _ := hb1e
  have HLO : Hid (∀ W, Calls Tryz.prog 55 #[.int .i64 (s.size : Int), .int .i64 1] W fun e w' => e = .returned (.string ⟨#[b2]⟩) ∧ Below W.heap.size W w') := fun W => by
    have := rlow_any (s.size : Int) ⟨by omega, by omega⟩ 1 (by omega) W
    have e : strB (LM.leB 1 (s.size : Int)) = ⟨#[b2]⟩ := by
      rw [← hb2e]; show strB [UInt8.ofNat ((s.size : Int) % 256).toNat] = _
      rw [show ((s.size : Int) % 256).toNat = s.size % 256 by omega]; rfl
    rwa [e] at this
  clear hNU hD hb1e hb2e
  go_enter Tryz.func53, Tryz.ntmps53
  go_wp2_with fail
  refine (show Calls _ _ _ _ _ from HNU.out _).mono ?_
  rintro e w1 ⟨rfl, hb1⟩
  have HB1 : Hid (Below w.heap.size w w1) := hb1
  clear hb1
  go_wp2_with fail
  refine (rlow1 (224 + s.size / 256) _ (by omega) (by omega) _ b1 HE1.out).mono ?_
  rintro e w2 ⟨rfl, hb2⟩
  have HB2 : Hid (Below w.heap.size w w2) := bel_to HB1.out hb2 (Nat.le_refl _)
  clear hb2
  go_wp2_with fail
  refine (show Calls _ _ _ _ _ from HLO.out _).mono ?_
  rintro e w3 ⟨rfl, hb3⟩
  have HB3 : Hid (Below w.heap.size w w3) := bel_to HB2.out hb3 (Nat.le_refl _)
  clear hb3
  go_wp2
  go_ret
  exact ⟨by rw [HRS.out]; rfl, HB3.out⟩
set_option maxHeartbeats 1000000 in
set_option maxRecDepth 100000 in
theorem rdata_t5 (s : ByteArray) (hs0 : 4096 ≤ s.size) (hs : s.size ≤ 524288) (hD : Vi.numberOf s.data.toList = none) (hNU : ∀ W, Calls Tryz.prog 74 #[.string s] W fun e w' => e = .returned (numT s.data.toList) ∧ Below W.heap.size W w') (w : World) :
    Calls Tryz.prog 53 #[.string s] w fun e w' => e = .returned (.string (strB (LM.tdata s.data.toList))) ∧ Below w.heap.size w w' := by
  have HNU : Hid (∀ W, Calls Tryz.prog 74 #[.string s] W fun e w' => e = .returned (.tuple #[.int .i64 0, .bool false]) ∧ Below W.heap.size W w') := fun W => by have := hNU W; rwa [numT_none hD] at this
  have HRS : Hid (strB (LM.tdata s.data.toList) = ⟨#[240]⟩ ++ strB (LM.leB 4 (s.size : Int)) ++ s) := by
    show _ = _; unfold LM.tdata; rw [list_len, if_neg (by omega), if_neg (by omega)]; apply WideShapes.bytes_inj; simp [strB]
  have HLO : Hid (∀ W, Calls Tryz.prog 55 #[.int .i64 (s.size : Int), .int .i64 4] W fun e w' => e = .returned (.string (strB (LM.leB 4 (s.size : Int)))) ∧ Below W.heap.size W w') := fun W => rlow_any (s.size : Int) ⟨by omega, by omega⟩ 4 (by omega) W
  have hls : (strB (LM.leB 4 (s.size : Int))).size = 4 := by rw [strB_size, LM.leB_len]
  generalize strB (LM.leB 4 (s.size : Int)) = L at *
  clear hNU hD
  go_enter Tryz.func53, Tryz.ntmps53
  go_wp2_with fail
  refine (show Calls _ _ _ _ _ from HNU.out _).mono ?_
  rintro e w1 ⟨rfl, hb1⟩
  have HB1 : Hid (Below w.heap.size w w1) := hb1
  clear hb1
  go_wp2_with fail
  refine (show Calls _ _ _ _ _ from HLO.out _).mono ?_
  rintro e w2 ⟨rfl, hb2⟩
  have HB2 : Hid (Below w.heap.size w w2) := bel_to HB1.out hb2 (Nat.le_refl _)
  clear hb2
  go_wp2
  go_ret
  exact ⟨by rw [HRS.out]; rfl, HB2.out⟩
end Go.Proofs.YtadihhngegimkaaGreatDoor
namespace Go.Proofs.YtadihhngegimkaaGreatDoor
open Go.RowKit
set_option linter.unusedVariables false
theorem and5 (n : Int) (hn : LM.I64 n) : bits .and .i64 n 31 = n % 32 := by
  obtain ⟨h0, h1⟩ := hn
  show IntKind.i64.wrap ((BitVec.ofInt 64 n &&& BitVec.ofInt 64 ((31 : Nat) : Int)).toNat : Int) = _
  have e2 : (BitVec.ofInt 64 ((31 : Nat) : Int)).toNat = 31 := by rw [BitVec.ofInt_natCast, BitVec.toNat_ofNat]
  have e1 : (BitVec.ofInt 64 n).toNat = (n % 18446744073709551616).toNat := by rw [BitVec.toNat_ofInt]; rfl
  rw [BitVec.toNat_and, e1, e2, show (31 : Nat) = 2 ^ 5 - 1 by decide, Nat.and_two_pow_sub_one_eq_mod, w64_wrap]
  unfold wrap64
  have : (2 : Nat) ^ 5 = 32 := by decide
  rw [this]
  omega
theorem conv_two (w : World) (b1 b2 : UInt8) : (convert 85 9 (.slice (some ⟨w.heap.size, 0, none⟩) 2 2)).run Tryz.prog (w.alloc (.cells #[.int .u8 (b1.toNat : Int), .int .u8 (b2.toNat : Int)] 5)) = .ok (.string ⟨#[b1, b2]⟩) (w.alloc (.cells #[.int .u8 (b1.toNat : Int), .int .u8 (b2.toNat : Int)] 5)) := by
  have h := prow2 (one_alloc w (.cells #[.int .u8 (b1.toNat : Int), .int .u8 (b2.toNat : Int)] 5))
  exact run_convert_bytes_back _ 85 9 5 ⟨w.heap.size, 0, none⟩ 2 [b1, b2] Tryz.underlying85 Tryz.underlying5 Tryz.underlying9 (fun j hj => by
    match j, hj with
    | 0, _ => exact h.1
    | 1, _ => exact h.2.1)
set_option maxHeartbeats 1000000 in
set_option maxRecDepth 100000 in
theorem rdata_13 (s : ByteArray) (n : Int) (hc : ¬ (0 ≤ n ∧ n ≤ 127)) (hn : -4096 ≤ n ∧ n ≤ 4095) (hD : Vi.numberOf s.data.toList = some n) (hNU : ∀ W, Calls Tryz.prog 74 #[.string s] W fun e w' => e = .returned (numT s.data.toList) ∧ Below W.heap.size W w') (w : World) :
    Calls Tryz.prog 53 #[.string s] w fun e w' => e = .returned (.string (strB (LM.ndata n))) ∧ Below w.heap.size w w' := by
  have HNU : Hid (∀ W, Calls Tryz.prog 74 #[.string s] W fun e w' => e = .returned (.tuple #[.int .i64 n, .bool true]) ∧ Below W.heap.size W w') := fun W => by have := hNU W; rwa [numT_some hD] at this
  obtain ⟨b1, hb1e⟩ : ∃ b, UInt8.ofNat (192 + (n % 8192 / 256).toNat) = b := ⟨_, rfl⟩
  obtain ⟨b2, hb2e⟩ : ∃ b, UInt8.ofNat (n % 256).toNat = b := ⟨_, rfl⟩
  have HRS : Hid (strB (LM.ndata n) = ⟨#[b1, b2]⟩) := by
    show _ = _; unfold LM.ndata; rw [if_neg hc, if_pos hn, hb1e, hb2e]; rfl
  have hv1 : (b1.toNat : Int) = 192 + n / 256 % 32 := by rw [← hb1e, LM.ofNat_toNat _ (by omega)]; omega
  have hv2 : (b2.toNat : Int) = n % 256 := by rw [← hb2e, LM.ofNat_toNat _ (by omega)]; omega
  have HCV : Hid (∀ W : World, (convert 85 9 (.slice (some ⟨W.heap.size, 0, none⟩) 2 2)).run Tryz.prog (W.alloc (.cells #[.int .u8 (192 + n / 256 % 32), .int .u8 (n % 256)] 5)) = .ok (.string ⟨#[b1, b2]⟩) (W.alloc (.cells #[.int .u8 (192 + n / 256 % 32), .int .u8 (n % 256)] 5))) := fun W => by
    have := conv_two W b1 b2; rwa [hv1, hv2] at this
  obtain ⟨h0, h1⟩ := hn
  have hand := and5 (n / 256) ⟨by omega, by omega⟩
  clear hNU hD hb1e hb2e hv1 hv2
  rcases (show n < 0 ∨ 127 < n by omega) with hs | hs
  all_goals
    go_enter Tryz.func53, Tryz.ntmps53
    go_wp2_with fail
    refine (show Calls _ _ _ _ _ from HNU.out _).mono ?_
    rintro e w1 ⟨rfl, hb1⟩
    have HB1 : Hid (Below w.heap.size w w1) := hb1
    clear hb1
    have hcv := HCV.out w1
    go_wp2
    go_ret
    exact ⟨by rw [HRS.out]; rfl, HB1.out.alloc HB1.out.size _⟩
theorem rdata_any (s : ByteArray) (hs : s.size ≤ 524288) (w : World) :
    Calls Tryz.prog 53 #[.string s] w fun e w' => e = .returned (.string (strB (LM.data (LM.itemOf s.data.toList)))) ∧ Below w.heap.size w w' := by
  have hNU : ∀ W, Calls Tryz.prog 74 #[.string s] W fun e w' => e = .returned (numT s.data.toList) ∧ Below W.heap.size W w' := fun W => refNumber_any s (by unfold maxLen; omega) W
  cases hD : Vi.numberOf s.data.toList with
  | some n =>
    have hn : LM.I64 n := ⟨(Vi.numberOf_some hD).2.1, (Vi.numberOf_some hD).2.2.1⟩
    have e : LM.data (LM.itemOf s.data.toList) = LM.ndata n := by unfold LM.itemOf; rw [hD]; rfl
    rw [e]
    by_cases c1 : 0 ≤ n ∧ n ≤ 127
    · exact rdata_1 s n c1 hD hNU w
    by_cases c2 : -4096 ≤ n ∧ n ≤ 4095
    · exact rdata_13 s n c1 c2 hD hNU w
    by_cases c3 : -32768 ≤ n ∧ n ≤ 32767
    · exact rdata_2 s n hn ⟨c2, c3⟩ hD hNU w
    by_cases c4 : -8388608 ≤ n ∧ n ≤ 8388607
    · exact rdata_3 s n hn ⟨c3, c4⟩ hD hNU w
    by_cases c5 : -2147483648 ≤ n ∧ n ≤ 2147483647
    · exact rdata_4 s n hn ⟨c4, c5⟩ hD hNU w
    · exact rdata_8 s n hn c5 hD hNU w
  | none =>
    have e : LM.data (LM.itemOf s.data.toList) = LM.tdata s.data.toList := by unfold LM.itemOf; rw [hD]; rfl
    rw [e]
    by_cases c1 : s.size ≤ 63
    · exact rdata_t1 s c1 hD hNU w
    by_cases c2 : s.size ≤ 4095
    · exact rdata_t2 s (by omega) c2 hD hNU w
    · exact rdata_t5 s (by omega) hs hD hNU w
set_option maxHeartbeats 1000000 in
set_option maxRecDepth 100000 in
theorem rSize_any (s : ByteArray) (w : World) :
    Calls Tryz.prog 30 #[.string s] w fun e w' => e = .returned (.int .i64 ((if 524288 < s.size then 0 else LM.esz (LM.itemOf s.data.toList) : Nat) : Int)) ∧ Below w.heap.size w w' := by
  by_cases h : 524288 < s.size
  · rw [if_pos h]
    have hd : decide ((524288 : Int) < (s.size : Int)) = true := dec_t (by omega)
    clear h
    go_enter Tryz.func30, Tryz.ntmps30
    go_wp2
    go_ret
    exact ⟨rfl, Below.refl _ _⟩
  · rw [if_neg h]
    have hd : decide ((524288 : Int) < (s.size : Int)) = false := dec_f (by omega)
    have hwf := LM.itemOf_wf s.data.toList (by rw [list_len]; omega)
    have h2 := LM.dsize_le _ hwf
    have h3 := LM.bsz_le3 (LM.dsize (LM.itemOf s.data.toList)) (by omega)
    have HE : Hid (LM.esz (LM.itemOf s.data.toList) = LM.dsize (LM.itemOf s.data.toList) + LM.bsz (LM.dsize (LM.itemOf s.data.toList))) := rfl
    have HDA : Hid (∀ W, Calls Tryz.prog 53 #[.string s] W fun e w' => e = .returned (.string (strB (LM.data (LM.itemOf s.data.toList)))) ∧ Below W.heap.size W w') := fun W => rdata_any s (by omega) W
    have hsz : (strB (LM.data (LM.itemOf s.data.toList))).size = LM.dsize (LM.itemOf s.data.toList) := by rw [strB_size, LM.data_len]
    have HBK : Hid (∀ W, Calls Tryz.prog 54 #[.int .i64 (LM.dsize (LM.itemOf s.data.toList) : Nat)] W fun e w' => e = .returned (.string (strB (LM.back (LM.dsize (LM.itemOf s.data.toList))))) ∧ Below W.heap.size W w') := fun W => rback_any _ (by omega) W
    have hbz : (strB (LM.back (LM.dsize (LM.itemOf s.data.toList)))).size = LM.bsz (LM.dsize (LM.itemOf s.data.toList)) := by rw [strB_size, LM.back_len]
    generalize strB (LM.data (LM.itemOf s.data.toList)) = DA at *
    generalize strB (LM.back (LM.dsize (LM.itemOf s.data.toList))) = BA at *
    generalize LM.bsz (LM.dsize (LM.itemOf s.data.toList)) = bz at *
    generalize LM.dsize (LM.itemOf s.data.toList) = D at *
    clear h hwf
    go_enter Tryz.func30, Tryz.ntmps30
    go_wp2_with fail
    refine (show Calls _ _ _ _ _ from HDA.out _).mono ?_
    rintro e w1 ⟨rfl, hb1⟩
    have HB1 : Hid (Below w.heap.size w w1) := hb1
    clear hb1
    go_wp2_with fail
    refine (show Calls _ _ _ _ _ from HBK.out _).mono ?_
    rintro e w2 ⟨rfl, hb2⟩
    have HB2 : Hid (Below w.heap.size w w2) := bel_to HB1.out hb2 (Nat.le_refl _)
    clear hb2
    go_wp2
    go_ret
    exact ⟨by rw [HE.out]; exact ret_int (by omega), HB2.out⟩
end Go.Proofs.YtadihhngegimkaaGreatDoor
