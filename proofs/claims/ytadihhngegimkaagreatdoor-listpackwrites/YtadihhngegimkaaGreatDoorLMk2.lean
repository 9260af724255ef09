import Derived.Test.YtadihhngegimkaaGreatDoorLMk
namespace Go.Proofs.YtadihhngegimkaaGreatDoor
open Go.RowKit
set_option linter.unusedVariables false
theorem maker_eq {B b : Nat} {l l' : List UInt8} {w : World} (h : MakerAt B b l w) (e : l = l') : MakerAt B b l' w := e ▸ h
theorem wb_eq (B b : Nat) (l : List UInt8) (c : UInt8) (x : Int) (hx : (c.toNat : Int) = x) (w : World) (h : MakerAt B b l w) (hlen : l.length ≤ 2199023255552) (hBw : B ≤ w.heap.size) :
    Calls Tryz.prog 61 #[.pointer (some ⟨b, 0, none⟩), .int .u8 x] w fun e w' => e = .returned .nilIface ∧ (MakerAt B b (l ++ [c]) w' ∧ BK B b w w') := by
  subst hx; exact writeByte_any B b l c w h (by omega) hBw
set_option maxHeartbeats 1000000 in
set_option maxRecDepth 100000 in
theorem two_mk (B b : Nat) (l : List UInt8) (f n : Nat) (hf : f + n / 256 < 256) (hn : n < 8192) (w : World) (h : MakerAt B b l w) (hlen : l.length ≤ 1099511627776) (hBw : B ≤ w.heap.size) :
    Calls Tryz.prog 89 #[.pointer (some ⟨b, 0, none⟩), .int .i64 f, .int .i64 n] w fun e w' => e = .returned (.tuple #[]) ∧ (MakerAt B b (l ++ [UInt8.ofNat (f + n / 256), UInt8.ofNat (n % 256)]) w' ∧ BK B b w w') := by
  have HM0 : Hid (MakerAt B b l w) := h
  clear h
  go_enter Tryz.func89, Tryz.ntmps89
  go_wp2_with fail
  refine (wb_eq B b l (UInt8.ofNat (f + n / 256)) _ (by rw [LM.ofNat_toNat _ (by omega)]; omega) _ HM0.out (by omega) hBw).mono ?_
  rintro e w1 ⟨rfl, hm1, hb1⟩
  have HM1 : Hid (MakerAt B b _ _) := hm1
  have HB1 : Hid (BK B b w w1) := hb1
  have hBc : B ≤ w1.heap.size := Nat.le_trans hBw hb1.size
  clear hm1 hb1
  go_wp2_with fail
  refine (wb_eq B b (l ++ [UInt8.ofNat (f + n / 256)]) (UInt8.ofNat (n % 256)) _ (by rw [LM.ofNat_toNat _ (by omega)]; omega) _ HM1.out (by simp; omega) hBc).mono ?_
  rintro e w2 ⟨rfl, hm2, hb2⟩
  have HM2 : Hid (MakerAt B b _ _) := hm2
  have HB2 : Hid _ := hb2
  clear hm2 hb2
  go_wp2
  go_end0
  refine ⟨rfl, ?_, HB1.out.trans HB2.out⟩
  exact maker_eq HM2.out (by simp)
set_option maxHeartbeats 1000000 in
set_option maxRecDepth 100000 in
theorem text_mk (B b : Nat) (l : List UInt8) (s : ByteArray) (hs : s.size ≤ 524288) (w : World) (h : MakerAt B b l w) (hlen : l.length ≤ 549755813888) (hBw : B ≤ w.heap.size) :
    Calls Tryz.prog 79 #[.pointer (some ⟨b, 0, none⟩), .string s] w fun e w' => e = .returned (.tuple #[]) ∧ (MakerAt B b (l ++ LM.tdata s.data.toList) w' ∧ BK B b w w') := by
  have HM0 : Hid (MakerAt B b l w) := h
  have HWS : Hid (∀ L W, MakerAt B b L W → L.length ≤ 2199023255552 → B ≤ W.heap.size → Calls Tryz.prog 59 #[.pointer (some ⟨b, 0, none⟩), .string s] W fun e w' => e = .returned (.tuple #[.int .i64 s.size, .nilIface]) ∧ (MakerAt B b (L ++ s.data.toList) w' ∧ BK B b W w')) := fun L W hM hl hB => writeString_any B b L s W hM (by omega) hB
  have HTH : Hid (∀ W, Calls Tryz.prog 81 #[.int .i64 s.size] W fun e w' => e = .returned (.int .i64 (LM.thead s.size : Nat)) ∧ w' = W) := fun W => th_any s.size (by omega) W
  clear h
  by_cases h1 : s.size ≤ 63
  · have hth : LM.thead s.size = 1 := by unfold LM.thead; rw [if_pos h1]
    have HTD : Hid (LM.tdata s.data.toList = UInt8.ofNat (128 + s.size) :: s.data.toList) := by show _ = _; unfold LM.tdata; rw [list_len, if_pos h1]
    go_enter Tryz.func79, Tryz.ntmps79
    go_wp2_with fail
    refine (show Calls _ _ _ _ _ from HTH.out _).mono ?_
    rintro e w1 ⟨rfl, rfl⟩
    rw [hth]
    go_wp2_with fail
    refine (wb_eq B b l (UInt8.ofNat (128 + s.size)) _ (by rw [LM.ofNat_toNat _ (by omega)]; omega) _ HM0.out (by omega) hBw).mono ?_
    rintro e w2 ⟨rfl, hm1, hb1⟩
    have HM1 : Hid (MakerAt B b _ _) := hm1
    have HB1 : Hid (BK B b _ w2) := hb1
    have hBc : B ≤ w2.heap.size := Nat.le_trans hBw hb1.size
    clear hm1 hb1
    go_wp2_with fail
    refine (show Calls _ _ _ _ _ from HWS.out _ _ HM1.out (by simp; omega) hBc).mono ?_
    rintro e w3 ⟨rfl, hm2, hb2⟩
    have HM2 : Hid (MakerAt B b _ _) := hm2
    have HB2 : Hid _ := hb2
    clear hm2 hb2
    go_wp2
    go_end0
    refine ⟨rfl, ?_, HB1.out.trans HB2.out⟩
    rw [HTD.out]; exact maker_eq HM2.out (by simp)
  · by_cases h2 : s.size ≤ 4095
    · have hth : LM.thead s.size = 2 := by unfold LM.thead; rw [if_neg h1, if_pos h2]
      have HTD : Hid (LM.tdata s.data.toList = UInt8.ofNat (224 + s.size / 256) :: UInt8.ofNat (s.size % 256) :: s.data.toList) := by show _ = _; unfold LM.tdata; rw [list_len, if_neg h1, if_pos h2]
      have HW : Hid (Calls Tryz.prog 89 #[.pointer (some ⟨b, 0, none⟩), .int .i64 224, .int .i64 (s.size : Int)] w fun e w' => e = .returned (.tuple #[]) ∧ (MakerAt B b (l ++ [UInt8.ofNat (224 + s.size / 256), UInt8.ofNat (s.size % 256)]) w' ∧ BK B b w w')) := two_mk B b l 224 s.size (by omega) (by omega) w HM0.out (by omega) hBw
      go_enter Tryz.func79, Tryz.ntmps79
      go_wp2_with fail
      refine (show Calls _ _ _ _ _ from HTH.out _).mono ?_
      rintro e w1 ⟨rfl, rfl⟩
      rw [hth]
      go_wp2_with fail
      refine (show Calls _ _ _ _ _ from HW.out).mono ?_
      rintro e w2 ⟨rfl, hm1, hb1⟩
      have HM1 : Hid (MakerAt B b _ _) := hm1
      have HB1 : Hid (BK B b _ w2) := hb1
      have hBc : B ≤ w2.heap.size := Nat.le_trans hBw hb1.size
      clear hm1 hb1
      go_wp2_with fail
      refine (show Calls _ _ _ _ _ from HWS.out _ _ HM1.out (by simp; omega) hBc).mono ?_
      rintro e w3 ⟨rfl, hm2, hb2⟩
      have HM2 : Hid (MakerAt B b _ _) := hm2
      have HB2 : Hid _ := hb2
      clear hm2 hb2
      go_wp2
      go_end0
      refine ⟨rfl, ?_, HB1.out.trans HB2.out⟩
      rw [HTD.out]; exact maker_eq HM2.out (by simp)
    · have hth : LM.thead s.size = 5 := by unfold LM.thead; rw [if_neg h1, if_neg h2]
      have HTD : Hid (LM.tdata s.data.toList = 240 :: (LM.leB 4 (s.size : Nat) ++ s.data.toList)) := by show _ = _; unfold LM.tdata; rw [list_len, if_neg h1, if_neg h2]
      have HLW : Hid (∀ W, MakerAt B b (l ++ [240]) W → B ≤ W.heap.size → Calls Tryz.prog 76 #[.pointer (some ⟨b, 0, none⟩), .int .i64 (s.size : Int), .int .i64 4] W fun e w' => e = .returned (.tuple #[]) ∧ (MakerAt B b (l ++ [240] ++ LM.leB 4 (s.size : Int)) w' ∧ BK B b W w')) := fun W hM hB => low_mk B b (l ++ [240]) (s.size : Int) 4 (by omega) ⟨by omega, by omega⟩ W hM (by simp; omega) hB
      go_enter Tryz.func79, Tryz.ntmps79
      go_wp2_with fail
      refine (show Calls _ _ _ _ _ from HTH.out _).mono ?_
      rintro e w1 ⟨rfl, rfl⟩
      rw [hth]
      go_wp2_with fail
      refine (wb_eq B b l 240 _ rfl _ HM0.out (by omega) hBw).mono ?_
      rintro e w2 ⟨rfl, hm1, hb1⟩
      have HM1 : Hid (MakerAt B b _ _) := hm1
      have HB1 : Hid (BK B b _ w2) := hb1
      have hBc : B ≤ w2.heap.size := Nat.le_trans hBw hb1.size
      clear hm1 hb1
      go_wp2_with fail
      refine (show Calls _ _ _ _ _ from HLW.out _ HM1.out hBc).mono ?_
      rintro e w3 ⟨rfl, hm2, hb2⟩
      have HM2 : Hid (MakerAt B b _ _) := hm2
      have HB2 : Hid (BK B b _ w3) := HB1.out.trans hb2
      have hBd : B ≤ w3.heap.size := Nat.le_trans hBw HB2.out.size
      clear hm2 hb2
      go_wp2_with fail
      refine (show Calls _ _ _ _ _ from HWS.out _ _ HM2.out (by simp [LM.leB_len]; omega) hBd).mono ?_
      rintro e w4 ⟨rfl, hm3, hb3⟩
      have HM3 : Hid (MakerAt B b _ _) := hm3
      have HB3 : Hid _ := hb3
      clear hm3 hb3
      go_wp2
      go_end0
      refine ⟨rfl, ?_, HB2.out.trans HB3.out⟩
      rw [HTD.out]; exact maker_eq HM3.out (by simp)
end Go.Proofs.YtadihhngegimkaaGreatDoor
