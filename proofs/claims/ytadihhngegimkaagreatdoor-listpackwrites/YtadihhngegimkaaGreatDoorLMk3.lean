import Derived.Test.YtadihhngegimkaaGreatDoorLMk2
namespace Go.Proofs.YtadihhngegimkaaGreatDoor
open Go.RowKit
set_option linter.unusedVariables false
theorem and13 (n : Int) (hn : LM.I64 n) : bits .and .i64 n 8191 = n % 8192 := by
  obtain ⟨h0, h1⟩ := hn
  show IntKind.i64.wrap ((BitVec.ofInt 64 n &&& BitVec.ofInt 64 ((8191 : Nat) : Int)).toNat : Int) = _
  have e2 : (BitVec.ofInt 64 ((8191 : Nat) : Int)).toNat = 8191 := by rw [BitVec.ofInt_natCast, BitVec.toNat_ofNat]
  have e1 : (BitVec.ofInt 64 n).toNat = (n % 18446744073709551616).toNat := by rw [BitVec.toNat_ofInt]; rfl
  rw [BitVec.toNat_and, e1, e2, show (8191 : Nat) = 2 ^ 13 - 1 by decide, Nat.and_two_pow_sub_one_eq_mod, w64_wrap]
  unfold wrap64
  have : (2 : Nat) ^ 13 = 8192 := by decide
  rw [this]
  omega
theorem ndata_lw (n : Int) (h1 : ¬ (0 ≤ n ∧ n ≤ 127)) (h2 : ¬ (-4096 ≤ n ∧ n ≤ 4095)) : LM.ndata n = UInt8.ofNat (241 + lw n) :: LM.leB (wd (lw n)) n := by
  unfold LM.ndata lw wd; rw [if_neg h1, if_neg h2]
  split
  · rfl
  split
  · rfl
  split
  · rfl
  · rfl
set_option maxHeartbeats 1000000 in
set_option maxRecDepth 100000 in
theorem number_mk (B b : Nat) (l : List UInt8) (n : Int) (hn : LM.I64 n) (w : World) (hW : Wid w) (hg : 0 < B) (h : MakerAt B b l w) (hlen : l.length ≤ 549755813888) (hBw : B ≤ w.heap.size) :
    Calls Tryz.prog 78 #[.pointer (some ⟨b, 0, none⟩), .int .i64 n] w fun e w' => e = .returned (.tuple #[]) ∧ (MakerAt B b (l ++ LM.ndata n) w' ∧ BK B b w w') := by
  have HM0 : Hid (MakerAt B b l w) := h
  have HW : Hid (Wid w) := hW
  have HN : Hid (LM.I64 n) := hn
  have HNS : Hid (∀ W, Wid W → Calls Tryz.prog 80 #[.int .i64 n] W fun e w' => e = .returned (.int .i64 (LM.nsize n : Nat)) ∧ w' = W) := fun W hW => nsz_any n hn W hW
  clear h hW
  by_cases h1 : 0 ≤ n ∧ n ≤ 127
  · have hs : LM.nsize n = 1 := by unfold LM.nsize; rw [if_pos h1]
    have HD : Hid (LM.ndata n = [UInt8.ofNat n.toNat]) := by show _ = _; unfold LM.ndata; rw [if_pos h1]
    obtain ⟨h1a, h1b⟩ := h1
    clear hn
    go_enter Tryz.func78, Tryz.ntmps78
    go_wp2_with fail
    refine (show Calls _ _ _ _ _ from HNS.out _ HW.out).mono ?_
    rintro e w1 ⟨rfl, rfl⟩
    rw [hs]
    go_wp2_with fail
    refine (wb_eq B b l (UInt8.ofNat n.toNat) _ (by rw [LM.ofNat_toNat _ (by omega)]; omega) _ HM0.out (by omega) hBw).mono ?_
    rintro e w2 ⟨rfl, hm1, hb1⟩
    have HM1 : Hid (MakerAt B b _ _) := hm1
    have HB1 : Hid (BK B b _ w2) := hb1
    clear hm1 hb1
    go_wp2
    go_end0
    exact ⟨rfl, maker_eq HM1.out (by rw [HD.out]), HB1.out⟩
  · by_cases h2 : -4096 ≤ n ∧ n ≤ 4095
    · have hs : LM.nsize n = 2 := by unfold LM.nsize; rw [if_neg h1, if_pos h2]
      obtain ⟨m, hm⟩ : ∃ m : Nat, n % 8192 = (m : Int) := ⟨(n % 8192).toNat, by omega⟩
      have hm2 : m < 8192 := by omega
      have ha : bits .and .i64 n 8191 = (m : Int) := (and13 n hn).trans hm
      have HD : Hid (LM.ndata n = [UInt8.ofNat (192 + m / 256), UInt8.ofNat (m % 256)]) := by
        show _ = _; unfold LM.ndata; rw [if_neg h1, if_pos h2]
        rw [show (n % 8192 / 256).toNat = m / 256 by omega, show (n % 256).toNat = m % 256 by omega]
      clear hn hm h1 h2
      go_enter Tryz.func78, Tryz.ntmps78
      go_wp2_with fail
      refine (show Calls _ _ _ _ _ from HNS.out _ HW.out).mono ?_
      rintro e w1 ⟨rfl, rfl⟩
      rw [hs]
      go_wp2_with fail
      refine (show Calls _ _ _ _ _ from two_mk B b l 192 m (by omega) hm2 _ HM0.out (by omega) hBw).mono ?_
      rintro e w2 ⟨rfl, hm1, hb1⟩
      have HM1 : Hid (MakerAt B b _ _) := hm1
      have HB1 : Hid (BK B b _ w2) := hb1
      clear hm1 hb1
      go_wp2
      go_end0
      exact ⟨rfl, maker_eq HM1.out (by rw [HD.out]), HB1.out⟩
    · have hs : LM.nsize n = 1 + wd (lw n) := nsize_lw n h1 h2
      have HD : Hid _ := ndata_lw n h1 h2
      have hl4 := lw_lt n
      have hw8 := wd_le (lw n)
      have hwd2 : 2 ≤ wd (lw n) := by unfold wd; (repeat' split) <;> omega
      have HLE : Hid (∀ W, Wid W → Calls Tryz.prog 90 #[.int .i64 n] W fun e w' => e = .returned (.int .i64 (lw n : Nat)) ∧ w' = W) := fun W hW => least_any n hn W hW
      have HLW : Hid (∀ W, MakerAt B b (l ++ [UInt8.ofNat (241 + lw n)]) W → B ≤ W.heap.size → Calls Tryz.prog 76 #[.pointer (some ⟨b, 0, none⟩), .int .i64 n, .int .i64 (wd (lw n) : Nat)] W fun e w' => e = .returned (.tuple #[]) ∧ (MakerAt B b (l ++ [UInt8.ofNat (241 + lw n)] ++ LM.leB (wd (lw n)) n) w' ∧ BK B b W w')) := fun W hM hB => low_mk B b (l ++ [UInt8.ofNat (241 + lw n)]) n (wd (lw n)) hw8 hn W hM (by simp; omega) hB
      have HWA : Hid (∀ W, Wid W → W.cell? ⟨0, lw n, none⟩ = some (.int .i64 (wd (lw n) : Nat))) := fun W hW => wid_at hW (lw n) hl4
      clear hn h1 h2
      generalize lw n = i at *
      generalize wd i = k at *
      go_enter Tryz.func78, Tryz.ntmps78
      go_wp2_with fail
      refine (show Calls _ _ _ _ _ from HNS.out _ HW.out).mono ?_
      rintro e w1 ⟨rfl, rfl⟩
      rw [hs]
      go_wp2_with fail
      refine (show Calls _ _ _ _ _ from HLE.out _ HW.out).mono ?_
      rintro e w2 ⟨rfl, rfl⟩
      go_wp2_with fail
      refine (wb_eq B b l (UInt8.ofNat (241 + i)) _ (by rw [LM.ofNat_toNat _ (by omega)]; omega) _ HM0.out (by omega) hBw).mono ?_
      rintro e w3 ⟨rfl, hm1, hb1⟩
      have HM1 : Hid (MakerAt B b _ _) := hm1
      have HB1 : Hid (BK B b _ w3) := hb1
      have hBc : B ≤ w3.heap.size := Nat.le_trans hBw hb1.size
      have hc : w3.cell? ⟨0, i, none⟩ = some (.int .i64 (k : Nat)) := (hb1.bel.cell (p := ⟨0, i, none⟩) hg).trans (HWA.out _ HW.out)
      clear hm1 hb1
      go_wp2_with fail
      refine (show Calls _ _ _ _ _ from HLW.out _ HM1.out hBc).mono ?_
      rintro e w4 ⟨rfl, hm2, hb2⟩
      have HM2 : Hid (MakerAt B b _ _) := hm2
      have HB2 : Hid (BK B b _ w4) := hb2
      clear hm2 hb2
      go_wp2
      go_end0
      exact ⟨rfl, maker_eq HM2.out (by rw [HD.out]; simp), HB1.out.trans HB2.out⟩
theorem Wid.onB {B b : Nat} {w w' : World} (h : Wid w) (hb : BK B b w w') (hg : 0 < B) : Wid w' :=
  ⟨(hb.bel.cell (p := ⟨0, 0, none⟩) hg).trans h.c0, (hb.bel.cell (p := ⟨0, 1, none⟩) hg).trans h.c1, (hb.bel.cell (p := ⟨0, 2, none⟩) hg).trans h.c2, (hb.bel.cell (p := ⟨0, 3, none⟩) hg).trans h.c3⟩
theorem back_snoc (n i : Nat) (h : i < LM.bsz n) : (LM.back n).take (i + 1) = (LM.back n).take i ++ [LM.bbyte n (LM.bsz n) i] := by
  rw [take_more _ i (LM.bbyte n (LM.bsz n) i)]
  unfold LM.back
  rw [List.getElem?_map, List.getElem?_range h]; rfl
set_option maxHeartbeats 1000000 in
set_option maxRecDepth 100000 in
theorem put_mk (B b : Nat) (l : List UInt8) (it : LM.Item) (hit : LM.Wf it) (w : World) (hW : Wid w) (hg : 0 < B) (h : MakerAt B b l w) (hlen : l.length ≤ 274877906944) (hBw : B ≤ w.heap.size) :
    Calls Tryz.prog 60 #[.pointer (some ⟨b, 0, none⟩), .agg #[.string (strB it.txt), .int .i64 it.num, .bool it.isN]] w fun e w' => e = .returned (.tuple #[]) ∧ (MakerAt B b (l ++ LM.ent it) w' ∧ BK B b w w') := by
  have hd1 := LM.dsize_pos it
  have hd2 := LM.dsize_le it hit
  have hb3 := LM.bsz_le3 (LM.dsize it) (by omega)
  have hb1 := LM.bsz_pos (LM.dsize it)
  have HSZ : Hid (∀ W, Wid W → Calls Tryz.prog 64 #[.agg #[.string (strB it.txt), .int .i64 it.num, .bool it.isN]] W fun e w' => e = .returned (.int .i64 (LM.dsize it : Nat)) ∧ Below W.heap.size W w') := fun W hW => size_any it 524288 (by
    rcases hit with ⟨h1, h2, h3⟩ | ⟨h1, h2, h3, h4⟩
    · exact Or.inl ⟨h1, h2, h3⟩
    · exact Or.inr ⟨h1, h2, h4⟩) (by omega) W hW
  have HDT : Hid (∀ W, Wid W → MakerAt B b l W → B ≤ W.heap.size → if it.isN then
      Calls Tryz.prog 78 #[.pointer (some ⟨b, 0, none⟩), .int .i64 it.num] W fun e w' => e = .returned (.tuple #[]) ∧ (MakerAt B b (l ++ LM.data it) w' ∧ BK B b W w')
      else Calls Tryz.prog 79 #[.pointer (some ⟨b, 0, none⟩), .string (strB it.txt)] W fun e w' => e = .returned (.tuple #[]) ∧ (MakerAt B b (l ++ LM.data it) w' ∧ BK B b W w')) := fun W hW hM hB => by
    rcases hit with ⟨h1, h2, h3⟩ | ⟨h1, h2, h3, h4⟩
    · rw [h1, if_pos rfl]; unfold LM.data; rw [h1]
      exact number_mk B b l it.num h3 W hW hg hM (by omega) hB
    · rw [h1, if_neg (by simp)]; unfold LM.data; rw [h1]
      have := text_mk B b l (strB it.txt) (by rw [strB_size]; exact h4) W hM (by omega) hB
      rw [strB_list] at this
      exact this
  have HE : Hid (LM.ent it = LM.data it ++ LM.back (LM.dsize it)) := rfl
  have hdl : (LM.data it).length = LM.dsize it := LM.data_len it
  have HM0 : Hid (MakerAt B b l w) := h
  have HW : Hid (Wid w) := hW
  clear h hW hit
  generalize LM.dsize it = D at *
  generalize hDA : LM.data it = DA at *
  generalize LM.ent it = EN at *
  clear hDA
  obtain ⟨t, m, q⟩ := it
  simp only at HSZ HDT ⊢
  generalize strB t = T at *
  have HBW : Hid (BK B b w (w.alloc (.cells #[.string T, .int .i64 m, .bool q] 61))) := BK.of ((Below.refl _ w).alloc (Nat.le_refl _) _) hBw
  have HBX : Hid (Below w.heap.size w (w.alloc (.cells #[.string T, .int .i64 m, .bool q] 61))) := (Below.refl _ w).alloc (Nat.le_refl _) _
  have hblt := maker_lt HM0.out
  cases q with
  | true =>
    have HDQ : Hid (∀ W, Wid W → MakerAt B b l W → B ≤ W.heap.size → Calls Tryz.prog 78 #[.pointer (some ⟨b, 0, none⟩), .int .i64 m] W fun e w' => e = .returned (.tuple #[]) ∧ (MakerAt B b (l ++ DA) w' ∧ BK B b W w')) := fun W h1 h2 h3 => by have := HDT.out W h1 h2 h3; simpa using this
    have HRW : Hid ((w.alloc (.cells #[.string T, .int .i64 m, .bool true] 61)).heap[w.heap.size]? = some (.cells #[.string T, .int .i64 m, .bool true] 61)) := one_alloc w _
    have HMA : Hid (MakerAt B b l (w.alloc (.cells #[.string T, .int .i64 m, .bool true] 61))) := maker_keep HM0.out HBX.out
    have HWA : Hid (Wid (w.alloc (.cells #[.string T, .int .i64 m, .bool true] 61))) := HW.out.on HBX.out
    have hBA : B ≤ (w.alloc (.cells #[.string T, .int .i64 m, .bool true] 61)).heap.size := by simp; omega
    clear HDT
    go_enter Tryz.func60, Tryz.ntmps60
    go_wp2_with fail
    refine (show Calls _ _ _ _ _ from HDQ.out _ HWA.out HMA.out hBA).mono ?_
    rintro e w1 ⟨rfl, hm1, hk1⟩
    have HM1 : Hid (MakerAt B b (l ++ DA) w1) := hm1
    have HB1 : Hid (BK B b w w1) := HBW.out.trans hk1
    have HR1 : Hid (w1.heap[w.heap.size]? = some (.cells #[.string T, .int .i64 m, .bool true] 61)) := hk1.kept _ _ _ _ HRW.out (by omega) (by decide)
    have HW1 : Hid (Wid w1) := HW.out.onB HB1.out hg
    have hB1 : B ≤ w1.heap.size := Nat.le_trans hBw HB1.out.size
    obtain ⟨d0, d1, d2, df⟩ := row3 HR1.out
    clear hm1 hk1
    go_wp2_with fail
    refine (show Calls _ _ _ _ _ from HSZ.out _ HW1.out).mono ?_
    rintro e w2 ⟨rfl, hb2⟩
    have HM2 : Hid (MakerAt B b (l ++ DA) w2) := maker_keep HM1.out hb2
    have HB2 : Hid (BK B b w w2) := HB1.out.trans (BK.of hb2 hB1)
    have hB2 : B ≤ w2.heap.size := Nat.le_trans hBw HB2.out.size
    clear hb2 d0 d1 d2 df hB1
    go_wp2_with fail
    refine (bsz_any D hd1 (by omega) _).mono ?_
    rintro e w3 ⟨rfl, rfl⟩
    go_wp2
    go_loopw [22] (fun c wr => ∃ i : Nat, i ≤ LM.bsz D ∧ c = .int .i64 (i : Int) ∧ MakerAt B b (l ++ DA ++ (LM.back D).take i) wr ∧ BK B b w wr) (fun c _ => LM.bsz D - (intOf c).toNat)
    case atStart => exact ⟨0, by omega, rfl, by simpa using HM2.out, HB2.out⟩
    case round =>
      obtain ⟨i, hi, rfl, hm, hb⟩ := hrel
      have HB : Hid (BK B b w wr) := hb
      by_cases hlt : i < LM.bsz D
      · obtain ⟨y, hy⟩ : ∃ y : Int, ((LM.bbyte D (LM.bsz D) i).toNat : Int) = y := ⟨_, rfl⟩
        have HBB : Hid (∀ W, Calls Tryz.prog 66 #[.int .i64 D, .int .i64 (LM.bsz D : Nat), .int .i64 i] W fun e w' => e = .returned (.int .u8 y) ∧ w' = W) := fun W => by
          rw [← hy]; exact bb_any D (LM.bsz D) i (by omega) hb3 hlt W
        have HWB : Hid (Calls Tryz.prog 61 #[.pointer (some ⟨b, 0, none⟩), .int .u8 y] (wr.drewN 1) fun e w' => e = .returned .nilIface ∧ (MakerAt B b (l ++ DA ++ (LM.back D).take i ++ [LM.bbyte D (LM.bsz D) i]) w' ∧ BK B b (wr.drewN 1) w')) := wb_eq B b _ (LM.bbyte D (LM.bsz D) i) y hy (wr.drewN 1) (maker_dn hm 1) (by simp only [List.length_append, List.length_take]; have := LM.back_len D; omega) (by show B ≤ wr.heap.size; exact Nat.le_trans hBw hb.size)
        have HS : Hid _ := back_snoc D i hlt
        clear hm hb hy
        go_wp2_with fail
        go_region_with (first
          | (go_at_call 66; refine (show Calls _ _ _ _ _ from HBB.out _).mono ?_; rintro e w4 ⟨rfl, rfl⟩)
          | (go_at_call 61; refine (show Calls _ _ _ _ _ from HWB.out).mono ?_; rintro e w5 ⟨rfl, hm5, hb5⟩; have HM5 : Hid (MakerAt B b _ _) := hm5; have HB5 : Hid _ := hb5; clear hm5 hb5))
        all_goals
          go_wp2
          go_roundw
          case rel => exact ⟨i + 1, hlt, rfl, maker_eq HM5.out (by rw [HS.out]; simp), (HB.out.dn 1).trans HB5.out⟩
          case measure => simp [intOf]; omega
      · have he : i = LM.bsz D := by omega
        subst he
        have HMM : Hid (MakerAt B b _ _) := hm
        clear hm hb
        go_wp2
        go_end0
        refine ⟨rfl, maker_eq HMM.out ?_, HB.out⟩
        rw [HE.out, List.take_of_length_le (by rw [LM.back_len]; exact Nat.le_refl _), List.append_assoc]
  | false =>
    have HDQ : Hid (∀ W, Wid W → MakerAt B b l W → B ≤ W.heap.size → Calls Tryz.prog 79 #[.pointer (some ⟨b, 0, none⟩), .string T] W fun e w' => e = .returned (.tuple #[]) ∧ (MakerAt B b (l ++ DA) w' ∧ BK B b W w')) := fun W h1 h2 h3 => by have := HDT.out W h1 h2 h3; simpa using this
    have HRW : Hid ((w.alloc (.cells #[.string T, .int .i64 m, .bool false] 61)).heap[w.heap.size]? = some (.cells #[.string T, .int .i64 m, .bool false] 61)) := one_alloc w _
    have HMA : Hid (MakerAt B b l (w.alloc (.cells #[.string T, .int .i64 m, .bool false] 61))) := maker_keep HM0.out HBX.out
    have HWA : Hid (Wid (w.alloc (.cells #[.string T, .int .i64 m, .bool false] 61))) := HW.out.on HBX.out
    have hBA : B ≤ (w.alloc (.cells #[.string T, .int .i64 m, .bool false] 61)).heap.size := by simp; omega
    clear HDT
    go_enter Tryz.func60, Tryz.ntmps60
    go_wp2_with fail
    refine (show Calls _ _ _ _ _ from HDQ.out _ HWA.out HMA.out hBA).mono ?_
    rintro e w1 ⟨rfl, hm1, hk1⟩
    have HM1 : Hid (MakerAt B b (l ++ DA) w1) := hm1
    have HB1 : Hid (BK B b w w1) := HBW.out.trans hk1
    have HR1 : Hid (w1.heap[w.heap.size]? = some (.cells #[.string T, .int .i64 m, .bool false] 61)) := hk1.kept _ _ _ _ HRW.out (by omega) (by decide)
    have HW1 : Hid (Wid w1) := HW.out.onB HB1.out hg
    have hB1 : B ≤ w1.heap.size := Nat.le_trans hBw HB1.out.size
    obtain ⟨d0, d1, d2, df⟩ := row3 HR1.out
    clear hm1 hk1
    go_wp2_with fail
    refine (show Calls _ _ _ _ _ from HSZ.out _ HW1.out).mono ?_
    rintro e w2 ⟨rfl, hb2⟩
    have HM2 : Hid (MakerAt B b (l ++ DA) w2) := maker_keep HM1.out hb2
    have HB2 : Hid (BK B b w w2) := HB1.out.trans (BK.of hb2 hB1)
    have hB2 : B ≤ w2.heap.size := Nat.le_trans hBw HB2.out.size
    clear hb2 d0 d1 d2 df hB1
    go_wp2_with fail
    refine (bsz_any D hd1 (by omega) _).mono ?_
    rintro e w3 ⟨rfl, rfl⟩
    go_wp2
    go_loopw [22] (fun c wr => ∃ i : Nat, i ≤ LM.bsz D ∧ c = .int .i64 (i : Int) ∧ MakerAt B b (l ++ DA ++ (LM.back D).take i) wr ∧ BK B b w wr) (fun c _ => LM.bsz D - (intOf c).toNat)
    case atStart => exact ⟨0, by omega, rfl, by simpa using HM2.out, HB2.out⟩
    case round =>
      obtain ⟨i, hi, rfl, hm, hb⟩ := hrel
      have HB : Hid (BK B b w wr) := hb
      by_cases hlt : i < LM.bsz D
      · obtain ⟨y, hy⟩ : ∃ y : Int, ((LM.bbyte D (LM.bsz D) i).toNat : Int) = y := ⟨_, rfl⟩
        have HBB : Hid (∀ W, Calls Tryz.prog 66 #[.int .i64 D, .int .i64 (LM.bsz D : Nat), .int .i64 i] W fun e w' => e = .returned (.int .u8 y) ∧ w' = W) := fun W => by
          rw [← hy]; exact bb_any D (LM.bsz D) i (by omega) hb3 hlt W
        have HWB : Hid (Calls Tryz.prog 61 #[.pointer (some ⟨b, 0, none⟩), .int .u8 y] (wr.drewN 1) fun e w' => e = .returned .nilIface ∧ (MakerAt B b (l ++ DA ++ (LM.back D).take i ++ [LM.bbyte D (LM.bsz D) i]) w' ∧ BK B b (wr.drewN 1) w')) := wb_eq B b _ (LM.bbyte D (LM.bsz D) i) y hy (wr.drewN 1) (maker_dn hm 1) (by simp only [List.length_append, List.length_take]; have := LM.back_len D; omega) (by show B ≤ wr.heap.size; exact Nat.le_trans hBw hb.size)
        have HS : Hid _ := back_snoc D i hlt
        clear hm hb hy
        go_wp2_with fail
        go_region_with (first
          | (go_at_call 66; refine (show Calls _ _ _ _ _ from HBB.out _).mono ?_; rintro e w4 ⟨rfl, rfl⟩)
          | (go_at_call 61; refine (show Calls _ _ _ _ _ from HWB.out).mono ?_; rintro e w5 ⟨rfl, hm5, hb5⟩; have HM5 : Hid (MakerAt B b _ _) := hm5; have HB5 : Hid _ := hb5; clear hm5 hb5))
        all_goals
          go_wp2
          go_roundw
          case rel => exact ⟨i + 1, hlt, rfl, maker_eq HM5.out (by rw [HS.out]; simp), (HB.out.dn 1).trans HB5.out⟩
          case measure => simp [intOf]; omega
      · have he : i = LM.bsz D := by omega
        subst he
        have HMM : Hid (MakerAt B b _ _) := hm
        clear hm hb
        go_wp2
        go_end0
        refine ⟨rfl, maker_eq HMM.out ?_, HB.out⟩
        rw [HE.out, List.take_of_length_le (by rw [LM.back_len]; exact Nat.le_refl _), List.append_assoc]
end Go.Proofs.YtadihhngegimkaaGreatDoor
