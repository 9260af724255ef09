import Derived.Test.YtadihhngegimkaaGreatDoorLMk
namespace Go.Proofs.YtadihhngegimkaaGreatDoor
open Go.RowKit
set_option linter.unusedVariables false
set_option maxHeartbeats 2000000 in
set_option maxRecDepth 100000 in
theorem rlow_any (x : Int) (hx : LM.I64 x) (n : Nat) (hn : n ≤ 8) (w : World) :
    Calls Tryz.prog 55 #[.int .i64 x, .int .i64 n] w fun e w' => e = .returned (.string (strB (LM.leB n x))) ∧ Below w.heap.size w w' := by
  obtain ⟨i0, hi, hz0, hz1, hz2⟩ := info_parts info5
  have HX : Hid _ := hx
  clear hx
  go_enter Tryz.func55, Tryz.ntmps55
  go_wp2
  go_loopw [5, 6] (fun cv ci wr => ∃ (i : Nat) (v : Value), i ≤ n ∧ ci = .int .i64 (i : Int) ∧ cv = v ∧ wr.ownsRow w.heap.size 5 1 v (LM.leB i x).length (bcells (LM.leB i x)) ∧ Below w.heap.size w wr) (fun _ ci _ => n - (intOf ci).toNat)
  case atStart => exact ⟨0, .slice none 0 0, by omega, rfl, rfl, World.ownsRow_nil _ _ _ _, Below.refl _ _⟩
  case round =>
    obtain ⟨i, v, hin, rfl, hcv, ho, hb⟩ := hrel
    subst hcv
    have HO : Hid (wr.ownsRow w.heap.size 5 1 _ (LM.leB i x).length (bcells (LM.leB i x))) := ho
    have HBB : Hid (Below w.heap.size w wr) := hb
    clear ho hb
    by_cases hlt : i < n
    · have hs := leB_snoc i x
      rcases (show i = 0 ∨ i = 1 ∨ i = 2 ∨ i = 3 ∨ i = 4 ∨ i = 5 ∨ i = 6 ∨ i = 7 by omega) with rfl | rfl | rfl | rfl | rfl | rfl | rfl | rfl
      · have HS : Hid (LM.leB 1 x = LM.leB 0 x ++ [UInt8.ofNat (x / (1 : Int) % 256).toNat]) := hs
        clear hs
        go_wp2_with (at_builtin; go_must (refine wpList_append_own _ rfl _ _ 85 rfl w.heap.size 5 i0 (.int .u8 0) 1 1 Tryz.underlying85 hi hz0 hz1 hz2 rfl (by decide) _ _ _ rfl (World.ownsRow.alloc HO.out _) ⟨wr.heap.size, 0, none⟩ 1 1 [.int .u8 (x % 256)] rfl rfl ?c01 ?c02 ?c03 ?c04 ?c05 ?_))
        case c01 =>
          intro t u hj
          match t, hj with
          | 0, hj => simp at hj; subst hj; simp [Addr.add]
        case c02 => intro u hu; simp at hu; subst hu; rfl
        case c03 => unfold maxLen; simp [LM.leB_len]
        case c04 => simp [LM.leB_len]
        case c05 => simp; have := HBB.out.size; omega
        intro v' w1 hown' hgrow _
        have HW2 : Hid (w1.ownsRow w.heap.size 5 1 v' (LM.leB 1 x).length (bcells (LM.leB 1 x))) := by
          rw [HS.out, bcells_snoc, byte_of, List.length_append]
          rw [Int.ediv_one]
          exact hown'
        have HB2 : Hid (Below w.heap.size w w1) := (HBB.out.alloc HBB.out.size _).grown hgrow (by simp; have := HBB.out.size; omega) (fun k hk => (World.ownsRow.lt HO.out k hk).1)
        clear hown' hgrow
        go_wp2
        go_roundw
        case rel => exact ⟨1, v', by omega, rfl, rfl, HW2.out, HB2.out⟩
        case measure => simp [intOf]; omega
      · have HS : Hid (LM.leB 2 x = LM.leB 1 x ++ [UInt8.ofNat (x / (256 : Int) % 256).toNat]) := hs
        clear hs
        go_wp2_with (at_builtin; go_must (refine wpList_append_own _ rfl _ _ 85 rfl w.heap.size 5 i0 (.int .u8 0) 1 1 Tryz.underlying85 hi hz0 hz1 hz2 rfl (by decide) _ _ _ rfl (World.ownsRow.alloc HO.out _) ⟨wr.heap.size, 0, none⟩ 1 1 [.int .u8 (x / 256 % 256)] rfl rfl ?c11 ?c12 ?c13 ?c14 ?c15 ?_))
        case c11 =>
          intro t u hj
          match t, hj with
          | 0, hj => simp at hj; subst hj; simp [Addr.add]
        case c12 => intro u hu; simp at hu; subst hu; rfl
        case c13 => unfold maxLen; simp [LM.leB_len]
        case c14 => simp [LM.leB_len]
        case c15 => simp; have := HBB.out.size; omega
        intro v' w1 hown' hgrow _
        have HW2 : Hid (w1.ownsRow w.heap.size 5 1 v' (LM.leB 2 x).length (bcells (LM.leB 2 x))) := by
          rw [HS.out, bcells_snoc, byte_of, List.length_append]
          skip
          exact hown'
        have HB2 : Hid (Below w.heap.size w w1) := (HBB.out.alloc HBB.out.size _).grown hgrow (by simp; have := HBB.out.size; omega) (fun k hk => (World.ownsRow.lt HO.out k hk).1)
        clear hown' hgrow
        go_wp2
        go_roundw
        case rel => exact ⟨2, v', by omega, rfl, rfl, HW2.out, HB2.out⟩
        case measure => simp [intOf]; omega
      · have HS : Hid (LM.leB 3 x = LM.leB 2 x ++ [UInt8.ofNat (x / (65536 : Int) % 256).toNat]) := hs
        clear hs
        go_wp2_with (at_builtin; go_must (refine wpList_append_own _ rfl _ _ 85 rfl w.heap.size 5 i0 (.int .u8 0) 1 1 Tryz.underlying85 hi hz0 hz1 hz2 rfl (by decide) _ _ _ rfl (World.ownsRow.alloc HO.out _) ⟨wr.heap.size, 0, none⟩ 1 1 [.int .u8 (x / 65536 % 256)] rfl rfl ?c21 ?c22 ?c23 ?c24 ?c25 ?_))
        case c21 =>
          intro t u hj
          match t, hj with
          | 0, hj => simp at hj; subst hj; simp [Addr.add]
        case c22 => intro u hu; simp at hu; subst hu; rfl
        case c23 => unfold maxLen; simp [LM.leB_len]
        case c24 => simp [LM.leB_len]
        case c25 => simp; have := HBB.out.size; omega
        intro v' w1 hown' hgrow _
        have HW2 : Hid (w1.ownsRow w.heap.size 5 1 v' (LM.leB 3 x).length (bcells (LM.leB 3 x))) := by
          rw [HS.out, bcells_snoc, byte_of, List.length_append]
          skip
          exact hown'
        have HB2 : Hid (Below w.heap.size w w1) := (HBB.out.alloc HBB.out.size _).grown hgrow (by simp; have := HBB.out.size; omega) (fun k hk => (World.ownsRow.lt HO.out k hk).1)
        clear hown' hgrow
        go_wp2
        go_roundw
        case rel => exact ⟨3, v', by omega, rfl, rfl, HW2.out, HB2.out⟩
        case measure => simp [intOf]; omega
      · have HS : Hid (LM.leB 4 x = LM.leB 3 x ++ [UInt8.ofNat (x / (16777216 : Int) % 256).toNat]) := hs
        clear hs
        go_wp2_with (at_builtin; go_must (refine wpList_append_own _ rfl _ _ 85 rfl w.heap.size 5 i0 (.int .u8 0) 1 1 Tryz.underlying85 hi hz0 hz1 hz2 rfl (by decide) _ _ _ rfl (World.ownsRow.alloc HO.out _) ⟨wr.heap.size, 0, none⟩ 1 1 [.int .u8 (x / 16777216 % 256)] rfl rfl ?c31 ?c32 ?c33 ?c34 ?c35 ?_))
        case c31 =>
          intro t u hj
          match t, hj with
          | 0, hj => simp at hj; subst hj; simp [Addr.add]
        case c32 => intro u hu; simp at hu; subst hu; rfl
        case c33 => unfold maxLen; simp [LM.leB_len]
        case c34 => simp [LM.leB_len]
        case c35 => simp; have := HBB.out.size; omega
        intro v' w1 hown' hgrow _
        have HW2 : Hid (w1.ownsRow w.heap.size 5 1 v' (LM.leB 4 x).length (bcells (LM.leB 4 x))) := by
          rw [HS.out, bcells_snoc, byte_of, List.length_append]
          skip
          exact hown'
        have HB2 : Hid (Below w.heap.size w w1) := (HBB.out.alloc HBB.out.size _).grown hgrow (by simp; have := HBB.out.size; omega) (fun k hk => (World.ownsRow.lt HO.out k hk).1)
        clear hown' hgrow
        go_wp2
        go_roundw
        case rel => exact ⟨4, v', by omega, rfl, rfl, HW2.out, HB2.out⟩
        case measure => simp [intOf]; omega
      · have HS : Hid (LM.leB 5 x = LM.leB 4 x ++ [UInt8.ofNat (x / (4294967296 : Int) % 256).toNat]) := hs
        clear hs
        go_wp2_with (at_builtin; go_must (refine wpList_append_own _ rfl _ _ 85 rfl w.heap.size 5 i0 (.int .u8 0) 1 1 Tryz.underlying85 hi hz0 hz1 hz2 rfl (by decide) _ _ _ rfl (World.ownsRow.alloc HO.out _) ⟨wr.heap.size, 0, none⟩ 1 1 [.int .u8 (x / 4294967296 % 256)] rfl rfl ?c41 ?c42 ?c43 ?c44 ?c45 ?_))
        case c41 =>
          intro t u hj
          match t, hj with
          | 0, hj => simp at hj; subst hj; simp [Addr.add]
        case c42 => intro u hu; simp at hu; subst hu; rfl
        case c43 => unfold maxLen; simp [LM.leB_len]
        case c44 => simp [LM.leB_len]
        case c45 => simp; have := HBB.out.size; omega
        intro v' w1 hown' hgrow _
        have HW2 : Hid (w1.ownsRow w.heap.size 5 1 v' (LM.leB 5 x).length (bcells (LM.leB 5 x))) := by
          rw [HS.out, bcells_snoc, byte_of, List.length_append]
          skip
          exact hown'
        have HB2 : Hid (Below w.heap.size w w1) := (HBB.out.alloc HBB.out.size _).grown hgrow (by simp; have := HBB.out.size; omega) (fun k hk => (World.ownsRow.lt HO.out k hk).1)
        clear hown' hgrow
        go_wp2
        go_roundw
        case rel => exact ⟨5, v', by omega, rfl, rfl, HW2.out, HB2.out⟩
        case measure => simp [intOf]; omega
      · have HS : Hid (LM.leB 6 x = LM.leB 5 x ++ [UInt8.ofNat (x / (1099511627776 : Int) % 256).toNat]) := hs
        clear hs
        go_wp2_with (at_builtin; go_must (refine wpList_append_own _ rfl _ _ 85 rfl w.heap.size 5 i0 (.int .u8 0) 1 1 Tryz.underlying85 hi hz0 hz1 hz2 rfl (by decide) _ _ _ rfl (World.ownsRow.alloc HO.out _) ⟨wr.heap.size, 0, none⟩ 1 1 [.int .u8 (x / 1099511627776 % 256)] rfl rfl ?c51 ?c52 ?c53 ?c54 ?c55 ?_))
        case c51 =>
          intro t u hj
          match t, hj with
          | 0, hj => simp at hj; subst hj; simp [Addr.add]
        case c52 => intro u hu; simp at hu; subst hu; rfl
        case c53 => unfold maxLen; simp [LM.leB_len]
        case c54 => simp [LM.leB_len]
        case c55 => simp; have := HBB.out.size; omega
        intro v' w1 hown' hgrow _
        have HW2 : Hid (w1.ownsRow w.heap.size 5 1 v' (LM.leB 6 x).length (bcells (LM.leB 6 x))) := by
          rw [HS.out, bcells_snoc, byte_of, List.length_append]
          skip
          exact hown'
        have HB2 : Hid (Below w.heap.size w w1) := (HBB.out.alloc HBB.out.size _).grown hgrow (by simp; have := HBB.out.size; omega) (fun k hk => (World.ownsRow.lt HO.out k hk).1)
        clear hown' hgrow
        go_wp2
        go_roundw
        case rel => exact ⟨6, v', by omega, rfl, rfl, HW2.out, HB2.out⟩
        case measure => simp [intOf]; omega
      · have HS : Hid (LM.leB 7 x = LM.leB 6 x ++ [UInt8.ofNat (x / (281474976710656 : Int) % 256).toNat]) := hs
        clear hs
        go_wp2_with (at_builtin; go_must (refine wpList_append_own _ rfl _ _ 85 rfl w.heap.size 5 i0 (.int .u8 0) 1 1 Tryz.underlying85 hi hz0 hz1 hz2 rfl (by decide) _ _ _ rfl (World.ownsRow.alloc HO.out _) ⟨wr.heap.size, 0, none⟩ 1 1 [.int .u8 (x / 281474976710656 % 256)] rfl rfl ?c61 ?c62 ?c63 ?c64 ?c65 ?_))
        case c61 =>
          intro t u hj
          match t, hj with
          | 0, hj => simp at hj; subst hj; simp [Addr.add]
        case c62 => intro u hu; simp at hu; subst hu; rfl
        case c63 => unfold maxLen; simp [LM.leB_len]
        case c64 => simp [LM.leB_len]
        case c65 => simp; have := HBB.out.size; omega
        intro v' w1 hown' hgrow _
        have HW2 : Hid (w1.ownsRow w.heap.size 5 1 v' (LM.leB 7 x).length (bcells (LM.leB 7 x))) := by
          rw [HS.out, bcells_snoc, byte_of, List.length_append]
          skip
          exact hown'
        have HB2 : Hid (Below w.heap.size w w1) := (HBB.out.alloc HBB.out.size _).grown hgrow (by simp; have := HBB.out.size; omega) (fun k hk => (World.ownsRow.lt HO.out k hk).1)
        clear hown' hgrow
        go_wp2
        go_roundw
        case rel => exact ⟨7, v', by omega, rfl, rfl, HW2.out, HB2.out⟩
        case measure => simp [intOf]; omega
      · have HS : Hid (LM.leB 8 x = LM.leB 7 x ++ [UInt8.ofNat (x / (72057594037927936 : Int) % 256).toNat]) := hs
        clear hs
        go_wp2_with (at_builtin; go_must (refine wpList_append_own _ rfl _ _ 85 rfl w.heap.size 5 i0 (.int .u8 0) 1 1 Tryz.underlying85 hi hz0 hz1 hz2 rfl (by decide) _ _ _ rfl (World.ownsRow.alloc HO.out _) ⟨wr.heap.size, 0, none⟩ 1 1 [.int .u8 (x / 72057594037927936 % 256)] rfl rfl ?c71 ?c72 ?c73 ?c74 ?c75 ?_))
        case c71 =>
          intro t u hj
          match t, hj with
          | 0, hj => simp at hj; subst hj; simp [Addr.add]
        case c72 => intro u hu; simp at hu; subst hu; rfl
        case c73 => unfold maxLen; simp [LM.leB_len]
        case c74 => simp [LM.leB_len]
        case c75 => simp; have := HBB.out.size; omega
        intro v' w1 hown' hgrow _
        have HW2 : Hid (w1.ownsRow w.heap.size 5 1 v' (LM.leB 8 x).length (bcells (LM.leB 8 x))) := by
          rw [HS.out, bcells_snoc, byte_of, List.length_append]
          skip
          exact hown'
        have HB2 : Hid (Below w.heap.size w w1) := (HBB.out.alloc HBB.out.size _).grown hgrow (by simp; have := HBB.out.size; omega) (fun k hk => (World.ownsRow.lt HO.out k hk).1)
        clear hown' hgrow
        go_wp2
        go_roundw
        case rel => exact ⟨8, v', by omega, rfl, rfl, HW2.out, HB2.out⟩
        case measure => simp [intOf]; omega
    · have he : i = n := by omega
      subst he
      obtain ⟨P, c, rfl, hconv⟩ := own_text HO.out
      go_wp2
      go_ret
      exact ⟨rfl, HBB.out⟩
end Go.Proofs.YtadihhngegimkaaGreatDoor
namespace Go.Proofs.YtadihhngegimkaaGreatDoor
open Go.RowKit
set_option linter.unusedVariables false
theorem back_1 (n : Nat) (h : n < 128) : LM.back n = [UInt8.ofNat n] := by
  have hb : LM.bsz n = 1 := by unfold LM.bsz; rw [if_pos h]
  unfold LM.back; rw [hb]; show [LM.bbyte n 1 0] = _; unfold LM.bbyte
  rw [show n / 128 ^ (1 - 1 - 0) % 128 + (if 0 < 0 then 128 else 0) = n by simp; omega]
theorem back_2 (n : Nat) (h1 : 128 ≤ n) (h2 : n < 16384) : LM.back n = [UInt8.ofNat (n / 128), UInt8.ofNat (n % 128 + 128)] := by
  have hb : LM.bsz n = 2 := by unfold LM.bsz; rw [if_neg (by omega), if_pos h2]
  unfold LM.back; rw [hb]; show [LM.bbyte n 2 0, LM.bbyte n 2 1] = _; unfold LM.bbyte
  rw [show n / 128 ^ (2 - 1 - 0) % 128 + (if 0 < 0 then 128 else 0) = n / 128 by simp; omega, show n / 128 ^ (2 - 1 - 1) % 128 + (if 0 < 1 then 128 else 0) = n % 128 + 128 by simp]
theorem back_3 (n : Nat) (h1 : 16384 ≤ n) (h2 : n < 2097152) : LM.back n = [UInt8.ofNat (n / 128 / 128), UInt8.ofNat (n / 128 % 128 + 128), UInt8.ofNat (n % 128 + 128)] := by
  have hb : LM.bsz n = 3 := by unfold LM.bsz; rw [if_neg (by omega), if_neg (by omega), if_pos h2]
  unfold LM.back; rw [hb]; show [LM.bbyte n 3 0, LM.bbyte n 3 1, LM.bbyte n 3 2] = _; unfold LM.bbyte
  rw [show n / 128 ^ (3 - 1 - 0) % 128 + (if 0 < 0 then 128 else 0) = n / 128 / 128 by simp; omega, show n / 128 ^ (3 - 1 - 1) % 128 + (if 0 < 1 then 128 else 0) = n / 128 % 128 + 128 by simp, show n / 128 ^ (3 - 1 - 2) % 128 + (if 0 < 2 then 128 else 0) = n % 128 + 128 by simp]
theorem leB_1 (k : Nat) (h : k < 256) : LM.leB 1 (k : Int) = [UInt8.ofNat k] := by
  show [UInt8.ofNat ((k : Int) % 256).toNat] = _
  rw [show ((k : Int) % 256).toNat = k by omega]
theorem rlow1 (k : Nat) (z : Int) (hz : z = (k : Int)) (h : k < 256) (w : World) (c : UInt8 := UInt8.ofNat k) (hc : UInt8.ofNat k = c := by rfl) : Calls Tryz.prog 55 #[.int .i64 z, .int .i64 1] w fun e w' => e = .returned (.string ⟨#[c]⟩) ∧ Below w.heap.size w w' := by
  subst hz; subst hc
  have := rlow_any (k : Int) ⟨by omega, by omega⟩ 1 (by omega) w
  rw [leB_1 k h] at this
  exact this
set_option maxHeartbeats 1000000 in
set_option maxRecDepth 100000 in
theorem rback_any (n : Nat) (h2 : n < 2097152) (w : World) : Calls Tryz.prog 54 #[.int .i64 (n : Int)] w fun e w' => e = .returned (.string (strB (LM.back n))) ∧ Below w.heap.size w w' := by
  by_cases c1 : n < 128
  · have HB : Hid (strB (LM.back n) = ⟨#[UInt8.ofNat n]⟩) := by show _ = _; rw [back_1 n c1]; rfl
    rw [HB.out]
    go_enter Tryz.func54, Tryz.ntmps54
    go_wp2_with fail
    refine (rlow1 n _ (by omega) (by omega) _).mono ?_
    rintro e w1 ⟨rfl, hb1⟩
    go_wp2
    go_ret
    exact ⟨rfl, hb1⟩
  · have HBK : Hid ((n < 16384 → strB (LM.back n) = ⟨#[UInt8.ofNat (n / 128), UInt8.ofNat (n % 128 + 128)]⟩) ∧ (16384 ≤ n → strB (LM.back n) = ⟨#[UInt8.ofNat (n / 128 / 128), UInt8.ofNat (n / 128 % 128 + 128), UInt8.ofNat (n % 128 + 128)]⟩)) :=
      ⟨fun c2 => by rw [back_2 n (by omega) c2]; rfl, fun c2 => by rw [back_3 n c2 h2]; rfl⟩
    generalize strB (LM.back n) = RES at *
    obtain ⟨b1, hb1e⟩ : ∃ b, UInt8.ofNat (n % 128 + 128) = b := ⟨_, rfl⟩
    obtain ⟨b2, hb2e⟩ : ∃ b, UInt8.ofNat (n / 128 % 128 + 128) = b := ⟨_, rfl⟩
    rw [hb1e, hb2e] at HBK
    have HE1 : Hid _ := hb1e
    have HE2 : Hid _ := hb2e
    clear hb1e hb2e
    go_enter Tryz.func54, Tryz.ntmps54
    go_wp2_with fail
    refine (rlow1 (n % 128) _ (by omega) (by omega) _).mono ?_
    rintro e w1 ⟨rfl, hb1⟩
    have HB1 : Hid (Below w.heap.size w w1) := hb1
    clear hb1
    go_wp2_with fail
    refine (rlow1 (n % 128 + 128) _ (by omega) (by omega) _ b1 HE1.out).mono ?_
    rintro e w2 ⟨rfl, hb2⟩
    have HB2 : Hid (Below w.heap.size w w2) := bel_to HB1.out hb2 (Nat.le_refl _)
    clear hb2
    go_wp2
    go_loopw [0, 3] (fun cn cs wr => Below w.heap.size w wr ∧ ((cn = .int .i64 ((n / 128 : Nat) : Int) ∧ cs = .string ⟨#[b1]⟩) ∨ (16384 ≤ n ∧ cn = .int .i64 ((n / 128 / 128 : Nat) : Int) ∧ cs = .string ⟨#[b2, b1]⟩))) (fun cn _ _ => (intOf cn).toNat)
    case atStart => exact ⟨HB2.out, Or.inl ⟨rfl, rfl⟩⟩
    case round =>
      obtain ⟨hb, ⟨rfl, rfl⟩ | ⟨hn, rfl, rfl⟩⟩ := hrel
      · have HB : Hid (Below w.heap.size w wr) := hb
        clear hb
        by_cases c2 : n < 16384
        · have hm : n / 128 < 128 := by omega
          have HRS : Hid _ := HBK.out.1 c2
          obtain ⟨m, hme⟩ : ∃ m, n / 128 = m := ⟨_, rfl⟩
          rw [hme] at hm HRS ⊢
          clear hme c2
          obtain ⟨b3, hb3e⟩ : ∃ b, UInt8.ofNat m = b := ⟨_, rfl⟩
          rw [hb3e] at HRS
          have HE3 : Hid _ := hb3e
          clear hb3e
          go_wp2_with fail
          refine (rlow1 m _ rfl (by omega) _ b3 HE3.out).mono ?_
          rintro e w3 ⟨rfl, hb3⟩
          have HB3 : Hid (Below w.heap.size w w3) := bel_to HB.out hb3 (Nat.le_refl _)
          clear hb3
          go_wp2
          go_ret
          exact ⟨by rw [HRS.out]; rfl, HB3.out⟩
        · have hm : 128 ≤ n / 128 := by omega
          have hm3 : n / 128 < 16384 := by omega
          have hn3 : 16384 ≤ n := by omega
          obtain ⟨m, hme⟩ : ∃ m, n / 128 = m := ⟨_, rfl⟩
          have HME : Hid _ := hme
          rw [hme] at hm hm3 ⊢
          clear hme c2
          go_wp2_with fail
          refine (rlow1 (m % 128 + 128) _ (by omega) (by omega) _ b2 (by rw [← HME.out]; exact HE2.out)).mono ?_
          rintro e w3 ⟨rfl, hb3⟩
          have HB3 : Hid (Below w.heap.size w w3) := bel_to HB.out hb3 (Nat.le_refl _)
          clear hb3
          go_wp2
          go_roundw
          case rel => exact ⟨HB3.out, Or.inr ⟨hn3, by first | rfl | (rw [HME.out]; rfl), rfl⟩⟩
          case measure => simp [intOf]; omega
      · have HB : Hid (Below w.heap.size w wr) := hb
        have HRS : Hid _ := HBK.out.2 hn
        have hm : n / 128 / 128 < 128 := by omega
        obtain ⟨m, hme⟩ : ∃ m, n / 128 / 128 = m := ⟨_, rfl⟩
        rw [hme] at hm HRS ⊢
        clear hme hb hn
        obtain ⟨b3, hb3e⟩ : ∃ b, UInt8.ofNat m = b := ⟨_, rfl⟩
        rw [hb3e] at HRS
        have HE3 : Hid _ := hb3e
        clear hb3e
        go_wp2_with fail
        refine (rlow1 m _ rfl (by omega) _ b3 HE3.out).mono ?_
        rintro e w3 ⟨rfl, hb3⟩
        have HB3 : Hid (Below w.heap.size w w3) := bel_to HB.out hb3 (Nat.le_refl _)
        clear hb3
        go_wp2
        go_ret
        exact ⟨by rw [HRS.out]; rfl, HB3.out⟩
end Go.Proofs.YtadihhngegimkaaGreatDoor
