import Derived.Test.YtadihhngegimkaaGreatDoorLeaf3
namespace Go.Proofs.YtadihhngegimkaaGreatDoor
open Go.RowKit
set_option linter.unusedVariables false
def strE (l : List UInt8) : ByteArray := strB l
theorem ext_strB (s : ByteArray) (a b : Nat) : s.extract a b = strB ((s.data.toList.drop a).take (b - a)) := by
  rw [← strB_of (s.extract a b), ext_any]
theorem cut_ok (s : ByteArray) (a k : Nat) (h : a + k ≤ s.size) (hs : s.size ≤ 9223372036854775807) (w : World) : Calls Tryz.prog 65 #[.string s, .int .i64 a, .int .i64 k] w fun e w' => e = .returned (.string (strB ((s.data.toList.drop a).take k))) ∧ w' = w := by
  have hd : decide ((k : Int) ≤ (s.size : Int) - a) = true := dec_t (by omega)
  have HE : Hid (s.extract a (a + k) = strB ((s.data.toList.drop a).take k)) := by show _ = _; rw [ext_strB, show a + k - a = k by omega]
  go_enter Tryz.func65, Tryz.ntmps65
  go_wp2_with fail
  refine (must_ok _).mono ?_
  rintro e w1 ⟨rfl, rfl⟩
  go_wp2
  go_ret
  refine ⟨?_, rfl⟩
  rw [← HE.out]; rfl
theorem cut_bad (s : ByteArray) (a k : Nat) (h : s.size < a + k) (ha : a ≤ s.size) (hs : s.size ≤ 9223372036854775807) (w : World) : Calls Tryz.prog 65 #[.string s, .int .i64 a, .int .i64 k] w fun e w' => e = .panicked pch ∧ w' = w := by
  have hd : decide ((k : Int) ≤ (s.size : Int) - a) = false := dec_f (by omega)
  go_enter Tryz.func65, Tryz.ntmps65
  go_wp2_with fail
  refine (must_bad _).mono ?_
  rintro e w1 ⟨rfl, rfl⟩
  exact ⟨rfl, rfl, rfl⟩
theorem bl7 : ∀ n : Fin 128, 1 ≤ n.val → 1 ≤ Lib.bitLen n.val ∧ Lib.bitLen n.val ≤ 7 := by decide +kernel
theorem bl_j (j n : Nat) (h1 : 128 ^ j ≤ n) (h2 : n / 128 ^ j < 128) (h3 : n < 2 ^ 64) : 7 * j + 1 ≤ Lib.bitLen n ∧ Lib.bitLen n ≤ 7 * j + 7 := by
  have e : (128 : Nat) ^ j = 2 ^ (7 * j) := by rw [Nat.pow_mul]
  rw [e] at h1 h2
  rw [Lib.bitLen_shift (7 * j) n h1 h3]
  have h4 : 1 ≤ n / 2 ^ (7 * j) := (Nat.one_le_div_iff (Nat.two_pow_pos _)).2 h1
  have := bl7 ⟨n / 2 ^ (7 * j), h2⟩ h4
  simp only at this
  omega
theorem bsz_bl (n : Nat) (h1 : 1 ≤ n) (h2 : n < 34359738368) : (Lib.bitLen n + 6) / 7 = LM.bsz n := by
  unfold LM.bsz
  split
  · have := bl_j 0 n (by simpa using h1) (by simpa using by assumption) (by omega); omega
  split
  · have := bl_j 1 n (by simp; omega) (by simp; omega) (by omega); omega
  split
  · have := bl_j 2 n (by simp; omega) (by simp; omega) (by omega); omega
  split
  · have := bl_j 3 n (by simp; omega) (by simp; omega) (by omega); omega
  · have := bl_j 4 n (by simp; omega) (by simp; omega) (by omega); omega
theorem bsz_any (n : Nat) (h1 : 1 ≤ n) (h2 : n < 34359738368) (w : World) : Calls Tryz.prog 42 #[.int .i64 n] w fun e w' => e = .returned (.int .i64 (LM.bsz n : Nat)) ∧ w' = w := by
  have HB : Hid ((Lib.bitLen n + 6) / 7 = LM.bsz n) := bsz_bl n h1 h2
  have hl : Lib.bitLen n ≤ 64 := by
    have := bsz_bl n h1 h2; have := LM.bsz_le n; omega
  go_enter Tryz.func42, Tryz.ntmps42
  go_wp2_with fail
  refine (Tryz.bits_Len n _ (by omega) (by omega)).mono ?_
  rintro e w1 ⟨rfl, rfl⟩
  rw [Int.toNat_natCast]
  go_wp2
  go_ret
  refine ⟨?_, rfl⟩
  rw [← HB.out]
  exact ret_int (by omega)
theorem bbyte_val (n g i : Nat) : ((LM.bbyte n g i).toNat : Int) = ((n / 128 ^ (g - 1 - i) % 128 + (if 0 < i then 128 else 0) : Nat) : Int) := by
  unfold LM.bbyte; rw [LM.ofNat_toNat _ (by split <;> omega)]
set_option maxHeartbeats 1000000 in
theorem bb_any (n g i : Nat) (hn : n < 4294967296) (hg : g ≤ 3) (hi : i < g) (w : World) : Calls Tryz.prog 66 #[.int .i64 n, .int .i64 g, .int .i64 i] w fun e w' => e = .returned (.int .u8 ((LM.bbyte n g i).toNat : Int)) ∧ w' = w := by
  have HV : Hid _ := bbyte_val n g i
  rcases (show (g = 1 ∧ i = 0) ∨ (g = 2 ∧ i = 0) ∨ (g = 2 ∧ i = 1) ∨ (g = 3 ∧ i = 0) ∨ (g = 3 ∧ i = 1) ∨ (g = 3 ∧ i = 2) by omega) with ⟨rfl, rfl⟩ | ⟨rfl, rfl⟩ | ⟨rfl, rfl⟩ | ⟨rfl, rfl⟩ | ⟨rfl, rfl⟩ | ⟨rfl, rfl⟩
  all_goals
    go_enter Tryz.func66, Tryz.ntmps66
    go_wp2
    go_ret
    refine ⟨?_, rfl⟩
    rw [HV.out]
    refine congrArg (fun x => Ending.returned (.int .u8 x)) ?_
    simp only [Nat.reduceSub, Nat.reducePow, Nat.lt_irrefl, Nat.zero_lt_succ, if_true, if_false, Nat.div_one, Nat.lt_add_one]
  all_goals omega
def encI (it : LM.Item) : Value := .agg #[.string (strB it.txt), .int .i64 it.num, .bool it.isN]
theorem encI_eq (it : LM.Item) : encI it = .agg #[.string (strB it.txt), .int .i64 it.num, .bool it.isN] := rfl
theorem size_num (n : Int) (t : ByteArray) (hn : LM.I64 n) (w : World) (hw : Wid w) : Calls Tryz.prog 64 #[.agg #[.string t, .int .i64 n, .bool true]] w fun e w' => e = .returned (.int .i64 (LM.nsize n : Nat)) ∧ Below w.heap.size w w' := by
  have HW : Hid (Wid w) := hw
  have HN : Hid (LM.I64 n) := hn
  clear hw hn
  go_enter Tryz.func64, Tryz.ntmps64
  go_wp2_with fail
  refine (nsz_any n HN.out _ (HW.out.on ((Below.refl _ w).alloc (Nat.le_refl _) _))).mono ?_
  rintro e w1 ⟨rfl, rfl⟩
  go_wp2
  go_ret
  exact ⟨rfl, (Below.refl _ w).alloc (Nat.le_refl _) _⟩
theorem quiet0 {f : Nat} {args : Array Value} {v : Value} {w : World} (h : Calls Tryz.prog f args w fun e w' => e = .returned v ∧ w' = w) : Calls Tryz.prog f args w fun e w' => e = .returned v ∧ ∃ n, w' = w.drewN n :=
  h.mono (fun e w' ⟨h1, h2⟩ => ⟨h1, 0, h2⟩)
theorem size_txt (n : Int) (t : ByteArray) (ht : t.size ≤ 4294967296) (w : World) : Calls Tryz.prog 64 #[.agg #[.string t, .int .i64 n, .bool false]] w fun e w' => e = .returned (.int .i64 (LM.thead t.size + t.size : Nat)) ∧ Below w.heap.size w w' := by
  have hth : LM.thead t.size ≤ 5 := by unfold LM.thead; (repeat' split) <;> omega
  obtain ⟨W1, hW1⟩ : ∃ W1, W1 = w.alloc (.cells #[.string t, .int .i64 n, .bool false] 61) := ⟨_, rfl⟩
  have HB : Hid (Below w.heap.size w W1) := by rw [hW1]; exact (Below.refl _ w).alloc (Nat.le_refl _) _
  have c0 : W1.cell? ⟨w.heap.size, 0, none⟩ = some (.string t) := by rw [hW1]; simp [go_sem]
  have HC : Hid (∀ W, Calls Tryz.prog 81 #[.int .i64 (t.size : Int)] W fun e w' => e = .returned (.int .i64 (LM.thead t.size : Nat)) ∧ ∃ n, w' = W.drewN n) := fun W => quiet0 (th_any t.size (by omega) W)
  have hwr : IntKind.i64.wrap ((LM.thead t.size : Nat) + (t.size : Int)) = ((LM.thead t.size + t.size : Nat) : Int) := by rw [IntKind.wrap_i64]; omega
  go_enter Tryz.func64, Tryz.ntmps64
  go_wp2
  rw [← hW1]
  clear hW1
  go_quiet ((go_at_call 81; exact Calls.quiet_of (HC.out _)))
  go_wp2
  go_ret
  exact ⟨ret_int (by omega), below_dn HB.out _⟩
end Go.Proofs.YtadihhngegimkaaGreatDoor
