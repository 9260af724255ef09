import Derived.Test.YtnfbaeajalnmmaaGreatDoorHP
namespace Go.Proofs.YtnfbaeajalnmmaaGreatDoor
open Go.RowKit Vi
set_option linter.unusedVariables false
set_option linter.unusedSimpArgs false
set_option maxHeartbeats 8000000 in
set_option maxRecDepth 20000 in
theorem rd_l126_a (s : ByteArray) (D : Int) (hs : s.size ≤ 281474976710656) (a : Nat) (ha : a + 1 < s.size) (h13 : s[a] = 13) (h10 : s[a + 1] = 10) (hno : ∀ i, i < a → ∀ h : i < s.size, s[i] ≠ 13 ∧ s[i] ≠ 10) (ha1 : 1 ≤ a) (hm : s[0] = 126) (T : ByteArray) (hT : s.extract 1 a = T) (hn : numberOf T.data.toList = none) (w : World) :
    Calls Tryz.prog 18 #[.string s, .int .i64 D] w fun e w' => LdIs { e := 120 } w w' e := by
  obtain ⟨rb, hrb⟩ : ∃ rb, w.heap.size = rb := ⟨_, rfl⟩
  obtain ⟨W0, hW0⟩ : ∃ W, W = (w.alloc (.cells #[.int .i64 0, .string ⟨#[]⟩, .int .i64 0, .slice none 0 0] 24)).alloc (.cells #[.int .i64 0, .string ⟨#[]⟩, .int .i64 0, .slice none 0 0] 24) := ⟨_, rfl⟩
  have hb0 : Below w.heap.size w W0 := by rw [hW0]; exact ((Below.refl _ _).alloc (Nat.le_refl _) _).alloc (by simp) _
  have hr0 : W0.heap[rb]? = some (.cells #[.int .i64 0, .string ⟨#[]⟩, .int .i64 0, .slice none 0 0] 24) := by
    rw [hW0, ← hrb]; exact keep_row (one_alloc _ _) ((Below.refl _ _).alloc (Nat.le_refl _) _)
  have hq0 : W0.heap[rb + 1]? = some (.cells #[.int .i64 0, .string ⟨#[]⟩, .int .i64 0, .slice none 0 0] 24) := by
    have h9 := one_alloc (w.alloc (.cells #[.int .i64 0, .string ⟨#[]⟩, .int .i64 0, .slice none 0 0] 24)) (.cells #[.int .i64 0, .string ⟨#[]⟩, .int .i64 0, .slice none 0 0] 24)
    rw [hW0, ← hrb]; simpa using h9
  have HB0 : Hid (Below w.heap.size w W0) := hb0
  have HR0 : Hid _ := hr0
  have HQ0 : Hid _ := hq0
  have HRW : Hid (w.heap.size ≤ rb) := Nat.le_of_eq hrb
  obtain ⟨z0, z1, z2, z3, zf⟩ := prow4 HR0.out
  obtain ⟨y0, y1, y2, y3, yf⟩ := prow4 HQ0.out
  clear hb0 hr0 hq0
  have HNO : Hid _ := hno
  have hle : s.toList.isEmpty = false := str_full (by omega)
  have hz : (0 : Int) < (s.size : Int) := by omega
  have hmax : max (1 : Int) (a : Int) = (a : Int) := by omega
  have h1a : (1 : Int) ≤ (a : Int) := by omega
  have hal : (a : Int) ≤ (s.size : Int) := by omega
  have ha0 : ((a : Int) == 0) = false := by simp; omega
  have hm0 : (s[0].toNat : Int) = 126 := by rw [hm]; rfl
  have hTs : T.size ≤ 281474976710656 := by rw [← hT, ext_size _ _ _ (by omega)]; omega
  have HN : Hid (∀ W, Calls Tryz.prog 34 #[.string T] W fun e w' => e = .returned (.tuple #[.int .i64 0, .bool false]) ∧ Below W.heap.size W w') := fun W => by
    have h9 := refNumber_any T (by unfold maxLen; omega) W
    rw [numT_none hn] at h9; exact h9
  clear hn
  clear hm hno
  go_enter Tryz.func18, Tryz.ntmps18
  go_upto_region 2 with fail
  rw [← hW0]
  clear hW0 hrb
  go_wp2
  go_loopw [8] (fun ci wr => ∃ i : Nat, (i ≤ a ∧ wr = W0) ∧ ci = .int .i64 (i : Int)) (fun ci _ => a - (intOf ci).toNat)
  case atStart => exact ⟨0, ⟨Nat.zero_le _, rfl⟩, rfl⟩
  case round =>
    obtain ⟨i, ⟨hi, hw⟩, rfl⟩ := hrel
    subst hw
    by_cases hlt : i < a
    · have hil : i < s.size := by omega
      have hq1 : ((s[i].toNat : Int) != 13) = true := ne_mark (HNO.out i hlt hil).1 rfl
      have hq2 : ((s[i].toNat : Int) != 10) = true := ne_mark (HNO.out i hlt hil).2 rfl
      have hz0 : (0 : Int) ≤ (i : Int) := by omega
      have hz1 : (i : Int) < (s.size : Int) := by omega
      go_wp2
      go_roundw
      case rel => first | exact ⟨i + 1, ⟨by omega, trivial⟩, rfl⟩ | exact ⟨i + 1, ⟨by omega, rfl⟩, rfl⟩
      case measure => simp [intOf]; omega
    · have hik : i = a := by omega
      subst hik
      have hz0 : (0 : Int) ≤ (i : Int) := by omega
      have hz1 : (i : Int) < (s.size : Int) := by omega
      have hzs : i < s.size := by omega
      have hq1 : ((s[i].toNat : Int) != 13) = false := by rw [h13]; rfl
      have hq1b : ((s[i].toNat : Int) == 13) = true := by rw [h13]; rfl
      have hq3 : ((s[i + 1].toNat : Int) != 10) = false := by rw [h10]; rfl
      have hne1 : ((i : Int) == (s.size : Int)) = false := by simp; omega
      have hne2 : (((i : Int) + 1) == (s.size : Int)) = false := by simp; omega
      have hz2 : (0 : Int) ≤ (i : Int) + 1 := by omega
      have hz3 : (i : Int) + 1 < (s.size : Int) := by omega
      have hw1 : IntKind.i64.wrap ((i : Int) + 1) = (i : Int) + 1 := by rw [IntKind.wrap_i64] <;> omega
      have hw2 : IntKind.i64.wrap ((i : Int) + 2) = (i : Int) + 2 := by rw [IntKind.wrap_i64] <;> omega
      have hz4 : (0 : Int) ≤ (i : Int) + 2 := by omega
      have hz5 : (i : Int) + 2 ≤ (s.size : Int) := by omega
      go_wp2_with fail
      refine (HN.out _).mono ?_
      rintro e w1 ⟨rfl, hb1⟩
      have HB1 : Hid (Below w.heap.size w w1) := HB0.out.trans (hb1.mono HB0.out.size)
      have HR1 : Hid (w1.heap[rb]? = some (.cells #[.int .i64 0, .string ⟨#[]⟩, .int .i64 0, .slice none 0 0] 24)) := keep_row HR0.out hb1
      have HQ1 : Hid (w1.heap[rb + 1]? = some (.cells #[.int .i64 0, .string ⟨#[]⟩, .int .i64 0, .slice none 0 0] 24)) := keep_row HQ0.out hb1
      clear z0 z1 z2 z3 zf y0 y1 y2 y3 yf hb1
      obtain ⟨z0, z1, z2, z3, zf⟩ := prow4 HR1.out
      obtain ⟨y0, y1, y2, y3, yf⟩ := prow4 HQ1.out
      go_wp2
      exact rp3_fin _ 4 5 6 Tryz.results18 HR1.out _ _ _ _ _ _ _ (fun w' ho => ld_err 120 rfl (by decide) (HB1.out.trans (ho.below HRW.out))) _ rfl rfl rfl rfl
set_option maxHeartbeats 8000000 in
set_option maxRecDepth 20000 in
theorem rd_l126_b (s : ByteArray) (D : Int) (hs : s.size ≤ 281474976710656) (a : Nat) (ha : a + 1 < s.size) (h13 : s[a] = 13) (h10 : s[a + 1] = 10) (hno : ∀ i, i < a → ∀ h : i < s.size, s[i] ≠ 13 ∧ s[i] ≠ 10) (ha1 : 1 ≤ a) (hm : s[0] = 126) (T : ByteArray) (hT : s.extract 1 a = T) (n : Int) (hn : numberOf T.data.toList = some n) (hneg : n < 0) (w : World) :
    Calls Tryz.prog 18 #[.string s, .int .i64 D] w fun e w' => LdIs { e := 120 } w w' e := by
  obtain ⟨rb, hrb⟩ : ∃ rb, w.heap.size = rb := ⟨_, rfl⟩
  obtain ⟨W0, hW0⟩ : ∃ W, W = (w.alloc (.cells #[.int .i64 0, .string ⟨#[]⟩, .int .i64 0, .slice none 0 0] 24)).alloc (.cells #[.int .i64 0, .string ⟨#[]⟩, .int .i64 0, .slice none 0 0] 24) := ⟨_, rfl⟩
  have hb0 : Below w.heap.size w W0 := by rw [hW0]; exact ((Below.refl _ _).alloc (Nat.le_refl _) _).alloc (by simp) _
  have hr0 : W0.heap[rb]? = some (.cells #[.int .i64 0, .string ⟨#[]⟩, .int .i64 0, .slice none 0 0] 24) := by
    rw [hW0, ← hrb]; exact keep_row (one_alloc _ _) ((Below.refl _ _).alloc (Nat.le_refl _) _)
  have hq0 : W0.heap[rb + 1]? = some (.cells #[.int .i64 0, .string ⟨#[]⟩, .int .i64 0, .slice none 0 0] 24) := by
    have h9 := one_alloc (w.alloc (.cells #[.int .i64 0, .string ⟨#[]⟩, .int .i64 0, .slice none 0 0] 24)) (.cells #[.int .i64 0, .string ⟨#[]⟩, .int .i64 0, .slice none 0 0] 24)
    rw [hW0, ← hrb]; simpa using h9
  have HB0 : Hid (Below w.heap.size w W0) := hb0
  have HR0 : Hid _ := hr0
  have HQ0 : Hid _ := hq0
  have HRW : Hid (w.heap.size ≤ rb) := Nat.le_of_eq hrb
  obtain ⟨z0, z1, z2, z3, zf⟩ := prow4 HR0.out
  obtain ⟨y0, y1, y2, y3, yf⟩ := prow4 HQ0.out
  clear hb0 hr0 hq0
  have HNO : Hid _ := hno
  have hle : s.toList.isEmpty = false := str_full (by omega)
  have hz : (0 : Int) < (s.size : Int) := by omega
  have hmax : max (1 : Int) (a : Int) = (a : Int) := by omega
  have h1a : (1 : Int) ≤ (a : Int) := by omega
  have hal : (a : Int) ≤ (s.size : Int) := by omega
  have ha0 : ((a : Int) == 0) = false := by simp; omega
  have hm0 : (s[0].toNat : Int) = 126 := by rw [hm]; rfl
  have hTs : T.size ≤ 281474976710656 := by rw [← hT, ext_size _ _ _ (by omega)]; omega
  have HN : Hid (∀ W, Calls Tryz.prog 34 #[.string T] W fun e w' => e = .returned (.tuple #[.int .i64 n, .bool true]) ∧ Below W.heap.size W w') := fun W => by
    have h9 := refNumber_any T (by unfold maxLen; omega) W
    rw [numT_some hn] at h9; exact h9
  have hdn : decide ((0 : Int) ≤ n) = false := dec_f (by omega)
  clear hn
  clear hm hno
  go_enter Tryz.func18, Tryz.ntmps18
  go_upto_region 2 with fail
  rw [← hW0]
  clear hW0 hrb
  go_wp2
  go_loopw [8] (fun ci wr => ∃ i : Nat, (i ≤ a ∧ wr = W0) ∧ ci = .int .i64 (i : Int)) (fun ci _ => a - (intOf ci).toNat)
  case atStart => exact ⟨0, ⟨Nat.zero_le _, rfl⟩, rfl⟩
  case round =>
    obtain ⟨i, ⟨hi, hw⟩, rfl⟩ := hrel
    subst hw
    by_cases hlt : i < a
    · have hil : i < s.size := by omega
      have hq1 : ((s[i].toNat : Int) != 13) = true := ne_mark (HNO.out i hlt hil).1 rfl
      have hq2 : ((s[i].toNat : Int) != 10) = true := ne_mark (HNO.out i hlt hil).2 rfl
      have hz0 : (0 : Int) ≤ (i : Int) := by omega
      have hz1 : (i : Int) < (s.size : Int) := by omega
      go_wp2
      go_roundw
      case rel => first | exact ⟨i + 1, ⟨by omega, trivial⟩, rfl⟩ | exact ⟨i + 1, ⟨by omega, rfl⟩, rfl⟩
      case measure => simp [intOf]; omega
    · have hik : i = a := by omega
      subst hik
      have hz0 : (0 : Int) ≤ (i : Int) := by omega
      have hz1 : (i : Int) < (s.size : Int) := by omega
      have hzs : i < s.size := by omega
      have hq1 : ((s[i].toNat : Int) != 13) = false := by rw [h13]; rfl
      have hq1b : ((s[i].toNat : Int) == 13) = true := by rw [h13]; rfl
      have hq3 : ((s[i + 1].toNat : Int) != 10) = false := by rw [h10]; rfl
      have hne1 : ((i : Int) == (s.size : Int)) = false := by simp; omega
      have hne2 : (((i : Int) + 1) == (s.size : Int)) = false := by simp; omega
      have hz2 : (0 : Int) ≤ (i : Int) + 1 := by omega
      have hz3 : (i : Int) + 1 < (s.size : Int) := by omega
      have hw1 : IntKind.i64.wrap ((i : Int) + 1) = (i : Int) + 1 := by rw [IntKind.wrap_i64] <;> omega
      have hw2 : IntKind.i64.wrap ((i : Int) + 2) = (i : Int) + 2 := by rw [IntKind.wrap_i64] <;> omega
      have hz4 : (0 : Int) ≤ (i : Int) + 2 := by omega
      have hz5 : (i : Int) + 2 ≤ (s.size : Int) := by omega
      go_wp2_with fail
      refine (HN.out _).mono ?_
      rintro e w1 ⟨rfl, hb1⟩
      have HB1 : Hid (Below w.heap.size w w1) := HB0.out.trans (hb1.mono HB0.out.size)
      have HR1 : Hid (w1.heap[rb]? = some (.cells #[.int .i64 0, .string ⟨#[]⟩, .int .i64 0, .slice none 0 0] 24)) := keep_row HR0.out hb1
      have HQ1 : Hid (w1.heap[rb + 1]? = some (.cells #[.int .i64 0, .string ⟨#[]⟩, .int .i64 0, .slice none 0 0] 24)) := keep_row HQ0.out hb1
      clear z0 z1 z2 z3 zf y0 y1 y2 y3 yf hb1
      obtain ⟨z0, z1, z2, z3, zf⟩ := prow4 HR1.out
      obtain ⟨y0, y1, y2, y3, yf⟩ := prow4 HQ1.out
      go_wp2
      exact rp3_fin _ 4 5 6 Tryz.results18 HR1.out _ _ _ _ _ _ _ (fun w' ho => ld_err 120 rfl (by decide) (HB1.out.trans (ho.below HRW.out))) _ rfl rfl rfl rfl
set_option maxHeartbeats 8000000 in
set_option maxRecDepth 20000 in
theorem rd_l126_c (s : ByteArray) (D : Int) (hs : s.size ≤ 281474976710656) (a : Nat) (ha : a + 1 < s.size) (h13 : s[a] = 13) (h10 : s[a + 1] = 10) (hno : ∀ i, i < a → ∀ h : i < s.size, s[i] ≠ 13 ∧ s[i] ≠ 10) (ha1 : 1 ≤ a) (hm : s[0] = 126) (T : ByteArray) (hT : s.extract 1 a = T) (n : Nat) (hn : numberOf T.data.toList = some (n : Int)) (hbad : 1048576 < (n : Int) ∨ 32 < D) (w : World) :
    Calls Tryz.prog 18 #[.string s, .int .i64 D] w fun e w' => LdIs { e := 120 } w w' e := by
  obtain ⟨rb, hrb⟩ : ∃ rb, w.heap.size = rb := ⟨_, rfl⟩
  obtain ⟨W0, hW0⟩ : ∃ W, W = (w.alloc (.cells #[.int .i64 0, .string ⟨#[]⟩, .int .i64 0, .slice none 0 0] 24)).alloc (.cells #[.int .i64 0, .string ⟨#[]⟩, .int .i64 0, .slice none 0 0] 24) := ⟨_, rfl⟩
  have hb0 : Below w.heap.size w W0 := by rw [hW0]; exact ((Below.refl _ _).alloc (Nat.le_refl _) _).alloc (by simp) _
  have hr0 : W0.heap[rb]? = some (.cells #[.int .i64 0, .string ⟨#[]⟩, .int .i64 0, .slice none 0 0] 24) := by
    rw [hW0, ← hrb]; exact keep_row (one_alloc _ _) ((Below.refl _ _).alloc (Nat.le_refl _) _)
  have hq0 : W0.heap[rb + 1]? = some (.cells #[.int .i64 0, .string ⟨#[]⟩, .int .i64 0, .slice none 0 0] 24) := by
    have h9 := one_alloc (w.alloc (.cells #[.int .i64 0, .string ⟨#[]⟩, .int .i64 0, .slice none 0 0] 24)) (.cells #[.int .i64 0, .string ⟨#[]⟩, .int .i64 0, .slice none 0 0] 24)
    rw [hW0, ← hrb]; simpa using h9
  have HB0 : Hid (Below w.heap.size w W0) := hb0
  have HR0 : Hid _ := hr0
  have HQ0 : Hid _ := hq0
  have HRW : Hid (w.heap.size ≤ rb) := Nat.le_of_eq hrb
  obtain ⟨z0, z1, z2, z3, zf⟩ := prow4 HR0.out
  obtain ⟨y0, y1, y2, y3, yf⟩ := prow4 HQ0.out
  clear hb0 hr0 hq0
  have HNO : Hid _ := hno
  have hle : s.toList.isEmpty = false := str_full (by omega)
  have hz : (0 : Int) < (s.size : Int) := by omega
  have hmax : max (1 : Int) (a : Int) = (a : Int) := by omega
  have h1a : (1 : Int) ≤ (a : Int) := by omega
  have hal : (a : Int) ≤ (s.size : Int) := by omega
  have ha0 : ((a : Int) == 0) = false := by simp; omega
  have hm0 : (s[0].toNat : Int) = 126 := by rw [hm]; rfl
  have hTs : T.size ≤ 281474976710656 := by rw [← hT, ext_size _ _ _ (by omega)]; omega
  have HN : Hid (∀ W, Calls Tryz.prog 34 #[.string T] W fun e w' => e = .returned (.tuple #[.int .i64 (n : Int), .bool true]) ∧ Below W.heap.size W w') := fun W => by
    have h9 := refNumber_any T (by unfold maxLen; omega) W
    rw [numT_some hn] at h9; exact h9
  have hdn : decide ((0 : Int) ≤ (n : Int)) = true := dec_t (by omega)
  have HKD : Hid (∀ W, Calls Tryz.prog 36 #[.int .u8 126] W fun e w' => e = .returned (.int .i64 7) ∧ w' = W) := fun W => rkind_any 126 W
  have hnb := (numberOf_some hn).2.2.1
  have HCC : Hid (∀ W, Calls Tryz.prog 37 #[.string s, .int .i64 ((a : Int) + 2), .int .i64 (n : Int), .int .i64 D] W fun e w' => LdIs { e := 120 } W w' e) := fun W => rmany_no s (a + 2) n D 126 (by omega) hm (by simp) (by omega) hbad W
  clear hn hnb hbad
  clear hm hno
  go_enter Tryz.func18, Tryz.ntmps18
  go_upto_region 2 with fail
  rw [← hW0]
  clear hW0 hrb
  go_wp2
  go_loopw [8] (fun ci wr => ∃ i : Nat, (i ≤ a ∧ wr = W0) ∧ ci = .int .i64 (i : Int)) (fun ci _ => a - (intOf ci).toNat)
  case atStart => exact ⟨0, ⟨Nat.zero_le _, rfl⟩, rfl⟩
  case round =>
    obtain ⟨i, ⟨hi, hw⟩, rfl⟩ := hrel
    subst hw
    by_cases hlt : i < a
    · have hil : i < s.size := by omega
      have hq1 : ((s[i].toNat : Int) != 13) = true := ne_mark (HNO.out i hlt hil).1 rfl
      have hq2 : ((s[i].toNat : Int) != 10) = true := ne_mark (HNO.out i hlt hil).2 rfl
      have hz0 : (0 : Int) ≤ (i : Int) := by omega
      have hz1 : (i : Int) < (s.size : Int) := by omega
      go_wp2
      go_roundw
      case rel => first | exact ⟨i + 1, ⟨by omega, trivial⟩, rfl⟩ | exact ⟨i + 1, ⟨by omega, rfl⟩, rfl⟩
      case measure => simp [intOf]; omega
    · have hik : i = a := by omega
      subst hik
      have hz0 : (0 : Int) ≤ (i : Int) := by omega
      have hz1 : (i : Int) < (s.size : Int) := by omega
      have hzs : i < s.size := by omega
      have hq1 : ((s[i].toNat : Int) != 13) = false := by rw [h13]; rfl
      have hq1b : ((s[i].toNat : Int) == 13) = true := by rw [h13]; rfl
      have hq3 : ((s[i + 1].toNat : Int) != 10) = false := by rw [h10]; rfl
      have hne1 : ((i : Int) == (s.size : Int)) = false := by simp; omega
      have hne2 : (((i : Int) + 1) == (s.size : Int)) = false := by simp; omega
      have hz2 : (0 : Int) ≤ (i : Int) + 1 := by omega
      have hz3 : (i : Int) + 1 < (s.size : Int) := by omega
      have hw1 : IntKind.i64.wrap ((i : Int) + 1) = (i : Int) + 1 := by rw [IntKind.wrap_i64] <;> omega
      have hw2 : IntKind.i64.wrap ((i : Int) + 2) = (i : Int) + 2 := by rw [IntKind.wrap_i64] <;> omega
      have hz4 : (0 : Int) ≤ (i : Int) + 2 := by omega
      have hz5 : (i : Int) + 2 ≤ (s.size : Int) := by omega
      go_wp2_with fail
      refine (HN.out _).mono ?_
      rintro e w1 ⟨rfl, hb1⟩
      have HB1 : Hid (Below w.heap.size w w1) := HB0.out.trans (hb1.mono HB0.out.size)
      have HR1 : Hid (w1.heap[rb]? = some (.cells #[.int .i64 0, .string ⟨#[]⟩, .int .i64 0, .slice none 0 0] 24)) := keep_row HR0.out hb1
      have HQ1 : Hid (w1.heap[rb + 1]? = some (.cells #[.int .i64 0, .string ⟨#[]⟩, .int .i64 0, .slice none 0 0] 24)) := keep_row HQ0.out hb1
      clear z0 z1 z2 z3 zf y0 y1 y2 y3 yf hb1
      obtain ⟨z0, z1, z2, z3, zf⟩ := prow4 HR1.out
      obtain ⟨y0, y1, y2, y3, yf⟩ := prow4 HQ1.out
      go_wp2_with fail
      refine (HKD.out _).mono ?_
      rintro e w9 ⟨rfl, hw9⟩
      have hw9 := hw9.symm
      subst hw9
      go_wp2_with fail
      refine (HCC.out _).mono ?_
      rintro e w2 hde
      obtain ⟨k0, t0, n0, P, l, c, zz, x, rfl⟩ := ld_form hde
      have HDE : Hid _ := hde
      have HR2 : Hid (w2.heap[rb]? = some (.cells #[.int .i64 0, .string ⟨#[]⟩, .int .i64 0, .slice none 0 0] 24)) := keep_row HR1.out (ld_bel hde)
      have HLT : Hid (rb < w1.heap.size) := row_lt HR1.out
      clear hde z0 z1 z2 z3 zf y0 y1 y2 y3 yf
      obtain ⟨z0, z1, z2, z3, zf⟩ := prow4 HR2.out
      go_wp2
      exact rp3_fin _ 4 5 6 Tryz.results18 HR2.out _ _ _ _ _ _ _ (fun w' ho => ld_fin (h := { e := 120 }) (W1 := w1) (w2 := w2) HDE.out HB1.out ho HRW.out) _ rfl rfl rfl rfl
set_option maxHeartbeats 8000000 in
set_option maxRecDepth 20000 in
theorem rd_l126 (s : ByteArray) (D : Int) (hs : s.size ≤ 281474976710656) (a : Nat) (ha : a + 1 < s.size) (h13 : s[a] = 13) (h10 : s[a + 1] = 10) (hno : ∀ i, i < a → ∀ h : i < s.size, s[i] ≠ 13 ∧ s[i] ≠ 10) (ha1 : 1 ≤ a) (hm : s[0] = 126) (T : ByteArray) (hT : s.extract 1 a = T) (k n c : Nat) (hn : numberOf T.data.toList = some (n : Int)) (hok : (n : Int) ≤ 1048576) (hD0 : 0 ≤ D) (hD : D ≤ 32) (hc : c = if (126 : UInt8) = 37 then n * 2 else n) (IH : ∀ (W : World) (T : ByteArray), T.size ≤ 281474976710656 → Calls Tryz.prog 18 #[.string T, .int .i64 (D + 1)] W fun e w' => DeIs k (dec k T.data.toList) W w' e) (w : World) :
    Calls Tryz.prog 18 #[.string s, .int .i64 D] w fun e w' => DeIs (k + 1) (lsO k (decMany (dec k) c (s.data.toList.drop (a + 1 + 1))) (kindK 126) (a + 1)) w w' e := by
  obtain ⟨rb, hrb⟩ : ∃ rb, w.heap.size = rb := ⟨_, rfl⟩
  obtain ⟨W0, hW0⟩ : ∃ W, W = (w.alloc (.cells #[.int .i64 0, .string ⟨#[]⟩, .int .i64 0, .slice none 0 0] 24)).alloc (.cells #[.int .i64 0, .string ⟨#[]⟩, .int .i64 0, .slice none 0 0] 24) := ⟨_, rfl⟩
  have hb0 : Below w.heap.size w W0 := by rw [hW0]; exact ((Below.refl _ _).alloc (Nat.le_refl _) _).alloc (by simp) _
  have hr0 : W0.heap[rb]? = some (.cells #[.int .i64 0, .string ⟨#[]⟩, .int .i64 0, .slice none 0 0] 24) := by
    rw [hW0, ← hrb]; exact keep_row (one_alloc _ _) ((Below.refl _ _).alloc (Nat.le_refl _) _)
  have hq0 : W0.heap[rb + 1]? = some (.cells #[.int .i64 0, .string ⟨#[]⟩, .int .i64 0, .slice none 0 0] 24) := by
    have h9 := one_alloc (w.alloc (.cells #[.int .i64 0, .string ⟨#[]⟩, .int .i64 0, .slice none 0 0] 24)) (.cells #[.int .i64 0, .string ⟨#[]⟩, .int .i64 0, .slice none 0 0] 24)
    rw [hW0, ← hrb]; simpa using h9
  have HB0 : Hid (Below w.heap.size w W0) := hb0
  have HR0 : Hid _ := hr0
  have HQ0 : Hid _ := hq0
  have HRW : Hid (w.heap.size ≤ rb) := Nat.le_of_eq hrb
  obtain ⟨z0, z1, z2, z3, zf⟩ := prow4 HR0.out
  obtain ⟨y0, y1, y2, y3, yf⟩ := prow4 HQ0.out
  clear hb0 hr0 hq0
  have HNO : Hid _ := hno
  have hle : s.toList.isEmpty = false := str_full (by omega)
  have hz : (0 : Int) < (s.size : Int) := by omega
  have hmax : max (1 : Int) (a : Int) = (a : Int) := by omega
  have h1a : (1 : Int) ≤ (a : Int) := by omega
  have hal : (a : Int) ≤ (s.size : Int) := by omega
  have ha0 : ((a : Int) == 0) = false := by simp; omega
  have hm0 : (s[0].toNat : Int) = 126 := by rw [hm]; rfl
  have hTs : T.size ≤ 281474976710656 := by rw [← hT, ext_size _ _ _ (by omega)]; omega
  have HN : Hid (∀ W, Calls Tryz.prog 34 #[.string T] W fun e w' => e = .returned (.tuple #[.int .i64 (n : Int), .bool true]) ∧ Below W.heap.size W w') := fun W => by
    have h9 := refNumber_any T (by unfold maxLen; omega) W
    rw [numT_some hn] at h9; exact h9
  have hdn : decide ((0 : Int) ≤ (n : Int)) = true := dec_t (by omega)
  have HKD : Hid (∀ W, Calls Tryz.prog 36 #[.int .u8 126] W fun e w' => e = .returned (.int .i64 7) ∧ w' = W) := fun W => rkind_any 126 W
  have HCC : Hid (∀ W, Calls Tryz.prog 37 #[.string s, .int .i64 ((a : Int) + 2), .int .i64 (n : Int), .int .i64 D] W fun e w' => DeIs (k + 1) (lsO k (decMany (dec k) c (s.data.toList.drop (a + 1 + 1))) (kindK 126) (a + 1)) W w' e) := fun W => rmany_any k s (a + 1) n c D 126 (by omega) hm (by simp) hs (by omega) hok hD0 hD hc W (fun W' T hT _ => IH W' T hT)
  clear hn hc IH
  clear hm hno
  go_enter Tryz.func18, Tryz.ntmps18
  go_upto_region 2 with fail
  rw [← hW0]
  clear hW0 hrb
  go_wp2
  go_loopw [8] (fun ci wr => ∃ i : Nat, (i ≤ a ∧ wr = W0) ∧ ci = .int .i64 (i : Int)) (fun ci _ => a - (intOf ci).toNat)
  case atStart => exact ⟨0, ⟨Nat.zero_le _, rfl⟩, rfl⟩
  case round =>
    obtain ⟨i, ⟨hi, hw⟩, rfl⟩ := hrel
    subst hw
    by_cases hlt : i < a
    · have hil : i < s.size := by omega
      have hq1 : ((s[i].toNat : Int) != 13) = true := ne_mark (HNO.out i hlt hil).1 rfl
      have hq2 : ((s[i].toNat : Int) != 10) = true := ne_mark (HNO.out i hlt hil).2 rfl
      have hz0 : (0 : Int) ≤ (i : Int) := by omega
      have hz1 : (i : Int) < (s.size : Int) := by omega
      go_wp2
      go_roundw
      case rel => first | exact ⟨i + 1, ⟨by omega, trivial⟩, rfl⟩ | exact ⟨i + 1, ⟨by omega, rfl⟩, rfl⟩
      case measure => simp [intOf]; omega
    · have hik : i = a := by omega
      subst hik
      have hz0 : (0 : Int) ≤ (i : Int) := by omega
      have hz1 : (i : Int) < (s.size : Int) := by omega
      have hzs : i < s.size := by omega
      have hq1 : ((s[i].toNat : Int) != 13) = false := by rw [h13]; rfl
      have hq1b : ((s[i].toNat : Int) == 13) = true := by rw [h13]; rfl
      have hq3 : ((s[i + 1].toNat : Int) != 10) = false := by rw [h10]; rfl
      have hne1 : ((i : Int) == (s.size : Int)) = false := by simp; omega
      have hne2 : (((i : Int) + 1) == (s.size : Int)) = false := by simp; omega
      have hz2 : (0 : Int) ≤ (i : Int) + 1 := by omega
      have hz3 : (i : Int) + 1 < (s.size : Int) := by omega
      have hw1 : IntKind.i64.wrap ((i : Int) + 1) = (i : Int) + 1 := by rw [IntKind.wrap_i64] <;> omega
      have hw2 : IntKind.i64.wrap ((i : Int) + 2) = (i : Int) + 2 := by rw [IntKind.wrap_i64] <;> omega
      have hz4 : (0 : Int) ≤ (i : Int) + 2 := by omega
      have hz5 : (i : Int) + 2 ≤ (s.size : Int) := by omega
      go_wp2_with fail
      refine (HN.out _).mono ?_
      rintro e w1 ⟨rfl, hb1⟩
      have HB1 : Hid (Below w.heap.size w w1) := HB0.out.trans (hb1.mono HB0.out.size)
      have HR1 : Hid (w1.heap[rb]? = some (.cells #[.int .i64 0, .string ⟨#[]⟩, .int .i64 0, .slice none 0 0] 24)) := keep_row HR0.out hb1
      have HQ1 : Hid (w1.heap[rb + 1]? = some (.cells #[.int .i64 0, .string ⟨#[]⟩, .int .i64 0, .slice none 0 0] 24)) := keep_row HQ0.out hb1
      clear z0 z1 z2 z3 zf y0 y1 y2 y3 yf hb1
      obtain ⟨z0, z1, z2, z3, zf⟩ := prow4 HR1.out
      obtain ⟨y0, y1, y2, y3, yf⟩ := prow4 HQ1.out
      go_wp2_with fail
      refine (HKD.out _).mono ?_
      rintro e w9 ⟨rfl, hw9⟩
      have hw9 := hw9.symm
      subst hw9
      go_wp2_with fail
      refine (HCC.out _).mono ?_
      rintro e w2 hde
      obtain ⟨k0, t0, n0, P, l, c, zz, x, rfl⟩ := de_form hde
      have HDE : Hid _ := hde
      have HR2 : Hid (w2.heap[rb]? = some (.cells #[.int .i64 0, .string ⟨#[]⟩, .int .i64 0, .slice none 0 0] 24)) := keep_row HR1.out (de_bel hde)
      have HLT : Hid (rb < w1.heap.size) := row_lt HR1.out
      clear hde z0 z1 z2 z3 zf y0 y1 y2 y3 yf
      obtain ⟨z0, z1, z2, z3, zf⟩ := prow4 HR2.out
      go_wp2
      exact rp3_fin _ 4 5 6 Tryz.results18 HR2.out _ _ _ _ _ _ _ (fun w' ho => de_fin HDE.out HB1.out ho HRW.out HLT.out) _ rfl rfl rfl rfl
end Go.Proofs.YtnfbaeajalnmmaaGreatDoor
namespace Go.Proofs.YtnfbaeajalnmmaaGreatDoor
open Go.RowKit Vi
set_option linter.unusedVariables false
set_option linter.unusedSimpArgs false
set_option maxHeartbeats 8000000 in
set_option maxRecDepth 20000 in
theorem rd_l62_a (s : ByteArray) (D : Int) (hs : s.size ≤ 281474976710656) (a : Nat) (ha : a + 1 < s.size) (h13 : s[a] = 13) (h10 : s[a + 1] = 10) (hno : ∀ i, i < a → ∀ h : i < s.size, s[i] ≠ 13 ∧ s[i] ≠ 10) (ha1 : 1 ≤ a) (hm : s[0] = 62) (T : ByteArray) (hT : s.extract 1 a = T) (hn : numberOf T.data.toList = none) (w : World) :
    Calls Tryz.prog 18 #[.string s, .int .i64 D] w fun e w' => LdIs { e := 120 } w w' e := by
  obtain ⟨rb, hrb⟩ : ∃ rb, w.heap.size = rb := ⟨_, rfl⟩
  obtain ⟨W0, hW0⟩ : ∃ W, W = (w.alloc (.cells #[.int .i64 0, .string ⟨#[]⟩, .int .i64 0, .slice none 0 0] 24)).alloc (.cells #[.int .i64 0, .string ⟨#[]⟩, .int .i64 0, .slice none 0 0] 24) := ⟨_, rfl⟩
  have hb0 : Below w.heap.size w W0 := by rw [hW0]; exact ((Below.refl _ _).alloc (Nat.le_refl _) _).alloc (by simp) _
  have hr0 : W0.heap[rb]? = some (.cells #[.int .i64 0, .string ⟨#[]⟩, .int .i64 0, .slice none 0 0] 24) := by
    rw [hW0, ← hrb]; exact keep_row (one_alloc _ _) ((Below.refl _ _).alloc (Nat.le_refl _) _)
  have hq0 : W0.heap[rb + 1]? = some (.cells #[.int .i64 0, .string ⟨#[]⟩, .int .i64 0, .slice none 0 0] 24) := by
    have h9 := one_alloc (w.alloc (.cells #[.int .i64 0, .string ⟨#[]⟩, .int .i64 0, .slice none 0 0] 24)) (.cells #[.int .i64 0, .string ⟨#[]⟩, .int .i64 0, .slice none 0 0] 24)
    rw [hW0, ← hrb]; simpa using h9
  have HB0 : Hid (Below w.heap.size w W0) := hb0
  have HR0 : Hid _ := hr0
  have HQ0 : Hid _ := hq0
  have HRW : Hid (w.heap.size ≤ rb) := Nat.le_of_eq hrb
  obtain ⟨z0, z1, z2, z3, zf⟩ := prow4 HR0.out
  obtain ⟨y0, y1, y2, y3, yf⟩ := prow4 HQ0.out
  clear hb0 hr0 hq0
  have HNO : Hid _ := hno
  have hle : s.toList.isEmpty = false := str_full (by omega)
  have hz : (0 : Int) < (s.size : Int) := by omega
  have hmax : max (1 : Int) (a : Int) = (a : Int) := by omega
  have h1a : (1 : Int) ≤ (a : Int) := by omega
  have hal : (a : Int) ≤ (s.size : Int) := by omega
  have ha0 : ((a : Int) == 0) = false := by simp; omega
  have hm0 : (s[0].toNat : Int) = 62 := by rw [hm]; rfl
  have hTs : T.size ≤ 281474976710656 := by rw [← hT, ext_size _ _ _ (by omega)]; omega
  have HN : Hid (∀ W, Calls Tryz.prog 34 #[.string T] W fun e w' => e = .returned (.tuple #[.int .i64 0, .bool false]) ∧ Below W.heap.size W w') := fun W => by
    have h9 := refNumber_any T (by unfold maxLen; omega) W
    rw [numT_none hn] at h9; exact h9
  clear hn
  clear hm hno
  go_enter Tryz.func18, Tryz.ntmps18
  go_upto_region 2 with fail
  rw [← hW0]
  clear hW0 hrb
  go_wp2
  go_loopw [8] (fun ci wr => ∃ i : Nat, (i ≤ a ∧ wr = W0) ∧ ci = .int .i64 (i : Int)) (fun ci _ => a - (intOf ci).toNat)
  case atStart => exact ⟨0, ⟨Nat.zero_le _, rfl⟩, rfl⟩
  case round =>
    obtain ⟨i, ⟨hi, hw⟩, rfl⟩ := hrel
    subst hw
    by_cases hlt : i < a
    · have hil : i < s.size := by omega
      have hq1 : ((s[i].toNat : Int) != 13) = true := ne_mark (HNO.out i hlt hil).1 rfl
      have hq2 : ((s[i].toNat : Int) != 10) = true := ne_mark (HNO.out i hlt hil).2 rfl
      have hz0 : (0 : Int) ≤ (i : Int) := by omega
      have hz1 : (i : Int) < (s.size : Int) := by omega
      go_wp2
      go_roundw
      case rel => first | exact ⟨i + 1, ⟨by omega, trivial⟩, rfl⟩ | exact ⟨i + 1, ⟨by omega, rfl⟩, rfl⟩
      case measure => simp [intOf]; omega
    · have hik : i = a := by omega
      subst hik
      have hz0 : (0 : Int) ≤ (i : Int) := by omega
      have hz1 : (i : Int) < (s.size : Int) := by omega
      have hzs : i < s.size := by omega
      have hq1 : ((s[i].toNat : Int) != 13) = false := by rw [h13]; rfl
      have hq1b : ((s[i].toNat : Int) == 13) = true := by rw [h13]; rfl
      have hq3 : ((s[i + 1].toNat : Int) != 10) = false := by rw [h10]; rfl
      have hne1 : ((i : Int) == (s.size : Int)) = false := by simp; omega
      have hne2 : (((i : Int) + 1) == (s.size : Int)) = false := by simp; omega
      have hz2 : (0 : Int) ≤ (i : Int) + 1 := by omega
      have hz3 : (i : Int) + 1 < (s.size : Int) := by omega
      have hw1 : IntKind.i64.wrap ((i : Int) + 1) = (i : Int) + 1 := by rw [IntKind.wrap_i64] <;> omega
      have hw2 : IntKind.i64.wrap ((i : Int) + 2) = (i : Int) + 2 := by rw [IntKind.wrap_i64] <;> omega
      have hz4 : (0 : Int) ≤ (i : Int) + 2 := by omega
      have hz5 : (i : Int) + 2 ≤ (s.size : Int) := by omega
      go_wp2_with fail
      refine (HN.out _).mono ?_
      rintro e w1 ⟨rfl, hb1⟩
      have HB1 : Hid (Below w.heap.size w w1) := HB0.out.trans (hb1.mono HB0.out.size)
      have HR1 : Hid (w1.heap[rb]? = some (.cells #[.int .i64 0, .string ⟨#[]⟩, .int .i64 0, .slice none 0 0] 24)) := keep_row HR0.out hb1
      have HQ1 : Hid (w1.heap[rb + 1]? = some (.cells #[.int .i64 0, .string ⟨#[]⟩, .int .i64 0, .slice none 0 0] 24)) := keep_row HQ0.out hb1
      clear z0 z1 z2 z3 zf y0 y1 y2 y3 yf hb1
      obtain ⟨z0, z1, z2, z3, zf⟩ := prow4 HR1.out
      obtain ⟨y0, y1, y2, y3, yf⟩ := prow4 HQ1.out
      go_wp2
      exact rp3_fin _ 4 5 6 Tryz.results18 HR1.out _ _ _ _ _ _ _ (fun w' ho => ld_err 120 rfl (by decide) (HB1.out.trans (ho.below HRW.out))) _ rfl rfl rfl rfl
set_option maxHeartbeats 8000000 in
set_option maxRecDepth 20000 in
theorem rd_l62_b (s : ByteArray) (D : Int) (hs : s.size ≤ 281474976710656) (a : Nat) (ha : a + 1 < s.size) (h13 : s[a] = 13) (h10 : s[a + 1] = 10) (hno : ∀ i, i < a → ∀ h : i < s.size, s[i] ≠ 13 ∧ s[i] ≠ 10) (ha1 : 1 ≤ a) (hm : s[0] = 62) (T : ByteArray) (hT : s.extract 1 a = T) (n : Int) (hn : numberOf T.data.toList = some n) (hneg : n < 0) (w : World) :
    Calls Tryz.prog 18 #[.string s, .int .i64 D] w fun e w' => LdIs { e := 120 } w w' e := by
  obtain ⟨rb, hrb⟩ : ∃ rb, w.heap.size = rb := ⟨_, rfl⟩
  obtain ⟨W0, hW0⟩ : ∃ W, W = (w.alloc (.cells #[.int .i64 0, .string ⟨#[]⟩, .int .i64 0, .slice none 0 0] 24)).alloc (.cells #[.int .i64 0, .string ⟨#[]⟩, .int .i64 0, .slice none 0 0] 24) := ⟨_, rfl⟩
  have hb0 : Below w.heap.size w W0 := by rw [hW0]; exact ((Below.refl _ _).alloc (Nat.le_refl _) _).alloc (by simp) _
  have hr0 : W0.heap[rb]? = some (.cells #[.int .i64 0, .string ⟨#[]⟩, .int .i64 0, .slice none 0 0] 24) := by
    rw [hW0, ← hrb]; exact keep_row (one_alloc _ _) ((Below.refl _ _).alloc (Nat.le_refl _) _)
  have hq0 : W0.heap[rb + 1]? = some (.cells #[.int .i64 0, .string ⟨#[]⟩, .int .i64 0, .slice none 0 0] 24) := by
    have h9 := one_alloc (w.alloc (.cells #[.int .i64 0, .string ⟨#[]⟩, .int .i64 0, .slice none 0 0] 24)) (.cells #[.int .i64 0, .string ⟨#[]⟩, .int .i64 0, .slice none 0 0] 24)
    rw [hW0, ← hrb]; simpa using h9
  have HB0 : Hid (Below w.heap.size w W0) := hb0
  have HR0 : Hid _ := hr0
  have HQ0 : Hid _ := hq0
  have HRW : Hid (w.heap.size ≤ rb) := Nat.le_of_eq hrb
  obtain ⟨z0, z1, z2, z3, zf⟩ := prow4 HR0.out
  obtain ⟨y0, y1, y2, y3, yf⟩ := prow4 HQ0.out
  clear hb0 hr0 hq0
  have HNO : Hid _ := hno
  have hle : s.toList.isEmpty = false := str_full (by omega)
  have hz : (0 : Int) < (s.size : Int) := by omega
  have hmax : max (1 : Int) (a : Int) = (a : Int) := by omega
  have h1a : (1 : Int) ≤ (a : Int) := by omega
  have hal : (a : Int) ≤ (s.size : Int) := by omega
  have ha0 : ((a : Int) == 0) = false := by simp; omega
  have hm0 : (s[0].toNat : Int) = 62 := by rw [hm]; rfl
  have hTs : T.size ≤ 281474976710656 := by rw [← hT, ext_size _ _ _ (by omega)]; omega
  have HN : Hid (∀ W, Calls Tryz.prog 34 #[.string T] W fun e w' => e = .returned (.tuple #[.int .i64 n, .bool true]) ∧ Below W.heap.size W w') := fun W => by
    have h9 := refNumber_any T (by unfold maxLen; omega) W
    rw [numT_some hn] at h9; exact h9
  have hdn : decide ((0 : Int) ≤ n) = false := dec_f (by omega)
  clear hn
  clear hm hno
  go_enter Tryz.func18, Tryz.ntmps18
  go_upto_region 2 with fail
  rw [← hW0]
  clear hW0 hrb
  go_wp2
  go_loopw [8] (fun ci wr => ∃ i : Nat, (i ≤ a ∧ wr = W0) ∧ ci = .int .i64 (i : Int)) (fun ci _ => a - (intOf ci).toNat)
  case atStart => exact ⟨0, ⟨Nat.zero_le _, rfl⟩, rfl⟩
  case round =>
    obtain ⟨i, ⟨hi, hw⟩, rfl⟩ := hrel
    subst hw
    by_cases hlt : i < a
    · have hil : i < s.size := by omega
      have hq1 : ((s[i].toNat : Int) != 13) = true := ne_mark (HNO.out i hlt hil).1 rfl
      have hq2 : ((s[i].toNat : Int) != 10) = true := ne_mark (HNO.out i hlt hil).2 rfl
      have hz0 : (0 : Int) ≤ (i : Int) := by omega
      have hz1 : (i : Int) < (s.size : Int) := by omega
      go_wp2
      go_roundw
      case rel => first | exact ⟨i + 1, ⟨by omega, trivial⟩, rfl⟩ | exact ⟨i + 1, ⟨by omega, rfl⟩, rfl⟩
      case measure => simp [intOf]; omega
    · have hik : i = a := by omega
      subst hik
      have hz0 : (0 : Int) ≤ (i : Int) := by omega
      have hz1 : (i : Int) < (s.size : Int) := by omega
      have hzs : i < s.size := by omega
      have hq1 : ((s[i].toNat : Int) != 13) = false := by rw [h13]; rfl
      have hq1b : ((s[i].toNat : Int) == 13) = true := by rw [h13]; rfl
      have hq3 : ((s[i + 1].toNat : Int) != 10) = false := by rw [h10]; rfl
      have hne1 : ((i : Int) == (s.size : Int)) = false := by simp; omega
      have hne2 : (((i : Int) + 1) == (s.size : Int)) = false := by simp; omega
      have hz2 : (0 : Int) ≤ (i : Int) + 1 := by omega
      have hz3 : (i : Int) + 1 < (s.size : Int) := by omega
      have hw1 : IntKind.i64.wrap ((i : Int) + 1) = (i : Int) + 1 := by rw [IntKind.wrap_i64] <;> omega
      have hw2 : IntKind.i64.wrap ((i : Int) + 2) = (i : Int) + 2 := by rw [IntKind.wrap_i64] <;> omega
      have hz4 : (0 : Int) ≤ (i : Int) + 2 := by omega
      have hz5 : (i : Int) + 2 ≤ (s.size : Int) := by omega
      go_wp2_with fail
      refine (HN.out _).mono ?_
      rintro e w1 ⟨rfl, hb1⟩
      have HB1 : Hid (Below w.heap.size w w1) := HB0.out.trans (hb1.mono HB0.out.size)
      have HR1 : Hid (w1.heap[rb]? = some (.cells #[.int .i64 0, .string ⟨#[]⟩, .int .i64 0, .slice none 0 0] 24)) := keep_row HR0.out hb1
      have HQ1 : Hid (w1.heap[rb + 1]? = some (.cells #[.int .i64 0, .string ⟨#[]⟩, .int .i64 0, .slice none 0 0] 24)) := keep_row HQ0.out hb1
      clear z0 z1 z2 z3 zf y0 y1 y2 y3 yf hb1
      obtain ⟨z0, z1, z2, z3, zf⟩ := prow4 HR1.out
      obtain ⟨y0, y1, y2, y3, yf⟩ := prow4 HQ1.out
      go_wp2
      exact rp3_fin _ 4 5 6 Tryz.results18 HR1.out _ _ _ _ _ _ _ (fun w' ho => ld_err 120 rfl (by decide) (HB1.out.trans (ho.below HRW.out))) _ rfl rfl rfl rfl
set_option maxHeartbeats 8000000 in
set_option maxRecDepth 20000 in
theorem rd_l62_c (s : ByteArray) (D : Int) (hs : s.size ≤ 281474976710656) (a : Nat) (ha : a + 1 < s.size) (h13 : s[a] = 13) (h10 : s[a + 1] = 10) (hno : ∀ i, i < a → ∀ h : i < s.size, s[i] ≠ 13 ∧ s[i] ≠ 10) (ha1 : 1 ≤ a) (hm : s[0] = 62) (T : ByteArray) (hT : s.extract 1 a = T) (n : Nat) (hn : numberOf T.data.toList = some (n : Int)) (hbad : 1048576 < (n : Int) ∨ 32 < D) (w : World) :
    Calls Tryz.prog 18 #[.string s, .int .i64 D] w fun e w' => LdIs { e := 120 } w w' e := by
  obtain ⟨rb, hrb⟩ : ∃ rb, w.heap.size = rb := ⟨_, rfl⟩
  obtain ⟨W0, hW0⟩ : ∃ W, W = (w.alloc (.cells #[.int .i64 0, .string ⟨#[]⟩, .int .i64 0, .slice none 0 0] 24)).alloc (.cells #[.int .i64 0, .string ⟨#[]⟩, .int .i64 0, .slice none 0 0] 24) := ⟨_, rfl⟩
  have hb0 : Below w.heap.size w W0 := by rw [hW0]; exact ((Below.refl _ _).alloc (Nat.le_refl _) _).alloc (by simp) _
  have hr0 : W0.heap[rb]? = some (.cells #[.int .i64 0, .string ⟨#[]⟩, .int .i64 0, .slice none 0 0] 24) := by
    rw [hW0, ← hrb]; exact keep_row (one_alloc _ _) ((Below.refl _ _).alloc (Nat.le_refl _) _)
  have hq0 : W0.heap[rb + 1]? = some (.cells #[.int .i64 0, .string ⟨#[]⟩, .int .i64 0, .slice none 0 0] 24) := by
    have h9 := one_alloc (w.alloc (.cells #[.int .i64 0, .string ⟨#[]⟩, .int .i64 0, .slice none 0 0] 24)) (.cells #[.int .i64 0, .string ⟨#[]⟩, .int .i64 0, .slice none 0 0] 24)
    rw [hW0, ← hrb]; simpa using h9
  have HB0 : Hid (Below w.heap.size w W0) := hb0
  have HR0 : Hid _ := hr0
  have HQ0 : Hid _ := hq0
  have HRW : Hid (w.heap.size ≤ rb) := Nat.le_of_eq hrb
  obtain ⟨z0, z1, z2, z3, zf⟩ := prow4 HR0.out
  obtain ⟨y0, y1, y2, y3, yf⟩ := prow4 HQ0.out
  clear hb0 hr0 hq0
  have HNO : Hid _ := hno
  have hle : s.toList.isEmpty = false := str_full (by omega)
  have hz : (0 : Int) < (s.size : Int) := by omega
  have hmax : max (1 : Int) (a : Int) = (a : Int) := by omega
  have h1a : (1 : Int) ≤ (a : Int) := by omega
  have hal : (a : Int) ≤ (s.size : Int) := by omega
  have ha0 : ((a : Int) == 0) = false := by simp; omega
  have hm0 : (s[0].toNat : Int) = 62 := by rw [hm]; rfl
  have hTs : T.size ≤ 281474976710656 := by rw [← hT, ext_size _ _ _ (by omega)]; omega
  have HN : Hid (∀ W, Calls Tryz.prog 34 #[.string T] W fun e w' => e = .returned (.tuple #[.int .i64 (n : Int), .bool true]) ∧ Below W.heap.size W w') := fun W => by
    have h9 := refNumber_any T (by unfold maxLen; omega) W
    rw [numT_some hn] at h9; exact h9
  have hdn : decide ((0 : Int) ≤ (n : Int)) = true := dec_t (by omega)
  have HKD : Hid (∀ W, Calls Tryz.prog 36 #[.int .u8 62] W fun e w' => e = .returned (.int .i64 8) ∧ w' = W) := fun W => rkind_any 62 W
  have hnb := (numberOf_some hn).2.2.1
  have HCC : Hid (∀ W, Calls Tryz.prog 37 #[.string s, .int .i64 ((a : Int) + 2), .int .i64 (n : Int), .int .i64 D] W fun e w' => LdIs { e := 120 } W w' e) := fun W => rmany_no s (a + 2) n D 62 (by omega) hm (by simp) (by omega) hbad W
  clear hn hnb hbad
  clear hm hno
  go_enter Tryz.func18, Tryz.ntmps18
  go_upto_region 2 with fail
  rw [← hW0]
  clear hW0 hrb
  go_wp2
  go_loopw [8] (fun ci wr => ∃ i : Nat, (i ≤ a ∧ wr = W0) ∧ ci = .int .i64 (i : Int)) (fun ci _ => a - (intOf ci).toNat)
  case atStart => exact ⟨0, ⟨Nat.zero_le _, rfl⟩, rfl⟩
  case round =>
    obtain ⟨i, ⟨hi, hw⟩, rfl⟩ := hrel
    subst hw
    by_cases hlt : i < a
    · have hil : i < s.size := by omega
      have hq1 : ((s[i].toNat : Int) != 13) = true := ne_mark (HNO.out i hlt hil).1 rfl
      have hq2 : ((s[i].toNat : Int) != 10) = true := ne_mark (HNO.out i hlt hil).2 rfl
      have hz0 : (0 : Int) ≤ (i : Int) := by omega
      have hz1 : (i : Int) < (s.size : Int) := by omega
      go_wp2
      go_roundw
      case rel => first | exact ⟨i + 1, ⟨by omega, trivial⟩, rfl⟩ | exact ⟨i + 1, ⟨by omega, rfl⟩, rfl⟩
      case measure => simp [intOf]; omega
    · have hik : i = a := by omega
      subst hik
      have hz0 : (0 : Int) ≤ (i : Int) := by omega
      have hz1 : (i : Int) < (s.size : Int) := by omega
      have hzs : i < s.size := by omega
      have hq1 : ((s[i].toNat : Int) != 13) = false := by rw [h13]; rfl
      have hq1b : ((s[i].toNat : Int) == 13) = true := by rw [h13]; rfl
      have hq3 : ((s[i + 1].toNat : Int) != 10) = false := by rw [h10]; rfl
      have hne1 : ((i : Int) == (s.size : Int)) = false := by simp; omega
      have hne2 : (((i : Int) + 1) == (s.size : Int)) = false := by simp; omega
      have hz2 : (0 : Int) ≤ (i : Int) + 1 := by omega
      have hz3 : (i : Int) + 1 < (s.size : Int) := by omega
      have hw1 : IntKind.i64.wrap ((i : Int) + 1) = (i : Int) + 1 := by rw [IntKind.wrap_i64] <;> omega
      have hw2 : IntKind.i64.wrap ((i : Int) + 2) = (i : Int) + 2 := by rw [IntKind.wrap_i64] <;> omega
      have hz4 : (0 : Int) ≤ (i : Int) + 2 := by omega
      have hz5 : (i : Int) + 2 ≤ (s.size : Int) := by omega
      go_wp2_with fail
      refine (HN.out _).mono ?_
      rintro e w1 ⟨rfl, hb1⟩
      have HB1 : Hid (Below w.heap.size w w1) := HB0.out.trans (hb1.mono HB0.out.size)
      have HR1 : Hid (w1.heap[rb]? = some (.cells #[.int .i64 0, .string ⟨#[]⟩, .int .i64 0, .slice none 0 0] 24)) := keep_row HR0.out hb1
      have HQ1 : Hid (w1.heap[rb + 1]? = some (.cells #[.int .i64 0, .string ⟨#[]⟩, .int .i64 0, .slice none 0 0] 24)) := keep_row HQ0.out hb1
      clear z0 z1 z2 z3 zf y0 y1 y2 y3 yf hb1
      obtain ⟨z0, z1, z2, z3, zf⟩ := prow4 HR1.out
      obtain ⟨y0, y1, y2, y3, yf⟩ := prow4 HQ1.out
      go_wp2_with fail
      refine (HKD.out _).mono ?_
      rintro e w9 ⟨rfl, hw9⟩
      have hw9 := hw9.symm
      subst hw9
      go_wp2_with fail
      refine (HCC.out _).mono ?_
      rintro e w2 hde
      obtain ⟨k0, t0, n0, P, l, c, zz, x, rfl⟩ := ld_form hde
      have HDE : Hid _ := hde
      have HR2 : Hid (w2.heap[rb]? = some (.cells #[.int .i64 0, .string ⟨#[]⟩, .int .i64 0, .slice none 0 0] 24)) := keep_row HR1.out (ld_bel hde)
      have HLT : Hid (rb < w1.heap.size) := row_lt HR1.out
      clear hde z0 z1 z2 z3 zf y0 y1 y2 y3 yf
      obtain ⟨z0, z1, z2, z3, zf⟩ := prow4 HR2.out
      go_wp2
      exact rp3_fin _ 4 5 6 Tryz.results18 HR2.out _ _ _ _ _ _ _ (fun w' ho => ld_fin (h := { e := 120 }) (W1 := w1) (w2 := w2) HDE.out HB1.out ho HRW.out) _ rfl rfl rfl rfl
set_option maxHeartbeats 8000000 in
set_option maxRecDepth 20000 in
theorem rd_l62 (s : ByteArray) (D : Int) (hs : s.size ≤ 281474976710656) (a : Nat) (ha : a + 1 < s.size) (h13 : s[a] = 13) (h10 : s[a + 1] = 10) (hno : ∀ i, i < a → ∀ h : i < s.size, s[i] ≠ 13 ∧ s[i] ≠ 10) (ha1 : 1 ≤ a) (hm : s[0] = 62) (T : ByteArray) (hT : s.extract 1 a = T) (k n c : Nat) (hn : numberOf T.data.toList = some (n : Int)) (hok : (n : Int) ≤ 1048576) (hD0 : 0 ≤ D) (hD : D ≤ 32) (hc : c = if (62 : UInt8) = 37 then n * 2 else n) (IH : ∀ (W : World) (T : ByteArray), T.size ≤ 281474976710656 → Calls Tryz.prog 18 #[.string T, .int .i64 (D + 1)] W fun e w' => DeIs k (dec k T.data.toList) W w' e) (w : World) :
    Calls Tryz.prog 18 #[.string s, .int .i64 D] w fun e w' => DeIs (k + 1) (lsO k (decMany (dec k) c (s.data.toList.drop (a + 1 + 1))) (kindK 62) (a + 1)) w w' e := by
  obtain ⟨rb, hrb⟩ : ∃ rb, w.heap.size = rb := ⟨_, rfl⟩
  obtain ⟨W0, hW0⟩ : ∃ W, W = (w.alloc (.cells #[.int .i64 0, .string ⟨#[]⟩, .int .i64 0, .slice none 0 0] 24)).alloc (.cells #[.int .i64 0, .string ⟨#[]⟩, .int .i64 0, .slice none 0 0] 24) := ⟨_, rfl⟩
  have hb0 : Below w.heap.size w W0 := by rw [hW0]; exact ((Below.refl _ _).alloc (Nat.le_refl _) _).alloc (by simp) _
  have hr0 : W0.heap[rb]? = some (.cells #[.int .i64 0, .string ⟨#[]⟩, .int .i64 0, .slice none 0 0] 24) := by
    rw [hW0, ← hrb]; exact keep_row (one_alloc _ _) ((Below.refl _ _).alloc (Nat.le_refl _) _)
  have hq0 : W0.heap[rb + 1]? = some (.cells #[.int .i64 0, .string ⟨#[]⟩, .int .i64 0, .slice none 0 0] 24) := by
    have h9 := one_alloc (w.alloc (.cells #[.int .i64 0, .string ⟨#[]⟩, .int .i64 0, .slice none 0 0] 24)) (.cells #[.int .i64 0, .string ⟨#[]⟩, .int .i64 0, .slice none 0 0] 24)
    rw [hW0, ← hrb]; simpa using h9
  have HB0 : Hid (Below w.heap.size w W0) := hb0
  have HR0 : Hid _ := hr0
  have HQ0 : Hid _ := hq0
  have HRW : Hid (w.heap.size ≤ rb) := Nat.le_of_eq hrb
  obtain ⟨z0, z1, z2, z3, zf⟩ := prow4 HR0.out
  obtain ⟨y0, y1, y2, y3, yf⟩ := prow4 HQ0.out
  clear hb0 hr0 hq0
  have HNO : Hid _ := hno
  have hle : s.toList.isEmpty = false := str_full (by omega)
  have hz : (0 : Int) < (s.size : Int) := by omega
  have hmax : max (1 : Int) (a : Int) = (a : Int) := by omega
  have h1a : (1 : Int) ≤ (a : Int) := by omega
  have hal : (a : Int) ≤ (s.size : Int) := by omega
  have ha0 : ((a : Int) == 0) = false := by simp; omega
  have hm0 : (s[0].toNat : Int) = 62 := by rw [hm]; rfl
  have hTs : T.size ≤ 281474976710656 := by rw [← hT, ext_size _ _ _ (by omega)]; omega
  have HN : Hid (∀ W, Calls Tryz.prog 34 #[.string T] W fun e w' => e = .returned (.tuple #[.int .i64 (n : Int), .bool true]) ∧ Below W.heap.size W w') := fun W => by
    have h9 := refNumber_any T (by unfold maxLen; omega) W
    rw [numT_some hn] at h9; exact h9
  have hdn : decide ((0 : Int) ≤ (n : Int)) = true := dec_t (by omega)
  have HKD : Hid (∀ W, Calls Tryz.prog 36 #[.int .u8 62] W fun e w' => e = .returned (.int .i64 8) ∧ w' = W) := fun W => rkind_any 62 W
  have HCC : Hid (∀ W, Calls Tryz.prog 37 #[.string s, .int .i64 ((a : Int) + 2), .int .i64 (n : Int), .int .i64 D] W fun e w' => DeIs (k + 1) (lsO k (decMany (dec k) c (s.data.toList.drop (a + 1 + 1))) (kindK 62) (a + 1)) W w' e) := fun W => rmany_any k s (a + 1) n c D 62 (by omega) hm (by simp) hs (by omega) hok hD0 hD hc W (fun W' T hT _ => IH W' T hT)
  clear hn hc IH
  clear hm hno
  go_enter Tryz.func18, Tryz.ntmps18
  go_upto_region 2 with fail
  rw [← hW0]
  clear hW0 hrb
  go_wp2
  go_loopw [8] (fun ci wr => ∃ i : Nat, (i ≤ a ∧ wr = W0) ∧ ci = .int .i64 (i : Int)) (fun ci _ => a - (intOf ci).toNat)
  case atStart => exact ⟨0, ⟨Nat.zero_le _, rfl⟩, rfl⟩
  case round =>
    obtain ⟨i, ⟨hi, hw⟩, rfl⟩ := hrel
    subst hw
    by_cases hlt : i < a
    · have hil : i < s.size := by omega
      have hq1 : ((s[i].toNat : Int) != 13) = true := ne_mark (HNO.out i hlt hil).1 rfl
      have hq2 : ((s[i].toNat : Int) != 10) = true := ne_mark (HNO.out i hlt hil).2 rfl
      have hz0 : (0 : Int) ≤ (i : Int) := by omega
      have hz1 : (i : Int) < (s.size : Int) := by omega
      go_wp2
      go_roundw
      case rel => first | exact ⟨i + 1, ⟨by omega, trivial⟩, rfl⟩ | exact ⟨i + 1, ⟨by omega, rfl⟩, rfl⟩
      case measure => simp [intOf]; omega
    · have hik : i = a := by omega
      subst hik
      have hz0 : (0 : Int) ≤ (i : Int) := by omega
      have hz1 : (i : Int) < (s.size : Int) := by omega
      have hzs : i < s.size := by omega
      have hq1 : ((s[i].toNat : Int) != 13) = false := by rw [h13]; rfl
      have hq1b : ((s[i].toNat : Int) == 13) = true := by rw [h13]; rfl
      have hq3 : ((s[i + 1].toNat : Int) != 10) = false := by rw [h10]; rfl
      have hne1 : ((i : Int) == (s.size : Int)) = false := by simp; omega
      have hne2 : (((i : Int) + 1) == (s.size : Int)) = false := by simp; omega
      have hz2 : (0 : Int) ≤ (i : Int) + 1 := by omega
      have hz3 : (i : Int) + 1 < (s.size : Int) := by omega
      have hw1 : IntKind.i64.wrap ((i : Int) + 1) = (i : Int) + 1 := by rw [IntKind.wrap_i64] <;> omega
      have hw2 : IntKind.i64.wrap ((i : Int) + 2) = (i : Int) + 2 := by rw [IntKind.wrap_i64] <;> omega
      have hz4 : (0 : Int) ≤ (i : Int) + 2 := by omega
      have hz5 : (i : Int) + 2 ≤ (s.size : Int) := by omega
      go_wp2_with fail
      refine (HN.out _).mono ?_
      rintro e w1 ⟨rfl, hb1⟩
      have HB1 : Hid (Below w.heap.size w w1) := HB0.out.trans (hb1.mono HB0.out.size)
      have HR1 : Hid (w1.heap[rb]? = some (.cells #[.int .i64 0, .string ⟨#[]⟩, .int .i64 0, .slice none 0 0] 24)) := keep_row HR0.out hb1
      have HQ1 : Hid (w1.heap[rb + 1]? = some (.cells #[.int .i64 0, .string ⟨#[]⟩, .int .i64 0, .slice none 0 0] 24)) := keep_row HQ0.out hb1
      clear z0 z1 z2 z3 zf y0 y1 y2 y3 yf hb1
      obtain ⟨z0, z1, z2, z3, zf⟩ := prow4 HR1.out
      obtain ⟨y0, y1, y2, y3, yf⟩ := prow4 HQ1.out
      go_wp2_with fail
      refine (HKD.out _).mono ?_
      rintro e w9 ⟨rfl, hw9⟩
      have hw9 := hw9.symm
      subst hw9
      go_wp2_with fail
      refine (HCC.out _).mono ?_
      rintro e w2 hde
      obtain ⟨k0, t0, n0, P, l, c, zz, x, rfl⟩ := de_form hde
      have HDE : Hid _ := hde
      have HR2 : Hid (w2.heap[rb]? = some (.cells #[.int .i64 0, .string ⟨#[]⟩, .int .i64 0, .slice none 0 0] 24)) := keep_row HR1.out (de_bel hde)
      have HLT : Hid (rb < w1.heap.size) := row_lt HR1.out
      clear hde z0 z1 z2 z3 zf y0 y1 y2 y3 yf
      obtain ⟨z0, z1, z2, z3, zf⟩ := prow4 HR2.out
      go_wp2
      exact rp3_fin _ 4 5 6 Tryz.results18 HR2.out _ _ _ _ _ _ _ (fun w' ho => de_fin HDE.out HB1.out ho HRW.out HLT.out) _ rfl rfl rfl rfl
end Go.Proofs.YtnfbaeajalnmmaaGreatDoor
namespace Go.Proofs.YtnfbaeajalnmmaaGreatDoor
open Go.RowKit Vi
set_option linter.unusedVariables false
set_option linter.unusedSimpArgs false
set_option maxHeartbeats 8000000 in
set_option maxRecDepth 20000 in
theorem rd_un_a (s : ByteArray) (D : Int) (hs : s.size ≤ 281474976710656) (a : Nat) (ha : a + 1 < s.size) (h13 : s[a] = 13) (h10 : s[a + 1] = 10) (hno : ∀ i, i < a → ∀ h : i < s.size, s[i] ≠ 13 ∧ s[i] ≠ 10) (ha1 : 1 ≤ a) (c : UInt8) (hm : s[0] = c) (T : ByteArray) (hT : s.extract 1 a = T) (hn : numberOf T.data.toList = none) (h43 : c ≠ 43) (h45 : c ≠ 45) (h58 : c ≠ 58) (h36 : c ≠ 36) (h95 : c ≠ 95) (h35 : c ≠ 35) (h42 : c ≠ 42) (h37 : c ≠ 37) (h126 : c ≠ 126) (h62 : c ≠ 62) (w : World) :
    Calls Tryz.prog 18 #[.string s, .int .i64 D] w fun e w' => LdIs { e := 120 } w w' e := by
  obtain ⟨rb, hrb⟩ : ∃ rb, w.heap.size = rb := ⟨_, rfl⟩
  obtain ⟨W0, hW0⟩ : ∃ W, W = (w.alloc (.cells #[.int .i64 0, .string ⟨#[]⟩, .int .i64 0, .slice none 0 0] 24)).alloc (.cells #[.int .i64 0, .string ⟨#[]⟩, .int .i64 0, .slice none 0 0] 24) := ⟨_, rfl⟩
  have hb0 : Below w.heap.size w W0 := by rw [hW0]; exact ((Below.refl _ _).alloc (Nat.le_refl _) _).alloc (by simp) _
  have hr0 : W0.heap[rb]? = some (.cells #[.int .i64 0, .string ⟨#[]⟩, .int .i64 0, .slice none 0 0] 24) := by
    rw [hW0, ← hrb]; exact keep_row (one_alloc _ _) ((Below.refl _ _).alloc (Nat.le_refl _) _)
  have hq0 : W0.heap[rb + 1]? = some (.cells #[.int .i64 0, .string ⟨#[]⟩, .int .i64 0, .slice none 0 0] 24) := by
    have h9 := one_alloc (w.alloc (.cells #[.int .i64 0, .string ⟨#[]⟩, .int .i64 0, .slice none 0 0] 24)) (.cells #[.int .i64 0, .string ⟨#[]⟩, .int .i64 0, .slice none 0 0] 24)
    rw [hW0, ← hrb]; simpa using h9
  have HB0 : Hid (Below w.heap.size w W0) := hb0
  have HR0 : Hid _ := hr0
  have HQ0 : Hid _ := hq0
  have HRW : Hid (w.heap.size ≤ rb) := Nat.le_of_eq hrb
  obtain ⟨z0, z1, z2, z3, zf⟩ := prow4 HR0.out
  obtain ⟨y0, y1, y2, y3, yf⟩ := prow4 HQ0.out
  clear hb0 hr0 hq0
  have HNO : Hid _ := hno
  have hle : s.toList.isEmpty = false := str_full (by omega)
  have hz : (0 : Int) < (s.size : Int) := by omega
  have hmax : max (1 : Int) (a : Int) = (a : Int) := by omega
  have h1a : (1 : Int) ≤ (a : Int) := by omega
  have hal : (a : Int) ≤ (s.size : Int) := by omega
  have ha0 : ((a : Int) == 0) = false := by simp; omega
  have hm0 : (s[0].toNat : Int) = (c.toNat : Int) := by rw [hm]
  have hTs : T.size ≤ 281474976710656 := by rw [← hT, ext_size _ _ _ (by omega)]; omega
  have HN : Hid (∀ W, Calls Tryz.prog 34 #[.string T] W fun e w' => e = .returned (.tuple #[.int .i64 0, .bool false]) ∧ Below W.heap.size W w') := fun W => by
    have h9 := refNumber_any T (by unfold maxLen; omega) W
    rw [numT_none hn] at h9; exact h9
  have g43 : ((c.toNat : Int) == 43) = false := mark_no h43 rfl
  have g45 : ((c.toNat : Int) == 45) = false := mark_no h45 rfl
  have g58 : ((c.toNat : Int) == 58) = false := mark_no h58 rfl
  have g36 : ((c.toNat : Int) == 36) = false := mark_no h36 rfl
  have g95 : ((c.toNat : Int) == 95) = false := mark_no h95 rfl
  have g35 : ((c.toNat : Int) == 35) = false := mark_no h35 rfl
  have g42 : ((c.toNat : Int) == 42) = false := mark_no h42 rfl
  have g37 : ((c.toNat : Int) == 37) = false := mark_no h37 rfl
  have g126 : ((c.toNat : Int) == 126) = false := mark_no h126 rfl
  have g62 : ((c.toNat : Int) == 62) = false := mark_no h62 rfl
  clear hn
  clear hm hno
  go_enter Tryz.func18, Tryz.ntmps18
  go_upto_region 2 with fail
  rw [← hW0]
  clear hW0 hrb
  go_wp2
  go_loopw [8] (fun ci wr => ∃ i : Nat, (i ≤ a ∧ wr = W0) ∧ ci = .int .i64 (i : Int)) (fun ci _ => a - (intOf ci).toNat)
  case atStart => exact ⟨0, ⟨Nat.zero_le _, rfl⟩, rfl⟩
  case round =>
    obtain ⟨i, ⟨hi, hw⟩, rfl⟩ := hrel
    subst hw
    by_cases hlt : i < a
    · have hil : i < s.size := by omega
      have hq1 : ((s[i].toNat : Int) != 13) = true := ne_mark (HNO.out i hlt hil).1 rfl
      have hq2 : ((s[i].toNat : Int) != 10) = true := ne_mark (HNO.out i hlt hil).2 rfl
      have hz0 : (0 : Int) ≤ (i : Int) := by omega
      have hz1 : (i : Int) < (s.size : Int) := by omega
      go_wp2
      go_roundw
      case rel => first | exact ⟨i + 1, ⟨by omega, trivial⟩, rfl⟩ | exact ⟨i + 1, ⟨by omega, rfl⟩, rfl⟩
      case measure => simp [intOf]; omega
    · have hik : i = a := by omega
      subst hik
      have hz0 : (0 : Int) ≤ (i : Int) := by omega
      have hz1 : (i : Int) < (s.size : Int) := by omega
      have hzs : i < s.size := by omega
      have hq1 : ((s[i].toNat : Int) != 13) = false := by rw [h13]; rfl
      have hq1b : ((s[i].toNat : Int) == 13) = true := by rw [h13]; rfl
      have hq3 : ((s[i + 1].toNat : Int) != 10) = false := by rw [h10]; rfl
      have hne1 : ((i : Int) == (s.size : Int)) = false := by simp; omega
      have hne2 : (((i : Int) + 1) == (s.size : Int)) = false := by simp; omega
      have hz2 : (0 : Int) ≤ (i : Int) + 1 := by omega
      have hz3 : (i : Int) + 1 < (s.size : Int) := by omega
      have hw1 : IntKind.i64.wrap ((i : Int) + 1) = (i : Int) + 1 := by rw [IntKind.wrap_i64] <;> omega
      have hw2 : IntKind.i64.wrap ((i : Int) + 2) = (i : Int) + 2 := by rw [IntKind.wrap_i64] <;> omega
      have hz4 : (0 : Int) ≤ (i : Int) + 2 := by omega
      have hz5 : (i : Int) + 2 ≤ (s.size : Int) := by omega
      go_wp2_with fail
      refine (HN.out _).mono ?_
      rintro e w1 ⟨rfl, hb1⟩
      have HB1 : Hid (Below w.heap.size w w1) := HB0.out.trans (hb1.mono HB0.out.size)
      have HR1 : Hid (w1.heap[rb]? = some (.cells #[.int .i64 0, .string ⟨#[]⟩, .int .i64 0, .slice none 0 0] 24)) := keep_row HR0.out hb1
      have HQ1 : Hid (w1.heap[rb + 1]? = some (.cells #[.int .i64 0, .string ⟨#[]⟩, .int .i64 0, .slice none 0 0] 24)) := keep_row HQ0.out hb1
      clear z0 z1 z2 z3 zf y0 y1 y2 y3 yf hb1
      obtain ⟨z0, z1, z2, z3, zf⟩ := prow4 HR1.out
      obtain ⟨y0, y1, y2, y3, yf⟩ := prow4 HQ1.out
      go_wp2
      exact rp3_fin _ 4 5 6 Tryz.results18 HR1.out _ _ _ _ _ _ _ (fun w' ho => ld_err 120 rfl (by decide) (HB1.out.trans (ho.below HRW.out))) _ rfl rfl rfl rfl
set_option maxHeartbeats 8000000 in
set_option maxRecDepth 20000 in
theorem rd_un_b (s : ByteArray) (D : Int) (hs : s.size ≤ 281474976710656) (a : Nat) (ha : a + 1 < s.size) (h13 : s[a] = 13) (h10 : s[a + 1] = 10) (hno : ∀ i, i < a → ∀ h : i < s.size, s[i] ≠ 13 ∧ s[i] ≠ 10) (ha1 : 1 ≤ a) (c : UInt8) (hm : s[0] = c) (T : ByteArray) (hT : s.extract 1 a = T) (n : Int) (hn : numberOf T.data.toList = some n) (hneg : n < 0) (h43 : c ≠ 43) (h45 : c ≠ 45) (h58 : c ≠ 58) (h36 : c ≠ 36) (h95 : c ≠ 95) (h35 : c ≠ 35) (h42 : c ≠ 42) (h37 : c ≠ 37) (h126 : c ≠ 126) (h62 : c ≠ 62) (w : World) :
    Calls Tryz.prog 18 #[.string s, .int .i64 D] w fun e w' => LdIs { e := 120 } w w' e := by
  obtain ⟨rb, hrb⟩ : ∃ rb, w.heap.size = rb := ⟨_, rfl⟩
  obtain ⟨W0, hW0⟩ : ∃ W, W = (w.alloc (.cells #[.int .i64 0, .string ⟨#[]⟩, .int .i64 0, .slice none 0 0] 24)).alloc (.cells #[.int .i64 0, .string ⟨#[]⟩, .int .i64 0, .slice none 0 0] 24) := ⟨_, rfl⟩
  have hb0 : Below w.heap.size w W0 := by rw [hW0]; exact ((Below.refl _ _).alloc (Nat.le_refl _) _).alloc (by simp) _
  have hr0 : W0.heap[rb]? = some (.cells #[.int .i64 0, .string ⟨#[]⟩, .int .i64 0, .slice none 0 0] 24) := by
    rw [hW0, ← hrb]; exact keep_row (one_alloc _ _) ((Below.refl _ _).alloc (Nat.le_refl _) _)
  have hq0 : W0.heap[rb + 1]? = some (.cells #[.int .i64 0, .string ⟨#[]⟩, .int .i64 0, .slice none 0 0] 24) := by
    have h9 := one_alloc (w.alloc (.cells #[.int .i64 0, .string ⟨#[]⟩, .int .i64 0, .slice none 0 0] 24)) (.cells #[.int .i64 0, .string ⟨#[]⟩, .int .i64 0, .slice none 0 0] 24)
    rw [hW0, ← hrb]; simpa using h9
  have HB0 : Hid (Below w.heap.size w W0) := hb0
  have HR0 : Hid _ := hr0
  have HQ0 : Hid _ := hq0
  have HRW : Hid (w.heap.size ≤ rb) := Nat.le_of_eq hrb
  obtain ⟨z0, z1, z2, z3, zf⟩ := prow4 HR0.out
  obtain ⟨y0, y1, y2, y3, yf⟩ := prow4 HQ0.out
  clear hb0 hr0 hq0
  have HNO : Hid _ := hno
  have hle : s.toList.isEmpty = false := str_full (by omega)
  have hz : (0 : Int) < (s.size : Int) := by omega
  have hmax : max (1 : Int) (a : Int) = (a : Int) := by omega
  have h1a : (1 : Int) ≤ (a : Int) := by omega
  have hal : (a : Int) ≤ (s.size : Int) := by omega
  have ha0 : ((a : Int) == 0) = false := by simp; omega
  have hm0 : (s[0].toNat : Int) = (c.toNat : Int) := by rw [hm]
  have hTs : T.size ≤ 281474976710656 := by rw [← hT, ext_size _ _ _ (by omega)]; omega
  have HN : Hid (∀ W, Calls Tryz.prog 34 #[.string T] W fun e w' => e = .returned (.tuple #[.int .i64 n, .bool true]) ∧ Below W.heap.size W w') := fun W => by
    have h9 := refNumber_any T (by unfold maxLen; omega) W
    rw [numT_some hn] at h9; exact h9
  have g43 : ((c.toNat : Int) == 43) = false := mark_no h43 rfl
  have g45 : ((c.toNat : Int) == 45) = false := mark_no h45 rfl
  have g58 : ((c.toNat : Int) == 58) = false := mark_no h58 rfl
  have g36 : ((c.toNat : Int) == 36) = false := mark_no h36 rfl
  have g95 : ((c.toNat : Int) == 95) = false := mark_no h95 rfl
  have g35 : ((c.toNat : Int) == 35) = false := mark_no h35 rfl
  have g42 : ((c.toNat : Int) == 42) = false := mark_no h42 rfl
  have g37 : ((c.toNat : Int) == 37) = false := mark_no h37 rfl
  have g126 : ((c.toNat : Int) == 126) = false := mark_no h126 rfl
  have g62 : ((c.toNat : Int) == 62) = false := mark_no h62 rfl
  have hdn : decide ((0 : Int) ≤ n) = false := dec_f (by omega)
  clear hn
  clear hm hno
  go_enter Tryz.func18, Tryz.ntmps18
  go_upto_region 2 with fail
  rw [← hW0]
  clear hW0 hrb
  go_wp2
  go_loopw [8] (fun ci wr => ∃ i : Nat, (i ≤ a ∧ wr = W0) ∧ ci = .int .i64 (i : Int)) (fun ci _ => a - (intOf ci).toNat)
  case atStart => exact ⟨0, ⟨Nat.zero_le _, rfl⟩, rfl⟩
  case round =>
    obtain ⟨i, ⟨hi, hw⟩, rfl⟩ := hrel
    subst hw
    by_cases hlt : i < a
    · have hil : i < s.size := by omega
      have hq1 : ((s[i].toNat : Int) != 13) = true := ne_mark (HNO.out i hlt hil).1 rfl
      have hq2 : ((s[i].toNat : Int) != 10) = true := ne_mark (HNO.out i hlt hil).2 rfl
      have hz0 : (0 : Int) ≤ (i : Int) := by omega
      have hz1 : (i : Int) < (s.size : Int) := by omega
      go_wp2
      go_roundw
      case rel => first | exact ⟨i + 1, ⟨by omega, trivial⟩, rfl⟩ | exact ⟨i + 1, ⟨by omega, rfl⟩, rfl⟩
      case measure => simp [intOf]; omega
    · have hik : i = a := by omega
      subst hik
      have hz0 : (0 : Int) ≤ (i : Int) := by omega
      have hz1 : (i : Int) < (s.size : Int) := by omega
      have hzs : i < s.size := by omega
      have hq1 : ((s[i].toNat : Int) != 13) = false := by rw [h13]; rfl
      have hq1b : ((s[i].toNat : Int) == 13) = true := by rw [h13]; rfl
      have hq3 : ((s[i + 1].toNat : Int) != 10) = false := by rw [h10]; rfl
      have hne1 : ((i : Int) == (s.size : Int)) = false := by simp; omega
      have hne2 : (((i : Int) + 1) == (s.size : Int)) = false := by simp; omega
      have hz2 : (0 : Int) ≤ (i : Int) + 1 := by omega
      have hz3 : (i : Int) + 1 < (s.size : Int) := by omega
      have hw1 : IntKind.i64.wrap ((i : Int) + 1) = (i : Int) + 1 := by rw [IntKind.wrap_i64] <;> omega
      have hw2 : IntKind.i64.wrap ((i : Int) + 2) = (i : Int) + 2 := by rw [IntKind.wrap_i64] <;> omega
      have hz4 : (0 : Int) ≤ (i : Int) + 2 := by omega
      have hz5 : (i : Int) + 2 ≤ (s.size : Int) := by omega
      go_wp2_with fail
      refine (HN.out _).mono ?_
      rintro e w1 ⟨rfl, hb1⟩
      have HB1 : Hid (Below w.heap.size w w1) := HB0.out.trans (hb1.mono HB0.out.size)
      have HR1 : Hid (w1.heap[rb]? = some (.cells #[.int .i64 0, .string ⟨#[]⟩, .int .i64 0, .slice none 0 0] 24)) := keep_row HR0.out hb1
      have HQ1 : Hid (w1.heap[rb + 1]? = some (.cells #[.int .i64 0, .string ⟨#[]⟩, .int .i64 0, .slice none 0 0] 24)) := keep_row HQ0.out hb1
      clear z0 z1 z2 z3 zf y0 y1 y2 y3 yf hb1
      obtain ⟨z0, z1, z2, z3, zf⟩ := prow4 HR1.out
      obtain ⟨y0, y1, y2, y3, yf⟩ := prow4 HQ1.out
      go_wp2
      exact rp3_fin _ 4 5 6 Tryz.results18 HR1.out _ _ _ _ _ _ _ (fun w' ho => ld_err 120 rfl (by decide) (HB1.out.trans (ho.below HRW.out))) _ rfl rfl rfl rfl
set_option maxHeartbeats 8000000 in
set_option maxRecDepth 20000 in
theorem rd_un_c (s : ByteArray) (D : Int) (hs : s.size ≤ 281474976710656) (a : Nat) (ha : a + 1 < s.size) (h13 : s[a] = 13) (h10 : s[a + 1] = 10) (hno : ∀ i, i < a → ∀ h : i < s.size, s[i] ≠ 13 ∧ s[i] ≠ 10) (ha1 : 1 ≤ a) (c : UInt8) (hm : s[0] = c) (T : ByteArray) (hT : s.extract 1 a = T) (n : Int) (hn : numberOf T.data.toList = some n) (hpos : 0 ≤ n) (h43 : c ≠ 43) (h45 : c ≠ 45) (h58 : c ≠ 58) (h36 : c ≠ 36) (h95 : c ≠ 95) (h35 : c ≠ 35) (h42 : c ≠ 42) (h37 : c ≠ 37) (h126 : c ≠ 126) (h62 : c ≠ 62) (w : World) :
    Calls Tryz.prog 18 #[.string s, .int .i64 D] w fun e w' => LdIs { e := 120 } w w' e := by
  obtain ⟨rb, hrb⟩ : ∃ rb, w.heap.size = rb := ⟨_, rfl⟩
  obtain ⟨W0, hW0⟩ : ∃ W, W = (w.alloc (.cells #[.int .i64 0, .string ⟨#[]⟩, .int .i64 0, .slice none 0 0] 24)).alloc (.cells #[.int .i64 0, .string ⟨#[]⟩, .int .i64 0, .slice none 0 0] 24) := ⟨_, rfl⟩
  have hb0 : Below w.heap.size w W0 := by rw [hW0]; exact ((Below.refl _ _).alloc (Nat.le_refl _) _).alloc (by simp) _
  have hr0 : W0.heap[rb]? = some (.cells #[.int .i64 0, .string ⟨#[]⟩, .int .i64 0, .slice none 0 0] 24) := by
    rw [hW0, ← hrb]; exact keep_row (one_alloc _ _) ((Below.refl _ _).alloc (Nat.le_refl _) _)
  have hq0 : W0.heap[rb + 1]? = some (.cells #[.int .i64 0, .string ⟨#[]⟩, .int .i64 0, .slice none 0 0] 24) := by
    have h9 := one_alloc (w.alloc (.cells #[.int .i64 0, .string ⟨#[]⟩, .int .i64 0, .slice none 0 0] 24)) (.cells #[.int .i64 0, .string ⟨#[]⟩, .int .i64 0, .slice none 0 0] 24)
    rw [hW0, ← hrb]; simpa using h9
  have HB0 : Hid (Below w.heap.size w W0) := hb0
  have HR0 : Hid _ := hr0
  have HQ0 : Hid _ := hq0
  have HRW : Hid (w.heap.size ≤ rb) := Nat.le_of_eq hrb
  obtain ⟨z0, z1, z2, z3, zf⟩ := prow4 HR0.out
  obtain ⟨y0, y1, y2, y3, yf⟩ := prow4 HQ0.out
  clear hb0 hr0 hq0
  have HNO : Hid _ := hno
  have hle : s.toList.isEmpty = false := str_full (by omega)
  have hz : (0 : Int) < (s.size : Int) := by omega
  have hmax : max (1 : Int) (a : Int) = (a : Int) := by omega
  have h1a : (1 : Int) ≤ (a : Int) := by omega
  have hal : (a : Int) ≤ (s.size : Int) := by omega
  have ha0 : ((a : Int) == 0) = false := by simp; omega
  have hm0 : (s[0].toNat : Int) = (c.toNat : Int) := by rw [hm]
  have hTs : T.size ≤ 281474976710656 := by rw [← hT, ext_size _ _ _ (by omega)]; omega
  have HN : Hid (∀ W, Calls Tryz.prog 34 #[.string T] W fun e w' => e = .returned (.tuple #[.int .i64 n, .bool true]) ∧ Below W.heap.size W w') := fun W => by
    have h9 := refNumber_any T (by unfold maxLen; omega) W
    rw [numT_some hn] at h9; exact h9
  have g43 : ((c.toNat : Int) == 43) = false := mark_no h43 rfl
  have g45 : ((c.toNat : Int) == 45) = false := mark_no h45 rfl
  have g58 : ((c.toNat : Int) == 58) = false := mark_no h58 rfl
  have g36 : ((c.toNat : Int) == 36) = false := mark_no h36 rfl
  have g95 : ((c.toNat : Int) == 95) = false := mark_no h95 rfl
  have g35 : ((c.toNat : Int) == 35) = false := mark_no h35 rfl
  have g42 : ((c.toNat : Int) == 42) = false := mark_no h42 rfl
  have g37 : ((c.toNat : Int) == 37) = false := mark_no h37 rfl
  have g126 : ((c.toNat : Int) == 126) = false := mark_no h126 rfl
  have g62 : ((c.toNat : Int) == 62) = false := mark_no h62 rfl
  have hdn : decide ((0 : Int) ≤ n) = true := dec_t hpos
  have HKD : Hid (∀ W, Calls Tryz.prog 36 #[.int .u8 (c.toNat : Int)] W fun e w' => e = .returned (.int .i64 0) ∧ w' = W) := fun W => by
    have h9 := rkind_any c W
    rw [show kindK c = 0 by unfold kindK; rw [if_neg h42, if_neg h37, if_neg h126, if_neg h62]] at h9
    exact h9
  clear hn
  clear hm hno
  go_enter Tryz.func18, Tryz.ntmps18
  go_upto_region 2 with fail
  rw [← hW0]
  clear hW0 hrb
  go_wp2
  go_loopw [8] (fun ci wr => ∃ i : Nat, (i ≤ a ∧ wr = W0) ∧ ci = .int .i64 (i : Int)) (fun ci _ => a - (intOf ci).toNat)
  case atStart => exact ⟨0, ⟨Nat.zero_le _, rfl⟩, rfl⟩
  case round =>
    obtain ⟨i, ⟨hi, hw⟩, rfl⟩ := hrel
    subst hw
    by_cases hlt : i < a
    · have hil : i < s.size := by omega
      have hq1 : ((s[i].toNat : Int) != 13) = true := ne_mark (HNO.out i hlt hil).1 rfl
      have hq2 : ((s[i].toNat : Int) != 10) = true := ne_mark (HNO.out i hlt hil).2 rfl
      have hz0 : (0 : Int) ≤ (i : Int) := by omega
      have hz1 : (i : Int) < (s.size : Int) := by omega
      go_wp2
      go_roundw
      case rel => first | exact ⟨i + 1, ⟨by omega, trivial⟩, rfl⟩ | exact ⟨i + 1, ⟨by omega, rfl⟩, rfl⟩
      case measure => simp [intOf]; omega
    · have hik : i = a := by omega
      subst hik
      have hz0 : (0 : Int) ≤ (i : Int) := by omega
      have hz1 : (i : Int) < (s.size : Int) := by omega
      have hzs : i < s.size := by omega
      have hq1 : ((s[i].toNat : Int) != 13) = false := by rw [h13]; rfl
      have hq1b : ((s[i].toNat : Int) == 13) = true := by rw [h13]; rfl
      have hq3 : ((s[i + 1].toNat : Int) != 10) = false := by rw [h10]; rfl
      have hne1 : ((i : Int) == (s.size : Int)) = false := by simp; omega
      have hne2 : (((i : Int) + 1) == (s.size : Int)) = false := by simp; omega
      have hz2 : (0 : Int) ≤ (i : Int) + 1 := by omega
      have hz3 : (i : Int) + 1 < (s.size : Int) := by omega
      have hw1 : IntKind.i64.wrap ((i : Int) + 1) = (i : Int) + 1 := by rw [IntKind.wrap_i64] <;> omega
      have hw2 : IntKind.i64.wrap ((i : Int) + 2) = (i : Int) + 2 := by rw [IntKind.wrap_i64] <;> omega
      have hz4 : (0 : Int) ≤ (i : Int) + 2 := by omega
      have hz5 : (i : Int) + 2 ≤ (s.size : Int) := by omega
      go_wp2_with fail
      refine (HN.out _).mono ?_
      rintro e w1 ⟨rfl, hb1⟩
      have HB1 : Hid (Below w.heap.size w w1) := HB0.out.trans (hb1.mono HB0.out.size)
      have HR1 : Hid (w1.heap[rb]? = some (.cells #[.int .i64 0, .string ⟨#[]⟩, .int .i64 0, .slice none 0 0] 24)) := keep_row HR0.out hb1
      have HQ1 : Hid (w1.heap[rb + 1]? = some (.cells #[.int .i64 0, .string ⟨#[]⟩, .int .i64 0, .slice none 0 0] 24)) := keep_row HQ0.out hb1
      clear z0 z1 z2 z3 zf y0 y1 y2 y3 yf hb1
      obtain ⟨z0, z1, z2, z3, zf⟩ := prow4 HR1.out
      obtain ⟨y0, y1, y2, y3, yf⟩ := prow4 HQ1.out
      go_wp2_with fail
      refine (HKD.out _).mono ?_
      rintro e w9 ⟨rfl, hw9⟩
      have hw9 := hw9.symm
      subst hw9
      go_wp2
      exact rp3_fin _ 4 5 6 Tryz.results18 HR1.out _ _ _ _ _ _ _ (fun w' ho => ld_err 120 rfl (by decide) (HB1.out.trans (ho.below HRW.out))) _ rfl rfl rfl rfl
end Go.Proofs.YtnfbaeajalnmmaaGreatDoor
