import Derived.Test.YtnfbaeajalnmmaaGreatDoorHP
namespace Go.Proofs.YtnfbaeajalnmmaaGreatDoor
open Go.RowKit Vi
set_option linter.unusedVariables false
set_option linter.unusedSimpArgs false
set_option maxHeartbeats 8000000 in
set_option maxRecDepth 20000 in
theorem rd_boolt (s : ByteArray) (D : Int) (hs : s.size ≤ 281474976710656) (a : Nat) (ha : a + 1 < s.size) (h13 : s[a] = 13) (h10 : s[a + 1] = 10) (hno : ∀ i, i < a → ∀ h : i < s.size, s[i] ≠ 13 ∧ s[i] ≠ 10) (ha1 : 1 ≤ a) (hm : s[0] = 35) (T : ByteArray) (hT : s.extract 1 a = T) (h0 : T.data.toList = [116]) (w : World) :
    Calls Tryz.prog 18 #[.string s, .int .i64 D] w fun e w' => LdIs { e := 0, kind := 11, n := 1, size := a + 2 } w w' e := by
  obtain ⟨rb, hrb⟩ : ∃ rb, w.heap.size = rb := ⟨_, rfl⟩
  obtain ⟨W0, hW0⟩ : ∃ W, W = (w.alloc (.cells #[.int .i64 0, .string ⟨#[]⟩, .int .i64 0, .slice none 0 0] 24)).alloc (.cells #[.int .i64 0, .string ⟨#[]⟩, .int .i64 0, .slice none 0 0] 24) := ⟨_, rfl⟩
  have hb0 : Below w.heap.size w W0 := by rw [hW0]; exact ((Below.refl _ _).alloc (Nat.le_refl _) _).alloc (by simp) _
  have hr0 : W0.heap[rb]? = some (.cells #[.int .i64 0, .string ⟨#[]⟩, .int .i64 0, .slice none 0 0] 24) := by
    rw [hW0, ← hrb]; exact keep_row (one_alloc _ _) ((Below.refl _ _).alloc (Nat.le_refl _) _)
  have hq0 : W0.heap[rb + 1]? = some (.cells #[.int .i64 0, .string ⟨#[]⟩, .int .i64 0, .slice none 0 0] 24) := by
    have h9 := one_alloc (w.alloc (.cells #[.int .i64 0, .string ⟨#[]⟩, .int .i64 0, .slice none 0 0] 24)) (.cells #[.int .i64 0, .string ⟨#[]⟩, .int .i64 0, .slice none 0 0] 24)
    rw [hW0, ← hrb]; simpa using h9
  have HB0 : Hid (Below w.heap.size w W0) := hb0
  have HR0 : Hid _ := hr0
  have HQ0 : Hid _ := hq0
  have HRW : Hid (w.heap.size ≤ rb) := Nat.le_of_eq hrb
  obtain ⟨z0, z1, z2, z3, zf⟩ := prow4 HR0.out
  obtain ⟨y0, y1, y2, y3, yf⟩ := prow4 HQ0.out
  clear hb0 hr0 hq0
  have HNO : Hid _ := hno
  have hle : s.toList.isEmpty = false := str_full (by omega)
  have hz : (0 : Int) < (s.size : Int) := by omega
  have hmax : max (1 : Int) (a : Int) = (a : Int) := by omega
  have h1a : (1 : Int) ≤ (a : Int) := by omega
  have hal : (a : Int) ≤ (s.size : Int) := by omega
  have ha0 : ((a : Int) == 0) = false := by simp; omega
  have hm0 : (s[0].toNat : Int) = 35 := by rw [hm]; rfl
  have hTs : T.size ≤ 281474976710656 := by rw [← hT, ext_size _ _ _ (by omega)]; omega
  have HN : Hid (∀ W, Calls Tryz.prog 34 #[.string T] W fun e w' => e = .returned (.tuple #[.int .i64 (numV T.data.toList).1, .bool (numV T.data.toList).2]) ∧ Below W.heap.size W w') := fun W => by
    have h9 := refNumber_any T (by unfold maxLen; omega) W
    rw [numV_is] at h9; exact h9
  have tt : (T.toList == [116]) = true := by rw [ByteArray.toList_eq]; rw [h0]; rfl
  have tf : (T.toList == [102]) = false := by rw [ByteArray.toList_eq]; rw [h0]; rfl
  generalize numV T.data.toList = nv at *
  clear h0
  clear hm hno
  go_enter Tryz.func18, Tryz.ntmps18
  go_upto_region 2 with fail
  rw [← hW0]
  clear hW0 hrb
  go_wp2
  go_loopw [8] (fun ci wr => ∃ i : Nat, (i ≤ a ∧ wr = W0) ∧ ci = .int .i64 (i : Int)) (fun ci _ => a - (intOf ci).toNat)
  case atStart => exact ⟨0, ⟨Nat.zero_le _, rfl⟩, rfl⟩
  case round =>
    obtain ⟨i, ⟨hi, hw⟩, rfl⟩ := hrel
    subst hw
    by_cases hlt : i < a
    · have hil : i < s.size := by omega
      have hq1 : ((s[i].toNat : Int) != 13) = true := ne_mark (HNO.out i hlt hil).1 rfl
      have hq2 : ((s[i].toNat : Int) != 10) = true := ne_mark (HNO.out i hlt hil).2 rfl
      have hz0 : (0 : Int) ≤ (i : Int) := by omega
      have hz1 : (i : Int) < (s.size : Int) := by omega
      go_wp2
      go_roundw
      case rel => first | exact ⟨i + 1, ⟨by omega, trivial⟩, rfl⟩ | exact ⟨i + 1, ⟨by omega, rfl⟩, rfl⟩
      case measure => simp [intOf]; omega
    · have hik : i = a := by omega
      subst hik
      have hz0 : (0 : Int) ≤ (i : Int) := by omega
      have hz1 : (i : Int) < (s.size : Int) := by omega
      have hzs : i < s.size := by omega
      have hq1 : ((s[i].toNat : Int) != 13) = false := by rw [h13]; rfl
      have hq1b : ((s[i].toNat : Int) == 13) = true := by rw [h13]; rfl
      have hq3 : ((s[i + 1].toNat : Int) != 10) = false := by rw [h10]; rfl
      have hne1 : ((i : Int) == (s.size : Int)) = false := by simp; omega
      have hne2 : (((i : Int) + 1) == (s.size : Int)) = false := by simp; omega
      have hz2 : (0 : Int) ≤ (i : Int) + 1 := by omega
      have hz3 : (i : Int) + 1 < (s.size : Int) := by omega
      have hw1 : IntKind.i64.wrap ((i : Int) + 1) = (i : Int) + 1 := by rw [IntKind.wrap_i64] <;> omega
      have hw2 : IntKind.i64.wrap ((i : Int) + 2) = (i : Int) + 2 := by rw [IntKind.wrap_i64] <;> omega
      have hz4 : (0 : Int) ≤ (i : Int) + 2 := by omega
      have hz5 : (i : Int) + 2 ≤ (s.size : Int) := by omega
      go_wp2_with fail
      refine (HN.out _).mono ?_
      rintro e w1 ⟨rfl, hb1⟩
      have HB1 : Hid (Below w.heap.size w w1) := HB0.out.trans (hb1.mono HB0.out.size)
      have HR1 : Hid (w1.heap[rb]? = some (.cells #[.int .i64 0, .string ⟨#[]⟩, .int .i64 0, .slice none 0 0] 24)) := keep_row HR0.out hb1
      have HQ1 : Hid (w1.heap[rb + 1]? = some (.cells #[.int .i64 0, .string ⟨#[]⟩, .int .i64 0, .slice none 0 0] 24)) := keep_row HQ0.out hb1
      clear z0 z1 z2 z3 zf y0 y1 y2 y3 yf hb1
      obtain ⟨z0, z1, z2, z3, zf⟩ := prow4 HR1.out
      obtain ⟨y0, y1, y2, y3, yf⟩ := prow4 HQ1.out
      go_wp2
      refine rp3_fin _ 4 5 6 Tryz.results18 HR1.out _ _ _ _ _ _ _ (fun w' ho => ?_) _ rfl rfl rfl rfl
      exact ⟨_, _, _, _, rfl, HB1.out.trans (ho.below HRW.out), fun _ => ⟨rfl, rfl, rfl, by show _ = ((i + 2 : Nat) : Int); omega⟩, fun h => absurd rfl h⟩
set_option maxHeartbeats 8000000 in
set_option maxRecDepth 20000 in
theorem rd_boolf (s : ByteArray) (D : Int) (hs : s.size ≤ 281474976710656) (a : Nat) (ha : a + 1 < s.size) (h13 : s[a] = 13) (h10 : s[a + 1] = 10) (hno : ∀ i, i < a → ∀ h : i < s.size, s[i] ≠ 13 ∧ s[i] ≠ 10) (ha1 : 1 ≤ a) (hm : s[0] = 35) (T : ByteArray) (hT : s.extract 1 a = T) (h0 : T.data.toList = [102]) (w : World) :
    Calls Tryz.prog 18 #[.string s, .int .i64 D] w fun e w' => LdIs { e := 0, kind := 11, n := 0, size := a + 2 } w w' e := by
  obtain ⟨rb, hrb⟩ : ∃ rb, w.heap.size = rb := ⟨_, rfl⟩
  obtain ⟨W0, hW0⟩ : ∃ W, W = (w.alloc (.cells #[.int .i64 0, .string ⟨#[]⟩, .int .i64 0, .slice none 0 0] 24)).alloc (.cells #[.int .i64 0, .string ⟨#[]⟩, .int .i64 0, .slice none 0 0] 24) := ⟨_, rfl⟩
  have hb0 : Below w.heap.size w W0 := by rw [hW0]; exact ((Below.refl _ _).alloc (Nat.le_refl _) _).alloc (by simp) _
  have hr0 : W0.heap[rb]? = some (.cells #[.int .i64 0, .string ⟨#[]⟩, .int .i64 0, .slice none 0 0] 24) := by
    rw [hW0, ← hrb]; exact keep_row (one_alloc _ _) ((Below.refl _ _).alloc (Nat.le_refl _) _)
  have hq0 : W0.heap[rb + 1]? = some (.cells #[.int .i64 0, .string ⟨#[]⟩, .int .i64 0, .slice none 0 0] 24) := by
    have h9 := one_alloc (w.alloc (.cells #[.int .i64 0, .string ⟨#[]⟩, .int .i64 0, .slice none 0 0] 24)) (.cells #[.int .i64 0, .string ⟨#[]⟩, .int .i64 0, .slice none 0 0] 24)
    rw [hW0, ← hrb]; simpa using h9
  have HB0 : Hid (Below w.heap.size w W0) := hb0
  have HR0 : Hid _ := hr0
  have HQ0 : Hid _ := hq0
  have HRW : Hid (w.heap.size ≤ rb) := Nat.le_of_eq hrb
  obtain ⟨z0, z1, z2, z3, zf⟩ := prow4 HR0.out
  obtain ⟨y0, y1, y2, y3, yf⟩ := prow4 HQ0.out
  clear hb0 hr0 hq0
  have HNO : Hid _ := hno
  have hle : s.toList.isEmpty = false := str_full (by omega)
  have hz : (0 : Int) < (s.size : Int) := by omega
  have hmax : max (1 : Int) (a : Int) = (a : Int) := by omega
  have h1a : (1 : Int) ≤ (a : Int) := by omega
  have hal : (a : Int) ≤ (s.size : Int) := by omega
  have ha0 : ((a : Int) == 0) = false := by simp; omega
  have hm0 : (s[0].toNat : Int) = 35 := by rw [hm]; rfl
  have hTs : T.size ≤ 281474976710656 := by rw [← hT, ext_size _ _ _ (by omega)]; omega
  have HN : Hid (∀ W, Calls Tryz.prog 34 #[.string T] W fun e w' => e = .returned (.tuple #[.int .i64 (numV T.data.toList).1, .bool (numV T.data.toList).2]) ∧ Below W.heap.size W w') := fun W => by
    have h9 := refNumber_any T (by unfold maxLen; omega) W
    rw [numV_is] at h9; exact h9
  have tt : (T.toList == [116]) = false := by rw [ByteArray.toList_eq]; rw [h0]; rfl
  have tf : (T.toList == [102]) = true := by rw [ByteArray.toList_eq]; rw [h0]; rfl
  generalize numV T.data.toList = nv at *
  clear h0
  clear hm hno
  go_enter Tryz.func18, Tryz.ntmps18
  go_upto_region 2 with fail
  rw [← hW0]
  clear hW0 hrb
  go_wp2
  go_loopw [8] (fun ci wr => ∃ i : Nat, (i ≤ a ∧ wr = W0) ∧ ci = .int .i64 (i : Int)) (fun ci _ => a - (intOf ci).toNat)
  case atStart => exact ⟨0, ⟨Nat.zero_le _, rfl⟩, rfl⟩
  case round =>
    obtain ⟨i, ⟨hi, hw⟩, rfl⟩ := hrel
    subst hw
    by_cases hlt : i < a
    · have hil : i < s.size := by omega
      have hq1 : ((s[i].toNat : Int) != 13) = true := ne_mark (HNO.out i hlt hil).1 rfl
      have hq2 : ((s[i].toNat : Int) != 10) = true := ne_mark (HNO.out i hlt hil).2 rfl
      have hz0 : (0 : Int) ≤ (i : Int) := by omega
      have hz1 : (i : Int) < (s.size : Int) := by omega
      go_wp2
      go_roundw
      case rel => first | exact ⟨i + 1, ⟨by omega, trivial⟩, rfl⟩ | exact ⟨i + 1, ⟨by omega, rfl⟩, rfl⟩
      case measure => simp [intOf]; omega
    · have hik : i = a := by omega
      subst hik
      have hz0 : (0 : Int) ≤ (i : Int) := by omega
      have hz1 : (i : Int) < (s.size : Int) := by omega
      have hzs : i < s.size := by omega
      have hq1 : ((s[i].toNat : Int) != 13) = false := by rw [h13]; rfl
      have hq1b : ((s[i].toNat : Int) == 13) = true := by rw [h13]; rfl
      have hq3 : ((s[i + 1].toNat : Int) != 10) = false := by rw [h10]; rfl
      have hne1 : ((i : Int) == (s.size : Int)) = false := by simp; omega
      have hne2 : (((i : Int) + 1) == (s.size : Int)) = false := by simp; omega
      have hz2 : (0 : Int) ≤ (i : Int) + 1 := by omega
      have hz3 : (i : Int) + 1 < (s.size : Int) := by omega
      have hw1 : IntKind.i64.wrap ((i : Int) + 1) = (i : Int) + 1 := by rw [IntKind.wrap_i64] <;> omega
      have hw2 : IntKind.i64.wrap ((i : Int) + 2) = (i : Int) + 2 := by rw [IntKind.wrap_i64] <;> omega
      have hz4 : (0 : Int) ≤ (i : Int) + 2 := by omega
      have hz5 : (i : Int) + 2 ≤ (s.size : Int) := by omega
      go_wp2_with fail
      refine (HN.out _).mono ?_
      rintro e w1 ⟨rfl, hb1⟩
      have HB1 : Hid (Below w.heap.size w w1) := HB0.out.trans (hb1.mono HB0.out.size)
      have HR1 : Hid (w1.heap[rb]? = some (.cells #[.int .i64 0, .string ⟨#[]⟩, .int .i64 0, .slice none 0 0] 24)) := keep_row HR0.out hb1
      have HQ1 : Hid (w1.heap[rb + 1]? = some (.cells #[.int .i64 0, .string ⟨#[]⟩, .int .i64 0, .slice none 0 0] 24)) := keep_row HQ0.out hb1
      clear z0 z1 z2 z3 zf y0 y1 y2 y3 yf hb1
      obtain ⟨z0, z1, z2, z3, zf⟩ := prow4 HR1.out
      obtain ⟨y0, y1, y2, y3, yf⟩ := prow4 HQ1.out
      go_wp2
      refine rp3_fin _ 4 5 6 Tryz.results18 HR1.out _ _ _ _ _ _ _ (fun w' ho => ?_) _ rfl rfl rfl rfl
      exact ⟨_, _, _, _, rfl, HB1.out.trans (ho.below HRW.out), fun _ => ⟨rfl, rfl, rfl, by show _ = ((i + 2 : Nat) : Int); omega⟩, fun h => absurd rfl h⟩
set_option maxHeartbeats 8000000 in
set_option maxRecDepth 20000 in
theorem rd_boolno_a (s : ByteArray) (D : Int) (hs : s.size ≤ 281474976710656) (a : Nat) (ha : a + 1 < s.size) (h13 : s[a] = 13) (h10 : s[a + 1] = 10) (hno : ∀ i, i < a → ∀ h : i < s.size, s[i] ≠ 13 ∧ s[i] ≠ 10) (ha1 : 1 ≤ a) (hm : s[0] = 35) (T : ByteArray) (hT : s.extract 1 a = T) (hn : numberOf T.data.toList = none) (h0 : T.data.toList ≠ [116]) (h1 : T.data.toList ≠ [102]) (w : World) :
    Calls Tryz.prog 18 #[.string s, .int .i64 D] w fun e w' => LdIs { e := 120 } w w' e := by
  obtain ⟨rb, hrb⟩ : ∃ rb, w.heap.size = rb := ⟨_, rfl⟩
  obtain ⟨W0, hW0⟩ : ∃ W, W = (w.alloc (.cells #[.int .i64 0, .string ⟨#[]⟩, .int .i64 0, .slice none 0 0] 24)).alloc (.cells #[.int .i64 0, .string ⟨#[]⟩, .int .i64 0, .slice none 0 0] 24) := ⟨_, rfl⟩
  have hb0 : Below w.heap.size w W0 := by rw [hW0]; exact ((Below.refl _ _).alloc (Nat.le_refl _) _).alloc (by simp) _
  have hr0 : W0.heap[rb]? = some (.cells #[.int .i64 0, .string ⟨#[]⟩, .int .i64 0, .slice none 0 0] 24) := by
    rw [hW0, ← hrb]; exact keep_row (one_alloc _ _) ((Below.refl _ _).alloc (Nat.le_refl _) _)
  have hq0 : W0.heap[rb + 1]? = some (.cells #[.int .i64 0, .string ⟨#[]⟩, .int .i64 0, .slice none 0 0] 24) := by
    have h9 := one_alloc (w.alloc (.cells #[.int .i64 0, .string ⟨#[]⟩, .int .i64 0, .slice none 0 0] 24)) (.cells #[.int .i64 0, .string ⟨#[]⟩, .int .i64 0, .slice none 0 0] 24)
    rw [hW0, ← hrb]; simpa using h9
  have HB0 : Hid (Below w.heap.size w W0) := hb0
  have HR0 : Hid _ := hr0
  have HQ0 : Hid _ := hq0
  have HRW : Hid (w.heap.size ≤ rb) := Nat.le_of_eq hrb
  obtain ⟨z0, z1, z2, z3, zf⟩ := prow4 HR0.out
  obtain ⟨y0, y1, y2, y3, yf⟩ := prow4 HQ0.out
  clear hb0 hr0 hq0
  have HNO : Hid _ := hno
  have hle : s.toList.isEmpty = false := str_full (by omega)
  have hz : (0 : Int) < (s.size : Int) := by omega
  have hmax : max (1 : Int) (a : Int) = (a : Int) := by omega
  have h1a : (1 : Int) ≤ (a : Int) := by omega
  have hal : (a : Int) ≤ (s.size : Int) := by omega
  have ha0 : ((a : Int) == 0) = false := by simp; omega
  have hm0 : (s[0].toNat : Int) = 35 := by rw [hm]; rfl
  have hTs : T.size ≤ 281474976710656 := by rw [← hT, ext_size _ _ _ (by omega)]; omega
  have HN : Hid (∀ W, Calls Tryz.prog 34 #[.string T] W fun e w' => e = .returned (.tuple #[.int .i64 0, .bool false]) ∧ Below W.heap.size W w') := fun W => by
    have h9 := refNumber_any T (by unfold maxLen; omega) W
    rw [numT_none hn] at h9; exact h9
  have tt : (T.toList == [116]) = false := by rw [ByteArray.toList_eq]; simpa using h0
  have tf : (T.toList == [102]) = false := by rw [ByteArray.toList_eq]; simpa using h1
  clear hn
  clear hm hno
  go_enter Tryz.func18, Tryz.ntmps18
  go_upto_region 2 with fail
  rw [← hW0]
  clear hW0 hrb
  go_wp2
  go_loopw [8] (fun ci wr => ∃ i : Nat, (i ≤ a ∧ wr = W0) ∧ ci = .int .i64 (i : Int)) (fun ci _ => a - (intOf ci).toNat)
  case atStart => exact ⟨0, ⟨Nat.zero_le _, rfl⟩, rfl⟩
  case round =>
    obtain ⟨i, ⟨hi, hw⟩, rfl⟩ := hrel
    subst hw
    by_cases hlt : i < a
    · have hil : i < s.size := by omega
      have hq1 : ((s[i].toNat : Int) != 13) = true := ne_mark (HNO.out i hlt hil).1 rfl
      have hq2 : ((s[i].toNat : Int) != 10) = true := ne_mark (HNO.out i hlt hil).2 rfl
      have hz0 : (0 : Int) ≤ (i : Int) := by omega
      have hz1 : (i : Int) < (s.size : Int) := by omega
      go_wp2
      go_roundw
      case rel => first | exact ⟨i + 1, ⟨by omega, trivial⟩, rfl⟩ | exact ⟨i + 1, ⟨by omega, rfl⟩, rfl⟩
      case measure => simp [intOf]; omega
    · have hik : i = a := by omega
      subst hik
      have hz0 : (0 : Int) ≤ (i : Int) := by omega
      have hz1 : (i : Int) < (s.size : Int) := by omega
      have hzs : i < s.size := by omega
      have hq1 : ((s[i].toNat : Int) != 13) = false := by rw [h13]; rfl
      have hq1b : ((s[i].toNat : Int) == 13) = true := by rw [h13]; rfl
      have hq3 : ((s[i + 1].toNat : Int) != 10) = false := by rw [h10]; rfl
      have hne1 : ((i : Int) == (s.size : Int)) = false := by simp; omega
      have hne2 : (((i : Int) + 1) == (s.size : Int)) = false := by simp; omega
      have hz2 : (0 : Int) ≤ (i : Int) + 1 := by omega
      have hz3 : (i : Int) + 1 < (s.size : Int) := by omega
      have hw1 : IntKind.i64.wrap ((i : Int) + 1) = (i : Int) + 1 := by rw [IntKind.wrap_i64] <;> omega
      have hw2 : IntKind.i64.wrap ((i : Int) + 2) = (i : Int) + 2 := by rw [IntKind.wrap_i64] <;> omega
      have hz4 : (0 : Int) ≤ (i : Int) + 2 := by omega
      have hz5 : (i : Int) + 2 ≤ (s.size : Int) := by omega
      go_wp2_with fail
      refine (HN.out _).mono ?_
      rintro e w1 ⟨rfl, hb1⟩
      have HB1 : Hid (Below w.heap.size w w1) := HB0.out.trans (hb1.mono HB0.out.size)
      have HR1 : Hid (w1.heap[rb]? = some (.cells #[.int .i64 0, .string ⟨#[]⟩, .int .i64 0, .slice none 0 0] 24)) := keep_row HR0.out hb1
      have HQ1 : Hid (w1.heap[rb + 1]? = some (.cells #[.int .i64 0, .string ⟨#[]⟩, .int .i64 0, .slice none 0 0] 24)) := keep_row HQ0.out hb1
      clear z0 z1 z2 z3 zf y0 y1 y2 y3 yf hb1
      obtain ⟨z0, z1, z2, z3, zf⟩ := prow4 HR1.out
      obtain ⟨y0, y1, y2, y3, yf⟩ := prow4 HQ1.out
      go_wp2
      exact rp3_fin _ 4 5 6 Tryz.results18 HR1.out _ _ _ _ _ _ _ (fun w' ho => ld_err 120 rfl (by decide) (HB1.out.trans (ho.below HRW.out))) _ rfl rfl rfl rfl
set_option maxHeartbeats 8000000 in
set_option maxRecDepth 20000 in
theorem rd_boolno_b (s : ByteArray) (D : Int) (hs : s.size ≤ 281474976710656) (a : Nat) (ha : a + 1 < s.size) (h13 : s[a] = 13) (h10 : s[a + 1] = 10) (hno : ∀ i, i < a → ∀ h : i < s.size, s[i] ≠ 13 ∧ s[i] ≠ 10) (ha1 : 1 ≤ a) (hm : s[0] = 35) (T : ByteArray) (hT : s.extract 1 a = T) (n : Int) (hn : numberOf T.data.toList = some n) (hneg : n < 0) (h0 : T.data.toList ≠ [116]) (h1 : T.data.toList ≠ [102]) (w : World) :
    Calls Tryz.prog 18 #[.string s, .int .i64 D] w fun e w' => LdIs { e := 120 } w w' e := by
  obtain ⟨rb, hrb⟩ : ∃ rb, w.heap.size = rb := ⟨_, rfl⟩
  obtain ⟨W0, hW0⟩ : ∃ W, W = (w.alloc (.cells #[.int .i64 0, .string ⟨#[]⟩, .int .i64 0, .slice none 0 0] 24)).alloc (.cells #[.int .i64 0, .string ⟨#[]⟩, .int .i64 0, .slice none 0 0] 24) := ⟨_, rfl⟩
  have hb0 : Below w.heap.size w W0 := by rw [hW0]; exact ((Below.refl _ _).alloc (Nat.le_refl _) _).alloc (by simp) _
  have hr0 : W0.heap[rb]? = some (.cells #[.int .i64 0, .string ⟨#[]⟩, .int .i64 0, .slice none 0 0] 24) := by
    rw [hW0, ← hrb]; exact keep_row (one_alloc _ _) ((Below.refl _ _).alloc (Nat.le_refl _) _)
  have hq0 : W0.heap[rb + 1]? = some (.cells #[.int .i64 0, .string ⟨#[]⟩, .int .i64 0, .slice none 0 0] 24) := by
    have h9 := one_alloc (w.alloc (.cells #[.int .i64 0, .string ⟨#[]⟩, .int .i64 0, .slice none 0 0] 24)) (.cells #[.int .i64 0, .string ⟨#[]⟩, .int .i64 0, .slice none 0 0] 24)
    rw [hW0, ← hrb]; simpa using h9
  have HB0 : Hid (Below w.heap.size w W0) := hb0
  have HR0 : Hid _ := hr0
  have HQ0 : Hid _ := hq0
  have HRW : Hid (w.heap.size ≤ rb) := Nat.le_of_eq hrb
  obtain ⟨z0, z1, z2, z3, zf⟩ := prow4 HR0.out
  obtain ⟨y0, y1, y2, y3, yf⟩ := prow4 HQ0.out
  clear hb0 hr0 hq0
  have HNO : Hid _ := hno
  have hle : s.toList.isEmpty = false := str_full (by omega)
  have hz : (0 : Int) < (s.size : Int) := by omega
  have hmax : max (1 : Int) (a : Int) = (a : Int) := by omega
  have h1a : (1 : Int) ≤ (a : Int) := by omega
  have hal : (a : Int) ≤ (s.size : Int) := by omega
  have ha0 : ((a : Int) == 0) = false := by simp; omega
  have hm0 : (s[0].toNat : Int) = 35 := by rw [hm]; rfl
  have hTs : T.size ≤ 281474976710656 := by rw [← hT, ext_size _ _ _ (by omega)]; omega
  have HN : Hid (∀ W, Calls Tryz.prog 34 #[.string T] W fun e w' => e = .returned (.tuple #[.int .i64 n, .bool true]) ∧ Below W.heap.size W w') := fun W => by
    have h9 := refNumber_any T (by unfold maxLen; omega) W
    rw [numT_some hn] at h9; exact h9
  have tt : (T.toList == [116]) = false := by rw [ByteArray.toList_eq]; simpa using h0
  have tf : (T.toList == [102]) = false := by rw [ByteArray.toList_eq]; simpa using h1
  have hdn : decide ((0 : Int) ≤ n) = false := dec_f (by omega)
  clear hn
  clear hm hno
  go_enter Tryz.func18, Tryz.ntmps18
  go_upto_region 2 with fail
  rw [← hW0]
  clear hW0 hrb
  go_wp2
  go_loopw [8] (fun ci wr => ∃ i : Nat, (i ≤ a ∧ wr = W0) ∧ ci = .int .i64 (i : Int)) (fun ci _ => a - (intOf ci).toNat)
  case atStart => exact ⟨0, ⟨Nat.zero_le _, rfl⟩, rfl⟩
  case round =>
    obtain ⟨i, ⟨hi, hw⟩, rfl⟩ := hrel
    subst hw
    by_cases hlt : i < a
    · have hil : i < s.size := by omega
      have hq1 : ((s[i].toNat : Int) != 13) = true := ne_mark (HNO.out i hlt hil).1 rfl
      have hq2 : ((s[i].toNat : Int) != 10) = true := ne_mark (HNO.out i hlt hil).2 rfl
      have hz0 : (0 : Int) ≤ (i : Int) := by omega
      have hz1 : (i : Int) < (s.size : Int) := by omega
      go_wp2
      go_roundw
      case rel => first | exact ⟨i + 1, ⟨by omega, trivial⟩, rfl⟩ | exact ⟨i + 1, ⟨by omega, rfl⟩, rfl⟩
      case measure => simp [intOf]; omega
    · have hik : i = a := by omega
      subst hik
      have hz0 : (0 : Int) ≤ (i : Int) := by omega
      have hz1 : (i : Int) < (s.size : Int) := by omega
      have hzs : i < s.size := by omega
      have hq1 : ((s[i].toNat : Int) != 13) = false := by rw [h13]; rfl
      have hq1b : ((s[i].toNat : Int) == 13) = true := by rw [h13]; rfl
      have hq3 : ((s[i + 1].toNat : Int) != 10) = false := by rw [h10]; rfl
      have hne1 : ((i : Int) == (s.size : Int)) = false := by simp; omega
      have hne2 : (((i : Int) + 1) == (s.size : Int)) = false := by simp; omega
      have hz2 : (0 : Int) ≤ (i : Int) + 1 := by omega
      have hz3 : (i : Int) + 1 < (s.size : Int) := by omega
      have hw1 : IntKind.i64.wrap ((i : Int) + 1) = (i : Int) + 1 := by rw [IntKind.wrap_i64] <;> omega
      have hw2 : IntKind.i64.wrap ((i : Int) + 2) = (i : Int) + 2 := by rw [IntKind.wrap_i64] <;> omega
      have hz4 : (0 : Int) ≤ (i : Int) + 2 := by omega
      have hz5 : (i : Int) + 2 ≤ (s.size : Int) := by omega
      go_wp2_with fail
      refine (HN.out _).mono ?_
      rintro e w1 ⟨rfl, hb1⟩
      have HB1 : Hid (Below w.heap.size w w1) := HB0.out.trans (hb1.mono HB0.out.size)
      have HR1 : Hid (w1.heap[rb]? = some (.cells #[.int .i64 0, .string ⟨#[]⟩, .int .i64 0, .slice none 0 0] 24)) := keep_row HR0.out hb1
      have HQ1 : Hid (w1.heap[rb + 1]? = some (.cells #[.int .i64 0, .string ⟨#[]⟩, .int .i64 0, .slice none 0 0] 24)) := keep_row HQ0.out hb1
      clear z0 z1 z2 z3 zf y0 y1 y2 y3 yf hb1
      obtain ⟨z0, z1, z2, z3, zf⟩ := prow4 HR1.out
      obtain ⟨y0, y1, y2, y3, yf⟩ := prow4 HQ1.out
      go_wp2
      exact rp3_fin _ 4 5 6 Tryz.results18 HR1.out _ _ _ _ _ _ _ (fun w' ho => ld_err 120 rfl (by decide) (HB1.out.trans (ho.below HRW.out))) _ rfl rfl rfl rfl
set_option maxHeartbeats 8000000 in
set_option maxRecDepth 20000 in
theorem rd_boolno_c (s : ByteArray) (D : Int) (hs : s.size ≤ 281474976710656) (a : Nat) (ha : a + 1 < s.size) (h13 : s[a] = 13) (h10 : s[a + 1] = 10) (hno : ∀ i, i < a → ∀ h : i < s.size, s[i] ≠ 13 ∧ s[i] ≠ 10) (ha1 : 1 ≤ a) (hm : s[0] = 35) (T : ByteArray) (hT : s.extract 1 a = T) (n : Int) (hn : numberOf T.data.toList = some n) (hpos : 0 ≤ n) (h0 : T.data.toList ≠ [116]) (h1 : T.data.toList ≠ [102]) (w : World) :
    Calls Tryz.prog 18 #[.string s, .int .i64 D] w fun e w' => LdIs { e := 120 } w w' e := by
  obtain ⟨rb, hrb⟩ : ∃ rb, w.heap.size = rb := ⟨_, rfl⟩
  obtain ⟨W0, hW0⟩ : ∃ W, W = (w.alloc (.cells #[.int .i64 0, .string ⟨#[]⟩, .int .i64 0, .slice none 0 0] 24)).alloc (.cells #[.int .i64 0, .string ⟨#[]⟩, .int .i64 0, .slice none 0 0] 24) := ⟨_, rfl⟩
  have hb0 : Below w.heap.size w W0 := by rw [hW0]; exact ((Below.refl _ _).alloc (Nat.le_refl _) _).alloc (by simp) _
  have hr0 : W0.heap[rb]? = some (.cells #[.int .i64 0, .string ⟨#[]⟩, .int .i64 0, .slice none 0 0] 24) := by
    rw [hW0, ← hrb]; exact keep_row (one_alloc _ _) ((Below.refl _ _).alloc (Nat.le_refl _) _)
  have hq0 : W0.heap[rb + 1]? = some (.cells #[.int .i64 0, .string ⟨#[]⟩, .int .i64 0, .slice none 0 0] 24) := by
    have h9 := one_alloc (w.alloc (.cells #[.int .i64 0, .string ⟨#[]⟩, .int .i64 0, .slice none 0 0] 24)) (.cells #[.int .i64 0, .string ⟨#[]⟩, .int .i64 0, .slice none 0 0] 24)
    rw [hW0, ← hrb]; simpa using h9
  have HB0 : Hid (Below w.heap.size w W0) := hb0
  have HR0 : Hid _ := hr0
  have HQ0 : Hid _ := hq0
  have HRW : Hid (w.heap.size ≤ rb) := Nat.le_of_eq hrb
  obtain ⟨z0, z1, z2, z3, zf⟩ := prow4 HR0.out
  obtain ⟨y0, y1, y2, y3, yf⟩ := prow4 HQ0.out
  clear hb0 hr0 hq0
  have HNO : Hid _ := hno
  have hle : s.toList.isEmpty = false := str_full (by omega)
  have hz : (0 : Int) < (s.size : Int) := by omega
  have hmax : max (1 : Int) (a : Int) = (a : Int) := by omega
  have h1a : (1 : Int) ≤ (a : Int) := by omega
  have hal : (a : Int) ≤ (s.size : Int) := by omega
  have ha0 : ((a : Int) == 0) = false := by simp; omega
  have hm0 : (s[0].toNat : Int) = 35 := by rw [hm]; rfl
  have hTs : T.size ≤ 281474976710656 := by rw [← hT, ext_size _ _ _ (by omega)]; omega
  have HN : Hid (∀ W, Calls Tryz.prog 34 #[.string T] W fun e w' => e = .returned (.tuple #[.int .i64 n, .bool true]) ∧ Below W.heap.size W w') := fun W => by
    have h9 := refNumber_any T (by unfold maxLen; omega) W
    rw [numT_some hn] at h9; exact h9
  have tt : (T.toList == [116]) = false := by rw [ByteArray.toList_eq]; simpa using h0
  have tf : (T.toList == [102]) = false := by rw [ByteArray.toList_eq]; simpa using h1
  have hdn : decide ((0 : Int) ≤ n) = true := dec_t hpos
  have HKD : Hid (∀ W, Calls Tryz.prog 36 #[.int .u8 35] W fun e w' => e = .returned (.int .i64 0) ∧ w' = W) := fun W => rkind_any 35 W
  clear hn
  clear hm hno
  go_enter Tryz.func18, Tryz.ntmps18
  go_upto_region 2 with fail
  rw [← hW0]
  clear hW0 hrb
  go_wp2
  go_loopw [8] (fun ci wr => ∃ i : Nat, (i ≤ a ∧ wr = W0) ∧ ci = .int .i64 (i : Int)) (fun ci _ => a - (intOf ci).toNat)
  case atStart => exact ⟨0, ⟨Nat.zero_le _, rfl⟩, rfl⟩
  case round =>
    obtain ⟨i, ⟨hi, hw⟩, rfl⟩ := hrel
    subst hw
    by_cases hlt : i < a
    · have hil : i < s.size := by omega
      have hq1 : ((s[i].toNat : Int) != 13) = true := ne_mark (HNO.out i hlt hil).1 rfl
      have hq2 : ((s[i].toNat : Int) != 10) = true := ne_mark (HNO.out i hlt hil).2 rfl
      have hz0 : (0 : Int) ≤ (i : Int) := by omega
      have hz1 : (i : Int) < (s.size : Int) := by omega
      go_wp2
      go_roundw
      case rel => first | exact ⟨i + 1, ⟨by omega, trivial⟩, rfl⟩ | exact ⟨i + 1, ⟨by omega, rfl⟩, rfl⟩
      case measure => simp [intOf]; omega
    · have hik : i = a := by omega
      subst hik
      have hz0 : (0 : Int) ≤ (i : Int) := by omega
      have hz1 : (i : Int) < (s.size : Int) := by omega
      have hzs : i < s.size := by omega
      have hq1 : ((s[i].toNat : Int) != 13) = false := by rw [h13]; rfl
      have hq1b : ((s[i].toNat : Int) == 13) = true := by rw [h13]; rfl
      have hq3 : ((s[i + 1].toNat : Int) != 10) = false := by rw [h10]; rfl
      have hne1 : ((i : Int) == (s.size : Int)) = false := by simp; omega
      have hne2 : (((i : Int) + 1) == (s.size : Int)) = false := by simp; omega
      have hz2 : (0 : Int) ≤ (i : Int) + 1 := by omega
      have hz3 : (i : Int) + 1 < (s.size : Int) := by omega
      have hw1 : IntKind.i64.wrap ((i : Int) + 1) = (i : Int) + 1 := by rw [IntKind.wrap_i64] <;> omega
      have hw2 : IntKind.i64.wrap ((i : Int) + 2) = (i : Int) + 2 := by rw [IntKind.wrap_i64] <;> omega
      have hz4 : (0 : Int) ≤ (i : Int) + 2 := by omega
      have hz5 : (i : Int) + 2 ≤ (s.size : Int) := by omega
      go_wp2_with fail
      refine (HN.out _).mono ?_
      rintro e w1 ⟨rfl, hb1⟩
      have HB1 : Hid (Below w.heap.size w w1) := HB0.out.trans (hb1.mono HB0.out.size)
      have HR1 : Hid (w1.heap[rb]? = some (.cells #[.int .i64 0, .string ⟨#[]⟩, .int .i64 0, .slice none 0 0] 24)) := keep_row HR0.out hb1
      have HQ1 : Hid (w1.heap[rb + 1]? = some (.cells #[.int .i64 0, .string ⟨#[]⟩, .int .i64 0, .slice none 0 0] 24)) := keep_row HQ0.out hb1
      clear z0 z1 z2 z3 zf y0 y1 y2 y3 yf hb1
      obtain ⟨z0, z1, z2, z3, zf⟩ := prow4 HR1.out
      obtain ⟨y0, y1, y2, y3, yf⟩ := prow4 HQ1.out
      go_wp2_with fail
      refine (HKD.out _).mono ?_
      rintro e w9 ⟨rfl, hw9⟩
      have hw9 := hw9.symm
      subst hw9
      go_wp2
      exact rp3_fin _ 4 5 6 Tryz.results18 HR1.out _ _ _ _ _ _ _ (fun w' ho => ld_err 120 rfl (by decide) (HB1.out.trans (ho.below HRW.out))) _ rfl rfl rfl rfl
end Go.Proofs.YtnfbaeajalnmmaaGreatDoor
namespace Go.Proofs.YtnfbaeajalnmmaaGreatDoor
open Go.RowKit Vi
set_option linter.unusedVariables false
set_option linter.unusedSimpArgs false
set_option maxHeartbeats 8000000 in
set_option maxRecDepth 20000 in
theorem rd_bulkm (s : ByteArray) (D : Int) (hs : s.size ≤ 281474976710656) (a : Nat) (ha : a + 1 < s.size) (h13 : s[a] = 13) (h10 : s[a + 1] = 10) (hno : ∀ i, i < a → ∀ h : i < s.size, s[i] ≠ 13 ∧ s[i] ≠ 10) (ha1 : 1 ≤ a) (hm : s[0] = 36) (T : ByteArray) (hT : s.extract 1 a = T) (h0 : T.data.toList = [45, 49]) (w : World) :
    Calls Tryz.prog 18 #[.string s, .int .i64 D] w fun e w' => LdIs { e := 0, size := a + 2 } w w' e := by
  obtain ⟨rb, hrb⟩ : ∃ rb, w.heap.size = rb := ⟨_, rfl⟩
  obtain ⟨W0, hW0⟩ : ∃ W, W = (w.alloc (.cells #[.int .i64 0, .string ⟨#[]⟩, .int .i64 0, .slice none 0 0] 24)).alloc (.cells #[.int .i64 0, .string ⟨#[]⟩, .int .i64 0, .slice none 0 0] 24) := ⟨_, rfl⟩
  have hb0 : Below w.heap.size w W0 := by rw [hW0]; exact ((Below.refl _ _).alloc (Nat.le_refl _) _).alloc (by simp) _
  have hr0 : W0.heap[rb]? = some (.cells #[.int .i64 0, .string ⟨#[]⟩, .int .i64 0, .slice none 0 0] 24) := by
    rw [hW0, ← hrb]; exact keep_row (one_alloc _ _) ((Below.refl _ _).alloc (Nat.le_refl _) _)
  have hq0 : W0.heap[rb + 1]? = some (.cells #[.int .i64 0, .string ⟨#[]⟩, .int .i64 0, .slice none 0 0] 24) := by
    have h9 := one_alloc (w.alloc (.cells #[.int .i64 0, .string ⟨#[]⟩, .int .i64 0, .slice none 0 0] 24)) (.cells #[.int .i64 0, .string ⟨#[]⟩, .int .i64 0, .slice none 0 0] 24)
    rw [hW0, ← hrb]; simpa using h9
  have HB0 : Hid (Below w.heap.size w W0) := hb0
  have HR0 : Hid _ := hr0
  have HQ0 : Hid _ := hq0
  have HRW : Hid (w.heap.size ≤ rb) := Nat.le_of_eq hrb
  obtain ⟨z0, z1, z2, z3, zf⟩ := prow4 HR0.out
  obtain ⟨y0, y1, y2, y3, yf⟩ := prow4 HQ0.out
  clear hb0 hr0 hq0
  have HNO : Hid _ := hno
  have hle : s.toList.isEmpty = false := str_full (by omega)
  have hz : (0 : Int) < (s.size : Int) := by omega
  have hmax : max (1 : Int) (a : Int) = (a : Int) := by omega
  have h1a : (1 : Int) ≤ (a : Int) := by omega
  have hal : (a : Int) ≤ (s.size : Int) := by omega
  have ha0 : ((a : Int) == 0) = false := by simp; omega
  have hm0 : (s[0].toNat : Int) = 36 := by rw [hm]; rfl
  have hTs : T.size ≤ 281474976710656 := by rw [← hT, ext_size _ _ _ (by omega)]; omega
  have HN : Hid (∀ W, Calls Tryz.prog 34 #[.string T] W fun e w' => e = .returned (.tuple #[.int .i64 (numV T.data.toList).1, .bool (numV T.data.toList).2]) ∧ Below W.heap.size W w') := fun W => by
    have h9 := refNumber_any T (by unfold maxLen; omega) W
    rw [numV_is] at h9; exact h9
  have t1 : (T.toList == [45, 49]) = true := by rw [ByteArray.toList_eq, h0]; rfl
  generalize numV T.data.toList = nv at *
  clear h0
  clear hm hno
  go_enter Tryz.func18, Tryz.ntmps18
  go_upto_region 2 with fail
  rw [← hW0]
  clear hW0 hrb
  go_wp2
  go_loopw [8] (fun ci wr => ∃ i : Nat, (i ≤ a ∧ wr = W0) ∧ ci = .int .i64 (i : Int)) (fun ci _ => a - (intOf ci).toNat)
  case atStart => exact ⟨0, ⟨Nat.zero_le _, rfl⟩, rfl⟩
  case round =>
    obtain ⟨i, ⟨hi, hw⟩, rfl⟩ := hrel
    subst hw
    by_cases hlt : i < a
    · have hil : i < s.size := by omega
      have hq1 : ((s[i].toNat : Int) != 13) = true := ne_mark (HNO.out i hlt hil).1 rfl
      have hq2 : ((s[i].toNat : Int) != 10) = true := ne_mark (HNO.out i hlt hil).2 rfl
      have hz0 : (0 : Int) ≤ (i : Int) := by omega
      have hz1 : (i : Int) < (s.size : Int) := by omega
      go_wp2
      go_roundw
      case rel => first | exact ⟨i + 1, ⟨by omega, trivial⟩, rfl⟩ | exact ⟨i + 1, ⟨by omega, rfl⟩, rfl⟩
      case measure => simp [intOf]; omega
    · have hik : i = a := by omega
      subst hik
      have hz0 : (0 : Int) ≤ (i : Int) := by omega
      have hz1 : (i : Int) < (s.size : Int) := by omega
      have hzs : i < s.size := by omega
      have hq1 : ((s[i].toNat : Int) != 13) = false := by rw [h13]; rfl
      have hq1b : ((s[i].toNat : Int) == 13) = true := by rw [h13]; rfl
      have hq3 : ((s[i + 1].toNat : Int) != 10) = false := by rw [h10]; rfl
      have hne1 : ((i : Int) == (s.size : Int)) = false := by simp; omega
      have hne2 : (((i : Int) + 1) == (s.size : Int)) = false := by simp; omega
      have hz2 : (0 : Int) ≤ (i : Int) + 1 := by omega
      have hz3 : (i : Int) + 1 < (s.size : Int) := by omega
      have hw1 : IntKind.i64.wrap ((i : Int) + 1) = (i : Int) + 1 := by rw [IntKind.wrap_i64] <;> omega
      have hw2 : IntKind.i64.wrap ((i : Int) + 2) = (i : Int) + 2 := by rw [IntKind.wrap_i64] <;> omega
      have hz4 : (0 : Int) ≤ (i : Int) + 2 := by omega
      have hz5 : (i : Int) + 2 ≤ (s.size : Int) := by omega
      go_wp2_with fail
      refine (HN.out _).mono ?_
      rintro e w1 ⟨rfl, hb1⟩
      have HB1 : Hid (Below w.heap.size w w1) := HB0.out.trans (hb1.mono HB0.out.size)
      have HR1 : Hid (w1.heap[rb]? = some (.cells #[.int .i64 0, .string ⟨#[]⟩, .int .i64 0, .slice none 0 0] 24)) := keep_row HR0.out hb1
      have HQ1 : Hid (w1.heap[rb + 1]? = some (.cells #[.int .i64 0, .string ⟨#[]⟩, .int .i64 0, .slice none 0 0] 24)) := keep_row HQ0.out hb1
      clear z0 z1 z2 z3 zf y0 y1 y2 y3 yf hb1
      obtain ⟨z0, z1, z2, z3, zf⟩ := prow4 HR1.out
      obtain ⟨y0, y1, y2, y3, yf⟩ := prow4 HQ1.out
      go_wp2
      refine rp3_fin _ 4 5 6 Tryz.results18 HR1.out _ _ _ _ _ _ _ (fun w' ho => ?_) _ rfl rfl rfl rfl
      exact ⟨_, _, _, _, rfl, HB1.out.trans (ho.below HRW.out), fun _ => ⟨rfl, rfl, rfl, by show _ = ((i + 2 : Nat) : Int); omega⟩, fun h => absurd rfl h⟩
set_option maxHeartbeats 8000000 in
set_option maxRecDepth 20000 in
theorem rd_bulk_a (s : ByteArray) (D : Int) (hs : s.size ≤ 281474976710656) (a : Nat) (ha : a + 1 < s.size) (h13 : s[a] = 13) (h10 : s[a + 1] = 10) (hno : ∀ i, i < a → ∀ h : i < s.size, s[i] ≠ 13 ∧ s[i] ≠ 10) (ha1 : 1 ≤ a) (hm : s[0] = 36) (T : ByteArray) (hT : s.extract 1 a = T) (hn : numberOf T.data.toList = none) (h0 : T.data.toList ≠ [45, 49]) (w : World) :
    Calls Tryz.prog 18 #[.string s, .int .i64 D] w fun e w' => LdIs { e := 120 } w w' e := by
  obtain ⟨rb, hrb⟩ : ∃ rb, w.heap.size = rb := ⟨_, rfl⟩
  obtain ⟨W0, hW0⟩ : ∃ W, W = (w.alloc (.cells #[.int .i64 0, .string ⟨#[]⟩, .int .i64 0, .slice none 0 0] 24)).alloc (.cells #[.int .i64 0, .string ⟨#[]⟩, .int .i64 0, .slice none 0 0] 24) := ⟨_, rfl⟩
  have hb0 : Below w.heap.size w W0 := by rw [hW0]; exact ((Below.refl _ _).alloc (Nat.le_refl _) _).alloc (by simp) _
  have hr0 : W0.heap[rb]? = some (.cells #[.int .i64 0, .string ⟨#[]⟩, .int .i64 0, .slice none 0 0] 24) := by
    rw [hW0, ← hrb]; exact keep_row (one_alloc _ _) ((Below.refl _ _).alloc (Nat.le_refl _) _)
  have hq0 : W0.heap[rb + 1]? = some (.cells #[.int .i64 0, .string ⟨#[]⟩, .int .i64 0, .slice none 0 0] 24) := by
    have h9 := one_alloc (w.alloc (.cells #[.int .i64 0, .string ⟨#[]⟩, .int .i64 0, .slice none 0 0] 24)) (.cells #[.int .i64 0, .string ⟨#[]⟩, .int .i64 0, .slice none 0 0] 24)
    rw [hW0, ← hrb]; simpa using h9
  have HB0 : Hid (Below w.heap.size w W0) := hb0
  have HR0 : Hid _ := hr0
  have HQ0 : Hid _ := hq0
  have HRW : Hid (w.heap.size ≤ rb) := Nat.le_of_eq hrb
  obtain ⟨z0, z1, z2, z3, zf⟩ := prow4 HR0.out
  obtain ⟨y0, y1, y2, y3, yf⟩ := prow4 HQ0.out
  clear hb0 hr0 hq0
  have HNO : Hid _ := hno
  have hle : s.toList.isEmpty = false := str_full (by omega)
  have hz : (0 : Int) < (s.size : Int) := by omega
  have hmax : max (1 : Int) (a : Int) = (a : Int) := by omega
  have h1a : (1 : Int) ≤ (a : Int) := by omega
  have hal : (a : Int) ≤ (s.size : Int) := by omega
  have ha0 : ((a : Int) == 0) = false := by simp; omega
  have hm0 : (s[0].toNat : Int) = 36 := by rw [hm]; rfl
  have hTs : T.size ≤ 281474976710656 := by rw [← hT, ext_size _ _ _ (by omega)]; omega
  have HN : Hid (∀ W, Calls Tryz.prog 34 #[.string T] W fun e w' => e = .returned (.tuple #[.int .i64 0, .bool false]) ∧ Below W.heap.size W w') := fun W => by
    have h9 := refNumber_any T (by unfold maxLen; omega) W
    rw [numT_none hn] at h9; exact h9
  have t1 : (T.toList == [45, 49]) = false := by rw [ByteArray.toList_eq]; simpa using h0
  clear hn
  clear hm hno
  go_enter Tryz.func18, Tryz.ntmps18
  go_upto_region 2 with fail
  rw [← hW0]
  clear hW0 hrb
  go_wp2
  go_loopw [8] (fun ci wr => ∃ i : Nat, (i ≤ a ∧ wr = W0) ∧ ci = .int .i64 (i : Int)) (fun ci _ => a - (intOf ci).toNat)
  case atStart => exact ⟨0, ⟨Nat.zero_le _, rfl⟩, rfl⟩
  case round =>
    obtain ⟨i, ⟨hi, hw⟩, rfl⟩ := hrel
    subst hw
    by_cases hlt : i < a
    · have hil : i < s.size := by omega
      have hq1 : ((s[i].toNat : Int) != 13) = true := ne_mark (HNO.out i hlt hil).1 rfl
      have hq2 : ((s[i].toNat : Int) != 10) = true := ne_mark (HNO.out i hlt hil).2 rfl
      have hz0 : (0 : Int) ≤ (i : Int) := by omega
      have hz1 : (i : Int) < (s.size : Int) := by omega
      go_wp2
      go_roundw
      case rel => first | exact ⟨i + 1, ⟨by omega, trivial⟩, rfl⟩ | exact ⟨i + 1, ⟨by omega, rfl⟩, rfl⟩
      case measure => simp [intOf]; omega
    · have hik : i = a := by omega
      subst hik
      have hz0 : (0 : Int) ≤ (i : Int) := by omega
      have hz1 : (i : Int) < (s.size : Int) := by omega
      have hzs : i < s.size := by omega
      have hq1 : ((s[i].toNat : Int) != 13) = false := by rw [h13]; rfl
      have hq1b : ((s[i].toNat : Int) == 13) = true := by rw [h13]; rfl
      have hq3 : ((s[i + 1].toNat : Int) != 10) = false := by rw [h10]; rfl
      have hne1 : ((i : Int) == (s.size : Int)) = false := by simp; omega
      have hne2 : (((i : Int) + 1) == (s.size : Int)) = false := by simp; omega
      have hz2 : (0 : Int) ≤ (i : Int) + 1 := by omega
      have hz3 : (i : Int) + 1 < (s.size : Int) := by omega
      have hw1 : IntKind.i64.wrap ((i : Int) + 1) = (i : Int) + 1 := by rw [IntKind.wrap_i64] <;> omega
      have hw2 : IntKind.i64.wrap ((i : Int) + 2) = (i : Int) + 2 := by rw [IntKind.wrap_i64] <;> omega
      have hz4 : (0 : Int) ≤ (i : Int) + 2 := by omega
      have hz5 : (i : Int) + 2 ≤ (s.size : Int) := by omega
      go_wp2_with fail
      refine (HN.out _).mono ?_
      rintro e w1 ⟨rfl, hb1⟩
      have HB1 : Hid (Below w.heap.size w w1) := HB0.out.trans (hb1.mono HB0.out.size)
      have HR1 : Hid (w1.heap[rb]? = some (.cells #[.int .i64 0, .string ⟨#[]⟩, .int .i64 0, .slice none 0 0] 24)) := keep_row HR0.out hb1
      have HQ1 : Hid (w1.heap[rb + 1]? = some (.cells #[.int .i64 0, .string ⟨#[]⟩, .int .i64 0, .slice none 0 0] 24)) := keep_row HQ0.out hb1
      clear z0 z1 z2 z3 zf y0 y1 y2 y3 yf hb1
      obtain ⟨z0, z1, z2, z3, zf⟩ := prow4 HR1.out
      obtain ⟨y0, y1, y2, y3, yf⟩ := prow4 HQ1.out
      go_wp2
      exact rp3_fin _ 4 5 6 Tryz.results18 HR1.out _ _ _ _ _ _ _ (fun w' ho => ld_err 120 rfl (by decide) (HB1.out.trans (ho.below HRW.out))) _ rfl rfl rfl rfl
set_option maxHeartbeats 8000000 in
set_option maxRecDepth 20000 in
theorem rd_bulk_b (s : ByteArray) (D : Int) (hs : s.size ≤ 281474976710656) (a : Nat) (ha : a + 1 < s.size) (h13 : s[a] = 13) (h10 : s[a + 1] = 10) (hno : ∀ i, i < a → ∀ h : i < s.size, s[i] ≠ 13 ∧ s[i] ≠ 10) (ha1 : 1 ≤ a) (hm : s[0] = 36) (T : ByteArray) (hT : s.extract 1 a = T) (n : Int) (hn : numberOf T.data.toList = some n) (hneg : n < 0) (h0 : T.data.toList ≠ [45, 49]) (w : World) :
    Calls Tryz.prog 18 #[.string s, .int .i64 D] w fun e w' => LdIs { e := 120 } w w' e := by
  obtain ⟨rb, hrb⟩ : ∃ rb, w.heap.size = rb := ⟨_, rfl⟩
  obtain ⟨W0, hW0⟩ : ∃ W, W = (w.alloc (.cells #[.int .i64 0, .string ⟨#[]⟩, .int .i64 0, .slice none 0 0] 24)).alloc (.cells #[.int .i64 0, .string ⟨#[]⟩, .int .i64 0, .slice none 0 0] 24) := ⟨_, rfl⟩
  have hb0 : Below w.heap.size w W0 := by rw [hW0]; exact ((Below.refl _ _).alloc (Nat.le_refl _) _).alloc (by simp) _
  have hr0 : W0.heap[rb]? = some (.cells #[.int .i64 0, .string ⟨#[]⟩, .int .i64 0, .slice none 0 0] 24) := by
    rw [hW0, ← hrb]; exact keep_row (one_alloc _ _) ((Below.refl _ _).alloc (Nat.le_refl _) _)
  have hq0 : W0.heap[rb + 1]? = some (.cells #[.int .i64 0, .string ⟨#[]⟩, .int .i64 0, .slice none 0 0] 24) := by
    have h9 := one_alloc (w.alloc (.cells #[.int .i64 0, .string ⟨#[]⟩, .int .i64 0, .slice none 0 0] 24)) (.cells #[.int .i64 0, .string ⟨#[]⟩, .int .i64 0, .slice none 0 0] 24)
    rw [hW0, ← hrb]; simpa using h9
  have HB0 : Hid (Below w.heap.size w W0) := hb0
  have HR0 : Hid _ := hr0
  have HQ0 : Hid _ := hq0
  have HRW : Hid (w.heap.size ≤ rb) := Nat.le_of_eq hrb
  obtain ⟨z0, z1, z2, z3, zf⟩ := prow4 HR0.out
  obtain ⟨y0, y1, y2, y3, yf⟩ := prow4 HQ0.out
  clear hb0 hr0 hq0
  have HNO : Hid _ := hno
  have hle : s.toList.isEmpty = false := str_full (by omega)
  have hz : (0 : Int) < (s.size : Int) := by omega
  have hmax : max (1 : Int) (a : Int) = (a : Int) := by omega
  have h1a : (1 : Int) ≤ (a : Int) := by omega
  have hal : (a : Int) ≤ (s.size : Int) := by omega
  have ha0 : ((a : Int) == 0) = false := by simp; omega
  have hm0 : (s[0].toNat : Int) = 36 := by rw [hm]; rfl
  have hTs : T.size ≤ 281474976710656 := by rw [← hT, ext_size _ _ _ (by omega)]; omega
  have HN : Hid (∀ W, Calls Tryz.prog 34 #[.string T] W fun e w' => e = .returned (.tuple #[.int .i64 n, .bool true]) ∧ Below W.heap.size W w') := fun W => by
    have h9 := refNumber_any T (by unfold maxLen; omega) W
    rw [numT_some hn] at h9; exact h9
  have t1 : (T.toList == [45, 49]) = false := by rw [ByteArray.toList_eq]; simpa using h0
  have hdn : decide ((0 : Int) ≤ n) = false := dec_f (by omega)
  clear hn
  clear hm hno
  go_enter Tryz.func18, Tryz.ntmps18
  go_upto_region 2 with fail
  rw [← hW0]
  clear hW0 hrb
  go_wp2
  go_loopw [8] (fun ci wr => ∃ i : Nat, (i ≤ a ∧ wr = W0) ∧ ci = .int .i64 (i : Int)) (fun ci _ => a - (intOf ci).toNat)
  case atStart => exact ⟨0, ⟨Nat.zero_le _, rfl⟩, rfl⟩
  case round =>
    obtain ⟨i, ⟨hi, hw⟩, rfl⟩ := hrel
    subst hw
    by_cases hlt : i < a
    · have hil : i < s.size := by omega
      have hq1 : ((s[i].toNat : Int) != 13) = true := ne_mark (HNO.out i hlt hil).1 rfl
      have hq2 : ((s[i].toNat : Int) != 10) = true := ne_mark (HNO.out i hlt hil).2 rfl
      have hz0 : (0 : Int) ≤ (i : Int) := by omega
      have hz1 : (i : Int) < (s.size : Int) := by omega
      go_wp2
      go_roundw
      case rel => first | exact ⟨i + 1, ⟨by omega, trivial⟩, rfl⟩ | exact ⟨i + 1, ⟨by omega, rfl⟩, rfl⟩
      case measure => simp [intOf]; omega
    · have hik : i = a := by omega
      subst hik
      have hz0 : (0 : Int) ≤ (i : Int) := by omega
      have hz1 : (i : Int) < (s.size : Int) := by omega
      have hzs : i < s.size := by omega
      have hq1 : ((s[i].toNat : Int) != 13) = false := by rw [h13]; rfl
      have hq1b : ((s[i].toNat : Int) == 13) = true := by rw [h13]; rfl
      have hq3 : ((s[i + 1].toNat : Int) != 10) = false := by rw [h10]; rfl
      have hne1 : ((i : Int) == (s.size : Int)) = false := by simp; omega
      have hne2 : (((i : Int) + 1) == (s.size : Int)) = false := by simp; omega
      have hz2 : (0 : Int) ≤ (i : Int) + 1 := by omega
      have hz3 : (i : Int) + 1 < (s.size : Int) := by omega
      have hw1 : IntKind.i64.wrap ((i : Int) + 1) = (i : Int) + 1 := by rw [IntKind.wrap_i64] <;> omega
      have hw2 : IntKind.i64.wrap ((i : Int) + 2) = (i : Int) + 2 := by rw [IntKind.wrap_i64] <;> omega
      have hz4 : (0 : Int) ≤ (i : Int) + 2 := by omega
      have hz5 : (i : Int) + 2 ≤ (s.size : Int) := by omega
      go_wp2_with fail
      refine (HN.out _).mono ?_
      rintro e w1 ⟨rfl, hb1⟩
      have HB1 : Hid (Below w.heap.size w w1) := HB0.out.trans (hb1.mono HB0.out.size)
      have HR1 : Hid (w1.heap[rb]? = some (.cells #[.int .i64 0, .string ⟨#[]⟩, .int .i64 0, .slice none 0 0] 24)) := keep_row HR0.out hb1
      have HQ1 : Hid (w1.heap[rb + 1]? = some (.cells #[.int .i64 0, .string ⟨#[]⟩, .int .i64 0, .slice none 0 0] 24)) := keep_row HQ0.out hb1
      clear z0 z1 z2 z3 zf y0 y1 y2 y3 yf hb1
      obtain ⟨z0, z1, z2, z3, zf⟩ := prow4 HR1.out
      obtain ⟨y0, y1, y2, y3, yf⟩ := prow4 HQ1.out
      go_wp2
      exact rp3_fin _ 4 5 6 Tryz.results18 HR1.out _ _ _ _ _ _ _ (fun w' ho => ld_err 120 rfl (by decide) (HB1.out.trans (ho.below HRW.out))) _ rfl rfl rfl rfl
set_option maxHeartbeats 8000000 in
set_option maxRecDepth 20000 in
theorem rd_bulk_c (s : ByteArray) (D : Int) (hs : s.size ≤ 281474976710656) (a : Nat) (ha : a + 1 < s.size) (h13 : s[a] = 13) (h10 : s[a + 1] = 10) (hno : ∀ i, i < a → ∀ h : i < s.size, s[i] ≠ 13 ∧ s[i] ≠ 10) (ha1 : 1 ≤ a) (hm : s[0] = 36) (T : ByteArray) (hT : s.extract 1 a = T) (n : Int) (hn : numberOf T.data.toList = some n) (hpos : 0 ≤ n) (hbig : 524288 < n) (h0 : T.data.toList ≠ [45, 49]) (w : World) :
    Calls Tryz.prog 18 #[.string s, .int .i64 D] w fun e w' => LdIs { e := 120 } w w' e := by
  obtain ⟨rb, hrb⟩ : ∃ rb, w.heap.size = rb := ⟨_, rfl⟩
  obtain ⟨W0, hW0⟩ : ∃ W, W = (w.alloc (.cells #[.int .i64 0, .string ⟨#[]⟩, .int .i64 0, .slice none 0 0] 24)).alloc (.cells #[.int .i64 0, .string ⟨#[]⟩, .int .i64 0, .slice none 0 0] 24) := ⟨_, rfl⟩
  have hb0 : Below w.heap.size w W0 := by rw [hW0]; exact ((Below.refl _ _).alloc (Nat.le_refl _) _).alloc (by simp) _
  have hr0 : W0.heap[rb]? = some (.cells #[.int .i64 0, .string ⟨#[]⟩, .int .i64 0, .slice none 0 0] 24) := by
    rw [hW0, ← hrb]; exact keep_row (one_alloc _ _) ((Below.refl _ _).alloc (Nat.le_refl _) _)
  have hq0 : W0.heap[rb + 1]? = some (.cells #[.int .i64 0, .string ⟨#[]⟩, .int .i64 0, .slice none 0 0] 24) := by
    have h9 := one_alloc (w.alloc (.cells #[.int .i64 0, .string ⟨#[]⟩, .int .i64 0, .slice none 0 0] 24)) (.cells #[.int .i64 0, .string ⟨#[]⟩, .int .i64 0, .slice none 0 0] 24)
    rw [hW0, ← hrb]; simpa using h9
  have HB0 : Hid (Below w.heap.size w W0) := hb0
  have HR0 : Hid _ := hr0
  have HQ0 : Hid _ := hq0
  have HRW : Hid (w.heap.size ≤ rb) := Nat.le_of_eq hrb
  obtain ⟨z0, z1, z2, z3, zf⟩ := prow4 HR0.out
  obtain ⟨y0, y1, y2, y3, yf⟩ := prow4 HQ0.out
  clear hb0 hr0 hq0
  have HNO : Hid _ := hno
  have hle : s.toList.isEmpty = false := str_full (by omega)
  have hz : (0 : Int) < (s.size : Int) := by omega
  have hmax : max (1 : Int) (a : Int) = (a : Int) := by omega
  have h1a : (1 : Int) ≤ (a : Int) := by omega
  have hal : (a : Int) ≤ (s.size : Int) := by omega
  have ha0 : ((a : Int) == 0) = false := by simp; omega
  have hm0 : (s[0].toNat : Int) = 36 := by rw [hm]; rfl
  have hTs : T.size ≤ 281474976710656 := by rw [← hT, ext_size _ _ _ (by omega)]; omega
  have HN : Hid (∀ W, Calls Tryz.prog 34 #[.string T] W fun e w' => e = .returned (.tuple #[.int .i64 n, .bool true]) ∧ Below W.heap.size W w') := fun W => by
    have h9 := refNumber_any T (by unfold maxLen; omega) W
    rw [numT_some hn] at h9; exact h9
  have t1 : (T.toList == [45, 49]) = false := by rw [ByteArray.toList_eq]; simpa using h0
  have hdn : decide ((0 : Int) ≤ n) = true := dec_t hpos
  have hdb : decide (n ≤ 524288) = false := dec_f (by omega)
  have HKD : Hid (∀ W, Calls Tryz.prog 36 #[.int .u8 36] W fun e w' => e = .returned (.int .i64 0) ∧ w' = W) := fun W => rkind_any 36 W
  clear hn
  clear hm hno
  go_enter Tryz.func18, Tryz.ntmps18
  go_upto_region 2 with fail
  rw [← hW0]
  clear hW0 hrb
  go_wp2
  go_loopw [8] (fun ci wr => ∃ i : Nat, (i ≤ a ∧ wr = W0) ∧ ci = .int .i64 (i : Int)) (fun ci _ => a - (intOf ci).toNat)
  case atStart => exact ⟨0, ⟨Nat.zero_le _, rfl⟩, rfl⟩
  case round =>
    obtain ⟨i, ⟨hi, hw⟩, rfl⟩ := hrel
    subst hw
    by_cases hlt : i < a
    · have hil : i < s.size := by omega
      have hq1 : ((s[i].toNat : Int) != 13) = true := ne_mark (HNO.out i hlt hil).1 rfl
      have hq2 : ((s[i].toNat : Int) != 10) = true := ne_mark (HNO.out i hlt hil).2 rfl
      have hz0 : (0 : Int) ≤ (i : Int) := by omega
      have hz1 : (i : Int) < (s.size : Int) := by omega
      go_wp2
      go_roundw
      case rel => first | exact ⟨i + 1, ⟨by omega, trivial⟩, rfl⟩ | exact ⟨i + 1, ⟨by omega, rfl⟩, rfl⟩
      case measure => simp [intOf]; omega
    · have hik : i = a := by omega
      subst hik
      have hz0 : (0 : Int) ≤ (i : Int) := by omega
      have hz1 : (i : Int) < (s.size : Int) := by omega
      have hzs : i < s.size := by omega
      have hq1 : ((s[i].toNat : Int) != 13) = false := by rw [h13]; rfl
      have hq1b : ((s[i].toNat : Int) == 13) = true := by rw [h13]; rfl
      have hq3 : ((s[i + 1].toNat : Int) != 10) = false := by rw [h10]; rfl
      have hne1 : ((i : Int) == (s.size : Int)) = false := by simp; omega
      have hne2 : (((i : Int) + 1) == (s.size : Int)) = false := by simp; omega
      have hz2 : (0 : Int) ≤ (i : Int) + 1 := by omega
      have hz3 : (i : Int) + 1 < (s.size : Int) := by omega
      have hw1 : IntKind.i64.wrap ((i : Int) + 1) = (i : Int) + 1 := by rw [IntKind.wrap_i64] <;> omega
      have hw2 : IntKind.i64.wrap ((i : Int) + 2) = (i : Int) + 2 := by rw [IntKind.wrap_i64] <;> omega
      have hz4 : (0 : Int) ≤ (i : Int) + 2 := by omega
      have hz5 : (i : Int) + 2 ≤ (s.size : Int) := by omega
      go_wp2_with fail
      refine (HN.out _).mono ?_
      rintro e w1 ⟨rfl, hb1⟩
      have HB1 : Hid (Below w.heap.size w w1) := HB0.out.trans (hb1.mono HB0.out.size)
      have HR1 : Hid (w1.heap[rb]? = some (.cells #[.int .i64 0, .string ⟨#[]⟩, .int .i64 0, .slice none 0 0] 24)) := keep_row HR0.out hb1
      have HQ1 : Hid (w1.heap[rb + 1]? = some (.cells #[.int .i64 0, .string ⟨#[]⟩, .int .i64 0, .slice none 0 0] 24)) := keep_row HQ0.out hb1
      clear z0 z1 z2 z3 zf y0 y1 y2 y3 yf hb1
      obtain ⟨z0, z1, z2, z3, zf⟩ := prow4 HR1.out
      obtain ⟨y0, y1, y2, y3, yf⟩ := prow4 HQ1.out
      go_wp2_with fail
      refine (HKD.out _).mono ?_
      rintro e w9 ⟨rfl, hw9⟩
      have hw9 := hw9.symm
      subst hw9
      go_wp2
      exact rp3_fin _ 4 5 6 Tryz.results18 HR1.out _ _ _ _ _ _ _ (fun w' ho => ld_err 120 rfl (by decide) (HB1.out.trans (ho.below HRW.out))) _ rfl rfl rfl rfl
set_option maxHeartbeats 8000000 in
set_option maxRecDepth 20000 in
theorem rd_bulk (s : ByteArray) (D : Int) (hs : s.size ≤ 281474976710656) (a : Nat) (ha : a + 1 < s.size) (h13 : s[a] = 13) (h10 : s[a + 1] = 10) (hno : ∀ i, i < a → ∀ h : i < s.size, s[i] ≠ 13 ∧ s[i] ≠ 10) (ha1 : 1 ≤ a) (hm : s[0] = 36) (T : ByteArray) (hT : s.extract 1 a = T) (n : Nat) (hn : numberOf T.data.toList = some (n : Int)) (hle2 : n ≤ 524288) (R : ByteArray) (hR : s.extract (a + 2) s.size = R) (h0 : T.data.toList ≠ [45, 49]) (w : World) :
    Calls Tryz.prog 18 #[.string s, .int .i64 D] w fun e w' => LdIs (bulkT R.data.toList n (a + 1)) w w' e := by
  obtain ⟨rb, hrb⟩ : ∃ rb, w.heap.size = rb := ⟨_, rfl⟩
  obtain ⟨W0, hW0⟩ : ∃ W, W = (w.alloc (.cells #[.int .i64 0, .string ⟨#[]⟩, .int .i64 0, .slice none 0 0] 24)).alloc (.cells #[.int .i64 0, .string ⟨#[]⟩, .int .i64 0, .slice none 0 0] 24) := ⟨_, rfl⟩
  have hb0 : Below w.heap.size w W0 := by rw [hW0]; exact ((Below.refl _ _).alloc (Nat.le_refl _) _).alloc (by simp) _
  have hr0 : W0.heap[rb]? = some (.cells #[.int .i64 0, .string ⟨#[]⟩, .int .i64 0, .slice none 0 0] 24) := by
    rw [hW0, ← hrb]; exact keep_row (one_alloc _ _) ((Below.refl _ _).alloc (Nat.le_refl _) _)
  have hq0 : W0.heap[rb + 1]? = some (.cells #[.int .i64 0, .string ⟨#[]⟩, .int .i64 0, .slice none 0 0] 24) := by
    have h9 := one_alloc (w.alloc (.cells #[.int .i64 0, .string ⟨#[]⟩, .int .i64 0, .slice none 0 0] 24)) (.cells #[.int .i64 0, .string ⟨#[]⟩, .int .i64 0, .slice none 0 0] 24)
    rw [hW0, ← hrb]; simpa using h9
  have HB0 : Hid (Below w.heap.size w W0) := hb0
  have HR0 : Hid _ := hr0
  have HQ0 : Hid _ := hq0
  have HRW : Hid (w.heap.size ≤ rb) := Nat.le_of_eq hrb
  obtain ⟨z0, z1, z2, z3, zf⟩ := prow4 HR0.out
  obtain ⟨y0, y1, y2, y3, yf⟩ := prow4 HQ0.out
  clear hb0 hr0 hq0
  have HNO : Hid _ := hno
  have hle : s.toList.isEmpty = false := str_full (by omega)
  have hz : (0 : Int) < (s.size : Int) := by omega
  have hmax : max (1 : Int) (a : Int) = (a : Int) := by omega
  have h1a : (1 : Int) ≤ (a : Int) := by omega
  have hal : (a : Int) ≤ (s.size : Int) := by omega
  have ha0 : ((a : Int) == 0) = false := by simp; omega
  have hm0 : (s[0].toNat : Int) = 36 := by rw [hm]; rfl
  have hTs : T.size ≤ 281474976710656 := by rw [← hT, ext_size _ _ _ (by omega)]; omega
  have HN : Hid (∀ W, Calls Tryz.prog 34 #[.string T] W fun e w' => e = .returned (.tuple #[.int .i64 (n : Int), .bool true]) ∧ Below W.heap.size W w') := fun W => by
    have h9 := refNumber_any T (by unfold maxLen; omega) W
    rw [numT_some hn] at h9; exact h9
  have t1 : (T.toList == [45, 49]) = false := by rw [ByteArray.toList_eq]; simpa using h0
  have hdn : decide ((0 : Int) ≤ (n : Int)) = true := dec_t (by omega)
  have hdb : decide ((n : Int) ≤ 524288) = true := dec_t (by omega)
  have hRs : R.size ≤ 281474976710656 := by rw [← hR, ext_size _ _ _ (Nat.le_refl _)]; omega
  have HCC : Hid (∀ W, Calls Tryz.prog 35 #[.string R, .int .i64 (n : Int), .int .i64 ((a : Int) + 2)] W fun e w' => LdIs (bulkT R.data.toList n (a + 1)) W w' e) := fun W => rbulk_any R n (a + 1) hRs hle2 (by omega) W
  clear hn
  clear hm hno
  go_enter Tryz.func18, Tryz.ntmps18
  go_upto_region 2 with fail
  rw [← hW0]
  clear hW0 hrb
  go_wp2
  go_loopw [8] (fun ci wr => ∃ i : Nat, (i ≤ a ∧ wr = W0) ∧ ci = .int .i64 (i : Int)) (fun ci _ => a - (intOf ci).toNat)
  case atStart => exact ⟨0, ⟨Nat.zero_le _, rfl⟩, rfl⟩
  case round =>
    obtain ⟨i, ⟨hi, hw⟩, rfl⟩ := hrel
    subst hw
    by_cases hlt : i < a
    · have hil : i < s.size := by omega
      have hq1 : ((s[i].toNat : Int) != 13) = true := ne_mark (HNO.out i hlt hil).1 rfl
      have hq2 : ((s[i].toNat : Int) != 10) = true := ne_mark (HNO.out i hlt hil).2 rfl
      have hz0 : (0 : Int) ≤ (i : Int) := by omega
      have hz1 : (i : Int) < (s.size : Int) := by omega
      go_wp2
      go_roundw
      case rel => first | exact ⟨i + 1, ⟨by omega, trivial⟩, rfl⟩ | exact ⟨i + 1, ⟨by omega, rfl⟩, rfl⟩
      case measure => simp [intOf]; omega
    · have hik : i = a := by omega
      subst hik
      have hz0 : (0 : Int) ≤ (i : Int) := by omega
      have hz1 : (i : Int) < (s.size : Int) := by omega
      have hzs : i < s.size := by omega
      have hq1 : ((s[i].toNat : Int) != 13) = false := by rw [h13]; rfl
      have hq1b : ((s[i].toNat : Int) == 13) = true := by rw [h13]; rfl
      have hq3 : ((s[i + 1].toNat : Int) != 10) = false := by rw [h10]; rfl
      have hne1 : ((i : Int) == (s.size : Int)) = false := by simp; omega
      have hne2 : (((i : Int) + 1) == (s.size : Int)) = false := by simp; omega
      have hz2 : (0 : Int) ≤ (i : Int) + 1 := by omega
      have hz3 : (i : Int) + 1 < (s.size : Int) := by omega
      have hw1 : IntKind.i64.wrap ((i : Int) + 1) = (i : Int) + 1 := by rw [IntKind.wrap_i64] <;> omega
      have hw2 : IntKind.i64.wrap ((i : Int) + 2) = (i : Int) + 2 := by rw [IntKind.wrap_i64] <;> omega
      have hz4 : (0 : Int) ≤ (i : Int) + 2 := by omega
      have hz5 : (i : Int) + 2 ≤ (s.size : Int) := by omega
      go_wp2_with fail
      refine (HN.out _).mono ?_
      rintro e w1 ⟨rfl, hb1⟩
      have HB1 : Hid (Below w.heap.size w w1) := HB0.out.trans (hb1.mono HB0.out.size)
      have HR1 : Hid (w1.heap[rb]? = some (.cells #[.int .i64 0, .string ⟨#[]⟩, .int .i64 0, .slice none 0 0] 24)) := keep_row HR0.out hb1
      have HQ1 : Hid (w1.heap[rb + 1]? = some (.cells #[.int .i64 0, .string ⟨#[]⟩, .int .i64 0, .slice none 0 0] 24)) := keep_row HQ0.out hb1
      clear z0 z1 z2 z3 zf y0 y1 y2 y3 yf hb1
      obtain ⟨z0, z1, z2, z3, zf⟩ := prow4 HR1.out
      obtain ⟨y0, y1, y2, y3, yf⟩ := prow4 HQ1.out
      go_wp2_with fail
      refine (HCC.out _).mono ?_
      rintro e w2 hde
      obtain ⟨k0, t0, n0, P, l, c, zz, x, rfl⟩ := ld_form hde
      have HDE : Hid _ := hde
      have HR2 : Hid (w2.heap[rb]? = some (.cells #[.int .i64 0, .string ⟨#[]⟩, .int .i64 0, .slice none 0 0] 24)) := keep_row HR1.out (ld_bel hde)
      have HLT : Hid (rb < w1.heap.size) := row_lt HR1.out
      clear hde z0 z1 z2 z3 zf y0 y1 y2 y3 yf
      obtain ⟨z0, z1, z2, z3, zf⟩ := prow4 HR2.out
      go_wp2
      exact rp3_fin _ 4 5 6 Tryz.results18 HR2.out _ _ _ _ _ _ _ (fun w' ho => ld_fin HDE.out HB1.out ho HRW.out) _ rfl rfl rfl rfl
end Go.Proofs.YtnfbaeajalnmmaaGreatDoor
