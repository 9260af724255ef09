import Derived.Test.YtnfbaeajalnmmaaGreatDoorHP
import Derived.Deep.RegionHeld3
namespace Go.Proofs.YtnfbaeajalnmmaaGreatDoor
open Go.RowKit Vi
set_option linter.unusedVariables false
set_option linter.unusedSimpArgs false
set_option maxHeartbeats 8000000 in
set_option maxRecDepth 20000 in
theorem rd_E (s : ByteArray) (D : Int) (hs : s.size ≤ 281474976710656) (h0 : s.size = 0) (w : World) :
    Calls Tryz.prog 18 #[.string s, .int .i64 D] w fun e w' => LdIs { e := 20 } w w' e := by
  obtain ⟨rb, hrb⟩ : ∃ rb, w.heap.size = rb := ⟨_, rfl⟩
  obtain ⟨W0, hW0⟩ : ∃ W, W = (w.alloc (.cells #[.int .i64 0, .string ⟨#[]⟩, .int .i64 0, .slice none 0 0] 24)).alloc (.cells #[.int .i64 0, .string ⟨#[]⟩, .int .i64 0, .slice none 0 0] 24) := ⟨_, rfl⟩
  have hb0 : Below w.heap.size w W0 := by rw [hW0]; exact ((Below.refl _ _).alloc (Nat.le_refl _) _).alloc (by simp) _
  have hr0 : W0.heap[rb]? = some (.cells #[.int .i64 0, .string ⟨#[]⟩, .int .i64 0, .slice none 0 0] 24) := by
    rw [hW0, ← hrb]; exact keep_row (one_alloc _ _) ((Below.refl _ _).alloc (Nat.le_refl _) _)
  have hq0 : W0.heap[rb + 1]? = some (.cells #[.int .i64 0, .string ⟨#[]⟩, .int .i64 0, .slice none 0 0] 24) := by
    have h9 := one_alloc (w.alloc (.cells #[.int .i64 0, .string ⟨#[]⟩, .int .i64 0, .slice none 0 0] 24)) (.cells #[.int .i64 0, .string ⟨#[]⟩, .int .i64 0, .slice none 0 0] 24)
    rw [hW0, ← hrb]; simpa using h9
  have HB0 : Hid (Below w.heap.size w W0) := hb0
  have HR0 : Hid _ := hr0
  have HQ0 : Hid _ := hq0
  have HRW : Hid (w.heap.size ≤ rb) := Nat.le_of_eq hrb
  obtain ⟨z0, z1, z2, z3, zf⟩ := prow4 HR0.out
  obtain ⟨y0, y1, y2, y3, yf⟩ := prow4 HQ0.out
  clear hb0 hr0 hq0
  have hle := str_empty h0
  go_enter Tryz.func18, Tryz.ntmps18
  go_upto_region 2 with fail
  rw [← hW0]
  clear hW0 hrb
  go_wp2
  exact rp3_fin _ 4 5 6 Tryz.results18 HR0.out _ _ _ _ _ _ _ (fun w' ho => ld_err 20 rfl (by decide) (HB0.out.trans (ho.below HRW.out))) _ rfl rfl rfl rfl
end Go.Proofs.YtnfbaeajalnmmaaGreatDoor
namespace Go.Proofs.YtnfbaeajalnmmaaGreatDoor
open Go.RowKit Vi
set_option linter.unusedVariables false
set_option linter.unusedSimpArgs false
theorem n4_keep1 {W : World} {rb o : Nat} {v : Value} (h : W.cell? ⟨rb + 1, 0, none⟩ = some (.int .i64 0) ∧ W.cell? ⟨rb + 1, 1, none⟩ = some (.string ⟨#[]⟩) ∧ W.cell? ⟨rb + 1, 2, none⟩ = some (.int .i64 0) ∧ W.cell? ⟨rb + 1, 3, none⟩ = some (.slice none 0 0)) : (fun W : World => W.cell? ⟨rb + 1, 0, none⟩ = some (.int .i64 0) ∧ W.cell? ⟨rb + 1, 1, none⟩ = some (.string ⟨#[]⟩) ∧ W.cell? ⟨rb + 1, 2, none⟩ = some (.int .i64 0) ∧ W.cell? ⟨rb + 1, 3, none⟩ = some (.slice none 0 0)) (W.setCell ⟨rb, o, none⟩ v) := by
  obtain ⟨h0, h1, h2, h3⟩ := h
  exact ⟨cell_block h0 (heap_setCell_other _ _ _ _ (fun e => by have : rb + 1 = rb := e; omega)), cell_block h1 (heap_setCell_other _ _ _ _ (fun e => by have : rb + 1 = rb := e; omega)), cell_block h2 (heap_setCell_other _ _ _ _ (fun e => by have : rb + 1 = rb := e; omega)), cell_block h3 (heap_setCell_other _ _ _ _ (fun e => by have : rb + 1 = rb := e; omega))⟩
theorem n4_keep {W : World} {rb : Nat} {v0 v1 v2 v3 : Value} (h : W.cell? ⟨rb + 1, 0, none⟩ = some (.int .i64 0) ∧ W.cell? ⟨rb + 1, 1, none⟩ = some (.string ⟨#[]⟩) ∧ W.cell? ⟨rb + 1, 2, none⟩ = some (.int .i64 0) ∧ W.cell? ⟨rb + 1, 3, none⟩ = some (.slice none 0 0)) : (fun W : World => W.cell? ⟨rb + 1, 0, none⟩ = some (.int .i64 0) ∧ W.cell? ⟨rb + 1, 1, none⟩ = some (.string ⟨#[]⟩) ∧ W.cell? ⟨rb + 1, 2, none⟩ = some (.int .i64 0) ∧ W.cell? ⟨rb + 1, 3, none⟩ = some (.slice none 0 0)) ((((W.setCell ⟨rb, 0, none⟩ v0).setCell ⟨rb, 1, none⟩ v1).setCell ⟨rb, 2, none⟩ v2).setCell ⟨rb, 3, none⟩ v3) := n4_keep1 (n4_keep1 (n4_keep1 (n4_keep1 h)))
set_option maxHeartbeats 8000000 in
set_option maxRecDepth 20000 in
theorem rd_N (s : ByteArray) (D : Int) (hs : s.size ≤ 281474976710656) (a : Nat) (ha : a = s.size) (h0 : 0 < s.size) (hno : ∀ i, i < a → ∀ h : i < s.size, s[i] ≠ 13 ∧ s[i] ≠ 10) (T : ByteArray) (hT : s.extract 0 a = T) (x : Nat) (hx0 : x ≠ 0) (hpt : ∀ W, Calls Tryz.prog 33 #[.string T, .bool false, .int .i64 D] W fun e w' => e = .returned (.int .i64 (x : Int)) ∧ Below W.heap.size W w') (w : World) :
    Calls Tryz.prog 18 #[.string s, .int .i64 D] w fun e w' => LdIs { e := x } w w' e := by
  obtain ⟨rb, hrb⟩ : ∃ rb, w.heap.size = rb := ⟨_, rfl⟩
  obtain ⟨W0, hW0⟩ : ∃ W, W = (w.alloc (.cells #[.int .i64 0, .string ⟨#[]⟩, .int .i64 0, .slice none 0 0] 24)).alloc (.cells #[.int .i64 0, .string ⟨#[]⟩, .int .i64 0, .slice none 0 0] 24) := ⟨_, rfl⟩
  have hb0 : Below w.heap.size w W0 := by rw [hW0]; exact ((Below.refl _ _).alloc (Nat.le_refl _) _).alloc (by simp) _
  have hr0 : W0.heap[rb]? = some (.cells #[.int .i64 0, .string ⟨#[]⟩, .int .i64 0, .slice none 0 0] 24) := by
    rw [hW0, ← hrb]; exact keep_row (one_alloc _ _) ((Below.refl _ _).alloc (Nat.le_refl _) _)
  have hq0 : W0.heap[rb + 1]? = some (.cells #[.int .i64 0, .string ⟨#[]⟩, .int .i64 0, .slice none 0 0] 24) := by
    have h9 := one_alloc (w.alloc (.cells #[.int .i64 0, .string ⟨#[]⟩, .int .i64 0, .slice none 0 0] 24)) (.cells #[.int .i64 0, .string ⟨#[]⟩, .int .i64 0, .slice none 0 0] 24)
    rw [hW0, ← hrb]; simpa using h9
  have HB0 : Hid (Below w.heap.size w W0) := hb0
  have HR0 : Hid _ := hr0
  have HQ0 : Hid _ := hq0
  have HRW : Hid (w.heap.size ≤ rb) := Nat.le_of_eq hrb
  obtain ⟨z0, z1, z2, z3, zf⟩ := prow4 HR0.out
  obtain ⟨y0, y1, y2, y3, yf⟩ := prow4 HQ0.out
  clear hb0 hr0 hq0
  have HNO : Hid _ := hno
  have hle : s.toList.isEmpty = false := str_full (by omega)
  have hz : (0 : Int) < (s.size : Int) := by omega
  have HA : Hid _ := ha
  have HPT : Hid _ := hpt
  have HX0 : Hid (x ≠ 0) := hx0
  clear hno hpt hx0 ha
  go_enter Tryz.func18, Tryz.ntmps18
  go_upto_region 2 with fail
  rw [← hW0]
  clear hW0 hrb
  go_wp2
  go_loopw [8] (fun ci wr => ∃ i : Nat, (i ≤ a ∧ wr = W0) ∧ ci = .int .i64 (i : Int)) (fun ci _ => a - (intOf ci).toNat)
  case atStart => exact ⟨0, ⟨Nat.zero_le _, rfl⟩, rfl⟩
  case round =>
    obtain ⟨i, ⟨hi, hw⟩, rfl⟩ := hrel
    subst hw
    by_cases hlt : i < a
    · have hil : i < s.size := by have := HA.out; omega
      have hq1 : ((s[i].toNat : Int) != 13) = true := ne_mark (HNO.out i hlt hil).1 rfl
      have hq2 : ((s[i].toNat : Int) != 10) = true := ne_mark (HNO.out i hlt hil).2 rfl
      have hz0 : (0 : Int) ≤ (i : Int) := by omega
      have hz1 : (i : Int) < (s.size : Int) := by omega
      go_wp2
      go_roundw
      case rel => first | exact ⟨i + 1, ⟨by omega, trivial⟩, rfl⟩ | exact ⟨i + 1, ⟨by omega, rfl⟩, rfl⟩
      case measure => simp [intOf]; omega
    · have hik : i = a := by omega
      subst hik
      have hz0 : (0 : Int) ≤ (i : Int) := by have := HA.out; omega
      have hzn : ¬ i < s.size := by have := HA.out; omega
      have hzi : ((i : Int) == (s.size : Int)) = true := by have := HA.out; simp; omega
      have hzd : decide ((i : Int) < (s.size : Int)) = false := dec_f (by have := HA.out; omega)
      have hz5 : (i : Int) ≤ (s.size : Int) := by have := HA.out; omega
      have HKS : Hid (∀ W : World, Below wr.heap.size wr W → W.cell? ⟨rb + 1, 0, none⟩ = some (.int .i64 0) ∧ W.cell? ⟨rb + 1, 1, none⟩ = some (.string ⟨#[]⟩) ∧ W.cell? ⟨rb + 1, 2, none⟩ = some (.int .i64 0) ∧ W.cell? ⟨rb + 1, 3, none⟩ = some (.slice none 0 0)) := fun W hW => by
        obtain ⟨a0, a1, a2, a3, _⟩ := prow4 (keep_row HQ0.out hW)
        exact ⟨a0, a1, a2, a3⟩
      have hS0 := HKS.out wr (Below.refl _ _)
      have hSd := HKS.out wr.drew (Below.refl _ _).drew
      have HBD : Hid (Below w.heap.size w wr.drew) := below_dn HB0.out 1
      clear z0 z1 z2 z3 zf y0 y1 y2 y3 yf
      go_upto_region 8 with fail
      go_region_held3 (fun W : World => W.cell? ⟨rb + 1, 0, none⟩ = some (.int .i64 0) ∧ W.cell? ⟨rb + 1, 1, none⟩ = some (.string ⟨#[]⟩) ∧ W.cell? ⟨rb + 1, 2, none⟩ = some (.int .i64 0) ∧ W.cell? ⟨rb + 1, 3, none⟩ = some (.slice none 0 0))
        (first | with_reducible exact hS0 | with_reducible exact hSd | with_reducible exact hS4 | exact n4_keep hS4 | exact n4_keep1 hS4)
        (first | (go_at_call 33; refine (HPT.out _).mono ?_; rintro e w6 ⟨rfl, hb6⟩; have hx6 : Below wr.heap.size wr w6 := (Below.refl _ _).drew.trans hb6; have hS4 := HKS.out _ hx6; have HB6 : Hid (Below w.heap.size w w6) := HBD.out.trans (hb6.mono HBD.out.size); have HR6 : Hid (w6.heap[rb]? = some (.cells #[.int .i64 0, .string ⟨#[]⟩, .int .i64 0, .slice none 0 0] 24)) := keep_row HR0.out hx6; obtain ⟨z0, z1, z2, z3, zf⟩ := prow4 HR6.out; clear hb6 hx6))
      go_wp2
      exact rp3_fin _ 4 5 6 Tryz.results18 HR6.out _ _ _ _ _ _ _ (fun w' ho => ld_err x rfl HX0.out (HB6.out.trans (ho.below HRW.out))) _ rfl rfl rfl rfl
end Go.Proofs.YtnfbaeajalnmmaaGreatDoor
namespace Go.Proofs.YtnfbaeajalnmmaaGreatDoor
open Go.RowKit Vi
set_option linter.unusedVariables false
set_option linter.unusedSimpArgs false
set_option maxHeartbeats 8000000 in
set_option maxRecDepth 20000 in
theorem rd_H (s : ByteArray) (D : Int) (hs : s.size ≤ 281474976710656) (a : Nat) (hal : a < s.size) (h13 : s[a] = 13) (ha : a + 1 = s.size) (hno : ∀ i, i < a → ∀ h : i < s.size, s[i] ≠ 13 ∧ s[i] ≠ 10) (T : ByteArray) (hT : s.extract 0 a = T) (x : Nat) (hx0 : x ≠ 0) (hpt : ∀ W, Calls Tryz.prog 33 #[.string T, .bool true, .int .i64 D] W fun e w' => e = .returned (.int .i64 (x : Int)) ∧ Below W.heap.size W w') (w : World) :
    Calls Tryz.prog 18 #[.string s, .int .i64 D] w fun e w' => LdIs { e := x } w w' e := by
  obtain ⟨rb, hrb⟩ : ∃ rb, w.heap.size = rb := ⟨_, rfl⟩
  obtain ⟨W0, hW0⟩ : ∃ W, W = (w.alloc (.cells #[.int .i64 0, .string ⟨#[]⟩, .int .i64 0, .slice none 0 0] 24)).alloc (.cells #[.int .i64 0, .string ⟨#[]⟩, .int .i64 0, .slice none 0 0] 24) := ⟨_, rfl⟩
  have hb0 : Below w.heap.size w W0 := by rw [hW0]; exact ((Below.refl _ _).alloc (Nat.le_refl _) _).alloc (by simp) _
  have hr0 : W0.heap[rb]? = some (.cells #[.int .i64 0, .string ⟨#[]⟩, .int .i64 0, .slice none 0 0] 24) := by
    rw [hW0, ← hrb]; exact keep_row (one_alloc _ _) ((Below.refl _ _).alloc (Nat.le_refl _) _)
  have hq0 : W0.heap[rb + 1]? = some (.cells #[.int .i64 0, .string ⟨#[]⟩, .int .i64 0, .slice none 0 0] 24) := by
    have h9 := one_alloc (w.alloc (.cells #[.int .i64 0, .string ⟨#[]⟩, .int .i64 0, .slice none 0 0] 24)) (.cells #[.int .i64 0, .string ⟨#[]⟩, .int .i64 0, .slice none 0 0] 24)
    rw [hW0, ← hrb]; simpa using h9
  have HB0 : Hid (Below w.heap.size w W0) := hb0
  have HR0 : Hid _ := hr0
  have HQ0 : Hid _ := hq0
  have HRW : Hid (w.heap.size ≤ rb) := Nat.le_of_eq hrb
  obtain ⟨z0, z1, z2, z3, zf⟩ := prow4 HR0.out
  obtain ⟨y0, y1, y2, y3, yf⟩ := prow4 HQ0.out
  clear hb0 hr0 hq0
  have HNO : Hid _ := hno
  have hle : s.toList.isEmpty = false := str_full (by omega)
  have hz : (0 : Int) < (s.size : Int) := by omega
  have HA : Hid _ := ha
  have HPT : Hid _ := hpt
  have HX0 : Hid (x ≠ 0) := hx0
  clear hno hpt hx0 ha
  go_enter Tryz.func18, Tryz.ntmps18
  go_upto_region 2 with fail
  rw [← hW0]
  clear hW0 hrb
  go_wp2
  go_loopw [8] (fun ci wr => ∃ i : Nat, (i ≤ a ∧ wr = W0) ∧ ci = .int .i64 (i : Int)) (fun ci _ => a - (intOf ci).toNat)
  case atStart => exact ⟨0, ⟨Nat.zero_le _, rfl⟩, rfl⟩
  case round =>
    obtain ⟨i, ⟨hi, hw⟩, rfl⟩ := hrel
    subst hw
    by_cases hlt : i < a
    · have hil : i < s.size := by have := HA.out; omega
      have hq1 : ((s[i].toNat : Int) != 13) = true := ne_mark (HNO.out i hlt hil).1 rfl
      have hq2 : ((s[i].toNat : Int) != 10) = true := ne_mark (HNO.out i hlt hil).2 rfl
      have hz0 : (0 : Int) ≤ (i : Int) := by omega
      have hz1 : (i : Int) < (s.size : Int) := by omega
      go_wp2
      go_roundw
      case rel => first | exact ⟨i + 1, ⟨by omega, trivial⟩, rfl⟩ | exact ⟨i + 1, ⟨by omega, rfl⟩, rfl⟩
      case measure => simp [intOf]; omega
    · have hik : i = a := by omega
      subst hik
      have hz0 : (0 : Int) ≤ (i : Int) := by have := HA.out; omega
      have hz1 : (i : Int) < (s.size : Int) := by have := HA.out; omega
      have hzs : i < s.size := by have := HA.out; omega
      have hq1 : ((s[i].toNat : Int) != 13) = false := by rw [h13]; rfl
      have hq1b : ((s[i].toNat : Int) == 13) = true := by rw [h13]; rfl
      have hne1 : ((i : Int) == (s.size : Int)) = false := by have := HA.out; simp; omega
      have hne2 : (((i : Int) + 1) == (s.size : Int)) = true := by have := HA.out; simp; omega
      have hw1 : IntKind.i64.wrap ((i : Int) + 1) = (i : Int) + 1 := by rw [IntKind.wrap_i64] <;> (have := HA.out; omega)
      have hzd : decide ((i : Int) < (s.size : Int)) = true := dec_t (by have := HA.out; omega)
      have hz5 : (i : Int) ≤ (s.size : Int) := by have := HA.out; omega
      have HKS : Hid (∀ W : World, Below wr.heap.size wr W → W.cell? ⟨rb + 1, 0, none⟩ = some (.int .i64 0) ∧ W.cell? ⟨rb + 1, 1, none⟩ = some (.string ⟨#[]⟩) ∧ W.cell? ⟨rb + 1, 2, none⟩ = some (.int .i64 0) ∧ W.cell? ⟨rb + 1, 3, none⟩ = some (.slice none 0 0)) := fun W hW => by
        obtain ⟨a0, a1, a2, a3, _⟩ := prow4 (keep_row HQ0.out hW)
        exact ⟨a0, a1, a2, a3⟩
      have hS0 := HKS.out wr (Below.refl _ _)
      have hSd := HKS.out wr.drew (Below.refl _ _).drew
      have HBD : Hid (Below w.heap.size w wr.drew) := below_dn HB0.out 1
      clear z0 z1 z2 z3 zf y0 y1 y2 y3 yf
      go_upto_region 8 with fail
      go_region_held3 (fun W : World => W.cell? ⟨rb + 1, 0, none⟩ = some (.int .i64 0) ∧ W.cell? ⟨rb + 1, 1, none⟩ = some (.string ⟨#[]⟩) ∧ W.cell? ⟨rb + 1, 2, none⟩ = some (.int .i64 0) ∧ W.cell? ⟨rb + 1, 3, none⟩ = some (.slice none 0 0))
        (first | with_reducible exact hS0 | with_reducible exact hSd | with_reducible exact hS4 | exact n4_keep hS4 | exact n4_keep1 hS4)
        (first | (go_at_call 33; refine (HPT.out _).mono ?_; rintro e w6 ⟨rfl, hb6⟩; have hx6 : Below wr.heap.size wr w6 := (Below.refl _ _).drew.trans hb6; have hS4 := HKS.out _ hx6; have HB6 : Hid (Below w.heap.size w w6) := HBD.out.trans (hb6.mono HBD.out.size); have HR6 : Hid (w6.heap[rb]? = some (.cells #[.int .i64 0, .string ⟨#[]⟩, .int .i64 0, .slice none 0 0] 24)) := keep_row HR0.out hx6; obtain ⟨z0, z1, z2, z3, zf⟩ := prow4 HR6.out; clear hb6 hx6))
      go_wp2
      exact rp3_fin _ 4 5 6 Tryz.results18 HR6.out _ _ _ _ _ _ _ (fun w' ho => ld_err x rfl HX0.out (HB6.out.trans (ho.below HRW.out))) _ rfl rfl rfl rfl
end Go.Proofs.YtnfbaeajalnmmaaGreatDoor
namespace Go.Proofs.YtnfbaeajalnmmaaGreatDoor
open Go.RowKit Vi
set_option linter.unusedVariables false
set_option linter.unusedSimpArgs false
set_option maxHeartbeats 8000000 in
set_option maxRecDepth 20000 in
theorem rd_B10 (s : ByteArray) (D : Int) (hs : s.size ≤ 281474976710656) (a : Nat) (ha : a < s.size) (h10 : s[a] = 10) (hno : ∀ i, i < a → ∀ h : i < s.size, s[i] ≠ 13 ∧ s[i] ≠ 10) (w : World) :
    Calls Tryz.prog 18 #[.string s, .int .i64 D] w fun e w' => LdIs { e := 120 } w w' e := by
  obtain ⟨rb, hrb⟩ : ∃ rb, w.heap.size = rb := ⟨_, rfl⟩
  obtain ⟨W0, hW0⟩ : ∃ W, W = (w.alloc (.cells #[.int .i64 0, .string ⟨#[]⟩, .int .i64 0, .slice none 0 0] 24)).alloc (.cells #[.int .i64 0, .string ⟨#[]⟩, .int .i64 0, .slice none 0 0] 24) := ⟨_, rfl⟩
  have hb0 : Below w.heap.size w W0 := by rw [hW0]; exact ((Below.refl _ _).alloc (Nat.le_refl _) _).alloc (by simp) _
  have hr0 : W0.heap[rb]? = some (.cells #[.int .i64 0, .string ⟨#[]⟩, .int .i64 0, .slice none 0 0] 24) := by
    rw [hW0, ← hrb]; exact keep_row (one_alloc _ _) ((Below.refl _ _).alloc (Nat.le_refl _) _)
  have hq0 : W0.heap[rb + 1]? = some (.cells #[.int .i64 0, .string ⟨#[]⟩, .int .i64 0, .slice none 0 0] 24) := by
    have h9 := one_alloc (w.alloc (.cells #[.int .i64 0, .string ⟨#[]⟩, .int .i64 0, .slice none 0 0] 24)) (.cells #[.int .i64 0, .string ⟨#[]⟩, .int .i64 0, .slice none 0 0] 24)
    rw [hW0, ← hrb]; simpa using h9
  have HB0 : Hid (Below w.heap.size w W0) := hb0
  have HR0 : Hid _ := hr0
  have HQ0 : Hid _ := hq0
  have HRW : Hid (w.heap.size ≤ rb) := Nat.le_of_eq hrb
  obtain ⟨z0, z1, z2, z3, zf⟩ := prow4 HR0.out
  obtain ⟨y0, y1, y2, y3, yf⟩ := prow4 HQ0.out
  clear hb0 hr0 hq0
  have HNO : Hid _ := hno
  have hle : s.toList.isEmpty = false := str_full (by omega)
  have hz : (0 : Int) < (s.size : Int) := by omega
  clear hno
  go_enter Tryz.func18, Tryz.ntmps18
  go_upto_region 2 with fail
  rw [← hW0]
  clear hW0 hrb
  go_wp2
  go_loopw [8] (fun ci wr => ∃ i : Nat, (i ≤ a ∧ wr = W0) ∧ ci = .int .i64 (i : Int)) (fun ci _ => a - (intOf ci).toNat)
  case atStart => exact ⟨0, ⟨Nat.zero_le _, rfl⟩, rfl⟩
  case round =>
    obtain ⟨i, ⟨hi, hw⟩, rfl⟩ := hrel
    subst hw
    by_cases hlt : i < a
    · have hil : i < s.size := by omega
      have hq1 : ((s[i].toNat : Int) != 13) = true := ne_mark (HNO.out i hlt hil).1 rfl
      have hq2 : ((s[i].toNat : Int) != 10) = true := ne_mark (HNO.out i hlt hil).2 rfl
      have hz0 : (0 : Int) ≤ (i : Int) := by omega
      have hz1 : (i : Int) < (s.size : Int) := by omega
      go_wp2
      go_roundw
      case rel => first | exact ⟨i + 1, ⟨by omega, trivial⟩, rfl⟩ | exact ⟨i + 1, ⟨by omega, rfl⟩, rfl⟩
      case measure => simp [intOf]; omega
    · have hik : i = a := by omega
      subst hik
      have hz0 : (0 : Int) ≤ (i : Int) := by omega
      have hz1 : (i : Int) < (s.size : Int) := by omega
      have hq1 : ((s[i].toNat : Int) != 13) = true := by rw [h10]; rfl
      have hq2 : ((s[i].toNat : Int) != 10) = false := by rw [h10]; rfl
      have hq1b : ((s[i].toNat : Int) == 13) = false := by rw [h10]; rfl
      have hne1 : ((i : Int) == (s.size : Int)) = false := by simp; omega
      have hw1 : IntKind.i64.wrap ((i : Int) + 1) = (i : Int) + 1 := by rw [IntKind.wrap_i64] <;> omega
      obtain ⟨bb, hbb⟩ : ∃ b, (((i : Int) + 1) == (s.size : Int)) = b := ⟨_, rfl⟩
      cases bb
      all_goals
        go_wp2
        exact rp3_fin _ 4 5 6 Tryz.results18 HR0.out _ _ _ _ _ _ _ (fun w' ho => ld_err 120 rfl (by decide) (HB0.out.trans (ho.below HRW.out))) _ rfl rfl rfl rfl
end Go.Proofs.YtnfbaeajalnmmaaGreatDoor
namespace Go.Proofs.YtnfbaeajalnmmaaGreatDoor
open Go.RowKit Vi
set_option linter.unusedVariables false
set_option linter.unusedSimpArgs false
set_option maxHeartbeats 8000000 in
set_option maxRecDepth 20000 in
theorem rd_B13 (s : ByteArray) (D : Int) (hs : s.size ≤ 281474976710656) (a : Nat) (ha : a + 1 < s.size) (h13 : s[a] = 13) (h10 : s[a + 1] ≠ 10) (hno : ∀ i, i < a → ∀ h : i < s.size, s[i] ≠ 13 ∧ s[i] ≠ 10) (w : World) :
    Calls Tryz.prog 18 #[.string s, .int .i64 D] w fun e w' => LdIs { e := 120 } w w' e := by
  obtain ⟨rb, hrb⟩ : ∃ rb, w.heap.size = rb := ⟨_, rfl⟩
  obtain ⟨W0, hW0⟩ : ∃ W, W = (w.alloc (.cells #[.int .i64 0, .string ⟨#[]⟩, .int .i64 0, .slice none 0 0] 24)).alloc (.cells #[.int .i64 0, .string ⟨#[]⟩, .int .i64 0, .slice none 0 0] 24) := ⟨_, rfl⟩
  have hb0 : Below w.heap.size w W0 := by rw [hW0]; exact ((Below.refl _ _).alloc (Nat.le_refl _) _).alloc (by simp) _
  have hr0 : W0.heap[rb]? = some (.cells #[.int .i64 0, .string ⟨#[]⟩, .int .i64 0, .slice none 0 0] 24) := by
    rw [hW0, ← hrb]; exact keep_row (one_alloc _ _) ((Below.refl _ _).alloc (Nat.le_refl _) _)
  have hq0 : W0.heap[rb + 1]? = some (.cells #[.int .i64 0, .string ⟨#[]⟩, .int .i64 0, .slice none 0 0] 24) := by
    have h9 := one_alloc (w.alloc (.cells #[.int .i64 0, .string ⟨#[]⟩, .int .i64 0, .slice none 0 0] 24)) (.cells #[.int .i64 0, .string ⟨#[]⟩, .int .i64 0, .slice none 0 0] 24)
    rw [hW0, ← hrb]; simpa using h9
  have HB0 : Hid (Below w.heap.size w W0) := hb0
  have HR0 : Hid _ := hr0
  have HQ0 : Hid _ := hq0
  have HRW : Hid (w.heap.size ≤ rb) := Nat.le_of_eq hrb
  obtain ⟨z0, z1, z2, z3, zf⟩ := prow4 HR0.out
  obtain ⟨y0, y1, y2, y3, yf⟩ := prow4 HQ0.out
  clear hb0 hr0 hq0
  have HNO : Hid _ := hno
  have hle : s.toList.isEmpty = false := str_full (by omega)
  have hz : (0 : Int) < (s.size : Int) := by omega
  clear hno
  go_enter Tryz.func18, Tryz.ntmps18
  go_upto_region 2 with fail
  rw [← hW0]
  clear hW0 hrb
  go_wp2
  go_loopw [8] (fun ci wr => ∃ i : Nat, (i ≤ a ∧ wr = W0) ∧ ci = .int .i64 (i : Int)) (fun ci _ => a - (intOf ci).toNat)
  case atStart => exact ⟨0, ⟨Nat.zero_le _, rfl⟩, rfl⟩
  case round =>
    obtain ⟨i, ⟨hi, hw⟩, rfl⟩ := hrel
    subst hw
    by_cases hlt : i < a
    · have hil : i < s.size := by omega
      have hq1 : ((s[i].toNat : Int) != 13) = true := ne_mark (HNO.out i hlt hil).1 rfl
      have hq2 : ((s[i].toNat : Int) != 10) = true := ne_mark (HNO.out i hlt hil).2 rfl
      have hz0 : (0 : Int) ≤ (i : Int) := by omega
      have hz1 : (i : Int) < (s.size : Int) := by omega
      go_wp2
      go_roundw
      case rel => first | exact ⟨i + 1, ⟨by omega, trivial⟩, rfl⟩ | exact ⟨i + 1, ⟨by omega, rfl⟩, rfl⟩
      case measure => simp [intOf]; omega
    · have hik : i = a := by omega
      subst hik
      have hz0 : (0 : Int) ≤ (i : Int) := by omega
      have hz1 : (i : Int) < (s.size : Int) := by omega
      have hzs : i < s.size := by omega
      have hq1 : ((s[i].toNat : Int) != 13) = false := by rw [h13]; rfl
      have hq1b : ((s[i].toNat : Int) == 13) = true := by rw [h13]; rfl
      have hq3 : ((s[i + 1].toNat : Int) != 10) = true := ne_mark h10 rfl
      have hne1 : ((i : Int) == (s.size : Int)) = false := by simp; omega
      have hne2 : (((i : Int) + 1) == (s.size : Int)) = false := by simp; omega
      have hz2 : (0 : Int) ≤ (i : Int) + 1 := by omega
      have hz3 : (i : Int) + 1 < (s.size : Int) := by omega
      have hw1 : IntKind.i64.wrap ((i : Int) + 1) = (i : Int) + 1 := by rw [IntKind.wrap_i64] <;> omega
      have hw2 : IntKind.i64.wrap ((i : Int) + 2) = (i : Int) + 2 := by rw [IntKind.wrap_i64] <;> omega
      have hz4 : (0 : Int) ≤ (i : Int) + 2 := by omega
      have hz5 : (i : Int) + 2 ≤ (s.size : Int) := by omega
      go_wp2
      exact rp3_fin _ 4 5 6 Tryz.results18 HR0.out _ _ _ _ _ _ _ (fun w' ho => ld_err 120 rfl (by decide) (HB0.out.trans (ho.below HRW.out))) _ rfl rfl rfl rfl
end Go.Proofs.YtnfbaeajalnmmaaGreatDoor
namespace Go.Proofs.YtnfbaeajalnmmaaGreatDoor
open Go.RowKit Vi
set_option linter.unusedVariables false
set_option linter.unusedSimpArgs false
set_option maxHeartbeats 8000000 in
set_option maxRecDepth 20000 in
theorem rd_F0 (s : ByteArray) (D : Int) (hs : s.size ≤ 281474976710656) (a : Nat) (ha : a + 1 < s.size) (h13 : s[a] = 13) (h10 : s[a + 1] = 10) (hno : ∀ i, i < a → ∀ h : i < s.size, s[i] ≠ 13 ∧ s[i] ≠ 10) (ha1 : a = 0) (w : World) :
    Calls Tryz.prog 18 #[.string s, .int .i64 D] w fun e w' => LdIs { e := 120 } w w' e := by
  obtain ⟨rb, hrb⟩ : ∃ rb, w.heap.size = rb := ⟨_, rfl⟩
  obtain ⟨W0, hW0⟩ : ∃ W, W = (w.alloc (.cells #[.int .i64 0, .string ⟨#[]⟩, .int .i64 0, .slice none 0 0] 24)).alloc (.cells #[.int .i64 0, .string ⟨#[]⟩, .int .i64 0, .slice none 0 0] 24) := ⟨_, rfl⟩
  have hb0 : Below w.heap.size w W0 := by rw [hW0]; exact ((Below.refl _ _).alloc (Nat.le_refl _) _).alloc (by simp) _
  have hr0 : W0.heap[rb]? = some (.cells #[.int .i64 0, .string ⟨#[]⟩, .int .i64 0, .slice none 0 0] 24) := by
    rw [hW0, ← hrb]; exact keep_row (one_alloc _ _) ((Below.refl _ _).alloc (Nat.le_refl _) _)
  have hq0 : W0.heap[rb + 1]? = some (.cells #[.int .i64 0, .string ⟨#[]⟩, .int .i64 0, .slice none 0 0] 24) := by
    have h9 := one_alloc (w.alloc (.cells #[.int .i64 0, .string ⟨#[]⟩, .int .i64 0, .slice none 0 0] 24)) (.cells #[.int .i64 0, .string ⟨#[]⟩, .int .i64 0, .slice none 0 0] 24)
    rw [hW0, ← hrb]; simpa using h9
  have HB0 : Hid (Below w.heap.size w W0) := hb0
  have HR0 : Hid _ := hr0
  have HQ0 : Hid _ := hq0
  have HRW : Hid (w.heap.size ≤ rb) := Nat.le_of_eq hrb
  obtain ⟨z0, z1, z2, z3, zf⟩ := prow4 HR0.out
  obtain ⟨y0, y1, y2, y3, yf⟩ := prow4 HQ0.out
  clear hb0 hr0 hq0
  have HNO : Hid _ := hno
  have hle : s.toList.isEmpty = false := str_full (by omega)
  have hz : (0 : Int) < (s.size : Int) := by omega
  subst ha1
  have HN : Hid (∀ W, Calls Tryz.prog 34 #[.string ⟨#[]⟩] W fun e w' => e = .returned (.tuple #[.int .i64 0, .bool false]) ∧ Below W.heap.size W w') := fun W => by
    have h9 := refNumber_any ⟨#[]⟩ (by decide) W
    rw [show (⟨#[]⟩ : ByteArray).data.toList = [] from rfl, numT_none num_nil] at h9; exact h9
  have hT : s.extract 1 1 = ⟨#[]⟩ := empty_str _ (by rw [ext_size _ _ _ (by omega)])
  have hmax : max (1 : Int) (0 : Int) = 1 := by decide
  have h1l : (1 : Int) ≤ (s.size : Int) := by omega
  go_enter Tryz.func18, Tryz.ntmps18
  go_upto_region 2 with fail
  rw [← hW0]
  clear hW0 hrb
  go_wp2
  go_loopw [8] (fun ci wr => wr = W0 ∧ ci = .int .i64 0) (fun ci _ => 0)
  case atStart => exact ⟨rfl, rfl⟩
  case round =>
      obtain ⟨hw, rfl⟩ := hrel
      subst hw
      have hq1 : ((s[0].toNat : Int) != 13) = false := by rw [h13]; rfl
      have hq1b : ((s[0].toNat : Int) == 13) = true := by rw [h13]; rfl
      have hq3 : ((s[1].toNat : Int) != 10) = false := by rw [h10]; rfl
      have hne1 : ((0 : Int) == (s.size : Int)) = false := by simp; omega
      have hne2 : ((1 : Int) == (s.size : Int)) = false := by simp; omega
      have hz3 : (1 : Int) < (s.size : Int) := by omega
      have hz5 : (2 : Int) ≤ (s.size : Int) := by omega
      go_wp2_with fail
      refine (HN.out _).mono ?_
      rintro e w1 ⟨rfl, hb1⟩
      have HB1 : Hid (Below w.heap.size w w1) := HB0.out.trans (hb1.mono HB0.out.size)
      have HR1 : Hid (w1.heap[rb]? = some (.cells #[.int .i64 0, .string ⟨#[]⟩, .int .i64 0, .slice none 0 0] 24)) := keep_row HR0.out hb1
      have HQ1 : Hid (w1.heap[rb + 1]? = some (.cells #[.int .i64 0, .string ⟨#[]⟩, .int .i64 0, .slice none 0 0] 24)) := keep_row HQ0.out hb1
      clear z0 z1 z2 z3 zf y0 y1 y2 y3 yf hb1
      obtain ⟨z0, z1, z2, z3, zf⟩ := prow4 HR1.out
      obtain ⟨y0, y1, y2, y3, yf⟩ := prow4 HQ1.out
      go_wp2
      exact rp3_fin _ 4 5 6 Tryz.results18 HR1.out _ _ _ _ _ _ _ (fun w' ho => ld_err 120 rfl (by decide) (HB1.out.trans (ho.below HRW.out))) _ rfl rfl rfl rfl
end Go.Proofs.YtnfbaeajalnmmaaGreatDoor
