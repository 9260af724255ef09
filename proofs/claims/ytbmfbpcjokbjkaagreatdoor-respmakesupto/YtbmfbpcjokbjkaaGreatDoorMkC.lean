import Derived.Test.YtbmfbpcjokbjkaaGreatDoorMkB
namespace Go.Proofs.YtbmfbpcjokbjkaaGreatDoor
open Go.RowKit Vi
set_option linter.unusedVariables false
set_option linter.unusedSimpArgs false
/-- both faults of a number are one. -/
def FtC (n : Int) : Prop := ∃ k t, (∀ w : World, Laid w → Calls Tryz.prog 23 #[.int .i64 n] w fun e w' => e = .returned (rpV k t 0) ∧ Below w.heap.size w w') ∧ (∀ w : World, Calls Tryz.prog 24 #[.int .i64 n] w fun e w' => e = .returned (rpV k t 0) ∧ Below w.heap.size w w')
theorem ej (n : Int) (h0 : -9223372036854775808 ≤ n) (h1 : n ≤ 9223372036854775807) : (⟨#[69, 82, 82, 32, 101, 114, 114, 111, 114, 32]⟩ : ByteArray).size + (itoaB n).size ≤ 64 := by
  have h9 := Lib.itoa_length_le n h0 h1
  have e1 : (itoaB n).size = (Lib.itoa n).length := by rw [← list_len]; rfl
  have e2 : (⟨#[69, 82, 82, 32, 101, 114, 114, 111, 114, 32]⟩ : ByteArray).size = 10 := rfl
  rw [e1, e2]; omega
theorem pfault_0 (w : World) : Calls Tryz.prog 23 #[.int .i64 0] w fun e w' => e = .returned (rpV 1 ⟨#[79, 75]⟩ 0) ∧ Below w.heap.size w w' := by
  obtain ⟨W0, hW0⟩ : ∃ W, W = w.alloc (.cells #[.int .i64 0, .string ⟨#[]⟩, .int .i64 0, .slice none 0 0] 24) := ⟨_, rfl⟩
  obtain ⟨b, hb⟩ : ∃ b, w.heap.size = b := ⟨_, rfl⟩
  have hb0 : Below b w W0 := by rw [hW0, ← hb]; exact (Below.refl _ _).alloc (Nat.le_refl _) _
  have hr0 : W0.heap[b]? = some (.cells #[.int .i64 0, .string ⟨#[]⟩, .int .i64 0, .slice none 0 0] 24) := by rw [hW0, ← hb]; exact one_alloc _ _
  have HB0 : Hid (Below b w W0) := hb0
  have HR0 : Hid _ := hr0
  have HW : Hid (b ≤ W0.heap.size) := by have := hb0.size; rw [hb] at this; exact this
  have HCL : Hid _ := Status_any ⟨#[79, 75]⟩ (by decide) W0
  rw [hb]
  clear hb0 hr0
  go_enter Tryz.func23, Tryz.ntmps23
  go_wp2_with fail
  rw [← hW0]
  clear hW0 hb
  refine (show Calls _ _ _ _ _ from HCL.out).mono ?_
  rintro e w1 ⟨rfl, hb1⟩
  have HB1 : Hid (Below b w w1) := HB0.out.trans (hb1.mono HW.out)
  have HR1 : Hid _ := keep_row HR0.out hb1
  obtain ⟨z0, z1, z2, z3, zf⟩ := prow4 HR1.out
  clear hb1
  try unfold rpV
  go_wp2
  exact rp_fin _ 2 Tryz.results23 HR1.out _ _ _ _ _ (fun w' ho => ⟨rfl, HB1.out.trans (ho.below (Nat.le_refl _))⟩) _ rfl rfl
theorem rfault_0 (w : World) : Calls Tryz.prog 24 #[.int .i64 0] w fun e w' => e = .returned (rpV 1 ⟨#[79, 75]⟩ 0) ∧ Below w.heap.size w w' := by
  obtain ⟨W0, hW0⟩ : ∃ W, W = w.alloc (.cells #[.int .i64 0, .string ⟨#[]⟩, .int .i64 0, .slice none 0 0] 24) := ⟨_, rfl⟩
  obtain ⟨b, hb⟩ : ∃ b, w.heap.size = b := ⟨_, rfl⟩
  have hb0 : Below b w W0 := by rw [hW0, ← hb]; exact (Below.refl _ _).alloc (Nat.le_refl _) _
  have hr0 : W0.heap[b]? = some (.cells #[.int .i64 0, .string ⟨#[]⟩, .int .i64 0, .slice none 0 0] 24) := by rw [hW0, ← hb]; exact one_alloc _ _
  have HB0 : Hid (Below b w W0) := hb0
  have HR0 : Hid _ := hr0
  have HW : Hid (b ≤ W0.heap.size) := by have := hb0.size; rw [hb] at this; exact this
  have HDG : Hid _ := refDigits_any 0 (by decide) (by decide) W0
  have hj : (⟨#[69, 82, 82, 32, 101, 114, 114, 111, 114, 32]⟩ : ByteArray).size + (itoaB 0).size ≤ 9223372036854775807 := Nat.le_trans (ej 0 (by decide) (by decide)) (by decide)
  rw [hb]
  clear hb0 hr0
  go_enter Tryz.func24, Tryz.ntmps24
  go_wp2_with fail
  rw [← hW0]
  clear hW0 hb
  refine (show Calls _ _ _ _ _ from HDG.out).mono ?_
  rintro e w1 ⟨rfl, hb1⟩
  obtain ⟨D, hD⟩ : ∃ D, itoaB 0 = D := ⟨_, rfl⟩
  rw [hD] at hj ⊢
  clear hD
  have HB1 : Hid (Below b w w1) := HB0.out.trans (hb1.mono HW.out)
  have HR1 : Hid _ := keep_row HR0.out hb1
  obtain ⟨z0, z1, z2, z3, zf⟩ := prow4 HR1.out
  clear hb1
  try unfold rpV
  go_wp2
  exact rp_fin _ 2 Tryz.results24 HR1.out _ _ _ _ _ (fun w' ho => ⟨rfl, HB1.out.trans (ho.below (Nat.le_refl _))⟩) _ rfl rfl
theorem pfault_1 (w : World) : Calls Tryz.prog 23 #[.int .i64 1] w fun e w' => e = .returned (rpV 2 ⟨#[69, 82, 82, 32, 115, 121, 110, 116, 97, 120, 32, 101, 114, 114, 111, 114]⟩ 0) ∧ Below w.heap.size w w' := by
  obtain ⟨W0, hW0⟩ : ∃ W, W = w.alloc (.cells #[.int .i64 0, .string ⟨#[]⟩, .int .i64 0, .slice none 0 0] 24) := ⟨_, rfl⟩
  obtain ⟨b, hb⟩ : ∃ b, w.heap.size = b := ⟨_, rfl⟩
  have hb0 : Below b w W0 := by rw [hW0, ← hb]; exact (Below.refl _ _).alloc (Nat.le_refl _) _
  have hr0 : W0.heap[b]? = some (.cells #[.int .i64 0, .string ⟨#[]⟩, .int .i64 0, .slice none 0 0] 24) := by rw [hW0, ← hb]; exact one_alloc _ _
  have HB0 : Hid (Below b w W0) := hb0
  have HR0 : Hid _ := hr0
  have HW : Hid (b ≤ W0.heap.size) := by have := hb0.size; rw [hb] at this; exact this
  have HCL : Hid _ := Error_any ⟨#[69, 82, 82, 32, 115, 121, 110, 116, 97, 120, 32, 101, 114, 114, 111, 114]⟩ (by decide) W0
  rw [hb]
  clear hb0 hr0
  go_enter Tryz.func23, Tryz.ntmps23
  go_wp2_with fail
  rw [← hW0]
  clear hW0 hb
  refine (show Calls _ _ _ _ _ from HCL.out).mono ?_
  rintro e w1 ⟨rfl, hb1⟩
  have HB1 : Hid (Below b w w1) := HB0.out.trans (hb1.mono HW.out)
  have HR1 : Hid _ := keep_row HR0.out hb1
  obtain ⟨z0, z1, z2, z3, zf⟩ := prow4 HR1.out
  clear hb1
  try unfold rpV
  go_wp2
  exact rp_fin _ 2 Tryz.results23 HR1.out _ _ _ _ _ (fun w' ho => ⟨rfl, HB1.out.trans (ho.below (Nat.le_refl _))⟩) _ rfl rfl
theorem rfault_1 (w : World) : Calls Tryz.prog 24 #[.int .i64 1] w fun e w' => e = .returned (rpV 2 ⟨#[69, 82, 82, 32, 115, 121, 110, 116, 97, 120, 32, 101, 114, 114, 111, 114]⟩ 0) ∧ Below w.heap.size w w' := by
  obtain ⟨W0, hW0⟩ : ∃ W, W = w.alloc (.cells #[.int .i64 0, .string ⟨#[]⟩, .int .i64 0, .slice none 0 0] 24) := ⟨_, rfl⟩
  obtain ⟨b, hb⟩ : ∃ b, w.heap.size = b := ⟨_, rfl⟩
  have hb0 : Below b w W0 := by rw [hW0, ← hb]; exact (Below.refl _ _).alloc (Nat.le_refl _) _
  have hr0 : W0.heap[b]? = some (.cells #[.int .i64 0, .string ⟨#[]⟩, .int .i64 0, .slice none 0 0] 24) := by rw [hW0, ← hb]; exact one_alloc _ _
  have HB0 : Hid (Below b w W0) := hb0
  have HR0 : Hid _ := hr0
  have HW : Hid (b ≤ W0.heap.size) := by have := hb0.size; rw [hb] at this; exact this
  have HDG : Hid _ := refDigits_any 1 (by decide) (by decide) W0
  have hj : (⟨#[69, 82, 82, 32, 101, 114, 114, 111, 114, 32]⟩ : ByteArray).size + (itoaB 1).size ≤ 9223372036854775807 := Nat.le_trans (ej 1 (by decide) (by decide)) (by decide)
  rw [hb]
  clear hb0 hr0
  go_enter Tryz.func24, Tryz.ntmps24
  go_wp2_with fail
  rw [← hW0]
  clear hW0 hb
  refine (show Calls _ _ _ _ _ from HDG.out).mono ?_
  rintro e w1 ⟨rfl, hb1⟩
  obtain ⟨D, hD⟩ : ∃ D, itoaB 1 = D := ⟨_, rfl⟩
  rw [hD] at hj ⊢
  clear hD
  have HB1 : Hid (Below b w w1) := HB0.out.trans (hb1.mono HW.out)
  have HR1 : Hid _ := keep_row HR0.out hb1
  obtain ⟨z0, z1, z2, z3, zf⟩ := prow4 HR1.out
  clear hb1
  try unfold rpV
  go_wp2
  exact rp_fin _ 2 Tryz.results24 HR1.out _ _ _ _ _ (fun w' ho => ⟨rfl, HB1.out.trans (ho.below (Nat.le_refl _))⟩) _ rfl rfl
theorem pfault_2 (w : World) : Calls Tryz.prog 23 #[.int .i64 2] w fun e w' => e = .returned (rpV 2 ⟨#[69, 82, 82, 32, 118, 97, 108, 117, 101, 32, 105, 115, 32, 116, 111, 111, 32, 108, 97, 114, 103, 101]⟩ 0) ∧ Below w.heap.size w w' := by
  obtain ⟨W0, hW0⟩ : ∃ W, W = w.alloc (.cells #[.int .i64 0, .string ⟨#[]⟩, .int .i64 0, .slice none 0 0] 24) := ⟨_, rfl⟩
  obtain ⟨b, hb⟩ : ∃ b, w.heap.size = b := ⟨_, rfl⟩
  have hb0 : Below b w W0 := by rw [hW0, ← hb]; exact (Below.refl _ _).alloc (Nat.le_refl _) _
  have hr0 : W0.heap[b]? = some (.cells #[.int .i64 0, .string ⟨#[]⟩, .int .i64 0, .slice none 0 0] 24) := by rw [hW0, ← hb]; exact one_alloc _ _
  have HB0 : Hid (Below b w W0) := hb0
  have HR0 : Hid _ := hr0
  have HW : Hid (b ≤ W0.heap.size) := by have := hb0.size; rw [hb] at this; exact this
  have HCL : Hid _ := Error_any ⟨#[69, 82, 82, 32, 118, 97, 108, 117, 101, 32, 105, 115, 32, 116, 111, 111, 32, 108, 97, 114, 103, 101]⟩ (by decide) W0
  rw [hb]
  clear hb0 hr0
  go_enter Tryz.func23, Tryz.ntmps23
  go_wp2_with fail
  rw [← hW0]
  clear hW0 hb
  refine (show Calls _ _ _ _ _ from HCL.out).mono ?_
  rintro e w1 ⟨rfl, hb1⟩
  have HB1 : Hid (Below b w w1) := HB0.out.trans (hb1.mono HW.out)
  have HR1 : Hid _ := keep_row HR0.out hb1
  obtain ⟨z0, z1, z2, z3, zf⟩ := prow4 HR1.out
  clear hb1
  try unfold rpV
  go_wp2
  exact rp_fin _ 2 Tryz.results23 HR1.out _ _ _ _ _ (fun w' ho => ⟨rfl, HB1.out.trans (ho.below (Nat.le_refl _))⟩) _ rfl rfl
theorem rfault_2 (w : World) : Calls Tryz.prog 24 #[.int .i64 2] w fun e w' => e = .returned (rpV 2 ⟨#[69, 82, 82, 32, 118, 97, 108, 117, 101, 32, 105, 115, 32, 116, 111, 111, 32, 108, 97, 114, 103, 101]⟩ 0) ∧ Below w.heap.size w w' := by
  obtain ⟨W0, hW0⟩ : ∃ W, W = w.alloc (.cells #[.int .i64 0, .string ⟨#[]⟩, .int .i64 0, .slice none 0 0] 24) := ⟨_, rfl⟩
  obtain ⟨b, hb⟩ : ∃ b, w.heap.size = b := ⟨_, rfl⟩
  have hb0 : Below b w W0 := by rw [hW0, ← hb]; exact (Below.refl _ _).alloc (Nat.le_refl _) _
  have hr0 : W0.heap[b]? = some (.cells #[.int .i64 0, .string ⟨#[]⟩, .int .i64 0, .slice none 0 0] 24) := by rw [hW0, ← hb]; exact one_alloc _ _
  have HB0 : Hid (Below b w W0) := hb0
  have HR0 : Hid _ := hr0
  have HW : Hid (b ≤ W0.heap.size) := by have := hb0.size; rw [hb] at this; exact this
  have HDG : Hid _ := refDigits_any 2 (by decide) (by decide) W0
  have hj : (⟨#[69, 82, 82, 32, 101, 114, 114, 111, 114, 32]⟩ : ByteArray).size + (itoaB 2).size ≤ 9223372036854775807 := Nat.le_trans (ej 2 (by decide) (by decide)) (by decide)
  rw [hb]
  clear hb0 hr0
  go_enter Tryz.func24, Tryz.ntmps24
  go_wp2_with fail
  rw [← hW0]
  clear hW0 hb
  refine (show Calls _ _ _ _ _ from HDG.out).mono ?_
  rintro e w1 ⟨rfl, hb1⟩
  obtain ⟨D, hD⟩ : ∃ D, itoaB 2 = D := ⟨_, rfl⟩
  rw [hD] at hj ⊢
  clear hD
  have HB1 : Hid (Below b w w1) := HB0.out.trans (hb1.mono HW.out)
  have HR1 : Hid _ := keep_row HR0.out hb1
  obtain ⟨z0, z1, z2, z3, zf⟩ := prow4 HR1.out
  clear hb1
  try unfold rpV
  go_wp2
  exact rp_fin _ 2 Tryz.results24 HR1.out _ _ _ _ _ (fun w' ho => ⟨rfl, HB1.out.trans (ho.below (Nat.le_refl _))⟩) _ rfl rfl
theorem pfault_3 (w : World) : Calls Tryz.prog 23 #[.int .i64 3] w fun e w' => e = .returned (rpV 2 ⟨#[69, 82, 82, 32, 116, 111, 111, 32, 109, 97, 110, 121, 32, 107, 101, 121, 115]⟩ 0) ∧ Below w.heap.size w w' := by
  obtain ⟨W0, hW0⟩ : ∃ W, W = w.alloc (.cells #[.int .i64 0, .string ⟨#[]⟩, .int .i64 0, .slice none 0 0] 24) := ⟨_, rfl⟩
  obtain ⟨b, hb⟩ : ∃ b, w.heap.size = b := ⟨_, rfl⟩
  have hb0 : Below b w W0 := by rw [hW0, ← hb]; exact (Below.refl _ _).alloc (Nat.le_refl _) _
  have hr0 : W0.heap[b]? = some (.cells #[.int .i64 0, .string ⟨#[]⟩, .int .i64 0, .slice none 0 0] 24) := by rw [hW0, ← hb]; exact one_alloc _ _
  have HB0 : Hid (Below b w W0) := hb0
  have HR0 : Hid _ := hr0
  have HW : Hid (b ≤ W0.heap.size) := by have := hb0.size; rw [hb] at this; exact this
  have HCL : Hid _ := Error_any ⟨#[69, 82, 82, 32, 116, 111, 111, 32, 109, 97, 110, 121, 32, 107, 101, 121, 115]⟩ (by decide) W0
  rw [hb]
  clear hb0 hr0
  go_enter Tryz.func23, Tryz.ntmps23
  go_wp2_with fail
  rw [← hW0]
  clear hW0 hb
  refine (show Calls _ _ _ _ _ from HCL.out).mono ?_
  rintro e w1 ⟨rfl, hb1⟩
  have HB1 : Hid (Below b w w1) := HB0.out.trans (hb1.mono HW.out)
  have HR1 : Hid _ := keep_row HR0.out hb1
  obtain ⟨z0, z1, z2, z3, zf⟩ := prow4 HR1.out
  clear hb1
  try unfold rpV
  go_wp2
  exact rp_fin _ 2 Tryz.results23 HR1.out _ _ _ _ _ (fun w' ho => ⟨rfl, HB1.out.trans (ho.below (Nat.le_refl _))⟩) _ rfl rfl
theorem rfault_3 (w : World) : Calls Tryz.prog 24 #[.int .i64 3] w fun e w' => e = .returned (rpV 2 ⟨#[69, 82, 82, 32, 116, 111, 111, 32, 109, 97, 110, 121, 32, 107, 101, 121, 115]⟩ 0) ∧ Below w.heap.size w w' := by
  obtain ⟨W0, hW0⟩ : ∃ W, W = w.alloc (.cells #[.int .i64 0, .string ⟨#[]⟩, .int .i64 0, .slice none 0 0] 24) := ⟨_, rfl⟩
  obtain ⟨b, hb⟩ : ∃ b, w.heap.size = b := ⟨_, rfl⟩
  have hb0 : Below b w W0 := by rw [hW0, ← hb]; exact (Below.refl _ _).alloc (Nat.le_refl _) _
  have hr0 : W0.heap[b]? = some (.cells #[.int .i64 0, .string ⟨#[]⟩, .int .i64 0, .slice none 0 0] 24) := by rw [hW0, ← hb]; exact one_alloc _ _
  have HB0 : Hid (Below b w W0) := hb0
  have HR0 : Hid _ := hr0
  have HW : Hid (b ≤ W0.heap.size) := by have := hb0.size; rw [hb] at this; exact this
  have HDG : Hid _ := refDigits_any 3 (by decide) (by decide) W0
  have hj : (⟨#[69, 82, 82, 32, 101, 114, 114, 111, 114, 32]⟩ : ByteArray).size + (itoaB 3).size ≤ 9223372036854775807 := Nat.le_trans (ej 3 (by decide) (by decide)) (by decide)
  rw [hb]
  clear hb0 hr0
  go_enter Tryz.func24, Tryz.ntmps24
  go_wp2_with fail
  rw [← hW0]
  clear hW0 hb
  refine (show Calls _ _ _ _ _ from HDG.out).mono ?_
  rintro e w1 ⟨rfl, hb1⟩
  obtain ⟨D, hD⟩ : ∃ D, itoaB 3 = D := ⟨_, rfl⟩
  rw [hD] at hj ⊢
  clear hD
  have HB1 : Hid (Below b w w1) := HB0.out.trans (hb1.mono HW.out)
  have HR1 : Hid _ := keep_row HR0.out hb1
  obtain ⟨z0, z1, z2, z3, zf⟩ := prow4 HR1.out
  clear hb1
  try unfold rpV
  go_wp2
  exact rp_fin _ 2 Tryz.results24 HR1.out _ _ _ _ _ (fun w' ho => ⟨rfl, HB1.out.trans (ho.below (Nat.le_refl _))⟩) _ rfl rfl
theorem pfault_4 (w : World) : Calls Tryz.prog 23 #[.int .i64 4] w fun e w' => e = .returned (rpV 2 ⟨#[87, 82, 79, 78, 71, 84, 89, 80, 69, 32, 79, 112, 101, 114, 97, 116, 105, 111, 110, 32, 97, 103, 97, 105, 110, 115, 116, 32, 97, 32, 107, 101, 121, 32, 104, 111, 108, 100, 105, 110, 103, 32, 116, 104, 101, 32, 119, 114, 111, 110, 103, 32, 107, 105, 110, 100, 32, 111, 102, 32, 118, 97, 108, 117, 101]⟩ 0) ∧ Below w.heap.size w w' := by
  obtain ⟨W0, hW0⟩ : ∃ W, W = w.alloc (.cells #[.int .i64 0, .string ⟨#[]⟩, .int .i64 0, .slice none 0 0] 24) := ⟨_, rfl⟩
  obtain ⟨b, hb⟩ : ∃ b, w.heap.size = b := ⟨_, rfl⟩
  have hb0 : Below b w W0 := by rw [hW0, ← hb]; exact (Below.refl _ _).alloc (Nat.le_refl _) _
  have hr0 : W0.heap[b]? = some (.cells #[.int .i64 0, .string ⟨#[]⟩, .int .i64 0, .slice none 0 0] 24) := by rw [hW0, ← hb]; exact one_alloc _ _
  have HB0 : Hid (Below b w W0) := hb0
  have HR0 : Hid _ := hr0
  have HW : Hid (b ≤ W0.heap.size) := by have := hb0.size; rw [hb] at this; exact this
  have HCL : Hid _ := Error_any ⟨#[87, 82, 79, 78, 71, 84, 89, 80, 69, 32, 79, 112, 101, 114, 97, 116, 105, 111, 110, 32, 97, 103, 97, 105, 110, 115, 116, 32, 97, 32, 107, 101, 121, 32, 104, 111, 108, 100, 105, 110, 103, 32, 116, 104, 101, 32, 119, 114, 111, 110, 103, 32, 107, 105, 110, 100, 32, 111, 102, 32, 118, 97, 108, 117, 101]⟩ (by decide) W0
  rw [hb]
  clear hb0 hr0
  go_enter Tryz.func23, Tryz.ntmps23
  go_wp2_with fail
  rw [← hW0]
  clear hW0 hb
  refine (show Calls _ _ _ _ _ from HCL.out).mono ?_
  rintro e w1 ⟨rfl, hb1⟩
  have HB1 : Hid (Below b w w1) := HB0.out.trans (hb1.mono HW.out)
  have HR1 : Hid _ := keep_row HR0.out hb1
  obtain ⟨z0, z1, z2, z3, zf⟩ := prow4 HR1.out
  clear hb1
  try unfold rpV
  go_wp2
  exact rp_fin _ 2 Tryz.results23 HR1.out _ _ _ _ _ (fun w' ho => ⟨rfl, HB1.out.trans (ho.below (Nat.le_refl _))⟩) _ rfl rfl
theorem rfault_4 (w : World) : Calls Tryz.prog 24 #[.int .i64 4] w fun e w' => e = .returned (rpV 2 ⟨#[87, 82, 79, 78, 71, 84, 89, 80, 69, 32, 79, 112, 101, 114, 97, 116, 105, 111, 110, 32, 97, 103, 97, 105, 110, 115, 116, 32, 97, 32, 107, 101, 121, 32, 104, 111, 108, 100, 105, 110, 103, 32, 116, 104, 101, 32, 119, 114, 111, 110, 103, 32, 107, 105, 110, 100, 32, 111, 102, 32, 118, 97, 108, 117, 101]⟩ 0) ∧ Below w.heap.size w w' := by
  obtain ⟨W0, hW0⟩ : ∃ W, W = w.alloc (.cells #[.int .i64 0, .string ⟨#[]⟩, .int .i64 0, .slice none 0 0] 24) := ⟨_, rfl⟩
  obtain ⟨b, hb⟩ : ∃ b, w.heap.size = b := ⟨_, rfl⟩
  have hb0 : Below b w W0 := by rw [hW0, ← hb]; exact (Below.refl _ _).alloc (Nat.le_refl _) _
  have hr0 : W0.heap[b]? = some (.cells #[.int .i64 0, .string ⟨#[]⟩, .int .i64 0, .slice none 0 0] 24) := by rw [hW0, ← hb]; exact one_alloc _ _
  have HB0 : Hid (Below b w W0) := hb0
  have HR0 : Hid _ := hr0
  have HW : Hid (b ≤ W0.heap.size) := by have := hb0.size; rw [hb] at this; exact this
  have HDG : Hid _ := refDigits_any 4 (by decide) (by decide) W0
  have hj : (⟨#[69, 82, 82, 32, 101, 114, 114, 111, 114, 32]⟩ : ByteArray).size + (itoaB 4).size ≤ 9223372036854775807 := Nat.le_trans (ej 4 (by decide) (by decide)) (by decide)
  rw [hb]
  clear hb0 hr0
  go_enter Tryz.func24, Tryz.ntmps24
  go_wp2_with fail
  rw [← hW0]
  clear hW0 hb
  refine (show Calls _ _ _ _ _ from HDG.out).mono ?_
  rintro e w1 ⟨rfl, hb1⟩
  obtain ⟨D, hD⟩ : ∃ D, itoaB 4 = D := ⟨_, rfl⟩
  rw [hD] at hj ⊢
  clear hD
  have HB1 : Hid (Below b w w1) := HB0.out.trans (hb1.mono HW.out)
  have HR1 : Hid _ := keep_row HR0.out hb1
  obtain ⟨z0, z1, z2, z3, zf⟩ := prow4 HR1.out
  clear hb1
  try unfold rpV
  go_wp2
  exact rp_fin _ 2 Tryz.results24 HR1.out _ _ _ _ _ (fun w' ho => ⟨rfl, HB1.out.trans (ho.below (Nat.le_refl _))⟩) _ rfl rfl
theorem pfault_5 (w : World) : Calls Tryz.prog 23 #[.int .i64 5] w fun e w' => e = .returned (rpV 2 ⟨#[69, 82, 82, 32, 118, 97, 108, 117, 101, 32, 105, 115, 32, 110, 111, 116, 32, 97, 110, 32, 105, 110, 116, 101, 103, 101, 114, 32, 111, 114, 32, 111, 117, 116, 32, 111, 102, 32, 114, 97, 110, 103, 101]⟩ 0) ∧ Below w.heap.size w w' := by
  obtain ⟨W0, hW0⟩ : ∃ W, W = w.alloc (.cells #[.int .i64 0, .string ⟨#[]⟩, .int .i64 0, .slice none 0 0] 24) := ⟨_, rfl⟩
  obtain ⟨b, hb⟩ : ∃ b, w.heap.size = b := ⟨_, rfl⟩
  have hb0 : Below b w W0 := by rw [hW0, ← hb]; exact (Below.refl _ _).alloc (Nat.le_refl _) _
  have hr0 : W0.heap[b]? = some (.cells #[.int .i64 0, .string ⟨#[]⟩, .int .i64 0, .slice none 0 0] 24) := by rw [hW0, ← hb]; exact one_alloc _ _
  have HB0 : Hid (Below b w W0) := hb0
  have HR0 : Hid _ := hr0
  have HW : Hid (b ≤ W0.heap.size) := by have := hb0.size; rw [hb] at this; exact this
  have HCL : Hid _ := Error_any ⟨#[69, 82, 82, 32, 118, 97, 108, 117, 101, 32, 105, 115, 32, 110, 111, 116, 32, 97, 110, 32, 105, 110, 116, 101, 103, 101, 114, 32, 111, 114, 32, 111, 117, 116, 32, 111, 102, 32, 114, 97, 110, 103, 101]⟩ (by decide) W0
  rw [hb]
  clear hb0 hr0
  go_enter Tryz.func23, Tryz.ntmps23
  go_wp2_with fail
  rw [← hW0]
  clear hW0 hb
  refine (show Calls _ _ _ _ _ from HCL.out).mono ?_
  rintro e w1 ⟨rfl, hb1⟩
  have HB1 : Hid (Below b w w1) := HB0.out.trans (hb1.mono HW.out)
  have HR1 : Hid _ := keep_row HR0.out hb1
  obtain ⟨z0, z1, z2, z3, zf⟩ := prow4 HR1.out
  clear hb1
  try unfold rpV
  go_wp2
  exact rp_fin _ 2 Tryz.results23 HR1.out _ _ _ _ _ (fun w' ho => ⟨rfl, HB1.out.trans (ho.below (Nat.le_refl _))⟩) _ rfl rfl
theorem rfault_5 (w : World) : Calls Tryz.prog 24 #[.int .i64 5] w fun e w' => e = .returned (rpV 2 ⟨#[69, 82, 82, 32, 118, 97, 108, 117, 101, 32, 105, 115, 32, 110, 111, 116, 32, 97, 110, 32, 105, 110, 116, 101, 103, 101, 114, 32, 111, 114, 32, 111, 117, 116, 32, 111, 102, 32, 114, 97, 110, 103, 101]⟩ 0) ∧ Below w.heap.size w w' := by
  obtain ⟨W0, hW0⟩ : ∃ W, W = w.alloc (.cells #[.int .i64 0, .string ⟨#[]⟩, .int .i64 0, .slice none 0 0] 24) := ⟨_, rfl⟩
  obtain ⟨b, hb⟩ : ∃ b, w.heap.size = b := ⟨_, rfl⟩
  have hb0 : Below b w W0 := by rw [hW0, ← hb]; exact (Below.refl _ _).alloc (Nat.le_refl _) _
  have hr0 : W0.heap[b]? = some (.cells #[.int .i64 0, .string ⟨#[]⟩, .int .i64 0, .slice none 0 0] 24) := by rw [hW0, ← hb]; exact one_alloc _ _
  have HB0 : Hid (Below b w W0) := hb0
  have HR0 : Hid _ := hr0
  have HW : Hid (b ≤ W0.heap.size) := by have := hb0.size; rw [hb] at this; exact this
  have HDG : Hid _ := refDigits_any 5 (by decide) (by decide) W0
  have hj : (⟨#[69, 82, 82, 32, 101, 114, 114, 111, 114, 32]⟩ : ByteArray).size + (itoaB 5).size ≤ 9223372036854775807 := Nat.le_trans (ej 5 (by decide) (by decide)) (by decide)
  rw [hb]
  clear hb0 hr0
  go_enter Tryz.func24, Tryz.ntmps24
  go_wp2_with fail
  rw [← hW0]
  clear hW0 hb
  refine (show Calls _ _ _ _ _ from HDG.out).mono ?_
  rintro e w1 ⟨rfl, hb1⟩
  obtain ⟨D, hD⟩ : ∃ D, itoaB 5 = D := ⟨_, rfl⟩
  rw [hD] at hj ⊢
  clear hD
  have HB1 : Hid (Below b w w1) := HB0.out.trans (hb1.mono HW.out)
  have HR1 : Hid _ := keep_row HR0.out hb1
  obtain ⟨z0, z1, z2, z3, zf⟩ := prow4 HR1.out
  clear hb1
  try unfold rpV
  go_wp2
  exact rp_fin _ 2 Tryz.results24 HR1.out _ _ _ _ _ (fun w' ho => ⟨rfl, HB1.out.trans (ho.below (Nat.le_refl _))⟩) _ rfl rfl
theorem pfault_6 (w : World) : Calls Tryz.prog 23 #[.int .i64 6] w fun e w' => e = .returned (rpV 2 ⟨#[69, 82, 82, 32, 110, 111, 32, 115, 117, 99, 104, 32, 107, 101, 121]⟩ 0) ∧ Below w.heap.size w w' := by
  obtain ⟨W0, hW0⟩ : ∃ W, W = w.alloc (.cells #[.int .i64 0, .string ⟨#[]⟩, .int .i64 0, .slice none 0 0] 24) := ⟨_, rfl⟩
  obtain ⟨b, hb⟩ : ∃ b, w.heap.size = b := ⟨_, rfl⟩
  have hb0 : Below b w W0 := by rw [hW0, ← hb]; exact (Below.refl _ _).alloc (Nat.le_refl _) _
  have hr0 : W0.heap[b]? = some (.cells #[.int .i64 0, .string ⟨#[]⟩, .int .i64 0, .slice none 0 0] 24) := by rw [hW0, ← hb]; exact one_alloc _ _
  have HB0 : Hid (Below b w W0) := hb0
  have HR0 : Hid _ := hr0
  have HW : Hid (b ≤ W0.heap.size) := by have := hb0.size; rw [hb] at this; exact this
  have HCL : Hid _ := Error_any ⟨#[69, 82, 82, 32, 110, 111, 32, 115, 117, 99, 104, 32, 107, 101, 121]⟩ (by decide) W0
  rw [hb]
  clear hb0 hr0
  go_enter Tryz.func23, Tryz.ntmps23
  go_wp2_with fail
  rw [← hW0]
  clear hW0 hb
  refine (show Calls _ _ _ _ _ from HCL.out).mono ?_
  rintro e w1 ⟨rfl, hb1⟩
  have HB1 : Hid (Below b w w1) := HB0.out.trans (hb1.mono HW.out)
  have HR1 : Hid _ := keep_row HR0.out hb1
  obtain ⟨z0, z1, z2, z3, zf⟩ := prow4 HR1.out
  clear hb1
  try unfold rpV
  go_wp2
  exact rp_fin _ 2 Tryz.results23 HR1.out _ _ _ _ _ (fun w' ho => ⟨rfl, HB1.out.trans (ho.below (Nat.le_refl _))⟩) _ rfl rfl
theorem rfault_6 (w : World) : Calls Tryz.prog 24 #[.int .i64 6] w fun e w' => e = .returned (rpV 2 ⟨#[69, 82, 82, 32, 110, 111, 32, 115, 117, 99, 104, 32, 107, 101, 121]⟩ 0) ∧ Below w.heap.size w w' := by
  obtain ⟨W0, hW0⟩ : ∃ W, W = w.alloc (.cells #[.int .i64 0, .string ⟨#[]⟩, .int .i64 0, .slice none 0 0] 24) := ⟨_, rfl⟩
  obtain ⟨b, hb⟩ : ∃ b, w.heap.size = b := ⟨_, rfl⟩
  have hb0 : Below b w W0 := by rw [hW0, ← hb]; exact (Below.refl _ _).alloc (Nat.le_refl _) _
  have hr0 : W0.heap[b]? = some (.cells #[.int .i64 0, .string ⟨#[]⟩, .int .i64 0, .slice none 0 0] 24) := by rw [hW0, ← hb]; exact one_alloc _ _
  have HB0 : Hid (Below b w W0) := hb0
  have HR0 : Hid _ := hr0
  have HW : Hid (b ≤ W0.heap.size) := by have := hb0.size; rw [hb] at this; exact this
  have HDG : Hid _ := refDigits_any 6 (by decide) (by decide) W0
  have hj : (⟨#[69, 82, 82, 32, 101, 114, 114, 111, 114, 32]⟩ : ByteArray).size + (itoaB 6).size ≤ 9223372036854775807 := Nat.le_trans (ej 6 (by decide) (by decide)) (by decide)
  rw [hb]
  clear hb0 hr0
  go_enter Tryz.func24, Tryz.ntmps24
  go_wp2_with fail
  rw [← hW0]
  clear hW0 hb
  refine (show Calls _ _ _ _ _ from HDG.out).mono ?_
  rintro e w1 ⟨rfl, hb1⟩
  obtain ⟨D, hD⟩ : ∃ D, itoaB 6 = D := ⟨_, rfl⟩
  rw [hD] at hj ⊢
  clear hD
  have HB1 : Hid (Below b w w1) := HB0.out.trans (hb1.mono HW.out)
  have HR1 : Hid _ := keep_row HR0.out hb1
  obtain ⟨z0, z1, z2, z3, zf⟩ := prow4 HR1.out
  clear hb1
  try unfold rpV
  go_wp2
  exact rp_fin _ 2 Tryz.results24 HR1.out _ _ _ _ _ (fun w' ho => ⟨rfl, HB1.out.trans (ho.below (Nat.le_refl _))⟩) _ rfl rfl
theorem pfault_40 (w : World) : Calls Tryz.prog 23 #[.int .i64 40] w fun e w' => e = .returned (rpV 2 ⟨#[69, 82, 82, 32, 109, 105, 110, 32, 111, 114, 32, 109, 97, 120, 32, 105, 115, 32, 110, 111, 116, 32, 118, 97, 108, 105, 100]⟩ 0) ∧ Below w.heap.size w w' := by
  obtain ⟨W0, hW0⟩ : ∃ W, W = w.alloc (.cells #[.int .i64 0, .string ⟨#[]⟩, .int .i64 0, .slice none 0 0] 24) := ⟨_, rfl⟩
  obtain ⟨b, hb⟩ : ∃ b, w.heap.size = b := ⟨_, rfl⟩
  have hb0 : Below b w W0 := by rw [hW0, ← hb]; exact (Below.refl _ _).alloc (Nat.le_refl _) _
  have hr0 : W0.heap[b]? = some (.cells #[.int .i64 0, .string ⟨#[]⟩, .int .i64 0, .slice none 0 0] 24) := by rw [hW0, ← hb]; exact one_alloc _ _
  have HB0 : Hid (Below b w W0) := hb0
  have HR0 : Hid _ := hr0
  have HW : Hid (b ≤ W0.heap.size) := by have := hb0.size; rw [hb] at this; exact this
  have HCL : Hid _ := Error_any ⟨#[69, 82, 82, 32, 109, 105, 110, 32, 111, 114, 32, 109, 97, 120, 32, 105, 115, 32, 110, 111, 116, 32, 118, 97, 108, 105, 100]⟩ (by decide) W0
  rw [hb]
  clear hb0 hr0
  go_enter Tryz.func23, Tryz.ntmps23
  go_wp2_with fail
  rw [← hW0]
  clear hW0 hb
  refine (show Calls _ _ _ _ _ from HCL.out).mono ?_
  rintro e w1 ⟨rfl, hb1⟩
  have HB1 : Hid (Below b w w1) := HB0.out.trans (hb1.mono HW.out)
  have HR1 : Hid _ := keep_row HR0.out hb1
  obtain ⟨z0, z1, z2, z3, zf⟩ := prow4 HR1.out
  clear hb1
  try unfold rpV
  go_wp2
  exact rp_fin _ 2 Tryz.results23 HR1.out _ _ _ _ _ (fun w' ho => ⟨rfl, HB1.out.trans (ho.below (Nat.le_refl _))⟩) _ rfl rfl
theorem rfault_40 (w : World) : Calls Tryz.prog 24 #[.int .i64 40] w fun e w' => e = .returned (rpV 2 ⟨#[69, 82, 82, 32, 109, 105, 110, 32, 111, 114, 32, 109, 97, 120, 32, 105, 115, 32, 110, 111, 116, 32, 118, 97, 108, 105, 100]⟩ 0) ∧ Below w.heap.size w w' := by
  obtain ⟨W0, hW0⟩ : ∃ W, W = w.alloc (.cells #[.int .i64 0, .string ⟨#[]⟩, .int .i64 0, .slice none 0 0] 24) := ⟨_, rfl⟩
  obtain ⟨b, hb⟩ : ∃ b, w.heap.size = b := ⟨_, rfl⟩
  have hb0 : Below b w W0 := by rw [hW0, ← hb]; exact (Below.refl _ _).alloc (Nat.le_refl _) _
  have hr0 : W0.heap[b]? = some (.cells #[.int .i64 0, .string ⟨#[]⟩, .int .i64 0, .slice none 0 0] 24) := by rw [hW0, ← hb]; exact one_alloc _ _
  have HB0 : Hid (Below b w W0) := hb0
  have HR0 : Hid _ := hr0
  have HW : Hid (b ≤ W0.heap.size) := by have := hb0.size; rw [hb] at this; exact this
  have HDG : Hid _ := refDigits_any 40 (by decide) (by decide) W0
  have hj : (⟨#[69, 82, 82, 32, 101, 114, 114, 111, 114, 32]⟩ : ByteArray).size + (itoaB 40).size ≤ 9223372036854775807 := Nat.le_trans (ej 40 (by decide) (by decide)) (by decide)
  rw [hb]
  clear hb0 hr0
  go_enter Tryz.func24, Tryz.ntmps24
  go_wp2_with fail
  rw [← hW0]
  clear hW0 hb
  refine (show Calls _ _ _ _ _ from HDG.out).mono ?_
  rintro e w1 ⟨rfl, hb1⟩
  obtain ⟨D, hD⟩ : ∃ D, itoaB 40 = D := ⟨_, rfl⟩
  rw [hD] at hj ⊢
  clear hD
  have HB1 : Hid (Below b w w1) := HB0.out.trans (hb1.mono HW.out)
  have HR1 : Hid _ := keep_row HR0.out hb1
  obtain ⟨z0, z1, z2, z3, zf⟩ := prow4 HR1.out
  clear hb1
  try unfold rpV
  go_wp2
  exact rp_fin _ 2 Tryz.results24 HR1.out _ _ _ _ _ (fun w' ho => ⟨rfl, HB1.out.trans (ho.below (Nat.le_refl _))⟩) _ rfl rfl
theorem pfault_200 (w : World) : Calls Tryz.prog 23 #[.int .i64 200] w fun e w' => e = .returned (rpV 2 ⟨#[69, 82, 82, 32, 116, 104, 101, 32, 102, 105, 108, 101, 32, 115, 121, 115, 116, 101, 109, 32, 102, 97, 105, 108, 101, 100]⟩ 0) ∧ Below w.heap.size w w' := by
  obtain ⟨W0, hW0⟩ : ∃ W, W = w.alloc (.cells #[.int .i64 0, .string ⟨#[]⟩, .int .i64 0, .slice none 0 0] 24) := ⟨_, rfl⟩
  obtain ⟨b, hb⟩ : ∃ b, w.heap.size = b := ⟨_, rfl⟩
  have hb0 : Below b w W0 := by rw [hW0, ← hb]; exact (Below.refl _ _).alloc (Nat.le_refl _) _
  have hr0 : W0.heap[b]? = some (.cells #[.int .i64 0, .string ⟨#[]⟩, .int .i64 0, .slice none 0 0] 24) := by rw [hW0, ← hb]; exact one_alloc _ _
  have HB0 : Hid (Below b w W0) := hb0
  have HR0 : Hid _ := hr0
  have HW : Hid (b ≤ W0.heap.size) := by have := hb0.size; rw [hb] at this; exact this
  have HCL : Hid _ := Error_any ⟨#[69, 82, 82, 32, 116, 104, 101, 32, 102, 105, 108, 101, 32, 115, 121, 115, 116, 101, 109, 32, 102, 97, 105, 108, 101, 100]⟩ (by decide) W0
  rw [hb]
  clear hb0 hr0
  go_enter Tryz.func23, Tryz.ntmps23
  go_wp2_with fail
  rw [← hW0]
  clear hW0 hb
  refine (show Calls _ _ _ _ _ from HCL.out).mono ?_
  rintro e w1 ⟨rfl, hb1⟩
  have HB1 : Hid (Below b w w1) := HB0.out.trans (hb1.mono HW.out)
  have HR1 : Hid _ := keep_row HR0.out hb1
  obtain ⟨z0, z1, z2, z3, zf⟩ := prow4 HR1.out
  clear hb1
  try unfold rpV
  go_wp2
  exact rp_fin _ 2 Tryz.results23 HR1.out _ _ _ _ _ (fun w' ho => ⟨rfl, HB1.out.trans (ho.below (Nat.le_refl _))⟩) _ rfl rfl
theorem rfault_200 (w : World) : Calls Tryz.prog 24 #[.int .i64 200] w fun e w' => e = .returned (rpV 2 ⟨#[69, 82, 82, 32, 116, 104, 101, 32, 102, 105, 108, 101, 32, 115, 121, 115, 116, 101, 109, 32, 102, 97, 105, 108, 101, 100]⟩ 0) ∧ Below w.heap.size w w' := by
  obtain ⟨W0, hW0⟩ : ∃ W, W = w.alloc (.cells #[.int .i64 0, .string ⟨#[]⟩, .int .i64 0, .slice none 0 0] 24) := ⟨_, rfl⟩
  obtain ⟨b, hb⟩ : ∃ b, w.heap.size = b := ⟨_, rfl⟩
  have hb0 : Below b w W0 := by rw [hW0, ← hb]; exact (Below.refl _ _).alloc (Nat.le_refl _) _
  have hr0 : W0.heap[b]? = some (.cells #[.int .i64 0, .string ⟨#[]⟩, .int .i64 0, .slice none 0 0] 24) := by rw [hW0, ← hb]; exact one_alloc _ _
  have HB0 : Hid (Below b w W0) := hb0
  have HR0 : Hid _ := hr0
  have HW : Hid (b ≤ W0.heap.size) := by have := hb0.size; rw [hb] at this; exact this
  have HDG : Hid _ := refDigits_any 200 (by decide) (by decide) W0
  have hj : (⟨#[69, 82, 82, 32, 101, 114, 114, 111, 114, 32]⟩ : ByteArray).size + (itoaB 200).size ≤ 9223372036854775807 := Nat.le_trans (ej 200 (by decide) (by decide)) (by decide)
  rw [hb]
  clear hb0 hr0
  go_enter Tryz.func24, Tryz.ntmps24
  go_wp2_with fail
  rw [← hW0]
  clear hW0 hb
  refine (show Calls _ _ _ _ _ from HDG.out).mono ?_
  rintro e w1 ⟨rfl, hb1⟩
  obtain ⟨D, hD⟩ : ∃ D, itoaB 200 = D := ⟨_, rfl⟩
  rw [hD] at hj ⊢
  clear hD
  have HB1 : Hid (Below b w w1) := HB0.out.trans (hb1.mono HW.out)
  have HR1 : Hid _ := keep_row HR0.out hb1
  obtain ⟨z0, z1, z2, z3, zf⟩ := prow4 HR1.out
  clear hb1
  try unfold rpV
  go_wp2
  exact rp_fin _ 2 Tryz.results24 HR1.out _ _ _ _ _ (fun w' ho => ⟨rfl, HB1.out.trans (ho.below (Nat.le_refl _))⟩) _ rfl rfl
theorem pfault_211 (w : World) : Calls Tryz.prog 23 #[.int .i64 211] w fun e w' => e = .returned (rpV 2 ⟨#[69, 82, 82, 32, 66, 97, 100, 32, 100, 97, 116, 97, 32, 102, 111, 114, 109, 97, 116]⟩ 0) ∧ Below w.heap.size w w' := by
  obtain ⟨W0, hW0⟩ : ∃ W, W = w.alloc (.cells #[.int .i64 0, .string ⟨#[]⟩, .int .i64 0, .slice none 0 0] 24) := ⟨_, rfl⟩
  obtain ⟨b, hb⟩ : ∃ b, w.heap.size = b := ⟨_, rfl⟩
  have hb0 : Below b w W0 := by rw [hW0, ← hb]; exact (Below.refl _ _).alloc (Nat.le_refl _) _
  have hr0 : W0.heap[b]? = some (.cells #[.int .i64 0, .string ⟨#[]⟩, .int .i64 0, .slice none 0 0] 24) := by rw [hW0, ← hb]; exact one_alloc _ _
  have HB0 : Hid (Below b w W0) := hb0
  have HR0 : Hid _ := hr0
  have HW : Hid (b ≤ W0.heap.size) := by have := hb0.size; rw [hb] at this; exact this
  have HCL : Hid _ := Error_any ⟨#[69, 82, 82, 32, 66, 97, 100, 32, 100, 97, 116, 97, 32, 102, 111, 114, 109, 97, 116]⟩ (by decide) W0
  rw [hb]
  clear hb0 hr0
  go_enter Tryz.func23, Tryz.ntmps23
  go_wp2_with fail
  rw [← hW0]
  clear hW0 hb
  refine (show Calls _ _ _ _ _ from HCL.out).mono ?_
  rintro e w1 ⟨rfl, hb1⟩
  have HB1 : Hid (Below b w w1) := HB0.out.trans (hb1.mono HW.out)
  have HR1 : Hid _ := keep_row HR0.out hb1
  obtain ⟨z0, z1, z2, z3, zf⟩ := prow4 HR1.out
  clear hb1
  try unfold rpV
  go_wp2
  exact rp_fin _ 2 Tryz.results23 HR1.out _ _ _ _ _ (fun w' ho => ⟨rfl, HB1.out.trans (ho.below (Nat.le_refl _))⟩) _ rfl rfl
theorem rfault_211 (w : World) : Calls Tryz.prog 24 #[.int .i64 211] w fun e w' => e = .returned (rpV 2 ⟨#[69, 82, 82, 32, 66, 97, 100, 32, 100, 97, 116, 97, 32, 102, 111, 114, 109, 97, 116]⟩ 0) ∧ Below w.heap.size w w' := by
  obtain ⟨W0, hW0⟩ : ∃ W, W = w.alloc (.cells #[.int .i64 0, .string ⟨#[]⟩, .int .i64 0, .slice none 0 0] 24) := ⟨_, rfl⟩
  obtain ⟨b, hb⟩ : ∃ b, w.heap.size = b := ⟨_, rfl⟩
  have hb0 : Below b w W0 := by rw [hW0, ← hb]; exact (Below.refl _ _).alloc (Nat.le_refl _) _
  have hr0 : W0.heap[b]? = some (.cells #[.int .i64 0, .string ⟨#[]⟩, .int .i64 0, .slice none 0 0] 24) := by rw [hW0, ← hb]; exact one_alloc _ _
  have HB0 : Hid (Below b w W0) := hb0
  have HR0 : Hid _ := hr0
  have HW : Hid (b ≤ W0.heap.size) := by have := hb0.size; rw [hb] at this; exact this
  have HDG : Hid _ := refDigits_any 211 (by decide) (by decide) W0
  have hj : (⟨#[69, 82, 82, 32, 101, 114, 114, 111, 114, 32]⟩ : ByteArray).size + (itoaB 211).size ≤ 9223372036854775807 := Nat.le_trans (ej 211 (by decide) (by decide)) (by decide)
  rw [hb]
  clear hb0 hr0
  go_enter Tryz.func24, Tryz.ntmps24
  go_wp2_with fail
  rw [← hW0]
  clear hW0 hb
  refine (show Calls _ _ _ _ _ from HDG.out).mono ?_
  rintro e w1 ⟨rfl, hb1⟩
  obtain ⟨D, hD⟩ : ∃ D, itoaB 211 = D := ⟨_, rfl⟩
  rw [hD] at hj ⊢
  clear hD
  have HB1 : Hid (Below b w w1) := HB0.out.trans (hb1.mono HW.out)
  have HR1 : Hid _ := keep_row HR0.out hb1
  obtain ⟨z0, z1, z2, z3, zf⟩ := prow4 HR1.out
  clear hb1
  try unfold rpV
  go_wp2
  exact rp_fin _ 2 Tryz.results24 HR1.out _ _ _ _ _ (fun w' ho => ⟨rfl, HB1.out.trans (ho.below (Nat.le_refl _))⟩) _ rfl rfl
theorem pfault_230 (w : World) : Calls Tryz.prog 23 #[.int .i64 230] w fun e w' => e = .returned (rpV 2 ⟨#[69, 82, 82, 32, 66, 97, 100, 32, 100, 97, 116, 97, 32, 102, 111, 114, 109, 97, 116]⟩ 0) ∧ Below w.heap.size w w' := by
  obtain ⟨W0, hW0⟩ : ∃ W, W = w.alloc (.cells #[.int .i64 0, .string ⟨#[]⟩, .int .i64 0, .slice none 0 0] 24) := ⟨_, rfl⟩
  obtain ⟨b, hb⟩ : ∃ b, w.heap.size = b := ⟨_, rfl⟩
  have hb0 : Below b w W0 := by rw [hW0, ← hb]; exact (Below.refl _ _).alloc (Nat.le_refl _) _
  have hr0 : W0.heap[b]? = some (.cells #[.int .i64 0, .string ⟨#[]⟩, .int .i64 0, .slice none 0 0] 24) := by rw [hW0, ← hb]; exact one_alloc _ _
  have HB0 : Hid (Below b w W0) := hb0
  have HR0 : Hid _ := hr0
  have HW : Hid (b ≤ W0.heap.size) := by have := hb0.size; rw [hb] at this; exact this
  have HCL : Hid _ := Error_any ⟨#[69, 82, 82, 32, 66, 97, 100, 32, 100, 97, 116, 97, 32, 102, 111, 114, 109, 97, 116]⟩ (by decide) W0
  rw [hb]
  clear hb0 hr0
  go_enter Tryz.func23, Tryz.ntmps23
  go_wp2_with fail
  rw [← hW0]
  clear hW0 hb
  refine (show Calls _ _ _ _ _ from HCL.out).mono ?_
  rintro e w1 ⟨rfl, hb1⟩
  have HB1 : Hid (Below b w w1) := HB0.out.trans (hb1.mono HW.out)
  have HR1 : Hid _ := keep_row HR0.out hb1
  obtain ⟨z0, z1, z2, z3, zf⟩ := prow4 HR1.out
  clear hb1
  try unfold rpV
  go_wp2
  exact rp_fin _ 2 Tryz.results23 HR1.out _ _ _ _ _ (fun w' ho => ⟨rfl, HB1.out.trans (ho.below (Nat.le_refl _))⟩) _ rfl rfl
theorem rfault_230 (w : World) : Calls Tryz.prog 24 #[.int .i64 230] w fun e w' => e = .returned (rpV 2 ⟨#[69, 82, 82, 32, 66, 97, 100, 32, 100, 97, 116, 97, 32, 102, 111, 114, 109, 97, 116]⟩ 0) ∧ Below w.heap.size w w' := by
  obtain ⟨W0, hW0⟩ : ∃ W, W = w.alloc (.cells #[.int .i64 0, .string ⟨#[]⟩, .int .i64 0, .slice none 0 0] 24) := ⟨_, rfl⟩
  obtain ⟨b, hb⟩ : ∃ b, w.heap.size = b := ⟨_, rfl⟩
  have hb0 : Below b w W0 := by rw [hW0, ← hb]; exact (Below.refl _ _).alloc (Nat.le_refl _) _
  have hr0 : W0.heap[b]? = some (.cells #[.int .i64 0, .string ⟨#[]⟩, .int .i64 0, .slice none 0 0] 24) := by rw [hW0, ← hb]; exact one_alloc _ _
  have HB0 : Hid (Below b w W0) := hb0
  have HR0 : Hid _ := hr0
  have HW : Hid (b ≤ W0.heap.size) := by have := hb0.size; rw [hb] at this; exact this
  have HDG : Hid _ := refDigits_any 230 (by decide) (by decide) W0
  have hj : (⟨#[69, 82, 82, 32, 101, 114, 114, 111, 114, 32]⟩ : ByteArray).size + (itoaB 230).size ≤ 9223372036854775807 := Nat.le_trans (ej 230 (by decide) (by decide)) (by decide)
  rw [hb]
  clear hb0 hr0
  go_enter Tryz.func24, Tryz.ntmps24
  go_wp2_with fail
  rw [← hW0]
  clear hW0 hb
  refine (show Calls _ _ _ _ _ from HDG.out).mono ?_
  rintro e w1 ⟨rfl, hb1⟩
  obtain ⟨D, hD⟩ : ∃ D, itoaB 230 = D := ⟨_, rfl⟩
  rw [hD] at hj ⊢
  clear hD
  have HB1 : Hid (Below b w w1) := HB0.out.trans (hb1.mono HW.out)
  have HR1 : Hid _ := keep_row HR0.out hb1
  obtain ⟨z0, z1, z2, z3, zf⟩ := prow4 HR1.out
  clear hb1
  try unfold rpV
  go_wp2
  exact rp_fin _ 2 Tryz.results24 HR1.out _ _ _ _ _ (fun w' ho => ⟨rfl, HB1.out.trans (ho.below (Nat.le_refl _))⟩) _ rfl rfl
theorem pfault_o (n : Int) (h0 : -9223372036854775808 ≤ n) (h1 : n ≤ 9223372036854775807) (q0 : ¬ n = 0) (q1 : ¬ n = 1) (q2 : ¬ n = 2) (q3 : ¬ n = 3) (q4 : ¬ n = 4) (q5 : ¬ n = 5) (q6 : ¬ n = 6) (q40 : ¬ n = 40) (q200 : ¬ n = 200) (q211 : ¬ n = 211) (q230 : ¬ n = 230) (w : World) (hL : Laid w) : Calls Tryz.prog 23 #[.int .i64 n] w fun e w' => e = .returned (rpV 2 (⟨#[69, 82, 82, 32, 101, 114, 114, 111, 114, 32]⟩ ++ itoaB n) 0) ∧ Below w.heap.size w w' := by
  have g0 : (n == 0) = false := by simpa using q0
  have g1 : (n == 1) = false := by simpa using q1
  have g2 : (n == 2) = false := by simpa using q2
  have g3 : (n == 3) = false := by simpa using q3
  have g4 : (n == 4) = false := by simpa using q4
  have g5 : (n == 5) = false := by simpa using q5
  have g6 : (n == 6) = false := by simpa using q6
  have g40 : (n == 40) = false := by simpa using q40
  have g200 : (n == 200) = false := by simpa using q200
  have g211 : (n == 211) = false := by simpa using q211
  have g230 : (n == 230) = false := by simpa using q230
  obtain ⟨W0, hW0⟩ : ∃ W, W = w.alloc (.cells #[.int .i64 0, .string ⟨#[]⟩, .int .i64 0, .slice none 0 0] 24) := ⟨_, rfl⟩
  obtain ⟨b, hb⟩ : ∃ b, w.heap.size = b := ⟨_, rfl⟩
  have hb0 : Below b w W0 := by rw [hW0, ← hb]; exact (Below.refl _ _).alloc (Nat.le_refl _) _
  have hr0 : W0.heap[b]? = some (.cells #[.int .i64 0, .string ⟨#[]⟩, .int .i64 0, .slice none 0 0] 24) := by rw [hW0, ← hb]; exact one_alloc _ _
  have HB0 : Hid (Below b w W0) := hb0
  have HR0 : Hid _ := hr0
  have HW : Hid (b ≤ W0.heap.size) := by have := hb0.size; rw [hb] at this; exact this
  have HDG : Hid _ := digits_any n h0 h1 W0 (hL.on (hb ▸ hb0))
  have hj : (⟨#[69, 82, 82, 32, 101, 114, 114, 111, 114, 32]⟩ : ByteArray).size + (itoaB n).size ≤ 9223372036854775807 := Nat.le_trans (ej n h0 h1) (by decide)
  have HJ : Hid ((⟨#[69, 82, 82, 32, 101, 114, 114, 111, 114, 32]⟩ ++ itoaB n : ByteArray).size ≤ 1099511627776) := by show _ ≤ _; rw [ByteArray.size_append]; exact Nat.le_trans (ej n h0 h1) (by decide)
  rw [hb]
  clear hb0 hr0 q0 q1 q2 q3 q4 q5 q6 q40 q200 q211 q230
  go_enter Tryz.func23, Tryz.ntmps23
  go_wp2_with fail
  rw [← hW0]
  clear hW0 hb
  refine (show Calls _ _ _ _ _ from HDG.out).mono ?_
  rintro e w5 ⟨rfl, hb5⟩
  have HB5 : Hid (Below W0.heap.size W0 w5) := hb5
  clear hb5
  go_wp2_with fail
  refine (Error_any _ HJ.out w5).mono ?_
  rintro e w1 ⟨rfl, hb6⟩
  have hb1 : Below W0.heap.size W0 w1 := HB5.out.trans (hb6.mono HB5.out.size)
  clear hb6
  have HB1 : Hid (Below b w w1) := HB0.out.trans (hb1.mono HW.out)
  have HR1 : Hid _ := keep_row HR0.out hb1
  obtain ⟨z0, z1, z2, z3, zf⟩ := prow4 HR1.out
  clear hb1
  try unfold rpV
  go_wp2
  exact rp_fin _ 2 Tryz.results23 HR1.out _ _ _ _ _ (fun w' ho => ⟨rfl, HB1.out.trans (ho.below (Nat.le_refl _))⟩) _ rfl rfl
theorem rfault_o (n : Int) (h0 : -9223372036854775808 ≤ n) (h1 : n ≤ 9223372036854775807) (q0 : ¬ n = 0) (q1 : ¬ n = 1) (q2 : ¬ n = 2) (q3 : ¬ n = 3) (q4 : ¬ n = 4) (q5 : ¬ n = 5) (q6 : ¬ n = 6) (q40 : ¬ n = 40) (q200 : ¬ n = 200) (q211 : ¬ n = 211) (q230 : ¬ n = 230) (w : World) : Calls Tryz.prog 24 #[.int .i64 n] w fun e w' => e = .returned (rpV 2 (⟨#[69, 82, 82, 32, 101, 114, 114, 111, 114, 32]⟩ ++ itoaB n) 0) ∧ Below w.heap.size w w' := by
  have g0 : (n == 0) = false := by simpa using q0
  have g1 : (n == 1) = false := by simpa using q1
  have g2 : (n == 2) = false := by simpa using q2
  have g3 : (n == 3) = false := by simpa using q3
  have g4 : (n == 4) = false := by simpa using q4
  have g5 : (n == 5) = false := by simpa using q5
  have g6 : (n == 6) = false := by simpa using q6
  have g40 : (n == 40) = false := by simpa using q40
  have g200 : (n == 200) = false := by simpa using q200
  have g211 : (n == 211) = false := by simpa using q211
  have g230 : (n == 230) = false := by simpa using q230
  obtain ⟨W0, hW0⟩ : ∃ W, W = w.alloc (.cells #[.int .i64 0, .string ⟨#[]⟩, .int .i64 0, .slice none 0 0] 24) := ⟨_, rfl⟩
  obtain ⟨b, hb⟩ : ∃ b, w.heap.size = b := ⟨_, rfl⟩
  have hb0 : Below b w W0 := by rw [hW0, ← hb]; exact (Below.refl _ _).alloc (Nat.le_refl _) _
  have hr0 : W0.heap[b]? = some (.cells #[.int .i64 0, .string ⟨#[]⟩, .int .i64 0, .slice none 0 0] 24) := by rw [hW0, ← hb]; exact one_alloc _ _
  have HB0 : Hid (Below b w W0) := hb0
  have HR0 : Hid _ := hr0
  have HW : Hid (b ≤ W0.heap.size) := by have := hb0.size; rw [hb] at this; exact this
  have HDG : Hid _ := refDigits_any n h0 h1 W0
  have hj : (⟨#[69, 82, 82, 32, 101, 114, 114, 111, 114, 32]⟩ : ByteArray).size + (itoaB n).size ≤ 9223372036854775807 := Nat.le_trans (ej n h0 h1) (by decide)
  rw [hb]
  clear hb0 hr0 q0 q1 q2 q3 q4 q5 q6 q40 q200 q211 q230
  go_enter Tryz.func24, Tryz.ntmps24
  go_wp2_with fail
  rw [← hW0]
  clear hW0 hb
  refine (show Calls _ _ _ _ _ from HDG.out).mono ?_
  rintro e w1 ⟨rfl, hb1⟩
  have HB1 : Hid (Below b w w1) := HB0.out.trans (hb1.mono HW.out)
  have HR1 : Hid _ := keep_row HR0.out hb1
  obtain ⟨z0, z1, z2, z3, zf⟩ := prow4 HR1.out
  clear hb1
  try unfold rpV
  go_wp2
  exact rp_fin _ 2 Tryz.results24 HR1.out _ _ _ _ _ (fun w' ho => ⟨rfl, HB1.out.trans (ho.below (Nat.le_refl _))⟩) _ rfl rfl
theorem fault_any (n : Int) (h0 : -9223372036854775808 ≤ n) (h1 : n ≤ 9223372036854775807) : FtC n := by
  by_cases q0 : n = 0
  · subst q0
    exact ⟨_, _, fun w _ => pfault_0 w, rfault_0⟩
  by_cases q1 : n = 1
  · subst q1
    exact ⟨_, _, fun w _ => pfault_1 w, rfault_1⟩
  by_cases q2 : n = 2
  · subst q2
    exact ⟨_, _, fun w _ => pfault_2 w, rfault_2⟩
  by_cases q3 : n = 3
  · subst q3
    exact ⟨_, _, fun w _ => pfault_3 w, rfault_3⟩
  by_cases q4 : n = 4
  · subst q4
    exact ⟨_, _, fun w _ => pfault_4 w, rfault_4⟩
  by_cases q5 : n = 5
  · subst q5
    exact ⟨_, _, fun w _ => pfault_5 w, rfault_5⟩
  by_cases q6 : n = 6
  · subst q6
    exact ⟨_, _, fun w _ => pfault_6 w, rfault_6⟩
  by_cases q40 : n = 40
  · subst q40
    exact ⟨_, _, fun w _ => pfault_40 w, rfault_40⟩
  by_cases q200 : n = 200
  · subst q200
    exact ⟨_, _, fun w _ => pfault_200 w, rfault_200⟩
  by_cases q211 : n = 211
  · subst q211
    exact ⟨_, _, fun w _ => pfault_211 w, rfault_211⟩
  by_cases q230 : n = 230
  · subst q230
    exact ⟨_, _, fun w _ => pfault_230 w, rfault_230⟩
  exact ⟨_, _, fun w hL => pfault_o n h0 h1 q0 q1 q2 q3 q4 q5 q6 q40 q200 q211 q230 w hL, rfault_o n h0 h1 q0 q1 q2 q3 q4 q5 q6 q40 q200 q211 q230⟩
end Go.Proofs.YtbmfbpcjokbjkaaGreatDoor
