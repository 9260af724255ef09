import Derived.Test.YtbmfbpcjokbjkaaGreatDoorMkA
namespace Go.Proofs.YtbmfbpcjokbjkaaGreatDoor
open Go.RowKit Vi
set_option linter.unusedVariables false
set_option linter.unusedSimpArgs false
theorem Status_any (s : ByteArray) (hs : s.size ≤ 1099511627776) (w : World) : Calls Tryz.prog 16 #[.string s] w fun e w' => e = .returned (rpV 1 s 0) ∧ Below w.heap.size w w' := by
  obtain ⟨W0, hW0⟩ : ∃ W, W = w.alloc (.cells #[.int .i64 0, .string ⟨#[]⟩, .int .i64 0, .slice none 0 0] 24) := ⟨_, rfl⟩
  obtain ⟨b, hb⟩ : ∃ b, w.heap.size = b := ⟨_, rfl⟩
  have hb0 : Below b w W0 := by rw [hW0, ← hb]; exact (Below.refl _ _).alloc (Nat.le_refl _) _
  have hr0 : W0.heap[b]? = some (.cells #[.int .i64 0, .string ⟨#[]⟩, .int .i64 0, .slice none 0 0] 24) := by rw [hW0, ← hb]; exact one_alloc _ _
  have HB0 : Hid (Below b w W0) := hb0
  have HR0 : Hid _ := hr0
  have HW : Hid (b ≤ W0.heap.size) := by have := hb0.size; rw [hb] at this; exact this
  have HCL : Hid _ := worded_any 1 s hs W0
  rw [hb]
  clear hb0 hr0
  go_enter Tryz.func16, Tryz.ntmps16
  go_wp2_with fail
  rw [← hW0]
  clear hW0 hb
  refine (show Calls _ _ _ _ _ from HCL.out).mono ?_
  rintro e w1 ⟨rfl, hb1⟩
  have HB1 : Hid (Below b w w1) := HB0.out.trans (hb1.mono HW.out)
  have HR1 : Hid _ := keep_row HR0.out hb1
  obtain ⟨z0, z1, z2, z3, zf⟩ := prow4 HR1.out
  clear hb1
  unfold rpV
  go_wp2
  exact rp_fin _ 2 Tryz.results16 HR1.out _ _ _ _ _ (fun w' ho => ⟨rfl, HB1.out.trans (ho.below (Nat.le_refl _))⟩) _ rfl rfl
theorem Error_any (s : ByteArray) (hs : s.size ≤ 1099511627776) (w : World) : Calls Tryz.prog 17 #[.string s] w fun e w' => e = .returned (rpV 2 s 0) ∧ Below w.heap.size w w' := by
  obtain ⟨W0, hW0⟩ : ∃ W, W = w.alloc (.cells #[.int .i64 0, .string ⟨#[]⟩, .int .i64 0, .slice none 0 0] 24) := ⟨_, rfl⟩
  obtain ⟨b, hb⟩ : ∃ b, w.heap.size = b := ⟨_, rfl⟩
  have hb0 : Below b w W0 := by rw [hW0, ← hb]; exact (Below.refl _ _).alloc (Nat.le_refl _) _
  have hr0 : W0.heap[b]? = some (.cells #[.int .i64 0, .string ⟨#[]⟩, .int .i64 0, .slice none 0 0] 24) := by rw [hW0, ← hb]; exact one_alloc _ _
  have HB0 : Hid (Below b w W0) := hb0
  have HR0 : Hid _ := hr0
  have HW : Hid (b ≤ W0.heap.size) := by have := hb0.size; rw [hb] at this; exact this
  have HCL : Hid _ := worded_any 2 s hs W0
  rw [hb]
  clear hb0 hr0
  go_enter Tryz.func17, Tryz.ntmps17
  go_wp2_with fail
  rw [← hW0]
  clear hW0 hb
  refine (show Calls _ _ _ _ _ from HCL.out).mono ?_
  rintro e w1 ⟨rfl, hb1⟩
  have HB1 : Hid (Below b w w1) := HB0.out.trans (hb1.mono HW.out)
  have HR1 : Hid _ := keep_row HR0.out hb1
  obtain ⟨z0, z1, z2, z3, zf⟩ := prow4 HR1.out
  clear hb1
  unfold rpV
  go_wp2
  exact rp_fin _ 2 Tryz.results17 HR1.out _ _ _ _ _ (fun w' ho => ⟨rfl, HB1.out.trans (ho.below (Nat.le_refl _))⟩) _ rfl rfl
theorem Bulk_any (s : ByteArray) (hs : s.size ≤ 1099511627776) (w : World) : Calls Tryz.prog 19 #[.string s] w fun e w' => e = .returned (rpV 4 s 0) ∧ Below w.heap.size w w' := by
  obtain ⟨W0, hW0⟩ : ∃ W, W = w.alloc (.cells #[.int .i64 0, .string ⟨#[]⟩, .int .i64 0, .slice none 0 0] 24) := ⟨_, rfl⟩
  obtain ⟨b, hb⟩ : ∃ b, w.heap.size = b := ⟨_, rfl⟩
  have hb0 : Below b w W0 := by rw [hW0, ← hb]; exact (Below.refl _ _).alloc (Nat.le_refl _) _
  have hr0 : W0.heap[b]? = some (.cells #[.int .i64 0, .string ⟨#[]⟩, .int .i64 0, .slice none 0 0] 24) := by rw [hW0, ← hb]; exact one_alloc _ _
  have HB0 : Hid (Below b w W0) := hb0
  have HR0 : Hid _ := hr0
  have HW : Hid (b ≤ W0.heap.size) := by have := hb0.size; rw [hb] at this; exact this
  have HCL : Hid _ := worded_any 4 s hs W0
  rw [hb]
  clear hb0 hr0
  go_enter Tryz.func19, Tryz.ntmps19
  go_wp2_with fail
  rw [← hW0]
  clear hW0 hb
  refine (show Calls _ _ _ _ _ from HCL.out).mono ?_
  rintro e w1 ⟨rfl, hb1⟩
  have HB1 : Hid (Below b w w1) := HB0.out.trans (hb1.mono HW.out)
  have HR1 : Hid _ := keep_row HR0.out hb1
  obtain ⟨z0, z1, z2, z3, zf⟩ := prow4 HR1.out
  clear hb1
  unfold rpV
  go_wp2
  exact rp_fin _ 2 Tryz.results19 HR1.out _ _ _ _ _ (fun w' ho => ⟨rfl, HB1.out.trans (ho.below (Nat.le_refl _))⟩) _ rfl rfl
theorem Int_any (n : Int) (w : World) : Calls Tryz.prog 18 #[.int .i64 n] w fun e w' => e = .returned (rpV 3 ⟨#[]⟩ n) ∧ Below w.heap.size w w' := by
  go_enter Tryz.func18, Tryz.ntmps18
  go_wp2
  go_returns
  exact ⟨rfl, (Below.refl _ _).alloc (Nat.le_refl _) _⟩
theorem Null_any (w : World) : Calls Tryz.prog 20 #[] w fun e w' => e = .returned (rpV 0 ⟨#[]⟩ 0) ∧ Below w.heap.size w w' := by
  go_enter Tryz.func20, Tryz.ntmps20
  go_wp2
  go_returns
  exact ⟨rfl, (Below.refl _ _).alloc (Nat.le_refl _) _⟩
end Go.Proofs.YtbmfbpcjokbjkaaGreatDoor
