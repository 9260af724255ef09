import Derived.Test.YtafphabeihoijaaDoorAt
namespace Go.Proofs.YtafphabeihoijaaDoor
open Go.RowKit
set_option linter.unusedVariables false
def wI : List LM.Item := [LM.txtI [97], LM.numI 1]
theorem wI_a : LM.itemOf [97] = LM.txtI [97] := by
  have : Vi.numberOf [97] = none := by decide +kernel
  unfold LM.itemOf; rw [this]
theorem wI_1 : LM.itemOf [49] = LM.numI 1 := by
  have : Vi.numberOf [49] = some 1 := by decide +kernel
  unfold LM.itemOf; rw [this]
theorem wI_b : LM.build wI = [12, 0, 0, 0, 2, 0, 129, 97, 2, 1, 1, 255] := by decide +kernel
theorem wI_new : newI [] 0 0 [⟨#[97]⟩, ⟨#[49]⟩] = wI := by
  show [LM.itemOf [97], LM.itemOf [49]] = wI
  rw [wI_a, wI_1]; rfl
theorem wI_fit : fitI [] 0 0 [⟨#[97]⟩, ⟨#[49]⟩] := by
  refine ⟨?_, by simp, ?_⟩
  · intro v hv
    rcases List.mem_cons.1 hv with rfl | hv
    · decide
    · rw [List.mem_singleton.1 hv]; decide
  · rw [wI_new]; decide +kernel
theorem wI_pk : LM.Pk [12, 0, 0, 0, 2, 0, 129, 97, 2, 1, 1, 255] wI := by
  refine ⟨?_, by decide, wI_b.symm, by decide⟩
  intro it h
  rcases List.mem_cons.1 h with rfl | h
  · exact Or.inr ⟨rfl, rfl, by decide +kernel, by decide⟩
  · rw [List.mem_singleton.1 h]; exact Or.inl ⟨rfl, rfl, by unfold LM.I64 LM.numI; decide⟩
theorem wI_at : atV wI 1 = .tuple #[.string ⟨#[49]⟩, .int .i64 0] := by
  have : LM.val (LM.numI 1) = [49] := by decide +kernel
  show Value.tuple #[.string (strB (LM.val (LM.numI 1))), .int .i64 0] = _
  rw [this]; rfl
theorem no_empty : ∀ l, ¬ LM.Pk (⟨#[]⟩ : ByteArray).data.toList l := fun l h => by
  have := h.reads.len7
  simp at this
set_option maxHeartbeats 2000000 in
set_option maxRecDepth 100000 in
theorem works_any (w : World) (hw : Lay w) : Calls Tryd.prog 11 #[] w fun e w' => e = .returned (.bool true) ∧ Below w.heap.size w w' := by
  have HW : Hid (Lay w) := hw
  have HNW : Hid (∀ v W, SRow W v [⟨#[97]⟩, ⟨#[49]⟩] → Lay W → Calls Tryd.prog 10 #[v] W fun e w' => e = .returned (.tuple #[.string ⟨#[12, 0, 0, 0, 2, 0, 129, 97, 2, 1, 1, 255]⟩, .int .i64 0]) ∧ Below W.heap.size W w') := fun v W hV hW => by
    have := New_any v [⟨#[97]⟩, ⟨#[49]⟩] (by decide) (by
      intro x hx
      rcases List.mem_cons.1 hx with rfl | hx
      · decide
      · rw [List.mem_singleton.1 hx]; decide) W hV hW
    unfold outS at this
    rw [if_pos wI_fit, wI_new, wI_b] at this
    exact this
  have HLN : Hid (∀ W, Lay W → Calls Tryd.prog 13 #[.string ⟨#[12, 0, 0, 0, 2, 0, 129, 97, 2, 1, 1, 255]⟩] W fun e w' => e = .returned (.tuple #[.int .i64 2, .int .i64 0]) ∧ Below W.heap.size W w') := fun W hW => Len_ok ⟨#[12, 0, 0, 0, 2, 0, 129, 97, 2, 1, 1, 255]⟩ wI wI_pk W hW
  have HAT : Hid (∀ W, Lay W → Calls Tryd.prog 14 #[.string ⟨#[12, 0, 0, 0, 2, 0, 129, 97, 2, 1, 1, 255]⟩, .int .i64 1] W fun e w' => e = .returned (.tuple #[.string ⟨#[49]⟩, .int .i64 0]) ∧ Below W.heap.size W w') := fun W hW => by
    have := At_ok ⟨#[12, 0, 0, 0, 2, 0, 129, 97, 2, 1, 1, 255]⟩ wI wI_pk 1 W hW
    rwa [wI_at] at this
  have HVB : Hid (∀ W, Lay W → Calls Tryd.prog 9 #[.string ⟨#[]⟩] W fun e w' => e = .returned (.int .i64 60) ∧ Below W.heap.size W w') := fun W hW => Valid_bad ⟨#[]⟩ (by decide) no_empty W hW
  obtain ⟨PP, hPP⟩ : ∃ PP : ByteArray, PP = ⟨#[12, 0, 0, 0, 2, 0, 129, 97, 2, 1, 1, 255]⟩ := ⟨_, rfl⟩
  rw [← hPP] at HNW HLN HAT
  have HPP : Hid _ := hPP
  have hcmp : (PP.toList == (⟨#[12, 0, 0, 0, 2, 0, 129, 97, 2, 1, 1, 255]⟩ : ByteArray).toList) = true := by rw [hPP]; exact str_same rfl
  have hcmp2 : (PP.toList == [12, 0, 0, 0, 2, 0, 129, 97, 2, 1, 1, 255]) = true := by rw [hPP, ByteArray.toList_eq]; rfl
  clear hw hPP
  go_enter Tryd.func11, Tryd.ntmps11
  go_wp2_with fail
  have HB0 : Hid (Below w.heap.size w (w.alloc (.cells #[.string ⟨#[97]⟩, .string ⟨#[49]⟩] 9))) := (Below.refl _ w).alloc (Nat.le_refl _) _
  have HSR : Hid (SRow (w.alloc (.cells #[.string ⟨#[97]⟩, .string ⟨#[49]⟩] 9)) (.slice (some ⟨w.heap.size, 0, none⟩) 2 2) [⟨#[97]⟩, ⟨#[49]⟩]) := Or.inr ⟨w.heap.size, 0, 2, rfl, fun j hj => by
    have h2 := prow2 (one_alloc w (.cells #[.string ⟨#[97]⟩, .string ⟨#[49]⟩] 9))
    match j, hj with
    | 0, _ => exact h2.1
    | 1, _ => exact h2.2.1⟩
  refine (show Calls _ _ _ _ _ from HNW.out _ _ HSR.out (HW.out.on HB0.out)).mono ?_
  rintro e w1 ⟨rfl, hb1⟩
  have HB1 : Hid (Below w.heap.size w w1) := bel_to HB0.out hb1 (Nat.le_refl _)
  clear hb1
  go_wp2_with fail
  refine (show Calls _ _ _ _ _ from HLN.out _ (HW.out.on HB1.out)).mono ?_
  rintro e w2 ⟨rfl, hb2⟩
  have HB2 : Hid (Below w.heap.size w w2) := bel_to HB1.out hb2 (Nat.le_refl _)
  clear hb2
  go_wp2_with fail
  refine (show Calls _ _ _ _ _ from HAT.out _ (HW.out.on HB2.out)).mono ?_
  rintro e w3 ⟨rfl, hb3⟩
  have HB3 : Hid (Below w.heap.size w w3) := bel_to HB2.out hb3 (Nat.le_refl _)
  clear hb3
  go_wp2_with fail
  refine (show Calls _ _ _ _ _ from HVB.out _ (HW.out.on HB3.out)).mono ?_
  rintro e w4 ⟨rfl, hb4⟩
  have HB4 : Hid (Below w.heap.size w w4) := bel_to HB3.out hb4 (Nat.le_refl _)
  clear hb4
  go_wp2
  go_ret
  exact ⟨rfl, HB4.out⟩
end Go.Proofs.YtafphabeihoijaaDoor
