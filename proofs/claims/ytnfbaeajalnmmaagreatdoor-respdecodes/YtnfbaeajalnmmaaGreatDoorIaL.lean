import Derived.Test.YtnfbaeajalnmmaaGreatDoorHL
import Derived.Test.YtnfbaeajalnmmaaGreatDoorShelf7
import Derived.Deep.WholeRow
namespace Go.Proofs.YtnfbaeajalnmmaaGreatDoor
open Go.RowKit Vi
set_option linter.unusedVariables false
set_option linter.unusedSimpArgs false
set_option maxHeartbeats 2000000 in
set_option maxRecDepth 20000 in
/-- IndexAny of a line's end in a long text, however long. -/
theorem ia_long (s : ByteArray) (h8 : 8 < s.size) (hs : s.size ≤ 281474976710656) (w : World) :
    Calls Tryz.prog 38 #[.string s, .string ⟨#[13, 10]⟩] w fun e w' => e = .returned (.int .i64 (elI s.data.toList)) ∧ Below w.heap.size w w' := by
  have hzr : ∀ w, (zeroValue 101).run Tryz.prog w = .ok (.agg (Array.replicate 256 (.bool false))) w := (zero_of_info (n := 256) (by kernel_rfl)).1
  have hi116 : (Tryz.prog.info? 101).map (·.size) = some 256 := by kernel_rfl
  have hM := Tryz.strings_makeASCIISet hzr ⟨#[13, 10]⟩ w (by decide) (fun j b hj => by
    match j, hj with
    | 0, hj => injection hj with hj; rw [← hj]; decide
    | 1, hj => injection hj with hj; rw [← hj]; decide
    | j + 2, hj => simp at hj)
  rw [show (⟨#[13, 10]⟩ : ByteArray).data.toList = [13, 10] from rfl] at hM
  obtain ⟨C, hC⟩ : ∃ C, Lib.setCells [13, 10] = C := ⟨_, rfl⟩
  have hsz : C.size = 256 := by rw [← hC]; exact Lib.setCells_size _
  have HAT : Hid (∀ x : UInt8, C[x.toNat]? = some (.bool ([13, 10].contains x))) := fun x => by rw [← hC]; exact Lib.setCells_at _ x
  rw [hC] at hM
  have HSU : Hid (Calls Tryz.prog 58 #[.int .i64 (s.size : Int)] w fun e w' => e = .returned (.bool true) ∧ w' = w) := by
    have h9 := Tryz.strings_shouldUseASCIISet (s.size : Int) w
    rw [decide_eq_true (show (8 : Int) < (s.size : Int) by omega)] at h9
    exact h9
  have HM : Hid _ := hM
  have hsc : (storeCells ⟨w.heap.size + 1, 0, none⟩ C.toList 0).run Tryz.prog ((w.alloc (.cells C 101)).alloc (.cells (Array.replicate 256 (.bool false)) 101)) = .ok () ((w.alloc (.cells C 101)).alloc (.cells C 101)) := by
    have := run_storeCells_new (P := Tryz.prog) (w.alloc (.cells C 101)) 101 (Array.replicate 256 (.bool false)) C (by rw [hsz]; exact hi116) (by rw [hsz, Array.size_replicate]) (by rw [← hC]; exact Lib.setCells_one _)
    simpa using this
  clear hC hM
  go_enter Tryz.func38, Tryz.ntmps38
  go_wp2_with fail
  refine (show Calls _ _ _ _ _ from HSU.out).mono ?_
  rintro e w1 ⟨rfl, hw1⟩
  have hw1 := hw1.symm
  subst hw1
  go_wp2_with fail
  refine (show Calls _ _ _ _ _ from HM.out).mono ?_
  rintro e w1 ⟨rfl, hw1⟩
  rw [hw1]
  clear hw1
  go_wp2_with fail
  obtain ⟨W2, hW2⟩ : ∃ W, W = (w.alloc (.cells C 101)).alloc (.cells C 101) := ⟨_, rfl⟩
  rw [← hW2]
  have HB2 : Hid (Below w.heap.size w W2) := by show Below _ _ _; rw [hW2]; exact ((Below.refl _ _).alloc (Nat.le_refl _) _).alloc (by simp) _
  have HCT : Hid (∀ x : UInt8, W2.cell? ⟨w.heap.size + 1, x.toNat, none⟩ = some (.bool ([13, 10].contains x))) := fun x => by
    have h1 := one_alloc (w.alloc (.cells C 101)) (.cells C 101)
    have h2 : W2.heap[w.heap.size + 1]? = some (.cells C 101) := by rw [hW2]; simpa using h1
    rw [cell_of_row _ _ _ _ _ _ h2]; exact HAT.out x
  clear hW2 hsc HM HSU hzr
  go_loopw [8] (fun ci wr => ∃ i : Nat, (i ≤ s.size ∧ wr = W2 ∧ NoEl s.data.toList i) ∧ ci = .int .i64 (i : Int)) (fun ci _ => s.size - (intOf ci).toNat)
  case atStart => exact ⟨0, ⟨Nat.zero_le _, rfl, fun c hc => by simp at hc⟩, rfl⟩
  case round =>
    obtain ⟨i, ⟨hi, hwr, hno⟩, rfl⟩ := hrel
    have hwr2 := hwr.symm
    clear hwr
    subst hwr2
    have HNO : Hid (NoEl s.data.toList i) := hno
    clear hno
    by_cases hlt : i < s.size
    · have hz0 : (0 : Int) ≤ (i : Int) := by omega
      have hz1 : (i : Int) < (s.size : Int) := by omega
      have hiw : IntKind.i64.wrap ((i : Int) + 1) = (i : Int) + 1 := by rw [IntKind.wrap_i64] <;> omega
      have hil : i < s.data.toList.length := by rw [list_len]; exact hlt
      have hxl : s.data.toList[i] = s[i] := by simp [ByteArray.getElem_eq_getElem_data]
      obtain ⟨x, hx⟩ : ∃ x : UInt8, s[i]'hlt = x := ⟨_, rfl⟩
      rw [hx] at hxl
      have hcx := HCT.out x
      by_cases hit : x = 13 ∨ x = 10
      · have hb : [13, 10].contains x = true := by rcases hit with rfl | rfl <;> rfl
        rw [hb] at hcx
        have HCC : Hid (Calls Tryz.prog 60 #[.pointer (some ⟨w.heap.size + 1, 0, none⟩), .int .u8 x.toNat] W2 fun e w' => e = .returned (.bool true) ∧ w' = W2) := Tryz.asciiSet_contains (w.heap.size + 1) x true W2 hcx
        have HE : Hid (elI s.data.toList = (i : Int)) := noel_hit HNO.out hil (by rw [hxl]; exact hit)
        clear hcx hb hit hxl hil
        go_wp2_with fail
        refine (show Calls _ _ _ _ _ from HCC.out).mono ?_
        rintro e w3 ⟨rfl, hw3⟩
        have hw3 := hw3.symm
        subst hw3
        go_wp2
        go_returns
        exact ⟨by rw [HE.out]; rfl, HB2.out⟩
      · have hb : [13, 10].contains x = false := by
          simp only [not_or] at hit
          simp [hit.1, hit.2]
        rw [hb] at hcx
        have HCC : Hid (Calls Tryz.prog 60 #[.pointer (some ⟨w.heap.size + 1, 0, none⟩), .int .u8 x.toNat] W2 fun e w' => e = .returned (.bool false) ∧ w' = W2) := Tryz.asciiSet_contains (w.heap.size + 1) x false W2 hcx
        have HN2 : Hid (NoEl s.data.toList (i + 1)) := noel_step HNO.out (fun j hj1 hj2 hj => by
          have : j = i := by omega
          subst this
          rw [hxl]
          simp only [not_or] at hit
          exact hit)
        clear hcx hb hit hxl hil
        go_wp2_with fail
        refine (show Calls _ _ _ _ _ from HCC.out).mono ?_
        rintro e w3 ⟨rfl, hw3⟩
        have hw3 := hw3.symm
        subst hw3
        go_wp2
        go_roundw
        case rel => exact ⟨i + 1, ⟨hlt, trivial, HN2.out⟩, rfl⟩
        case measure => simp [intOf]; omega
    · have hz1 : ¬ (i : Int) < (s.size : Int) := by omega
      have HE : Hid (elI s.data.toList = -1) := noel_end HNO.out (by rw [list_len]; omega)
      go_wp2
      go_returns
      exact ⟨by rw [HE.out]; rfl, HB2.out⟩
/-- IndexAny of a line's end in any text. -/
theorem ia_all (s : ByteArray) (hs : s.size ≤ 281474976710656) (w : World) :
    Calls Tryz.prog 38 #[.string s, .string ⟨#[13, 10]⟩] w fun e w' => e = .returned (.int .i64 (elI s.data.toList)) ∧ Below w.heap.size w w' := by
  by_cases h8 : s.size ≤ 8
  · exact ia_short s h8 w
  · exact ia_long s (by omega) hs w
end Go.Proofs.YtnfbaeajalnmmaaGreatDoor
