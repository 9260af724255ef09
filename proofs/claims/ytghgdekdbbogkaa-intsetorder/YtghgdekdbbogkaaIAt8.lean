import Derived.Test.YtghgdekdbbogkaaISet
namespace Go.Proofs.Ytghgdekdbbogkaa
open Go.RowKit IM
set_option linter.unusedVariables false
set_option maxHeartbeats 400000 in
set_option maxRecDepth 100000 in
theorem at_8 (p : ByteArray) (C i : Nat) (hi : 8 + (i + 1) * 8 ≤ p.size) (hp : p.size ≤ 4294967296) (w : World) :
    Calls Try.prog 34 #[.agg #[.string p, .int .i64 8, .int .i64 (C : Int)], .int .i64 i] w fun e w' => e = .returned (.int .i64 (numAt 8 p.data.toList i)) ∧ Below w.heap.size w w' := by
  have hsp := word_split p.data.toList 8 i (by omega) (by rw [list_len]; exact hi)
  have hb1 := leN_lt ((p.data.toList.drop ((i + 1) * 8)).take (8 - 8))
  have hb2 := leN_lt ((p.data.toList.drop (8 + i * 8)).take 8)
  have l1 : ((p.data.toList.drop ((i + 1) * 8)).take (8 - 8)).length = 0 := by rw [List.length_take, List.length_drop, list_len]; omega
  have l2 : ((p.data.toList.drop (8 + i * 8)).take 8).length = 8 := by rw [List.length_take, List.length_drop, list_len]; omega
  rw [l1] at hb1; rw [l2] at hb2
  generalize h1 : leN ((p.data.toList.drop ((i + 1) * 8)).take (8 - 8)) = L at *
  generalize h2 : leN ((p.data.toList.drop (8 + i * 8)).take 8) = U at *
  have e6 : (256 : Nat) ^ 0 = 1 := by decide
  have e62 : (256 : Nat) ^ (8 - 8) = 1 := by decide
  have e2 : (256 : Nat) ^ 8 = 18446744073709551616 := by decide
  rw [e6] at hb1; rw [e2] at hb2; rw [e62] at hsp
  have hnum : numAt 8 p.data.toList i = if 2 * U < 18446744073709551616 then (U : Int) else (U : Int) - 18446744073709551616 := by unfold numAt sg; rw [h2, e2]; rfl
  have HN : Hid _ := hnum
  have hrw := fun W => readWord_any p ((i + 1) * 8) (by omega) W (by omega)
  rw [show (((i + 1) * 8 : Nat) : Int) = ((i : Int) + 1) * 8 by omega] at hrw
  generalize hX : leN ((p.data.toList.drop ((i + 1) * 8)).take 8) = X at hrw hsp
  have HX : Hid _ := hX
  have HR : Hid _ := hrw
  clear hX h1 h2 hnum l1 l2 e6 e62 e2 hrw
  have hbg := fun W => begin_8 p C (i + 1) (by omega) W
  rw [show ((i + 1 : Nat) : Int) = (i : Int) + 1 by omega] at hbg
  have HBG : Hid _ := hbg
  clear hbg
  have hq : Ending.returned (.int .i64 (wrap64 (X : Int))) = Ending.returned (.int .i64 (numAt 8 p.data.toList i)) := by
    rw [HN.out]
    refine ret_int ?_
    unfold wrap64
    split <;> omega
  have HQ : Hid _ := hq
  clear hq
  have hi2 : i ≤ 4294967296 := by omega
  have hw1 : IntKind.i64.wrap ((i : Int) + 1) = (i : Int) + 1 := by rw [IntKind.wrap_i64]; omega
  have hw2 : IntKind.i64.wrap (8 + ((i : Int) + 1) * 8 - 8) = ((i : Int) + 1) * 8 := by rw [IntKind.wrap_i64]; omega
  have HW1 : Hid _ := hw1
  have HW2 : Hid _ := hw2
  clear hsp hb1 hb2 hi hp hw1 hw2
  go_enter Try.func34, Try.ntmps34
  go_wp2
  go_region_with (first
    | (go_at_call 47; rw [HW1.out]; refine (HBG.out _).mono ?_; rintro e w' ⟨rfl, rfl⟩)
    | (go_at_call 46; rw [HW2.out]; refine (HR.out _).mono ?_; rintro e w' ⟨rfl, hb⟩))
  all_goals have kc : w'.cell? ⟨w.heap.size, 1, none⟩ = some (.int .i64 8) := by rw [cell_below hb (by simp; omega)]; simp [go_sem]
  all_goals have HBB : Hid (Below w.heap.size w w') := ((((Below.refl _ w).alloc (Nat.le_refl _) _).alloc (by simp) _).drew).trans (hb.mono (by simp; omega))
  all_goals clear hb
  all_goals go_wp2
  all_goals go_ret
  all_goals exact ⟨HQ.out, HBB.out⟩
end Go.Proofs.Ytghgdekdbbogkaa
