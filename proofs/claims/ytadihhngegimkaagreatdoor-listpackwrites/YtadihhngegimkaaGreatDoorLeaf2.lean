import Derived.Test.YtadihhngegimkaaGreatDoorLeaf
import Derived.Test.YtadihhngegimkaaGreatDoorShelf
namespace Go.Proofs.YtadihhngegimkaaGreatDoor
open Go.RowKit
set_option linter.unusedVariables false
theorem nsize_lw (n : Int) (h1 : ¬ (0 ≤ n ∧ n ≤ 127)) (h2 : ¬ (-4096 ≤ n ∧ n ≤ 4095)) : LM.nsize n = 1 + wd (lw n) := by
  unfold LM.nsize lw wd; rw [if_neg h1, if_neg h2]
  split
  · simp
  split
  · simp
  split
  · simp
  · simp
theorem wid_at {w : World} (h : Wid w) (i : Nat) (hi : i < 4) : w.cell? ⟨0, i, none⟩ = some (.int .i64 (wd i : Nat)) := by
  match i, hi with
  | 0, _ => exact h.c0
  | 1, _ => exact h.c1
  | 2, _ => exact h.c2
  | 3, _ => exact h.c3
theorem lw_lt (n : Int) : lw n < 4 := by unfold lw; (repeat' split) <;> omega
theorem wd_le (i : Nat) : wd i ≤ 8 := by unfold wd; (repeat' split) <;> omega
theorem nsz_any (n : Int) (hn : LM.I64 n) (w : World) (hw : Wid w) : Calls Tryz.prog 80 #[.int .i64 n] w fun e w' => e = .returned (.int .i64 (LM.nsize n : Nat)) ∧ w' = w := by
  have HN : Hid (LM.I64 n) := hn
  have HW : Hid (Wid w) := hw
  clear hn hw
  by_cases h1 : 0 ≤ n ∧ n ≤ 127
  · have HR : Hid (LM.nsize n = 1) := by show _ = _; unfold LM.nsize; rw [if_pos h1]
    have a0 := h1.1
    have a1 := h1.2
    clear h1
    go_enter Tryz.func80, Tryz.ntmps80
    go_wp2_with fail
    go_ret
    exact ⟨by rw [HR.out]; rfl, rfl⟩
  · have a0 : decide (0 ≤ n) = false ∨ decide (n ≤ 127) = false := by
      rcases (show ¬ 0 ≤ n ∨ ¬ n ≤ 127 by omega) with h | h
      · exact Or.inl (dec_f h)
      · exact Or.inr (dec_f h)
    by_cases h2 : -4096 ≤ n ∧ n ≤ 4095
    · have HR : Hid (LM.nsize n = 2) := by show _ = _; unfold LM.nsize; rw [if_neg h1, if_pos h2]
      have ht := dec_t h2
      rcases (show n < 0 ∨ (0 ≤ n ∧ 127 < n) by omega) with c | ⟨c, c'⟩
      · clear h1 h2 a0
        go_enter Tryz.func80, Tryz.ntmps80
        go_wp2_with fail
        refine (fits_13 n HN.out _).mono ?_
        rintro e w1 ⟨rfl, rfl⟩
        rw [ht]
        go_wp2_with fail
        go_ret
        exact ⟨by rw [HR.out]; rfl, rfl⟩
      · clear h1 h2 a0
        go_enter Tryz.func80, Tryz.ntmps80
        go_wp2_with fail
        refine (fits_13 n HN.out _).mono ?_
        rintro e w1 ⟨rfl, rfl⟩
        rw [ht]
        go_wp2_with fail
        go_ret
        exact ⟨by rw [HR.out]; rfl, rfl⟩
    · have HR : Hid (LM.nsize n = 1 + wd (lw n)) := nsize_lw n h1 h2
      have ht := dec_f h2
      have hc := wid_at HW.out (lw n) (lw_lt n)
      have hl := lw_lt n
      have hd := wd_le (lw n)
      rcases (show n < 0 ∨ (0 ≤ n ∧ 127 < n) by omega) with c | ⟨c, c'⟩
      · clear h1 h2 a0
        go_enter Tryz.func80, Tryz.ntmps80
        go_wp2_with fail
        refine (fits_13 n HN.out _).mono ?_
        rintro e w1 ⟨rfl, rfl⟩
        rw [ht]
        go_wp2_with fail
        refine (least_any n HN.out _ HW.out).mono ?_
        rintro e w2 ⟨rfl, rfl⟩
        go_wp2
        go_ret
        refine ⟨?_, rfl⟩
        rw [HR.out]
        exact ret_int (by omega)
      · clear h1 h2 a0
        go_enter Tryz.func80, Tryz.ntmps80
        go_wp2_with fail
        refine (fits_13 n HN.out _).mono ?_
        rintro e w1 ⟨rfl, rfl⟩
        rw [ht]
        go_wp2_with fail
        refine (least_any n HN.out _ HW.out).mono ?_
        rintro e w2 ⟨rfl, rfl⟩
        go_wp2
        go_ret
        refine ⟨?_, rfl⟩
        rw [HR.out]
        exact ret_int (by omega)
end Go.Proofs.YtadihhngegimkaaGreatDoor
