import Derived.Test.YtadihhngegimkaaGreatDoorLPar
import Derived.Test.YtadihhngegimkaaGreatDoorBase
import Derived.RangeFuncOwn
namespace Go.Proofs.YtadihhngegimkaaGreatDoor
open Go.RowKit
set_option linter.unusedVariables false
/-- the panic by which a pack is given up. -/
def pch : List PanicEntry := [{ v := .iface 24 (.int .i64 60), recovered := false }]
theorem must_ok (w : World) : Calls Tryz.prog 37 #[.bool true] w fun e w' => e = .returned (.tuple #[]) ∧ w' = w := by
  go_enter Tryz.func37, Tryz.ntmps37
  go_wp2
  go_end0
  exact ⟨rfl, rfl⟩
theorem must_bad (w : World) : Calls Tryz.prog 37 #[.bool false] w fun e w' => e = .panicked pch ∧ w' = w := by
  go_enter Tryz.func37, Tryz.ntmps37
  go_wp2
  exact ⟨rfl, rfl, rfl⟩
theorem must_any (b : Bool) (w : World) : Calls Tryz.prog 37 #[.bool b] w fun e w' => e = (if b then .returned (.tuple #[]) else .panicked pch) ∧ w' = w := by
  cases b
  · exact must_bad w
  · exact must_ok w
theorem th_any (l : Nat) (h : l ≤ 9223372036854775807) (w : World) : Calls Tryz.prog 81 #[.int .i64 (l : Int)] w fun e w' => e = .returned (.int .i64 (LM.thead l : Nat)) ∧ w' = w := by
  have HT : Hid (LM.thead l = if l ≤ 63 then 1 else if l ≤ 4095 then 2 else 5) := rfl
  go_enter Tryz.func81, Tryz.ntmps81
  go_wp2
  · go_ret; refine ⟨?_, rfl⟩; rw [HT.out, if_pos (by omega)]; rfl
  · go_ret; refine ⟨?_, rfl⟩; rw [HT.out, if_neg (by omega), if_pos (by omega)]; rfl
  · go_ret; refine ⟨?_, rfl⟩; rw [HT.out, if_neg (by omega), if_neg (by omega)]; rfl
/-- the lowest bits of a number, in two's complement. -/
def sgn (c : Int) (n : Int) : Int := wrap64 (n * c) / c
theorem signed_13 (n : Int) (w : World) : Calls Tryz.prog 68 #[.int .i64 n, .int .i64 13] w fun e w' => e = .returned (.int .i64 (sgn 2251799813685248 n)) ∧ w' = w := by
  go_enter Tryz.func68, Tryz.ntmps68
  go_wp2
  go_ret
  exact ⟨rfl, rfl⟩
theorem signed_16 (n : Int) (w : World) : Calls Tryz.prog 68 #[.int .i64 n, .int .i64 16] w fun e w' => e = .returned (.int .i64 (sgn 281474976710656 n)) ∧ w' = w := by
  go_enter Tryz.func68, Tryz.ntmps68
  go_wp2
  go_ret
  exact ⟨rfl, rfl⟩
theorem signed_24 (n : Int) (w : World) : Calls Tryz.prog 68 #[.int .i64 n, .int .i64 24] w fun e w' => e = .returned (.int .i64 (sgn 1099511627776 n)) ∧ w' = w := by
  go_enter Tryz.func68, Tryz.ntmps68
  go_wp2
  go_ret
  exact ⟨rfl, rfl⟩
theorem signed_32 (n : Int) (w : World) : Calls Tryz.prog 68 #[.int .i64 n, .int .i64 32] w fun e w' => e = .returned (.int .i64 (sgn 4294967296 n)) ∧ w' = w := by
  go_enter Tryz.func68, Tryz.ntmps68
  go_wp2
  go_ret
  exact ⟨rfl, rfl⟩
theorem signed_64 (n : Int) (w : World) : Calls Tryz.prog 68 #[.int .i64 n, .int .i64 64] w fun e w' => e = .returned (.int .i64 (wrap64 n)) ∧ w' = w := by
  go_enter Tryz.func68, Tryz.ntmps68
  go_wp2
  go_ret
  exact ⟨rfl, rfl⟩
theorem fit_of {n c lo hi : Int} (h : (sgn c n == n) = decide (lo ≤ n ∧ n ≤ hi)) : Ending.returned (Value.bool (sgn c n == n)) = .returned (.bool (decide (lo ≤ n ∧ n ≤ hi))) := by rw [h]
theorem fits_13 (n : Int) (hn : LM.I64 n) (w : World) : Calls Tryz.prog 91 #[.int .i64 n, .int .i64 13] w fun e w' => e = .returned (.bool (decide (-4096 ≤ n ∧ n ≤ 4095))) ∧ w' = w := by
  have H : Hid ((sgn 2251799813685248 n == n) = decide (-4096 ≤ n ∧ n ≤ 4095)) := by
    show _ = _; rw [Bool.eq_iff_iff, beq_iff_eq, decide_eq_true_iff]; obtain ⟨h0, h1⟩ := hn; unfold sgn wrap64; omega
  go_enter Tryz.func91, Tryz.ntmps91
  go_wp2_with fail
  refine (signed_13 _ _).mono ?_
  rintro e w1 ⟨rfl, rfl⟩
  go_wp2
  go_ret
  exact ⟨fit_of H.out, rfl⟩
theorem fits_16 (n : Int) (hn : LM.I64 n) (w : World) : Calls Tryz.prog 91 #[.int .i64 n, .int .i64 16] w fun e w' => e = .returned (.bool (decide (-32768 ≤ n ∧ n ≤ 32767))) ∧ w' = w := by
  have H : Hid ((sgn 281474976710656 n == n) = decide (-32768 ≤ n ∧ n ≤ 32767)) := by
    show _ = _; rw [Bool.eq_iff_iff, beq_iff_eq, decide_eq_true_iff]; obtain ⟨h0, h1⟩ := hn; unfold sgn wrap64; omega
  go_enter Tryz.func91, Tryz.ntmps91
  go_wp2_with fail
  refine (signed_16 _ _).mono ?_
  rintro e w1 ⟨rfl, rfl⟩
  go_wp2
  go_ret
  exact ⟨fit_of H.out, rfl⟩
theorem fits_24 (n : Int) (hn : LM.I64 n) (w : World) : Calls Tryz.prog 91 #[.int .i64 n, .int .i64 24] w fun e w' => e = .returned (.bool (decide (-8388608 ≤ n ∧ n ≤ 8388607))) ∧ w' = w := by
  have H : Hid ((sgn 1099511627776 n == n) = decide (-8388608 ≤ n ∧ n ≤ 8388607)) := by
    show _ = _; rw [Bool.eq_iff_iff, beq_iff_eq, decide_eq_true_iff]; obtain ⟨h0, h1⟩ := hn; unfold sgn wrap64; omega
  go_enter Tryz.func91, Tryz.ntmps91
  go_wp2_with fail
  refine (signed_24 _ _).mono ?_
  rintro e w1 ⟨rfl, rfl⟩
  go_wp2
  go_ret
  exact ⟨fit_of H.out, rfl⟩
theorem fits_32 (n : Int) (hn : LM.I64 n) (w : World) : Calls Tryz.prog 91 #[.int .i64 n, .int .i64 32] w fun e w' => e = .returned (.bool (decide (-2147483648 ≤ n ∧ n ≤ 2147483647))) ∧ w' = w := by
  have H : Hid ((sgn 4294967296 n == n) = decide (-2147483648 ≤ n ∧ n ≤ 2147483647)) := by
    show _ = _; rw [Bool.eq_iff_iff, beq_iff_eq, decide_eq_true_iff]; obtain ⟨h0, h1⟩ := hn; unfold sgn wrap64; omega
  go_enter Tryz.func91, Tryz.ntmps91
  go_wp2_with fail
  refine (signed_32 _ _).mono ?_
  rintro e w1 ⟨rfl, rfl⟩
  go_wp2
  go_ret
  exact ⟨fit_of H.out, rfl⟩
theorem fits_64 (n : Int) (hn : LM.I64 n) (w : World) : Calls Tryz.prog 91 #[.int .i64 n, .int .i64 64] w fun e w' => e = .returned (.bool true) ∧ w' = w := by
  have H : (wrap64 n == n) = true := by
    rw [beq_iff_eq]; obtain ⟨h0, h1⟩ := hn; unfold wrap64; omega
  go_enter Tryz.func91, Tryz.ntmps91
  go_wp2_with fail
  refine (signed_64 _ _).mono ?_
  rintro e w1 ⟨rfl, rfl⟩
  go_wp2
  go_ret
  exact ⟨rfl, rfl⟩
/-- the widths, as they are laid. -/
structure Wid (w : World) : Prop where
  c0 : w.cell? ⟨0, 0, none⟩ = some (.int .i64 2)
  c1 : w.cell? ⟨0, 1, none⟩ = some (.int .i64 3)
  c2 : w.cell? ⟨0, 2, none⟩ = some (.int .i64 4)
  c3 : w.cell? ⟨0, 3, none⟩ = some (.int .i64 8)
theorem lt_of_cell {w : World} {a : Addr} {v : Value} (h : w.cell? a = some v) : a.block < w.heap.size := by
  obtain ⟨o, ho, _⟩ := cells_of_cell h; exact row_lt ho
theorem cell_on {w w' : World} {a : Addr} {v : Value} (h : w.cell? a = some v) (hb : Below w.heap.size w w') : w'.cell? a = some v :=
  (hb.cell (p := a) (lt_of_cell h)).trans h
theorem Wid.on {w w' : World} (h : Wid w) (hb : Below w.heap.size w w') : Wid w' := ⟨cell_on h.c0 hb, cell_on h.c1 hb, cell_on h.c2 hb, cell_on h.c3 hb⟩
def lw (n : Int) : Nat := if -32768 ≤ n ∧ n ≤ 32767 then 0 else if -8388608 ≤ n ∧ n ≤ 8388607 then 1 else if -2147483648 ≤ n ∧ n ≤ 2147483647 then 2 else 3
def wd (i : Nat) : Nat := if i = 0 then 2 else if i = 1 then 3 else if i = 2 then 4 else 8
theorem dec_t {p : Prop} [Decidable p] (h : p) : decide p = true := by simpa using h
theorem dec_f {p : Prop} [Decidable p] (h : ¬ p) : decide p = false := by simpa using h
theorem fitb (c n lo hi : Int) (h : wrap64 (n * c) / c = n ↔ (lo ≤ n ∧ n ≤ hi)) : (wrap64 (n * c) / c == n) = decide (lo ≤ n ∧ n ≤ hi) := by
  rw [Bool.eq_iff_iff, beq_iff_eq, decide_eq_true_iff]; exact h
set_option maxHeartbeats 1000000 in
theorem least_any (n : Int) (hn : LM.I64 n) (w : World) (hw : Wid w) : Calls Tryz.prog 90 #[.int .i64 n] w fun e w' => e = .returned (.int .i64 (lw n : Nat)) ∧ w' = w := by
  obtain ⟨k0, k1, k2, k3⟩ := hw
  have HL : Hid (lw n = if -32768 ≤ n ∧ n ≤ 32767 then 0 else if -8388608 ≤ n ∧ n ≤ 8388607 then 1 else if -2147483648 ≤ n ∧ n ≤ 2147483647 then 2 else 3) := rfl
  have f1 := fitb 281474976710656 n (-32768) 32767 (by obtain ⟨h0, h1⟩ := hn; unfold wrap64; omega)
  have f2 := fitb 1099511627776 n (-8388608) 8388607 (by obtain ⟨h0, h1⟩ := hn; unfold wrap64; omega)
  have f3 := fitb 4294967296 n (-2147483648) 2147483647 (by obtain ⟨h0, h1⟩ := hn; unfold wrap64; omega)
  have f4 : (wrap64 n == n) = true := by rw [beq_iff_eq]; obtain ⟨h0, h1⟩ := hn; unfold wrap64; omega
  clear hn
  by_cases h1 : -32768 ≤ n ∧ n ≤ 32767
  · rw [dec_t h1] at f1
    have HR : Hid (lw n = 0) := by show _ = _; rw [HL.out, if_pos h1]
    clear f2 f3 f4 h1
    go_enter Tryz.func90, Tryz.ntmps90
    go_wp2
    go_rounds 4
    go_ret
    exact ⟨by rw [HR.out]; rfl, rfl⟩
  rw [dec_f h1] at f1
  by_cases h2 : -8388608 ≤ n ∧ n ≤ 8388607
  · rw [dec_t h2] at f2
    have HR : Hid (lw n = 1) := by show _ = _; rw [HL.out, if_neg h1, if_pos h2]
    clear f3 f4 h1 h2
    go_enter Tryz.func90, Tryz.ntmps90
    go_wp2
    go_rounds 4
    go_ret
    exact ⟨by rw [HR.out]; rfl, rfl⟩
  rw [dec_f h2] at f2
  by_cases h3 : -2147483648 ≤ n ∧ n ≤ 2147483647
  · rw [dec_t h3] at f3
    have HR : Hid (lw n = 2) := by show _ = _; rw [HL.out, if_neg h1, if_neg h2, if_pos h3]
    clear f4 h1 h2 h3
    go_enter Tryz.func90, Tryz.ntmps90
    go_wp2
    go_rounds 4
    go_ret
    exact ⟨by rw [HR.out]; rfl, rfl⟩
  rw [dec_f h3] at f3
  have HR : Hid (lw n = 3) := by show _ = _; rw [HL.out, if_neg h1, if_neg h2, if_neg h3]
  clear h1 h2 h3
  go_enter Tryz.func90, Tryz.ntmps90
  go_wp2
  go_rounds 4
  go_ret
  exact ⟨by rw [HR.out]; rfl, rfl⟩
end Go.Proofs.YtadihhngegimkaaGreatDoor
