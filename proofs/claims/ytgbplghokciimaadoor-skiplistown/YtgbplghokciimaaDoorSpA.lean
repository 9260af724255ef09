import Derived.Test.YtgbplghokciimaaDoorIB
import Derived.Test.YtgbplghokciimaaDoorSkD
import Derived.Deep.RegionHeld3
namespace Go.Proofs.YtgbplghokciimaaDoor.I
open Go.RowKit
set_option linter.unusedVariables false
abbrev bv (a f : Int) (o : Bool) : Value := .agg #[.int .i64 a, .int .i64 f, .bool o]
set_option maxHeartbeats 800000 in
set_option maxRecDepth 100000 in
theorem scoreEnd_any (a f : Int) (o : Bool) (w : World) : Calls Tryd.prog 79 #[bv a f o] w fun e w' => e = .returned (bv a f o) ∧ Below w.heap.size w w' := by
  go_enter Tryd.func79, Tryd.ntmps79
  go_wp2
  go_returns
  refine ⟨rfl, ?_⟩
  repeat (refine Below.alloc ?_ (by simp <;> omega) _)
  exact Below.refl _ _
set_option maxHeartbeats 800000 in
set_option maxRecDepth 100000 in
theorem under_any (a f : Int) (o : Bool) (x : Int) (w : World) : Calls Tryd.prog 81 #[bv a f o, .int .i64 x] w fun e w' => e = .returned (.bool (loS x (a, f, o))) ∧ Below w.heap.size w w' := by
  go_enter Tryd.func81, Tryd.ntmps81
  go_wp2
  all_goals
    go_returns
    refine ⟨?_, ?_⟩
    · first
      | (simp [loS, *]; done)
      | (simp [loS, *]; omega)
      | (rcases Int.lt_trichotomy f 0 with h | h | h <;> rcases Int.lt_trichotomy x a with k | k | k <;> cases o <;> first | (exfalso; omega) | (simp_all [loS]; done) | (simp_all [loS]; omega) | (simp [loS]; omega))
    · repeat (refine Below.alloc ?_ (by simp <;> omega) _)
      exact Below.refl _ _
set_option maxHeartbeats 800000 in
set_option maxRecDepth 100000 in
theorem over_any (a f : Int) (o : Bool) (x : Int) (w : World) : Calls Tryd.prog 83 #[bv a f o, .int .i64 x] w fun e w' => e = .returned (.bool (hiS x (a, f, o))) ∧ Below w.heap.size w w' := by
  go_enter Tryd.func83, Tryd.ntmps83
  go_wp2
  all_goals
    go_returns
    refine ⟨?_, ?_⟩
    · first
      | (simp [hiS, *]; done)
      | (simp [hiS, *]; omega)
      | (rcases Int.lt_trichotomy f 0 with h | h | h <;> rcases Int.lt_trichotomy x a with k | k | k <;> cases o <;> first | (exfalso; omega) | (simp_all [hiS]; done) | (simp_all [hiS]; omega) | (simp [hiS]; omega))
    · repeat (refine Below.alloc ?_ (by simp <;> omega) _)
      exact Below.refl _ _
set_option maxHeartbeats 800000 in
set_option maxRecDepth 100000 in
theorem span1_any (tb B : Nat) (x : Int) (pl : Value) (a f : Int) (o : Bool) (w : World) (x1 : w.cell? ⟨tb, 1, none⟩ = some (.int .i64 x)) (b0 : w.cell? ⟨B, 0, none⟩ = some (.int .i64 a)) (b1 : w.cell? ⟨B, 1, none⟩ = some (.int .i64 f)) (b2 : w.cell? ⟨B, 2, none⟩ = some (.bool o)) : Calls Tryd.prog 80 #[.pointer (some ⟨tb, 0, none⟩), pl, .pointer (some ⟨B, 0, none⟩)] w fun e w' => e = .returned (.bool (!loS x (a, f, o))) ∧ Below w.heap.size w w' := by
  go_enter Tryd.func80, Tryd.ntmps80
  have hS := And.intro x1 (And.intro b0 (And.intro b1 b2))
  have hd : Below w.heap.size w w.drew := (Below.refl _ w).drew
  go_upto_region 1 with fail
  go_region_held3 (fun w' : World => w'.cell? ⟨tb, 1, none⟩ = some (.int .i64 x) ∧ w'.cell? ⟨B, 0, none⟩ = some (.int .i64 a) ∧ w'.cell? ⟨B, 1, none⟩ = some (.int .i64 f) ∧ w'.cell? ⟨B, 2, none⟩ = some (.bool o))
    (first | exact hS | exact hS2)
    (first | (go_at_call 81; refine (under_any a f o x w.drew).mono ?_; rintro e w1 ⟨rfl, hb1⟩; have hb1' := hd.trans hb1; have hS2 := And.intro (cell_on x1 hb1') (And.intro (cell_on b0 hb1') (And.intro (cell_on b1 hb1') (cell_on b2 hb1')))))
  go_wp2
  go_returns
  exact ⟨by first | rfl | simp [*], hb1'⟩
set_option maxHeartbeats 800000 in
set_option maxRecDepth 100000 in
theorem span2_any (tb B : Nat) (x : Int) (pl : Value) (a f : Int) (o : Bool) (w : World) (x1 : w.cell? ⟨tb, 1, none⟩ = some (.int .i64 x)) (b0 : w.cell? ⟨B, 0, none⟩ = some (.int .i64 a)) (b1 : w.cell? ⟨B, 1, none⟩ = some (.int .i64 f)) (b2 : w.cell? ⟨B, 2, none⟩ = some (.bool o)) : Calls Tryd.prog 82 #[.pointer (some ⟨tb, 0, none⟩), pl, .pointer (some ⟨B, 0, none⟩)] w fun e w' => e = .returned (.bool (hiS x (a, f, o))) ∧ Below w.heap.size w w' := by
  go_enter Tryd.func82, Tryd.ntmps82
  have hS := And.intro x1 (And.intro b0 (And.intro b1 b2))
  have hd : Below w.heap.size w w.drew := (Below.refl _ w).drew
  go_upto_region 1 with fail
  go_region_held3 (fun w' : World => w'.cell? ⟨tb, 1, none⟩ = some (.int .i64 x) ∧ w'.cell? ⟨B, 0, none⟩ = some (.int .i64 a) ∧ w'.cell? ⟨B, 1, none⟩ = some (.int .i64 f) ∧ w'.cell? ⟨B, 2, none⟩ = some (.bool o))
    (first | exact hS | exact hS2)
    (first | (go_at_call 83; refine (over_any a f o x w.drew).mono ?_; rintro e w1 ⟨rfl, hb1⟩; have hb1' := hd.trans hb1; have hS2 := And.intro (cell_on x1 hb1') (And.intro (cell_on b0 hb1') (And.intro (cell_on b1 hb1') (cell_on b2 hb1')))))
  go_wp2
  go_returns
  exact ⟨by first | rfl | simp [*], hb1'⟩
end Go.Proofs.YtgbplghokciimaaDoor.I
