import Derived.Test.YtdemodhjlbkbeaaSrch
namespace Go.Proofs.Ytdemodhjlbkbeaa
open Go.RowKit
set_option linter.unusedVariables false
/-- the buckets, all but number 1 empty. -/
def bcells (b : Value) : Array Value := #[.slice none 0 0, b, .slice none 0 0, .slice none 0 0]
theorem row4 {w : World} {g T : Nat} {v0 v1 v2 v3 : Value} (h : w.heap[g]? = some (.cells #[v0, v1, v2, v3] T)) :
    w.cell? ⟨g, 0, none⟩ = some v0 ∧ w.cell? ⟨g, 1, none⟩ = some v1 ∧ w.cell? ⟨g, 2, none⟩ = some v2 ∧ w.cell? ⟨g, 3, none⟩ = some v3 ∧ ∀ j, w.frozen? ⟨g, j, none⟩ = false := by
  refine ⟨?_, ?_, ?_, ?_, fun j => frozen_of_row _ _ _ _ _ h⟩ <;> rw [cell_of_row _ _ _ _ _ _ h] <;> rfl
set_option maxHeartbeats 1000000 in
set_option maxRecDepth 100000 in
theorem bs_nil (s : ByteArray) (w : World) : Calls Try.prog 52 #[.slice none 0 0, .string s, .func (.func 53) #[] #[]] w fun e w' => e = .returned (.tuple #[.int .i64 0, .bool false]) ∧ w' = w := by
  go_enter Try.func52, Try.ntmps52
  go_wp2
  go_loopw [9, 10] (fun ci cj wr => wr = w ∧ ci = .int .i64 0 ∧ cj = .int .i64 0) (fun _ _ _ => 0)
  case atStart => exact ⟨rfl, rfl, rfl⟩
  case round =>
    obtain ⟨rfl, rfl, rfl⟩ := hrel
    go_wp2
    go_returns
    exact ⟨rfl, rfl⟩
set_option maxHeartbeats 1000000 in
set_option maxRecDepth 100000 in
theorem bs_one (v : Int) (E c : Nat) (w : World) (h0 : w.cell? ⟨E, 0, none⟩ = some (.string ⟨#[97]⟩)) (h1 : w.cell? ⟨E, 1, none⟩ = some (.int .i64 v)) : Calls Try.prog 52 #[.slice (some ⟨E, 0, none⟩) 1 c, .string ⟨#[97]⟩, .func (.func 53) #[] #[]] w fun e w' => e = .returned (.tuple #[.int .i64 0, .bool true]) ∧ Below w.heap.size w w' := by
  have HP : Hid _ := place1_a v
  have H0 : Hid _ := h0
  have H1 : Hid _ := h1
  clear h0 h1
  go_enter Try.func52, Try.ntmps52
  go_wp2
  go_loopw [9, 10] (fun ci cj wr => Below w.heap.size w wr ∧ ci = .int .i64 0 ∧ (cj = .int .i64 1 ∨ cj = .int .i64 0)) (fun _ cj _ => (intOf cj).toNat)
  case atStart => exact ⟨Below.refl _ _, rfl, Or.inl rfl⟩
  case round =>
    obtain ⟨hb, rfl, rfl | rfl⟩ := hrel
    · have HB : Hid (Below w.heap.size w wr) := hb
      have e0 := cell_on H0.out hb
      have e1 := cell_on H1.out hb
      clear hb
      go_wp2_with fail
      refine (show Calls _ _ _ _ _ from HP.out _).mono ?_
      rintro e w1 ⟨rfl, hb1⟩
      have HB1 : Hid (Below w.heap.size w w1) := bel_to HB.out hb1 (Nat.le_refl _)
      clear hb1 e0 e1
      go_wp2
      go_roundw
      case rel => exact ⟨HB1.out, rfl, Or.inr rfl⟩
      case measure => simp [intOf]
    · have HB : Hid (Below w.heap.size w wr) := hb
      have e0 := cell_on H0.out hb
      have e1 := cell_on H1.out hb
      clear hb
      go_wp2_with fail
      refine (show Calls _ _ _ _ _ from HP.out _).mono ?_
      rintro e w1 ⟨rfl, hb1⟩
      have HB1 : Hid (Below w.heap.size w w1) := bel_to HB.out hb1 (Nat.le_refl _)
      clear hb1 e0 e1
      go_wp2
      go_returns
      exact ⟨rfl, HB1.out⟩
set_option maxHeartbeats 1000000 in
set_option maxRecDepth 100000 in
theorem place_new (h : Int) (hh : bits .and .i64 h 3 = 1) (g B : Nat) (w : World) (hc : w.cell? ⟨g, 1, none⟩ = some (.slice (some ⟨B, 0, none⟩) 4 4)) (hB : w.heap[B]? = some (.cells (bcells (.slice none 0 0)) 71)) : Calls Try.prog 45 #[.pointer (some ⟨g, 1, none⟩), .int .i64 h, .string ⟨#[97]⟩] w fun e w' => e = .returned (.tuple #[.int .i64 1, .int .i64 0, .bool false]) ∧ w' = w := by
  have HS : Hid _ := size_any g 1 _ 4 4 w hc
  obtain ⟨b0, b1, b2, b3, bf⟩ := row4 hB
  go_enter Try.func45, Try.ntmps45
  go_wp2_with fail
  refine (show Calls _ _ _ _ _ from HS.out).mono ?_
  rintro e w1 ⟨rfl, rfl⟩
  go_wp2_with fail
  refine (show Calls _ _ _ _ _ from HS.out).mono ?_
  rintro e w1 ⟨rfl, rfl⟩
  go_wp2_with fail
  refine (show Calls _ _ _ _ _ from (bs_nil _ _)).mono ?_
  rintro e w1 ⟨rfl, rfl⟩
  go_wp2
  go_returns
  exact ⟨rfl, rfl⟩
set_option maxHeartbeats 1000000 in
set_option maxRecDepth 100000 in
theorem place_one (h : Int) (hh : bits .and .i64 h 3 = 1) (g B E c : Nat) (v : Int) (w : World) (hc : w.cell? ⟨g, 1, none⟩ = some (.slice (some ⟨B, 0, none⟩) 4 4)) (hB : w.heap[B]? = some (.cells (bcells (.slice (some ⟨E, 0, none⟩) 1 c)) 71)) (h0 : w.cell? ⟨E, 0, none⟩ = some (.string ⟨#[97]⟩)) (h1 : w.cell? ⟨E, 1, none⟩ = some (.int .i64 v)) : Calls Try.prog 45 #[.pointer (some ⟨g, 1, none⟩), .int .i64 h, .string ⟨#[97]⟩] w fun e w' => e = .returned (.tuple #[.int .i64 1, .int .i64 0, .bool true]) ∧ Below w.heap.size w w' := by
  have HS : Hid _ := size_any g 1 _ 4 4 w hc
  have HBS : Hid _ := bs_one v E c w h0 h1
  obtain ⟨b0, b1, b2, b3, bf⟩ := row4 hB
  clear h0 h1
  go_enter Try.func45, Try.ntmps45
  go_wp2_with fail
  refine (show Calls _ _ _ _ _ from HS.out).mono ?_
  rintro e w1 ⟨rfl, rfl⟩
  go_wp2_with fail
  refine (show Calls _ _ _ _ _ from HS.out).mono ?_
  rintro e w1 ⟨rfl, rfl⟩
  go_wp2_with fail
  refine (show Calls _ _ _ _ _ from HBS.out).mono ?_
  rintro e w2 ⟨rfl, hb2⟩
  have HB2 : Hid (Below _ _ w2) := hb2
  clear hb2 b0 b1 b2 b3 bf
  go_wp2
  go_returns
  exact ⟨rfl, HB2.out⟩
set_option maxHeartbeats 1000000 in
set_option maxRecDepth 100000 in
theorem tfind_one (h : Int) (hh : bits .and .i64 h 3 = 1) (g B E c : Nat) (v : Int) (w : World) (hc : w.cell? ⟨g, 1, none⟩ = some (.slice (some ⟨B, 0, none⟩) 4 4)) (hB : w.heap[B]? = some (.cells (bcells (.slice (some ⟨E, 0, none⟩) 1 c)) 71)) (h0 : w.cell? ⟨E, 0, none⟩ = some (.string ⟨#[97]⟩)) (h1 : w.cell? ⟨E, 1, none⟩ = some (.int .i64 v)) : Calls Try.prog 41 #[.pointer (some ⟨g, 1, none⟩), .int .i64 h, .string ⟨#[97]⟩] w fun e w' => e = .returned (.pointer (some ⟨E, 0, none⟩)) ∧ Below w.heap.size w w' := by
  have HP : Hid _ := place_one h hh g B E c v w hc hB h0 h1
  have HC : Hid _ := hc
  have HBB : Hid _ := hB
  clear hc hB h0 h1
  go_enter Try.func41, Try.ntmps41
  go_wp2_with fail
  refine (show Calls _ _ _ _ _ from HP.out).mono ?_
  rintro e w1 ⟨rfl, hb1⟩
  have HB1 : Hid (Below w.heap.size w w1) := hb1
  have hc := cell_on HC.out hb1
  obtain ⟨b0, b1, b2, b3, bf⟩ := row4 (keep_row HBB.out hb1)
  clear hb1
  go_wp2
  go_returns
  exact ⟨rfl, HB1.out⟩
set_option maxHeartbeats 1000000 in
set_option maxRecDepth 100000 in
theorem find_one (h : Int) (hh : bits .and .i64 h 3 = 1) (g B E c : Nat) (v : Int) (w : World) (hc : w.cell? ⟨g, 1, none⟩ = some (.slice (some ⟨B, 0, none⟩) 4 4)) (hB : w.heap[B]? = some (.cells (bcells (.slice (some ⟨E, 0, none⟩) 1 c)) 71)) (h0 : w.cell? ⟨E, 0, none⟩ = some (.string ⟨#[97]⟩)) (h1 : w.cell? ⟨E, 1, none⟩ = some (.int .i64 v)) : Calls Try.prog 25 #[.pointer (some ⟨g, 0, none⟩), .int .i64 h, .string ⟨#[97]⟩] w fun e w' => e = .returned (.pointer (some ⟨E, 0, none⟩)) ∧ Below w.heap.size w w' := by
  have HP : Hid _ := tfind_one h hh g B E c v w hc hB h0 h1
  clear hc hB h0 h1
  go_enter Try.func25, Try.ntmps25
  go_wp2_with fail
  refine (show Calls _ _ _ _ _ from HP.out).mono ?_
  rintro e w1 ⟨rfl, hb1⟩
  have HB1 : Hid (Below w.heap.size w w1) := hb1
  clear hb1
  go_wp2
  go_returns
  exact ⟨rfl, HB1.out⟩
set_option maxHeartbeats 1000000 in
set_option maxRecDepth 100000 in
theorem tfind_new (h : Int) (hh : bits .and .i64 h 3 = 1) (g B : Nat) (w : World) (hc : w.cell? ⟨g, 1, none⟩ = some (.slice (some ⟨B, 0, none⟩) 4 4)) (hB : w.heap[B]? = some (.cells (bcells (.slice none 0 0)) 71)) : Calls Try.prog 41 #[.pointer (some ⟨g, 1, none⟩), .int .i64 h, .string ⟨#[97]⟩] w fun e w' => e = .returned (.pointer none) ∧ w' = w := by
  have HP : Hid _ := place_new h hh g B w hc hB
  clear hc hB
  go_enter Try.func41, Try.ntmps41
  go_wp2_with fail
  refine (show Calls _ _ _ _ _ from HP.out).mono ?_
  rintro e w1 ⟨rfl, rfl⟩
  go_wp2
  go_returns
  exact ⟨rfl, rfl⟩
end Go.Proofs.Ytdemodhjlbkbeaa
