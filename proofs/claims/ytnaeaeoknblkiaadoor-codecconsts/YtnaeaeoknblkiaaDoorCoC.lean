import Derived.Test.YtnaeaeoknblkiaaDoorCoB
namespace Go.Proofs.YtnaeaeoknblkiaaDoor
open Go.RowKit
set_option linter.unusedVariables false
set_option linter.unusedSimpArgs false
def tyA : Array Value := (typL.map (Value.int .i64)).toArray
def kyA : Array Value := (kinL.map (Value.int .i64)).toArray
def TysP (w : World) (e : Ending) (w' : World) : Prop := ∃ a b c, e = .returned (.tuple #[.slice (some ⟨a, 0, none⟩) 9 9, .slice (some ⟨b, 0, none⟩) 9 9, .slice (some ⟨c, 0, none⟩) 9 9]) ∧ w'.heap[a]? = some (.cells tyA 3) ∧ w'.heap[b]? = some (.cells kyA 3) ∧ Below w.heap.size w w'
theorem tyA_at (j : Nat) (hj : j < 9) : tyA[j]? = some (.int .i64 (typAt j)) ∧ kyA[j]? = some (.int .i64 (kinAt j)) := by
  match j, hj with
  | 0, _ => exact ⟨rfl, rfl⟩
  | 1, _ => exact ⟨rfl, rfl⟩
  | 2, _ => exact ⟨rfl, rfl⟩
  | 3, _ => exact ⟨rfl, rfl⟩
  | 4, _ => exact ⟨rfl, rfl⟩
  | 5, _ => exact ⟨rfl, rfl⟩
  | 6, _ => exact ⟨rfl, rfl⟩
  | 7, _ => exact ⟨rfl, rfl⟩
  | 8, _ => exact ⟨rfl, rfl⟩
theorem three_al {w : World} (a b c : Obj) : Below w.heap.size w (((w.alloc a).alloc b).alloc c) ∧ (((w.alloc a).alloc b).alloc c).heap[w.heap.size]? = some a ∧ (((w.alloc a).alloc b).alloc c).heap[w.heap.size + 1]? = some b := by
  have b1 : Below w.heap.size w (w.alloc a) := (Below.refl _ _).alloc (Nat.le_refl _) _
  have b2 : Below (w.alloc a).heap.size (w.alloc a) ((w.alloc a).alloc b) := (Below.refl _ _).alloc (Nat.le_refl _) _
  have b3 : Below ((w.alloc a).alloc b).heap.size ((w.alloc a).alloc b) (((w.alloc a).alloc b).alloc c) := (Below.refl _ _).alloc (Nat.le_refl _) _
  refine ⟨(b1.trans (b2.mono b1.size)).trans (b3.mono (Nat.le_trans b1.size b2.size)), keep_row (keep_row (one_alloc w a) b2) b3, ?_⟩
  have := keep_row (one_alloc (w.alloc a) b) b3
  simpa [World.size_alloc] using this
set_option maxHeartbeats 2000000 in
set_option maxRecDepth 20000 in
theorem types_any (w : World) : Calls Tryd.prog 8 #[] w fun e w' => TysP w e w' := by
  go_enter Tryd.func8, Tryd.ntmps8
  go_wp2
  go_returns
  exact ⟨_, _, _, rfl, (three_al _ _ _).2.1, (three_al _ _ _).2.2, (three_al _ _ _).1⟩
set_option maxHeartbeats 2000000 in
set_option maxRecDepth 20000 in
theorem refKind_any (t : Int) (w : World) : Calls Tryd.prog 5 #[.int .i64 t] w fun e w' => e = .returned (.int .i64 (kindF t)) ∧ Below w.heap.size w w' := by
  have HT : Hid _ := types_any w
  go_enter Tryd.func5, Tryd.ntmps5
  go_wp2_with fail
  refine (show Calls _ _ _ _ _ from HT.out).mono ?_
  rintro e w1 ⟨a, b, c, rfl, hra, hrb, hb⟩
  have HRA : Hid (w1.heap[a]? = some (.cells tyA 3)) := hra
  have HRB : Hid (w1.heap[b]? = some (.cells kyA 3)) := hrb
  have HB : Hid (Below w.heap.size w w1) := hb
  clear hra hrb hb HT
  go_wp2
  go_loopw [6] (fun ci wr => ∃ j : Nat, j ≤ 9 ∧ ci = .int .i64 (j : Int) ∧ (∀ k, k < j → typAt k ≠ t) ∧ wr = w1) (fun ci _ => 9 - (intOf ci).toNat)
  case atStart => exact ⟨0, Nat.zero_le _, rfl, fun k hk => absurd hk (Nat.not_lt_zero _), rfl⟩
  case round =>
    obtain ⟨j, hj, rfl, hno, hwe⟩ := hrel
    subst hwe
    have HNO : Hid (∀ k, k < j → typAt k ≠ t) := hno
    clear hno
    by_cases hlt : j < 9
    · obtain ⟨h1, h2⟩ := tyA_at j hlt
      have x0 : wr.cell? ⟨a, j, none⟩ = some (.int .i64 (typAt j)) := by rw [cellC HRA.out]; exact h1
      have x1 : wr.cell? ⟨b, j, none⟩ = some (.int .i64 (kinAt j)) := by rw [cellC HRB.out]; exact h2
      have hz0 : (0 : Int) ≤ (j : Int) := by omega
      have hz1 : (j : Int) < 9 := by omega
      have hjw : IntKind.i64.wrap ((j : Int) + 1) = (j : Int) + 1 := by rw [IntKind.wrap_i64] <;> omega
      have HLT : Hid (j < 9) := hlt
      obtain ⟨ty, hty⟩ : ∃ ty, typAt j = ty := ⟨_, rfl⟩
      rw [hty] at x0
      have HTY : Hid (typAt j = ty) := hty
      clear hty h1 h2 hlt hj
      by_cases he : ty = t
      · subst he
        have HK : Hid (kindF ty = kinAt j) := kind_at j HLT.out ty HNO.out HTY.out
        go_wp2
        go_returns
        exact ⟨by rw [HK.out]; rfl, HB.out⟩
      · have n0 : (ty == t) = false := by simpa using he
        have HNN : Hid (∀ k, k < j + 1 → typAt k ≠ t) := fun k hk => by
          by_cases hkj : k = j
          · rw [hkj, HTY.out]; exact he
          · exact HNO.out k (by omega)
        clear he
        go_wp2
        go_roundw
        case rel => exact ⟨j + 1, HLT.out, rfl, HNN.out, by first | rfl | trivial⟩
        case measure => have := HLT.out; simp [intOf]; omega
    · have hq : j = 9 := by omega
      subst hq
      have HK : Hid (kindF t = 0) := kind_none t HNO.out
      clear hlt hj
      go_wp2
      go_returns
      exact ⟨by rw [HK.out]; rfl, HB.out⟩
set_option maxHeartbeats 1000000 in
theorem num_any (n : Int) (w : World) : Calls Tryd.prog 6 #[.int .i64 n] w fun e w' => e = .returned (.int .i64 n) ∧ w' = w := by
  go_enter Tryd.func6, Tryd.ntmps6
  go_wp2
  go_returns
  exact ⟨rfl, rfl⟩
set_option maxHeartbeats 4000000 in
set_option maxRecDepth 20000 in
theorem CodecConsts_walk (w : World) (hl : Lay w) : Calls Tryd.prog 3 #[] w fun e w' => e = .returned (.bool true) ∧ Below w.heap.size w w' := by
  have HL : Hid (Lay w) := hl
  clear hl
  have HN : Hid (∀ n w, Calls Tryd.prog 6 #[.int .i64 n] w fun e w' => e = .returned (.int .i64 n) ∧ w' = w) := num_any
  go_enter Tryd.func3, Tryd.ntmps3
  go_wp2
  go_loopw [1] (fun ci wr => ∃ t : Int, -2 ≤ t ∧ t ≤ 300 ∧ ci = .int .i64 t ∧ Below w.heap.size w wr) (fun ci _ => (300 - intOf ci).toNat)
  case atStart => exact ⟨-2, by omega, by omega, rfl, Below.refl _ _⟩
  case round =>
    obtain ⟨t, ht1, ht2, rfl, hb⟩ := hrel
    have HB : Hid (Below w.heap.size w wr) := hb
    by_cases hlt : t < 300
    · have HK : Hid _ := Kind_any t wr (HL.out.on hb)
      have htw : IntKind.i64.wrap (t + 1) = t + 1 := by rw [IntKind.wrap_i64] <;> omega
      have HT : Hid (-2 ≤ t + 1 ∧ t + 1 ≤ 300 ∧ t < 300) := by show _ ∧ _ ∧ _; omega
      clear hb
      go_wp2_with fail
      refine (show Calls _ _ _ _ _ from HK.out).mono ?_
      rintro e w1 ⟨rfl, hb1⟩
      have HB1 : Hid (Below w.heap.size w w1) := bel_to HB.out hb1 (Nat.le_refl _)
      have HR : Hid _ := refKind_any t w1
      clear HK hb1
      generalize kindF t = kf at *
      go_wp2_with fail
      refine (show Calls _ _ _ _ _ from HR.out).mono ?_
      rintro e w2 ⟨rfl, hb2⟩
      have HB2 : Hid (Below w.heap.size w w2) := bel_to HB1.out hb2 (Nat.le_refl _)
      clear HR hb2
      go_wp2
      go_roundw
      case rel => exact ⟨t + 1, HT.out.1, HT.out.2.1, rfl, HB2.out⟩
      case measure => have := HT.out; simp [intOf]; omega
    · have hq : t = 300 := by omega
      subst hq
      clear hb hlt ht1 ht2
      go_wp2_with fail
      refine (show Calls _ _ _ _ _ from HN.out _ _).mono ?_
      rintro e w1 ⟨rfl, rfl⟩
      go_wp2_with fail
      refine (show Calls _ _ _ _ _ from HN.out _ _).mono ?_
      rintro e w1 ⟨rfl, rfl⟩
      go_wp2_with fail
      refine (show Calls _ _ _ _ _ from HN.out _ _).mono ?_
      rintro e w1 ⟨rfl, rfl⟩
      go_wp2_with fail
      refine (show Calls _ _ _ _ _ from HN.out _ _).mono ?_
      rintro e w1 ⟨rfl, rfl⟩
      go_wp2_with fail
      refine (show Calls _ _ _ _ _ from HN.out _ _).mono ?_
      rintro e w1 ⟨rfl, rfl⟩
      go_wp2_with fail
      refine (show Calls _ _ _ _ _ from HN.out _ _).mono ?_
      rintro e w1 ⟨rfl, rfl⟩
      go_wp2
      go_returns
      exact ⟨rfl, HB.out⟩
end Go.Proofs.YtnaeaeoknblkiaaDoor
