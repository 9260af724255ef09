import Derived.Test.YtghgdekdbbogkaaIAt2
import Derived.Test.YtghgdekdbbogkaaIAt4
import Derived.Test.YtghgdekdbbogkaaIAt8
import Derived.Deep.LoopGhost
namespace Go.Proofs.Ytghgdekdbbogkaa
open Go.RowKit IM
set_option linter.unusedVariables false
theorem at_any (p : ByteArray) (W C i : Nat) (h3 : W3 W) (hi : 8 + (i + 1) * W ≤ p.size) (hp : p.size ≤ 4294967296) (w : World) :
    Calls Try.prog 34 #[setV p W C, .int .i64 i] w fun e w' => e = .returned (.int .i64 (numAt W p.data.toList i)) ∧ Below w.heap.size w w' := by
  rcases h3 with rfl | rfl | rfl
  · exact at_2 p C i hi hp w
  · exact at_4 p C i hi hp w
  · exact at_8 p C i hi hp w
theorem begin_any (p : ByteArray) (W C i : Nat) (h3 : W3 W) (hi : i ≤ 4294967296) (w : World) :
    Calls Try.prog 47 #[setV p W C, .int .i64 i] w fun e w' => e = .returned (.int .i64 ((8 + i * W : Nat) : Int)) ∧ w' = w.alloc (.cells #[.string p, .int .i64 (W : Int), .int .i64 (C : Int)] 58) := by
  rcases h3 with rfl | rfl | rfl
  · refine (begin_2 p C i hi w).mono ?_
    rintro e w' ⟨rfl, rfl⟩
    exact ⟨ret_int (by omega), rfl⟩
  · refine (begin_4 p C i hi w).mono ?_
    rintro e w' ⟨rfl, rfl⟩
    exact ⟨ret_int (by omega), rfl⟩
  · refine (begin_8 p C i hi w).mono ?_
    rintro e w' ⟨rfl, rfl⟩
    exact ⟨ret_int (by omega), rfl⟩
theorem begin_bel (p : ByteArray) (W C i : Nat) (h3 : W3 W) (hi : i ≤ 4294967296) (w : World) :
    Calls Try.prog 47 #[setV p W C, .int .i64 i] w fun e w' => e = .returned (.int .i64 ((8 + i * W : Nat) : Int)) ∧ Below w.heap.size w w' := by
  refine (begin_any p W C i h3 hi w).mono ?_
  rintro e w' ⟨rfl, rfl⟩
  exact ⟨rfl, (Below.refl _ w).alloc (Nat.le_refl _) _⟩
theorem place_le {W C i n : Nat} (hi : i < C) (hn : n = 8 + C * W) : 8 + (i + 1) * W ≤ n := by
  have : (i + 1) * W ≤ C * W := Nat.mul_le_mul_right _ hi
  omega
/-- whether they rise, as the program asks. -/
def risesB (W C : Nat) (l : List UInt8) : Bool := decide (∀ i, i < C - 1 → numAt W l i < numAt W l (i + 1))
set_option maxHeartbeats 1000000 in
set_option maxRecDepth 100000 in
theorem rises_any (p : ByteArray) (W C : Nat) (h3 : W3 W) (hc : C ≤ 1048576) (hs : p.size = 8 + C * W) (w : World) :
    Calls Try.prog 48 #[setV p W C] w fun e w' => e = .returned (.bool (risesB W C p.data.toList)) ∧ Below w.heap.size w w' := by
  have hp : p.size ≤ 4294967296 := by
    have : C * W ≤ 1048576 * 8 := Nat.mul_le_mul hc (by rcases h3 with rfl | rfl | rfl <;> omega)
    omega
  have HA : Hid (∀ i, i < C → ∀ W', Calls Try.prog 34 #[setV p W C, .int .i64 i] W' fun e w' => e = .returned (.int .i64 (numAt W p.data.toList i)) ∧ Below W'.heap.size W' w') := fun i hi W' => at_any p W C i h3 (place_le hi hs) hp W'
  have HF : Hid (∀ i, numAt W p.data.toList i = numAt W p.data.toList i) := fun i => rfl
  clear hs h3 hp
  generalize hN : numAt W p.data.toList = N at *
  have HR : Hid (risesB W C p.data.toList = decide (∀ i, i < C - 1 → N i < N (i + 1))) := by unfold risesB; rw [hN]; exact rfl
  unfold setV at *
  rcases Nat.eq_zero_or_pos C with rfl | hpos
  · have HT : Hid (risesB W 0 p.data.toList = true) := by rw [HR.out]; exact decide_eq_true (by intro i hi; omega)
    go_enter Try.func48, Try.ntmps48
    go_wp2
    go_ret
    exact ⟨by rw [HT.out]; rfl, (Below.refl _ w).alloc (Nat.le_refl _) _⟩
  · go_enter Try.func48, Try.ntmps48
    go_wp2_with fail
    refine (HA.out 0 hpos _).mono ?_
    rintro e w1 ⟨rfl, hb1⟩
    have k0 : w1.cell? ⟨w.heap.size, 0, none⟩ = some (.string p) := by rw [cell_below hb1 (by simp)]; simp [go_sem]
    have k1 : w1.cell? ⟨w.heap.size, 1, none⟩ = some (.int .i64 (W : Int)) := by rw [cell_below hb1 (by simp)]; simp [go_sem]
    have k2 : w1.cell? ⟨w.heap.size, 2, none⟩ = some (.int .i64 (C : Int)) := by rw [cell_below hb1 (by simp)]; simp [go_sem]
    have hz : w.heap.size + 1 ≤ w1.heap.size := by have := hb1.size; simpa using this
    have HB : Hid (Below w.heap.size w w1) := ((Below.refl _ w).alloc (Nat.le_refl _) _).trans (hb1.mono (by simp))
    clear hb1
    have HK0 : Hid _ := k0
    have HK1 : Hid _ := k1
    have HK2 : Hid _ := k2
    clear k0 k1 k2
    go_wp2
    go_loopw [3, 4, 5] (fun la i n wr => ∃ k : Nat, 1 ≤ k ∧ k ≤ C ∧ i = .int .i64 k ∧ la = .int .i64 (N (k - 1)) ∧ (∀ j, j < k - 1 → N j < N (j + 1)) ∧ Below (w.heap.size + 1) w1 wr) (fun _ i _ _ => C - (intOf i).toNat)
    case atStart => exact ⟨1, by omega, by omega, rfl, rfl, by intro j hj; omega, Below.refl _ _⟩
    case round =>
      obtain ⟨k, hk1, hk2, rfl, rfl, hup, hbel⟩ := hrel
      have HU : Hid (∀ j, j < k - 1 → N j < N (j + 1)) := hup
      have HBW : Hid (Below (w.heap.size + 1) w1 wr) := hbel
      have k0 : wr.cell? ⟨w.heap.size, 0, none⟩ = some (.string p) := by rw [cell_below hbel (by simp)]; exact HK0.out
      have k1 : wr.cell? ⟨w.heap.size, 1, none⟩ = some (.int .i64 (W : Int)) := by rw [cell_below hbel (by simp)]; exact HK1.out
      have k2 : wr.cell? ⟨w.heap.size, 2, none⟩ = some (.int .i64 (C : Int)) := by rw [cell_below hbel (by simp)]; exact HK2.out
      have hz2 : w.heap.size + 1 ≤ wr.heap.size := by have := hbel.size; omega
      clear hup hbel
      by_cases hlt : k < C
      · go_wp2_with fail
        refine (HA.out k hlt _).mono ?_
        rintro e w2 ⟨rfl, hb2⟩
        have HB2 : Hid (Below (w.heap.size + 1) w1 w2) := HBW.out.trans (hb2.mono hz2)
        clear hb2 k0 k1 k2
        by_cases hc : N k ≤ N (k - 1)
        · have HF2 : Hid (risesB W C p.data.toList = false) := by
            rw [HR.out]
            exact decide_eq_false (fun h => by have := h (k - 1) (by omega); rw [show k - 1 + 1 = k by omega] at this; omega)
          go_wp2
          go_ret
          exact ⟨by rw [HF2.out]; rfl, HB.out.trans (HB2.out.mono (by omega))⟩
        · have hc2 : N (k - 1) < N k := by omega
          go_wp2
          go_roundw
          case rel =>
            refine ⟨k + 1, by omega, by omega, by go_num, by rw [show k + 1 - 1 = k by omega], ?_, HB2.out⟩
            intro j hj
            rcases Nat.lt_or_ge j (k - 1) with h | h
            · exact HU.out j h
            · have : j = k - 1 := by omega
              subst this
              rw [show k - 1 + 1 = k by omega]; exact hc2
          case measure => simp [intOf]; omega
      · have hke : k = C := by omega
        have HT : Hid (risesB W C p.data.toList = true) := by
          rw [HR.out]
          exact decide_eq_true (fun i hi => HU.out i (by omega))
        subst hke
        go_wp2
        go_ret
        exact ⟨by rw [HT.out]; rfl, HB.out.trans (HBW.out.mono (by omega))⟩
end Go.Proofs.Ytghgdekdbbogkaa
