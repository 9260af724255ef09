import Derived.Test.YtencjopnbmbhkaaGreatPhF
import Derived.Test.YtencjopnbmbhkaaGreatShC
namespace Go.Proofs.YtencjopnbmbhkaaGreat
open Go.RowKit Go.Maps
set_option linter.unusedVariables false
set_option linter.unusedSimpArgs false
/-- a plan as a value. -/
def agQ (q : Pq) : Value := .agg #[.int .i64 (q.s : Int), .bool q.c, meetV q]
def cmpQ (a b : Pq) : Int := if a.s ≠ b.s ∨ a.c = b.c then Lib.compareInt a.s b.s else if a.c then -1 else 1
set_option maxHeartbeats 1000000 in
theorem Crash1_any (q : Pq) (w : World) : Calls Tryz.prog 40 #[agQ q] w fun e w' => e = .returned (.bool q.c) ∧ Below w.heap.size w w' := by
  obtain ⟨W0, hW0⟩ : ∃ W0, w.alloc (.cells #[.int .i64 (q.s : Int), .bool q.c, meetV q] 81) = W0 := ⟨_, rfl⟩
  obtain ⟨R, hR⟩ : ∃ R, w.heap.size = R := ⟨_, rfl⟩
  have hb0 : Below R w W0 := by rw [← hW0]; exact (Below.refl _ _).alloc (by omega) _
  have hr0 : W0.heap[R]? = some (.cells #[.int .i64 (q.s : Int), .bool q.c, meetV q] 81) := by rw [← hW0, ← hR]; exact one_alloc _ _
  obtain ⟨r0, r1, r2, rf⟩ := row3 hr0
  have HB : Hid (Below R w W0) := hb0
  have HR : Hid (w.heap.size = R) := hR
  clear hb0 hr0
  unfold agQ
  go_enter Tryz.func40, Tryz.ntmps40
  go_upto_region 1 with fail
  go_wp2
  go_ret
  exact ⟨rfl, by rw [HR.out]; exact HB.out⟩
theorem cmp_lt (a b : Pq) : cmpQ a b < 0 ↔ ltQ a b := by
  unfold cmpQ ltQ Lib.compareInt
  rcases a with ⟨s, c, _⟩
  rcases b with ⟨t, d, _⟩
  by_cases h : s = t
  · subst h
    cases c <;> cases d <;> simp
  · simp [h]
    split
    · simp; omega
    · split <;> simp <;> omega
theorem cmp_eq (a b : Pq) : cmpQ a b = 0 ↔ (a.s = b.s ∧ a.c = b.c) := by
  unfold cmpQ Lib.compareInt
  rcases a with ⟨s, c, _⟩
  rcases b with ⟨t, d, _⟩
  by_cases h : s = t
  · subst h
    cases c <;> cases d <;> simp
  · simp [h]
    split
    · simp
    · split
      · simp
      · omega
set_option maxHeartbeats 2000000 in
theorem comparePlans_any (a b : Pq) (w : World) : Calls Tryz.prog 84 #[agQ a, agQ b] w fun e w' => e = .returned (.int .i64 (cmpQ a b)) ∧ Below w.heap.size w w' := by
  obtain ⟨⟨h1, h2, h3, h4⟩, _⟩ : _ ∧ True := ⟨two_new (w := w) (.cells #[.int .i64 (a.s : Int), .bool a.c, meetV a] 81) (.cells #[.int .i64 (b.s : Int), .bool b.c, meetV b] 81), trivial⟩
  obtain ⟨W0, hW0⟩ : ∃ W0, (w.alloc (.cells #[.int .i64 (a.s : Int), .bool a.c, meetV a] 81)).alloc (.cells #[.int .i64 (b.s : Int), .bool b.c, meetV b] 81) = W0 := ⟨_, rfl⟩
  rw [hW0] at h1 h2 h3 h4
  obtain ⟨R, hR⟩ : ∃ R, w.heap.size = R := ⟨_, rfl⟩
  rw [hR] at h1 h2 h4
  obtain ⟨r0, r1, r2, rf⟩ := row3 h1
  obtain ⟨q0, q1, q2, qf⟩ := row3 h2
  have HB : Hid (Below R w W0) := h4
  have HR : Hid (w.heap.size = R) := hR
  have HC : Hid _ := Tryz.cmp_Compare_int (a.s : Int) (b.s : Int) W0
  have hcc : cmpQ a b = if a.s ≠ b.s ∨ a.c = b.c then Lib.compareInt a.s b.s else if a.c then -1 else 1 := rfl
  have HAL : (w.alloc (.cells #[.int .i64 (a.s : Int), .bool a.c, meetV a] 81)).heap.size = R + 1 := by rw [← hR]; simp
  clear h1 h2 h3 h4
  unfold agQ
  by_cases hs : a.s = b.s
  · rw [← hs] at q0 HC hcc hW0 ⊢
    have hss : (a.s ≠ a.s ∨ a.c = b.c) ↔ a.c = b.c := ⟨fun h => h.elim (fun h => absurd rfl h) id, Or.inr⟩
    simp only [hss] at hcc
    rw [hcc]
    generalize a.s = x at *
    generalize a.c = ac at *
    generalize b.c = bc at *
    clear hcc hss hs
    go_enter Tryz.func84, Tryz.ntmps84
    go_upto_region 1 with fail
    clear hW0 HAL hR
    cases ac <;> cases bc
    · go_wp2_with fail
      refine (show Calls _ _ _ _ _ from HC.out).mono ?_
      rintro e w1 ⟨rfl, rfl⟩
      go_wp2
      go_ret
      exact ⟨rfl, by rw [HR.out]; exact HB.out⟩
    · go_wp2
      go_ret
      exact ⟨rfl, by rw [HR.out]; exact HB.out⟩
    · go_wp2
      go_ret
      exact ⟨rfl, by rw [HR.out]; exact HB.out⟩
    · go_wp2_with fail
      refine (show Calls _ _ _ _ _ from HC.out).mono ?_
      rintro e w1 ⟨rfl, rfl⟩
      go_wp2
      go_ret
      exact ⟨rfl, by rw [HR.out]; exact HB.out⟩
  · rw [hcc, if_pos (Or.inl hs)]
    have hne : ((a.s : Int) == (b.s : Int)) = false := by simp; omega
    have hne' : ¬ (a.s : Int) = (b.s : Int) := by omega
    clear hcc
    generalize a.c = ac at *
    generalize b.c = bc at *
    generalize a.s = x at *
    generalize b.s = y at *
    go_enter Tryz.func84, Tryz.ntmps84
    go_upto_region 1 with fail
    clear hW0 HAL hR
    go_wp2_with fail
    refine (show Calls _ _ _ _ _ from HC.out).mono ?_
    rintro e w1 ⟨rfl, rfl⟩
    go_wp2
    go_ret
    exact ⟨rfl, by rw [HR.out]; exact HB.out⟩
end Go.Proofs.YtencjopnbmbhkaaGreat
