import Derived.Test.YtghgdekdbbogkaaIApi3
import Derived.Test.YtghgdekdbbogkaaIAll
namespace Go.Proofs.Ytghgdekdbbogkaa
open Go.RowKit IM
set_option linter.unusedVariables false
theorem isset0 : IsSet (strB (txt 2 [])).data.toList 2 [] := by
  rw [strB_list]
  exact ⟨rfl, Or.inl rfl, by simp, List.Pairwise.nil, by simp⟩
theorem ins5 : ins [] 5 = [5] := by decide
theorem ins51 : ins [5] (-1) = [-1, 5] := by decide
theorem mx5 : max 2 (needs 5) = 2 := by decide
theorem mx1 : max 2 (needs (-1)) = 2 := by decide
theorem isset5 : IsSet (strB (txt 2 [5])).data.toList 2 [5] := by
  rw [strB_list]
  have h := isset0.add 5 (by simp) (by unfold I64; omega) (by simp)
  rw [mx5, ins5] at h
  exact h
theorem isset51 : IsSet (strB (txt 2 [-1, 5])).data.toList 2 [-1, 5] := by
  rw [strB_list]
  have h := isset5.add (-1) (by simp) (by unfold I64; omega) (by simp)
  rw [mx1, ins51] at h
  exact h
set_option maxHeartbeats 400000 in
set_option maxRecDepth 100000 in
theorem same_any (a b : Value) (l : List Int) (hlen : l.length ≤ 1048576) (w : World) (ha : HoldsI w a l) (hb : HoldsI w b l) :
    Calls Try.prog 23 #[a, b] w fun e w' => e = .returned (.bool true) ∧ Below w.heap.size w w' := by
  obtain ⟨qa, ca, rfl, ha⟩ := ha
  obtain ⟨qb, cb, rfl, hb⟩ := hb
  have HA : Hid _ := ha
  have HB : Hid _ := hb
  clear ha hb
  go_enter Try.func23, Try.ntmps23
  go_wp2
  go_loopw [5] (fun ii wr => ∃ k : Nat, k ≤ l.length ∧ ii = .int .i64 k ∧ ∃ m, wr = w.drewN m) (fun ii _ => l.length - (intOf ii).toNat)
  case atStart => exact ⟨0, by omega, rfl, 0, rfl⟩
  case round =>
    obtain ⟨k, hk, rfl, m, rfl⟩ := hrel
    by_cases hlt : k < l.length
    · obtain ⟨g, rfl, hcell⟩ := HA.out (by intro e; rw [e] at hlt; simp at hlt)
      obtain ⟨g2, rfl, hcell2⟩ := HB.out (by intro e; rw [e] at hlt; simp at hlt)
      have hc := hcell k hlt
      have hc2 := hcell2 k hlt
      have hkz : (k : Int) < (l.length : Int) := by omega
      clear hcell hcell2
      generalize l[k] = x at hc hc2
      go_wp2
      go_quiet (fail)
      go_wp2
      go_roundw
      case rel => exact ⟨k + 1, by omega, by go_num, _, rfl⟩
      case measure => simp [intOf]; omega
    · go_wp2
      go_ret
      exact ⟨rfl, below_dn (Below.refl _ _) _⟩
/-- a slice, at any place of its row. -/
def HoldsO (w : World) (v : Value) (l : List Int) : Prop := ∃ q cap, v = .slice q l.length cap ∧ (l ≠ [] → ∃ g off, q = some ⟨g, off, none⟩ ∧ ∀ j, (hj : j < l.length) → w.cell? ⟨g, off + j, none⟩ = some (.int .i64 l[j]))
theorem HoldsI.O {w : World} {v : Value} {l : List Int} (h : HoldsI w v l) : HoldsO w v l := by
  obtain ⟨q, cap, e, h2⟩ := h
  refine ⟨q, cap, e, fun hl => ?_⟩
  obtain ⟨g, eq, hc⟩ := h2 hl
  exact ⟨g, 0, eq, fun j hj => by rw [Nat.zero_add]; exact hc j hj⟩
theorem HoldsO.keep {w w' : World} {v : Value} {l : List Int} (h : HoldsO w v l) (hb : Below w.heap.size w w') : HoldsO w' v l := by
  obtain ⟨q, cap, e, h2⟩ := h
  refine ⟨q, cap, e, fun hl => ?_⟩
  obtain ⟨g, off, eq, hc⟩ := h2 hl
  refine ⟨g, off, eq, fun j hj => ?_⟩
  have h1 := hc j hj
  have hlt := World.block_lt_of_cell? _ _ h1
  rw [World.cell?_of_block (hb.block _ hlt)]
  exact h1
set_option maxHeartbeats 400000 in
set_option maxRecDepth 100000 in
theorem in_any (a : Value) (l : List Int) (n : Int) (hlen : l.length ≤ 9223372036854775807) (w : World) (ha : HoldsO w a l) :
    Calls Try.prog 13 #[a, .int .i64 n] w fun e w' => e = .returned (.bool (decide (n ∈ l))) ∧ Below w.heap.size w w' := by
  obtain ⟨qa, ca, rfl, ha⟩ := ha
  have HA : Hid _ := ha
  clear ha
  have HT : Hid (∀ k, (h : k < l.length) → l[k] = n → decide (n ∈ l) = true) := fun k h e => decide_eq_true (by rw [← e]; exact List.getElem_mem h)
  have HF : Hid ((∀ k, (h : k < l.length) → l[k] ≠ n) → decide (n ∈ l) = false) := fun h => decide_eq_false (fun hm => by
    obtain ⟨k, hk, e⟩ := List.getElem_of_mem hm
    exact h k hk e)
  generalize decide (n ∈ l) = M at *
  go_enter Try.func13, Try.ntmps13
  go_wp2
  go_loopw [5] (fun ii wr => ∃ k : Nat, k ≤ l.length ∧ ii = .int .i64 k ∧ (∀ t, (h : t < l.length) → t < k → l[t] ≠ n) ∧ ∃ m, wr = w.drewN m) (fun ii _ => l.length - (intOf ii).toNat)
  case atStart => exact ⟨0, by omega, rfl, by intro t h h2; omega, 0, rfl⟩
  case round =>
    obtain ⟨k, hk, rfl, hup, m, rfl⟩ := hrel
    have HU : Hid (∀ t, (h : t < l.length) → t < k → l[t] ≠ n) := hup
    clear hup
    by_cases hlt : k < l.length
    · obtain ⟨g, off, rfl, hcell⟩ := HA.out (by intro e; rw [e] at hlt; simp at hlt)
      have hc := hcell k hlt
      have hkz : (k : Int) < (l.length : Int) := by omega
      clear hcell
      generalize hx : l[k] = x at hc
      have HX : Hid (l[k] = x) := hx
      clear hx
      by_cases he : x = n
      · have HMT : Hid (M = true) := HT.out k hlt (by rw [HX.out]; exact he)
        subst he
        go_wp2
        go_ret
        exact ⟨by rw [HMT.out]; rfl, below_dn (Below.refl _ _) _⟩
      · have he2 : (x == n) = false := beq_eq_false_iff_ne.2 he
        have HE : Hid (x ≠ n) := he
        clear he
        go_wp2
        go_roundw
        case rel =>
          refine ⟨k + 1, by omega, by go_num, ?_, _, rfl⟩
          intro t h h2
          rcases Nat.lt_or_ge t k with h3 | h3
          · exact HU.out t h h3
          · have : t = k := by omega
            subst this
            rw [HX.out]; exact HE.out
        case measure => simp [intOf]; omega
    · have HMF : Hid (M = false) := HF.out (fun t h => HU.out t h (by omega))
      go_wp2
      go_ret
      exact ⟨by rw [HMF.out]; rfl, below_dn (Below.refl _ _) _⟩
theorem lit5 : ((strB (txt 2 [5])).toList == [2, 0, 0, 0, 1, 0, 0, 0, 5, 0]) = true := by rw [ByteArray.toList_eq, strB_list]; decide
theorem lit0 : ((strB (txt 2 [])).toList == [2, 0, 0, 0, 0, 0, 0, 0]) = true := by rw [ByteArray.toList_eq, strB_list]; decide
set_option maxHeartbeats 400000 in
set_option maxRecDepth 100000 in
theorem sure_any (w : World) :
    Calls Try.prog 15 #[] w fun e w' => e = .returned (.bool true) ∧ Below w.heap.size w w' := by
  have HA5 : Hid (∀ w, Calls Try.prog 10 #[.string (strB (txt 2 [])), .int .i64 5] w fun e w' => e = .returned (.tuple #[.string (strB (txt 2 [5])), .bool true, .int .i64 0]) ∧ Below w.heap.size w w') := fun w => by
    have := add_new _ 2 [] isset0 5 (by unfold I64; omega) (by simp) (by simp) w
    rw [mx5, ins5] at this; exact this
  have HA1 : Hid (∀ w, Calls Try.prog 10 #[.string (strB (txt 2 [5])), .int .i64 (-1)] w fun e w' => e = .returned (.tuple #[.string (strB (txt 2 [-1, 5])), .bool true, .int .i64 0]) ∧ Below w.heap.size w w') := fun w => by
    have := add_new _ 2 [5] isset5 (-1) (by unfold I64; omega) (by simp) (by simp) w
    rw [mx1, ins51] at this; exact this
  have HAL : Hid (∀ w, Calls Try.prog 11 #[.string (strB (txt 2 [-1, 5]))] w fun e w' => ∃ v, e = .returned (.tuple #[v, .int .i64 0]) ∧ HoldsI w' v [-1, 5] ∧ Below w.heap.size w w') := fun w => all_set _ 2 [-1, 5] isset51 w
  have hlit := lit5
  generalize strB (txt 2 [-1, 5]) = P1 at *
  generalize strB (txt 2 [5]) = P5 at *
  have HNW : Hid (∀ w, Calls Try.prog 9 #[] w fun e w' => e = .returned (.string (strB (txt 2 []))) ∧ Below w.heap.size w w') := fun w => new_any w
  generalize strB (txt 2 []) = P0 at *
  go_enter Try.func15, Try.ntmps15
  go_wp2_with fail
  refine (HNW.out _).mono ?_
  rintro e w1 ⟨rfl, hb1⟩
  go_wp2_with fail
  refine (HA5.out _).mono ?_
  rintro e w2 ⟨rfl, hb2⟩
  go_wp2_with fail
  refine (HA1.out _).mono ?_
  rintro e w3 ⟨rfl, hb3⟩
  go_wp2_with fail
  refine (HAL.out _).mono ?_
  rintro e w4 ⟨v, rfl, hv, hb4⟩
  have h12 := hb1.trans (hb2.mono hb1.size)
  have h13 := h12.trans (hb3.mono h12.size)
  have HB4 : Hid (Below w.heap.size w w4) := h13.trans (hb4.mono h13.size)
  have HV : Hid (HoldsI w4 v [-1, 5]) := hv
  clear hb1 hb2 hb3 hb4 h12 h13 hv
  go_wp2_with fail
  have hbA : Below w4.heap.size w4 (w4.alloc (.cells #[.int .i64 (-1), .int .i64 5] 3)) := (Below.refl _ w4).alloc (Nat.le_refl _) _
  have hrow := heap_last w4 (.cells #[.int .i64 (-1), .int .i64 5] 3)
  have hI2 : HoldsI (w4.alloc (.cells #[.int .i64 (-1), .int .i64 5] 3)) (.slice (some ⟨w4.heap.size, 0, none⟩) 2 2) [-1, 5] := ⟨_, 2, rfl, fun _ => ⟨w4.heap.size, rfl, fun j hj => by
    rw [cell_heap hrow]
    match j, hj with
    | 0, _ => rfl
    | 1, _ => rfl⟩⟩
  refine (same_any v _ [-1, 5] (by simp) _ (HV.out.keep hbA) hI2).mono ?_
  rintro e w5 ⟨rfl, hb5⟩
  have HB5 : Hid (Below w.heap.size w w5) := (HB4.out.trans (hbA.mono HB4.out.size)).trans (hb5.mono (by have := HB4.out.size; have := hbA.size; omega))
  clear hbA hrow hI2 hb5
  go_wp2
  go_ret
  exact ⟨rfl, HB5.out⟩
end Go.Proofs.Ytghgdekdbbogkaa
