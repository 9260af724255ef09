import Derived.Test.YtcnicdcjdieodaaDoorLoops2
namespace Go.Proofs.YtcnicdcjdieodaaDoor
open Go.RowKit Vi
set_option linter.unusedVariables false

theorem shr_byteZ (x : Int) (j : Nat) : x / 2 ^ (8 * j) % 256 = ((byteZ x j).toNat : Int) := by
  rw [byteZ_toNat, show (256 : Int) ^ j = 2 ^ (8 * j) by rw [Int.pow_mul]; rfl]
theorem info5 : (Tryd.prog.info? 5).map (fun i => (i.zero, i.size, i.bytes)) = some (some (.int .u8 0), 1, 1) := by kernel_rfl
theorem own_back {wr : World} {base : Nat} {v : Value} {l : List UInt8} (h : wr.ownsRow base 5 1 v l.length (l.map fun b => Value.int .u8 (b.toNat : Int))) (hl : l ≠ []) :
    ∃ g cap, v = .slice (some ⟨g, 0, none⟩) l.length cap ∧ Sem.run Tryd.prog (convert 66 9 (.slice (some ⟨g, 0, none⟩) l.length cap)) wr = .ok (.string ⟨l.toArray⟩) wr := by
  obtain ⟨_, h1 | ⟨g, cap, cur, hv, _, hg, hn, _, hs, ht⟩⟩ := h
  · exact absurd (List.length_eq_zero_iff.1 h1.2) hl
  · refine ⟨g, cap, hv, ?_⟩
    refine run_convert_bytes_back wr 66 9 5 ⟨g, 0, none⟩ cap l Tryd.underlying66 Tryd.underlying5 Tryd.underlying9 ?_
    intro j hj
    have e : (⟨g, 0, none⟩ : Addr).add j = ⟨g, j, none⟩ := by unfold Addr.add; split <;> simp_all
    rw [e, cell_of_row _ _ _ _ _ _ hg]
    have h2 := congrArg (fun x => x[j]?) ht
    simp only [Nat.mul_one] at h2
    rw [List.getElem?_take_of_lt hj, List.getElem?_map, List.getElem?_eq_getElem hj] at h2
    simpa using h2

set_option maxHeartbeats 1000000 in
set_option maxRecDepth 100000 in
theorem big_any (x : Int) (n : Nat) (h0 : 0 ≤ x) (hx : x ≤ 9223372036854775807) (h1 : 1 ≤ n) (h8 : n ≤ 8) (w : World) :
    Calls Tryd.prog 42 #[.int .i64 x, .int .i64 n] w fun e w' => e = .returned (.string ⟨(beZ x n).toArray⟩) ∧ Below w.heap.size w w' := by
  obtain ⟨i0, hi, hz0, hz1, hz2⟩ := info_parts info5
  go_enter Tryd.func42, Tryd.ntmps42
  go_wp2
  go_loopw [5, 6] (fun v i wr => ∃ m : Nat, m ≤ n ∧ i = .int .i64 ((m : Int) - 1) ∧ wr.ownsRow w.heap.size 5 1 v (n - m) (((beZ x n).take (n - m)).map fun b => Value.int .u8 (b.toNat : Int)) ∧ Below w.heap.size w wr) (fun _ i _ => (intOf i + 1).toNat)
  case atStart => exact ⟨n, by omega, rfl, by rw [Nat.sub_self]; exact World.ownsRow_nil _ _ _ _, Below.refl _ _⟩
  case round =>
    obtain ⟨m, hm, rfl, hown, hbel⟩ := hrel
    cases m with
    | succ j =>
      rw [show ((j + 1 : Nat) : Int) - 1 = (j : Int) by omega]
      have hb := shr_byteZ x j
      have HO : Hid (wr.ownsRow w.heap.size 5 1 u5 (n - (j + 1)) (((beZ x n).take (n - (j + 1))).map fun b => Value.int .u8 (b.toNat : Int))) := hown
      have HT : Hid ((beZ x n).take (n - j) = (beZ x n).take (n - (j + 1)) ++ [byteZ x j]) := be_take x n j (by omega)
      clear hown
      go_wp2_with (at_builtin; go_must (refine wpList_append_own _ rfl _ _ 66 rfl w.heap.size 5 i0 (.int .u8 0) 1 1 Tryd.underlying66 hi hz0 hz1 hz2 rfl (by decide) _ _ _ rfl (World.ownsRow.alloc HO.out _) ⟨wr.heap.size, 0, none⟩ 1 1 [.int .u8 ((byteZ x j).toNat : Int)] rfl rfl ?c1 ?c2 ?c3 ?c4 ?c5 ?_))
      case c1 =>
        intro t u hj
        match t, hj with
        | 0, hj => simp at hj; subst hj; simp [Addr.add]
      case c2 => intro u hu; simp at hu; subst hu; rfl
      case c3 => unfold maxLen; omega
      case c4 => omega
      case c5 => have := hbel.size; simp; omega
      · intro v' w1 hown' hgrow _
        go_wp2
        go_roundw
        case rel =>
          refine ⟨j, by omega, by go_num, ?_, ?_⟩
          · rw [HT.out, List.map_append, List.map_take]
            rw [show n - (j + 1) + 1 = n - j by omega] at hown'
            exact hown'
          · exact (hbel.alloc hbel.size _).grown hgrow (by have := hbel.size; simp; omega) (fun k hk => (World.ownsRow.lt HO.out k hk).1)
        case measure => simp [intOf]
    | zero =>
      have hl8 := beZ_length x n
      rw [Nat.sub_zero, List.take_of_length_le (by omega)] at hown
      have hown' : wr.ownsRow w.heap.size 5 1 u5 (beZ x n).length ((beZ x n).map fun b => Value.int .u8 (b.toNat : Int)) := by rw [hl8]; exact hown
      obtain ⟨g, cap, rfl, hcv⟩ := own_back hown' (by intro h; rw [h] at hl8; simp at hl8; omega)
      rw [hl8] at hcv
      rw [hl8]
      clear hown hown' hl8
      go_wp2
      go_ret
      exact ⟨rfl, hbel⟩
set_option maxHeartbeats 1000000 in
set_option maxRecDepth 100000 in
theorem low_any (x : Int) (n : Nat) (h0 : -9223372036854775808 ≤ x) (hx : x ≤ 9223372036854775807) (h1 : 1 ≤ n) (h8 : n ≤ 8) (w : World) :
    Calls Tryd.prog 43 #[.int .i64 x, .int .i64 n] w fun e w' => e = .returned (.string ⟨(leZ x n).toArray⟩) ∧ Below w.heap.size w w' := by
  obtain ⟨i0, hi, hz0, hz1, hz2⟩ := info_parts info5
  go_enter Tryd.func43, Tryd.ntmps43
  go_wp2
  go_loopw [5, 6] (fun v i wr => ∃ j : Nat, j ≤ n ∧ i = .int .i64 j ∧ wr.ownsRow w.heap.size 5 1 v j (((leZ x n).take j).map fun b => Value.int .u8 (b.toNat : Int)) ∧ Below w.heap.size w wr) (fun _ i _ => n - (intOf i).toNat)
  case atStart => exact ⟨0, by omega, rfl, World.ownsRow_nil _ _ _ _, Below.refl _ _⟩
  case round =>
    obtain ⟨j, hm, rfl, hown, hbel⟩ := hrel
    by_cases hlt : j < n
    · have hb := shr_byteZ x j
      have HO : Hid (wr.ownsRow w.heap.size 5 1 u5 j (((leZ x n).take j).map fun b => Value.int .u8 (b.toNat : Int))) := hown
      have HT : Hid ((leZ x n).take (j + 1) = (leZ x n).take j ++ [byteZ x j]) := le_take x n j (by omega)
      clear hown
      go_wp2_with (at_builtin; go_must (refine wpList_append_own _ rfl _ _ 66 rfl w.heap.size 5 i0 (.int .u8 0) 1 1 Tryd.underlying66 hi hz0 hz1 hz2 rfl (by decide) _ _ _ rfl (World.ownsRow.alloc HO.out _) ⟨wr.heap.size, 0, none⟩ 1 1 [.int .u8 ((byteZ x j).toNat : Int)] rfl rfl ?c1 ?c2 ?c3 ?c4 ?c5 ?_))
      case c1 =>
        intro t u hj
        match t, hj with
        | 0, hj => simp at hj; subst hj; simp [Addr.add]
      case c2 => intro u hu; simp at hu; subst hu; rfl
      case c3 => unfold maxLen; omega
      case c4 => omega
      case c5 => have := hbel.size; simp; omega
      · intro v' w1 hown' hgrow _
        go_wp2
        go_roundw
        case rel =>
          refine ⟨j + 1, by omega, by go_num, ?_, ?_⟩
          · rw [HT.out, List.map_append, List.map_take]
            exact hown'
          · exact (hbel.alloc hbel.size _).grown hgrow (by have := hbel.size; simp; omega) (fun k hk => (World.ownsRow.lt HO.out k hk).1)
        case measure => simp [intOf]; omega
    · have hl8 := leZ_length x n
      rw [List.take_of_length_le (by omega), show j = n by omega] at hown
      have hown' : wr.ownsRow w.heap.size 5 1 u5 (leZ x n).length ((leZ x n).map fun b => Value.int .u8 (b.toNat : Int)) := by rw [hl8]; exact hown
      obtain ⟨g, cap, rfl, hcv⟩ := own_back hown' (by intro h; rw [h] at hl8; simp at hl8; omega)
      rw [hl8] at hcv
      rw [hl8]
      clear hown hown' hl8
      go_wp2
      go_ret
      exact ⟨rfl, hbel⟩
end Go.Proofs.YtcnicdcjdieodaaDoor
