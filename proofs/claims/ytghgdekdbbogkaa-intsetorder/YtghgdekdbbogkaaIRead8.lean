import Derived.Test.YtghgdekdbbogkaaIRead
namespace Go.Proofs.Ytghgdekdbbogkaa
open Go.RowKit IM
set_option linter.unusedVariables false
set_option maxHeartbeats 1000000 in
set_option maxRecDepth 100000 in
theorem readL_8 (p : ByteArray) (h : 8 ≤ p.size) (h3 : wid p.data.toList = 8) (hm : cnt p.data.toList ≤ 1048576) (hl : p.size = 8 + cnt p.data.toList * 8) (w : World) :
    Calls Try.prog 21 #[.string p] w fun e w' => Below w.heap.size w w' ∧ ((¬ (∀ i, i + 1 < cnt p.data.toList → numAt 8 p.data.toList i < numAt 8 p.data.toList (i + 1)) ∧ e = .returned (.tuple #[.int .i64 0, .slice none 0 0, .bool false])) ∨ ((∀ i, i + 1 < cnt p.data.toList → numAt 8 p.data.toList i < numAt 8 p.data.toList (i + 1)) ∧ ∃ v, e = .returned (.tuple #[.int .i64 8, v, .bool true]) ∧ w'.ownsRow w.heap.size 3 1 v (cnt p.data.toList) (icells (nums 8 (cnt p.data.toList) p.data.toList)))) := by
  have l1 : (p.data.toList.take 4).length = 4 := by rw [List.length_take, list_len]; omega
  have l2 : ((p.data.toList.drop 4).take 4).length = 4 := by rw [List.length_take, List.length_drop, list_len]; omega
  have e4 : (256 : Nat) ^ 4 = 4294967296 := by decide
  have hw : wid p.data.toList < 4294967296 := by unfold wid; have := leN_lt (p.data.toList.take 4); rw [l1, e4] at this; exact this
  have hc : cnt p.data.toList < 4294967296 := by unfold cnt; have := leN_lt ((p.data.toList.drop 4).take 4); rw [l2, e4] at this; exact this
  have hn1 := num_ext p 0 4 (by omega) (Or.inr (Or.inl rfl))
  have hn2 := num_ext p 4 8 (by omega) (Or.inr (Or.inl rfl))
  rw [show 4 - 0 = 4 from rfl, List.drop_zero, show leN (p.data.toList.take 4) = wid p.data.toList from rfl] at hn1
  rw [show 8 - 4 = 4 from rfl, show leN ((p.data.toList.drop 4).take 4) = cnt p.data.toList from rfl] at hn2
  have HNU : Hid (∀ k, nums 8 (k + 1) p.data.toList = nums 8 k p.data.toList ++ [numAt 8 p.data.toList k]) := fun k => by simp [nums, List.range_succ]
  have HNL : Hid (∀ k, (nums 8 k p.data.toList).length = k) := fun k => nums_len 8 k p.data.toList
  have HNA : Hid (∀ k i, (hi : i < k) → (nums 8 k p.data.toList)[i]? = some (numAt 8 p.data.toList i)) := fun k i hi => by
    rw [List.getElem?_eq_getElem (by rw [nums_len]; exact hi), nums_at]
  have HNM : Hid (∀ k, k < cnt p.data.toList → ∀ w, Calls Try.prog 39 #[.string (p.extract (8 + k * 8) (8 + k * 8 + 8))] w fun e w' => e = .returned (.int .i64 (numAt 8 p.data.toList k)) ∧ ∃ n, w' = w.drewN n) := fun k hk w => by
    have := num_ext p (8 + k * 8) (8 + k * 8 + 8) (by omega) (by unfold W3; omega) w
    rw [show 8 + k * 8 + 8 - (8 + k * 8) = 8 by omega] at this
    exact this
  rw [h3] at hn1 hw
  generalize numAt 8 p.data.toList = N at *
  generalize hNU : (fun k => nums 8 k p.data.toList) = NS at *
  have hNU2 : ∀ k, nums 8 k p.data.toList = NS k := fun k => by rw [← hNU]
  simp only [hNU2] at HNU HNL HNA ⊢
  generalize cnt p.data.toList = C at *
  have b1 := u32_back 8 hw
  have b2 := u32_back C hc
  generalize sg 4 8 = SW at *
  generalize sg 4 C = SC at *
  have H1 : Hid (∀ w, Calls Try.prog 39 #[.string (p.extract 0 4)] w fun e w' => e = .returned (.int .i64 SW) ∧ ∃ n, w' = w.drewN n) := hn1
  have H2 : Hid (∀ w, Calls Try.prog 39 #[.string (p.extract 4 8)] w fun e w' => e = .returned (.int .i64 SC) ∧ ∃ n, w' = w.drewN n) := hn2
  obtain ⟨i0, hi, hz0, hz1, hz2⟩ := info_parts info3
  clear hn1 hn2 l1 l2 e4 hNU hNU2 h3
  rw [show ((8 : Nat) : Int) = 8 from rfl] at b1
  have hlz : ((p.size : Int) != 8 + (C : Int) * 8) = false := bne_eq_false_iff_eq.2 (by omega)
  go_enter Try.func21, Try.ntmps21
  go_wp2_with fail
  refine (H1.out _).mono ?_
  rintro e w1 ⟨rfl, n1, rfl⟩
  go_wp2_with fail
  refine (H2.out _).mono ?_
  rintro e w2 ⟨rfl, n2, rfl⟩
  go_wp2
  go_loopw [7, 8, 9] (fun v ii nn wr => ∃ k : Nat, k ≤ C ∧ ii = .int .i64 k ∧ (∀ i, i + 1 < k → N i < N (i + 1)) ∧ wr.ownsRow w.heap.size 3 1 v k (icells (NS k)) ∧ Below w.heap.size w wr) (fun _ ii _ _ => C - (intOf ii).toNat)
  case atStart => exact ⟨0, by omega, rfl, by intro i hi; omega, (by have e : icells (NS 0) = [] := List.length_eq_zero_iff.1 (by rw [icells_len, HNL.out]); rw [e]; exact World.ownsRow_nil _ _ _ _), below_dn (Below.refl _ _) _⟩
  case round =>
    obtain ⟨k, hk, rfl, hup, hown, hbel⟩ := hrel
    have HU : Hid (∀ i, i + 1 < k → N i < N (i + 1)) := hup
    have HO : Hid (wr.ownsRow w.heap.size 3 1 u7 k (icells (NS k))) := hown
    have HB : Hid (Below w.heap.size w wr) := hbel
    clear hup hown hbel
    by_cases hlt : k < C
    · go_wp2_with fail
      refine (HNM.out k hlt _).mono ?_
      rintro e w3 ⟨rfl, n3, rfl⟩
      have hbz : w.heap.size ≤ wr.heap.size := HB.out.size
      have HO3 : Hid ((wr.drewN n3).ownsRow w.heap.size 3 1 u7 k (icells (NS k))) := HO.out
      rcases Nat.eq_zero_or_pos k with hk0 | hk0
      · subst hk0
        go_wp2_with (at_builtin; go_must (refine wpList_append_own _ rfl _ _ 24 rfl w.heap.size 3 i0 (.int .i64 0) 1 8 Try.underlying24 hi hz0 hz1 hz2 rfl (by decide) _ _ _ rfl (World.ownsRow.alloc HO3.out _) ⟨wr.heap.size, 0, none⟩ 1 1 [.int .i64 (N 0)] rfl rfl ?ac1 ?ac2 ?ac3 ?ac4 ?ac5 ?_))
        case ac1 =>
          intro t u hj
          match t, hj with
          | 0, hj => simp at hj; subst hj; exact cell_newN _ _ _ _
        case ac2 => intro u hu; simp at hu; subst hu; rfl
        case ac3 => unfold maxLen; omega
        case ac4 => omega
        case ac5 => simp; omega
        · intro v' w4 hown' hgrow _
          have HW2 : Hid (w4.ownsRow w.heap.size 3 1 v' (0 + 1) (icells (NS (0 + 1)))) := by rw [HNU.out, icells_snoc]; exact hown'
          have HB4 : Hid (Below w.heap.size w w4) := ((below_dn HB.out n3).alloc hbz _).grown hgrow (by simp; omega) (fun b hb => (World.ownsRow.lt HO.out b hb).1)
          clear hown' hgrow
          go_wp2
          go_roundw
          case rel =>
            refine ⟨0 + 1, by omega, by go_num, ?_, HW2.out, HB4.out⟩
            intro i hi
            rcases Nat.lt_or_ge (i + 1) 0 with h | h
            · exact HU.out i h
            · omega
          case measure => simp [intOf]; omega
      · obtain ⟨g, cap, ev, hcell⟩ := own_at HO.out (HNL.out k) (k - 1) (by omega) (N (k - 1)) (HNA.out k (k - 1) (by omega))
        subst ev
        have hki : IntKind.i64.wrap ((k : Int) - 1) = ((k - 1 : Nat) : Int) := by rw [IntKind.wrap_i64]; omega
        have hkj : (k : Int) - 1 = ((k - 1 : Nat) : Int) := by omega
        have hkp : (0 : Int) < (k : Int) := by omega
        by_cases hge : N k ≤ N (k - 1)
        · go_wp2
          go_ret3
          refine ⟨below_dn HB.out n3, Or.inl ⟨fun hr => ?_, rfl⟩⟩
          have := hr (k - 1) (by omega)
          rw [show k - 1 + 1 = k by omega] at this
          omega
        · have hge2 : N (k - 1) < N k := by omega
          go_wp2_with (at_builtin; go_must (refine wpList_append_own _ rfl _ _ 24 rfl w.heap.size 3 i0 (.int .i64 0) 1 8 Try.underlying24 hi hz0 hz1 hz2 rfl (by decide) _ _ _ rfl (World.ownsRow.alloc HO3.out _) ⟨wr.heap.size, 0, none⟩ 1 1 [.int .i64 (N k)] rfl rfl ?bc1 ?bc2 ?bc3 ?bc4 ?bc5 ?_))
          case bc1 =>
            intro t u hj
            match t, hj with
            | 0, hj => simp at hj; subst hj; exact cell_newN _ _ _ _
          case bc2 => intro u hu; simp at hu; subst hu; rfl
          case bc3 => unfold maxLen; omega
          case bc4 => omega
          case bc5 => simp; omega
          · intro v' w4 hown' hgrow _
            have HW2 : Hid (w4.ownsRow w.heap.size 3 1 v' (k + 1) (icells (NS (k + 1)))) := by rw [HNU.out, icells_snoc]; exact hown'
            have HB4 : Hid (Below w.heap.size w w4) := ((below_dn HB.out n3).alloc hbz _).grown hgrow (by simp; omega) (fun b hb => (World.ownsRow.lt HO.out b hb).1)
            clear hown' hgrow
            go_wp2
            go_roundw
            case rel =>
              refine ⟨k + 1, by omega, by go_num, ?_, HW2.out, HB4.out⟩
              intro i hi
              rcases Nat.lt_or_ge (i + 1) k with h | h
              · exact HU.out i h
              · have : i = k - 1 := by omega
                subst this
                rw [show k - 1 + 1 = k by omega]; exact hge2
            case measure => simp [intOf]; omega
    · have hke : k = C := by omega
      subst hke
      obtain ⟨q, c, rfl⟩ := own_form HO.out
      go_wp2
      go_ret3
      exact ⟨HB.out, Or.inr ⟨HU.out, _, rfl, HO.out⟩⟩
end Go.Proofs.Ytghgdekdbbogkaa
