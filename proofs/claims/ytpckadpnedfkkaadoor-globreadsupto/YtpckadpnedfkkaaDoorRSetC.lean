import Derived.Test.YtpckadpnedfkkaaDoorRSetM
namespace Go.Proofs.YtpckadpnedfkkaaDoor
open Go.RowKit Gb
set_option linter.unusedVariables false
set_option maxHeartbeats 4000000 in
set_option maxRecDepth 20000 in
theorem rset_over (s : ByteArray) (i0 : Nat) (hi0 : i0 ≤ s.size) (ho : over (s.data.toList.drop i0) = true) (hm : s.size ≤ 3000000) (w : World) :
    Calls Tryd.prog 29 #[.string s, .int .i64 (i0 : Int)] w fun e w' => ∃ x : Nat, e = .returned (.tuple #[.agg (bt (setF (s.data.toList.drop i0)).1), .int .i64 (x : Int)]) ∧ x ≤ s.size ∧ s.data.toList.drop x = (setF (s.data.toList.drop i0)).2 ∧ Below w.heap.size w w' := by
  obtain ⟨hzv, hzs⟩ := zero_of_info info49
  have h0 : i0 < s.size := by
    rcases Nat.lt_or_ge i0 s.size with h | h
    · exact h
    · rw [List.drop_eq_nil_of_le (by rw [list_len]; exact h)] at ho; exact absurd ho (by decide)
  have e94 : s[i0].toNat = 94 := by
    unfold over at ho
    rw [d_at0 s i0 h0, Bool.and_eq_true, beq_iff_eq] at ho
    rw [ho.2]; rfl
  have HR : Hid ((setF (s.data.toList.drop i0)).1 = notF (membs (s.data.toList.drop i0).length (s.data.toList.drop (i0 + 1)) (fun _ => false)).1 ∧ (setF (s.data.toList.drop i0)).2 = (membs (s.data.toList.drop i0).length (s.data.toList.drop (i0 + 1)) (fun _ => false)).2.drop 1) := by
    unfold setF
    rw [if_pos ho, List.drop_drop]
    exact ⟨rfl, rfl⟩
  have HL0 : Hid ((s.data.toList.drop (i0 + 1)).length ≤ (s.data.toList.drop i0).length) := by show _ ≤ _; rw [d_len, d_len]; omega
  clear ho
  go_enter Tryd.func29, Tryd.ntmps29
  go_wp2
  go_loopw [1, 8, 9, 10] (fun a _ _ _ wr => ∃ (i n : Nat) (f : UInt8 → Bool), a = .int .i64 (i : Int) ∧ i ≤ s.size ∧ (s.data.toList.drop i).length ≤ n ∧ membs n (s.data.toList.drop i) f = membs (s.data.toList.drop i0).length (s.data.toList.drop (i0 + 1)) (fun _ => false) ∧ wr.heap[w.heap.size + 1]? = some (.cells (bt f) 49) ∧ wr.heap[w.heap.size]? = some (.cells (bt (fun _ => false)) 49) ∧ Below w.heap.size w wr) (fun a _ _ _ _ => s.size - (intOf a).toNat)
  case atStart => exact ⟨i0 + 1, _, _, by go_num, by omega, HL0.out, rfl, (two_allocs _ _ _).2, (two_allocs _ _ _).1, by go_grown⟩
  case round =>
    obtain ⟨i, n, f, rfl, hi, hn, hmb, hgs, hg0, hbel⟩ := hrel
    have HM : Hid (membs n (s.data.toList.drop i) f = membs (s.data.toList.drop i0).length (s.data.toList.drop (i0 + 1)) (fun _ => false)) := hmb
    have HG : Hid (wr.heap[w.heap.size + 1]? = some (.cells (bt f) 49)) := hgs
    have HG0 : Hid (wr.heap[w.heap.size]? = some (.cells (bt (fun _ => false)) 49)) := hg0
    have HB : Hid (Below w.heap.size w wr) := hbel
    clear hmb hgs hg0 hbel
    by_cases hie : i = s.size
    · have HST : Hid _ := membs_stop n _ f (d_stop s i (by omega))
      have hnlt : ¬ ((i : Int) < (s.size : Int)) := by omega
      go_wp2
      go_loopw [11] (fun a wx => ∃ k : Nat, a = .int .i64 (k : Int) ∧ k ≤ 256 ∧ wx.heap[w.heap.size + 1]? = some (.cells (bt (flipF f k)) 49) ∧ wx.heap[w.heap.size]? = some (.cells (bt (fun _ => false)) 49) ∧ Below w.heap.size w wx) (fun a _ => 256 - (intOf a).toNat)
      case atStart => exact ⟨0, rfl, by omega, by rw [flip_zero]; exact HG.out, HG0.out, HB.out⟩
      case round =>
        obtain ⟨k, rfl, hk, hgs, hg0, hbel⟩ := hrel
        by_cases hk2 : k < 256
        · have hfa := (cell_of_row _ _ k _ _ _ hgs).trans (flip_at f k hk2)
          have hff := frozen_of_row _ _ k _ _ hgs
          have HP1 : Hid _ := (heap_setCell_same _ _ k _ _ (.bool (!f (UInt8.ofNat k))) hgs)
          have HB2 : Hid (Below w.heap.size w (wr.setCell ⟨w.heap.size + 1, k, none⟩ (.bool (!f (UInt8.ofNat k))))) := hbel.trans ⟨rfl, rfl, rfl, by simp, fun j hj => heap_setCell_other _ _ _ _ (by show j ≠ w.heap.size + 1; omega)⟩
          have HG02 : Hid _ := (heap_setCell_other wr ⟨w.heap.size + 1, k, none⟩ w.heap.size (.bool (!f (UInt8.ofNat k))) (by show w.heap.size ≠ w.heap.size + 1; omega)).trans hg0
          clear hgs hg0 hbel
          obtain ⟨y, hy⟩ : ∃ y, f (UInt8.ofNat k) = y := ⟨_, rfl⟩
          rw [bt_flip f k hk2] at HP1
          rw [hy] at hfa HP1 HB2 HG02
          go_wp2
          go_roundw
          case rel => exact ⟨k + 1, by go_num, by omega, HP1.out, HG02.out, HB2.out⟩
          case measure => simp [intOf]; omega
        · have hk3 : k = 256 := by omega
          subst hk3
          rw [flip_all] at hgs
          have HG2 : Hid (wr.heap[w.heap.size + 1]? = some (.cells (bt (notF f)) 49)) := hgs
          have HG02 : Hid (wr.heap[w.heap.size]? = some (.cells (bt (fun _ => false)) 49)) := hg0
          have HB2 : Hid (Below w.heap.size w wr) := hbel
          clear hgs hg0 hbel
          go_wp2_with fail
          refine wp_load_at _ _ _ _ rfl rfl (load_bt HG2.out) ?_
          have hmn : min (s.size : Int) ((s.size : Int) + 1) = (s.size : Int) := by omega
          have hmn2 : (if (s.size : Int) + 1 < (s.size : Int) then ((s.size : Int) + 1) else (s.size : Int)) = (s.size : Int) := by rw [if_neg (by omega)]
          have hstc := cells_bt (f' := (notF f)) HG02.out
          obtain ⟨hr1, hr2⟩ := row_bt (f' := (notF f)) HG02.out
          go_wp2
          refine bodyPost_ret (v := .tuple #[.agg (bt (notF f)), .int .i64 (s.size : Int)]) ?_ rfl ⟨s.size, ?_, by omega, ?_, HB2.out.trans (hr2.below (Nat.le_refl _))⟩
          · rw [results_cell_tmp rfl]
            have hl := load_bt hr1
            simp only [Instr.loadAt, Instr.sureAddr, Sem.run_bind, Sem.run_pure, Result.andThen] at hl
            simp [asAddr, Result.andThen, hl]
          · rw [HR.out.1, ← HM.out, HST.out]
          · rw [HR.out.2, ← HM.out, HST.out]
            rw [hie, List.drop_eq_nil_of_le (by rw [list_len]; exact Nat.le_refl _)]; rfl
    · have hlt : i < s.size := by omega
      obtain ⟨d, ed⟩ : ∃ d, s[i].toNat = d := ⟨_, rfl⟩
      have hd8 := s[i].toNat_lt
      rw [ed] at hd8
      by_cases hd : d = 93
      · subst hd
        have HST : Hid _ := membs_stop n _ f (d_stop2 s i hlt ed)
        go_wp2
        go_loopw [11] (fun a wx => ∃ k : Nat, a = .int .i64 (k : Int) ∧ k ≤ 256 ∧ wx.heap[w.heap.size + 1]? = some (.cells (bt (flipF f k)) 49) ∧ wx.heap[w.heap.size]? = some (.cells (bt (fun _ => false)) 49) ∧ Below w.heap.size w wx) (fun a _ => 256 - (intOf a).toNat)
        case atStart => exact ⟨0, rfl, by omega, by rw [flip_zero]; exact HG.out, HG0.out, HB.out⟩
        case round =>
          obtain ⟨k, rfl, hk, hgs, hg0, hbel⟩ := hrel
          by_cases hk2 : k < 256
          · have hfa := (cell_of_row _ _ k _ _ _ hgs).trans (flip_at f k hk2)
            have hff := frozen_of_row _ _ k _ _ hgs
            have HP1 : Hid _ := (heap_setCell_same _ _ k _ _ (.bool (!f (UInt8.ofNat k))) hgs)
            have HB2 : Hid (Below w.heap.size w (wr.setCell ⟨w.heap.size + 1, k, none⟩ (.bool (!f (UInt8.ofNat k))))) := hbel.trans ⟨rfl, rfl, rfl, by simp, fun j hj => heap_setCell_other _ _ _ _ (by show j ≠ w.heap.size + 1; omega)⟩
            have HG02 : Hid _ := (heap_setCell_other wr ⟨w.heap.size + 1, k, none⟩ w.heap.size (.bool (!f (UInt8.ofNat k))) (by show w.heap.size ≠ w.heap.size + 1; omega)).trans hg0
            clear hgs hg0 hbel
            obtain ⟨y, hy⟩ : ∃ y, f (UInt8.ofNat k) = y := ⟨_, rfl⟩
            rw [bt_flip f k hk2] at HP1
            rw [hy] at hfa HP1 HB2 HG02
            go_wp2
            go_roundw
            case rel => exact ⟨k + 1, by go_num, by omega, HP1.out, HG02.out, HB2.out⟩
            case measure => simp [intOf]; omega
          · have hk3 : k = 256 := by omega
            subst hk3
            rw [flip_all] at hgs
            have HG2 : Hid (wr.heap[w.heap.size + 1]? = some (.cells (bt (notF f)) 49)) := hgs
            have HG02 : Hid (wr.heap[w.heap.size]? = some (.cells (bt (fun _ => false)) 49)) := hg0
            have HB2 : Hid (Below w.heap.size w wr) := hbel
            clear hgs hg0 hbel
            go_wp2_with fail
            refine wp_load_at _ _ _ _ rfl rfl (load_bt HG2.out) ?_
            have hmn2 : (if (i : Int) + 1 < (s.size : Int) then ((i : Int) + 1) else (s.size : Int)) = ((i : Int) + 1) := by split <;> omega
            have hstc := cells_bt (f' := (notF f)) HG02.out
            obtain ⟨hr1, hr2⟩ := row_bt (f' := (notF f)) HG02.out
            go_wp2
            refine bodyPost_ret (v := .tuple #[.agg (bt (notF f)), .int .i64 ((i : Int) + 1)]) ?_ rfl ⟨i + 1, ?_, by omega, ?_, HB2.out.trans (hr2.below (Nat.le_refl _))⟩
            · rw [results_cell_tmp rfl]
              have hl := load_bt hr1
              simp only [Instr.loadAt, Instr.sureAddr, Sem.run_bind, Sem.run_pure, Result.andThen] at hl
              simp [asAddr, Result.andThen, hl]
            · rw [HR.out.1, ← HM.out, HST.out]; rfl
            · rw [HR.out.2, ← HM.out, HST.out]
              rw [List.drop_drop]
      · have hdb : ((d : Int) != 93) = true := by simp; omega
        obtain ⟨m, hnm, hml, hmg⟩ := membs_go n _ f (d_go s i hlt (by omega)) hn
        have HMG : Hid _ := hmg
        clear hmg
        by_cases he : d = 92 ∧ i + 1 < s.size
        · obtain ⟨h92, h1⟩ := he
          obtain ⟨mn, mf⟩ := d_esc s i h1 (by omega)
          rw [mn, mf] at HMG
          rw [mn] at hml
          obtain ⟨c, ec⟩ : ∃ c, s[i + 1].toNat = c := ⟨_, rfl⟩
          have hc8 := s[i + 1].toNat_lt
          rw [ec] at hc8
          obtain ⟨b0, bf⟩ := bt_cell HG.out c hc8
          obtain ⟨hp1, hp2⟩ := bt_put HG.out c hc8
          rw [← ec, of_at] at hp1
          have HP1 : Hid _ := hp1
          have HP2 : Hid (Only wr (wr.setCell ⟨w.heap.size + 1, c, none⟩ (.bool true)) (w.heap.size + 1)) := hp2
          clear hp1 hp2
          subst h92
          go_wp2
          go_roundw
          case rel => exact ⟨i + 2, m, _, by go_num, by omega, by rw [List.drop_drop] at hml; exact hml, by rw [List.drop_drop] at HMG; rw [← HMG.out]; exact HM.out, by rw [ec] at HP1; exact HP1.out, (HP2.out.other _ (by omega)).trans HG0.out, HB.out.trans (HP2.out.below (by omega))⟩
          case measure => simp [intOf]; omega
        · by_cases hr : ∃ h2 : i + 2 < s.size, s[i + 1].toNat = 45
          · obtain ⟨h2, e45⟩ := hr
            have hd92 : ¬ d = 92 := fun x => he ⟨x, by omega⟩
            obtain ⟨mn, mf⟩ := d_rng s i h2 (by omega) e45
            rw [mn, mf] at HMG
            rw [mn] at hml
            have h92 : ((d : Int) == 92) = false := by simp; omega
            obtain ⟨c, ec⟩ : ∃ c, s[i + 2].toNat = c := ⟨_, rfl⟩
            have hc8 := s[i + 2].toNat_lt
            rw [ec] at hc8
            obtain ⟨lo, hlo⟩ : ∃ lo, min d c = lo := ⟨_, rfl⟩
            obtain ⟨hi', hhi⟩ : ∃ hi', max d c = hi' := ⟨_, rfl⟩
            have hlh : lo ≤ hi' := by omega
            have hh8 : hi' < 256 := by omega
            have hmn : (if c < d then (c : Int) else (d : Int)) = (lo : Int) := by split <;> omega
            have hmx : (if d < c then (c : Int) else (d : Int)) = (hi' : Int) := by split <;> omega
            have HRG : Hid (orF f (btw lo (hi' + 1)) = orF f (rngF s[i] s[i + 2])) := by show _ = _; rw [← hlo, ← hhi, ← ed, ← ec, btw_rng]
            have h1 : i + 1 < s.size := by omega
            obtain ⟨j, hj⟩ : ∃ j, i + 2 = j := ⟨_, rfl⟩
            have hjs : j < s.size := by omega
            have wj : IntKind.i64.wrap ((i : Int) + 2) = (j : Int) := by rw [IntKind.wrap_i64]; omega
            have ecj : s[j].toNat = c := by subst hj; exact ec
            have wd : IntKind.i64.wrap (d : Int) = (d : Int) := by rw [IntKind.wrap_i64]; omega
            have wc : IntKind.i64.wrap (c : Int) = (c : Int) := by rw [IntKind.wrap_i64]; omega
            have HJ : Hid _ := hj
            clear hlo hhi he hj
            go_wp2_with fail
            go_quiet (fail)
            have HGq : Hid ((wr.drewN nq).heap[w.heap.size + 1]? = some (.cells (bt (orF f (btw lo lo))) 49)) := by show _ = _; rw [btw_none]; exact HG.out
            go_wp2
            go_loopw [10] (fun a wx => ∃ k : Nat, a = .int .i64 (k : Int) ∧ lo ≤ k ∧ k ≤ hi' + 1 ∧ wx.heap[w.heap.size + 1]? = some (.cells (bt (orF f (btw lo k))) 49) ∧ wx.heap[w.heap.size]? = some (.cells (bt (fun _ => false)) 49) ∧ Below w.heap.size w wx) (fun a _ => hi' + 1 - (intOf a).toNat)
            case atStart => exact ⟨lo, rfl, Nat.le_refl _, by omega, HGq.out, HG0.out, below_dn HB.out _⟩
            case round =>
              obtain ⟨k, rfl, hk1, hk2, hgs, hg0, hbel⟩ := hrel
              by_cases hk3 : k ≤ hi'
              · obtain ⟨b0, bf⟩ := bt_cell hgs k (by omega)
                obtain ⟨hp1, hp2⟩ := bt_put hgs k (by omega)
                rw [btw_more f lo k hk1 (by omega)] at hp1
                have HP1 : Hid _ := hp1
                have HP2 : Hid (Only wr (wr.setCell ⟨w.heap.size + 1, k, none⟩ (.bool true)) (w.heap.size + 1)) := hp2
                have HGg : Hid (wr.heap[w.heap.size]? = some (.cells (bt (fun _ => false)) 49)) := hg0
                have HBb : Hid (Below w.heap.size w wr) := hbel
                clear hp1 hp2 hgs hg0 hbel
                go_wp2
                go_roundw
                case rel => exact ⟨k + 1, by go_num, by omega, by omega, HP1.out, (HP2.out.other _ (by omega)).trans HGg.out, HBb.out.trans (HP2.out.below (by omega))⟩
                case measure => simp [intOf]; omega
              · have hk4 : k = hi' + 1 := by omega
                subst hk4
                rw [HRG.out] at hgs
                have HGs : Hid _ := hgs
                have HGg : Hid (wr.heap[w.heap.size]? = some (.cells (bt (fun _ => false)) 49)) := hg0
                have HBb : Hid (Below w.heap.size w wr) := hbel
                clear hgs hg0 hbel
                go_wp2
                go_roundw
                case rel => exact ⟨i + 3, m, _, by go_num, by omega, by rw [List.drop_drop] at hml; exact hml, by rw [List.drop_drop] at HMG; rw [← HMG.out]; exact HM.out, HGs.out, HGg.out, HBb.out⟩
                case measure => simp [intOf]; omega
          · obtain ⟨mn, mf⟩ := d_one s i hlt (by rw [ed]; exact he) (fun h2 x => hr ⟨h2, x⟩)
            rw [mn, mf] at HMG
            rw [mn] at hml
            obtain ⟨b0, bf⟩ := bt_cell HG.out d hd8
            obtain ⟨hp1, hp2⟩ := bt_put HG.out d hd8
            rw [← ed, of_at] at hp1
            have HP1 : Hid _ := hp1
            have HP2 : Hid (Only wr (wr.setCell ⟨w.heap.size + 1, d, none⟩ (.bool true)) (w.heap.size + 1)) := hp2
            clear hp1 hp2
            have hnr : ¬ (i + 2 < s.size) ∨ ∃ h2 : i + 2 < s.size, ¬ s[i + 1].toNat = 45 := by
              by_cases h2 : i + 2 < s.size
              · exact Or.inr ⟨h2, fun x => hr ⟨h2, x⟩⟩
              · exact Or.inl h2
            clear hr
            by_cases h92 : d = 92
            · have h1 : ¬ (i + 1 < s.size) := fun x => he ⟨h92, x⟩
              have h1i : ¬ ((i : Int) + 1 < (s.size : Int)) := by omega
              have h2i : ¬ ((i : Int) + 2 < (s.size : Int)) := by omega
              clear hnr he
              subst h92
              go_wp2
              go_roundw
              case rel => exact ⟨i + 1, m, _, by go_num, by omega, by rw [List.drop_drop] at hml; exact hml, by rw [List.drop_drop] at HMG; rw [← HMG.out]; exact HM.out, by rw [ed] at HP1; exact HP1.out, (HP2.out.other _ (by omega)).trans HG0.out, HB.out.trans (HP2.out.below (by omega))⟩
              case measure => simp [intOf]; omega
            · have h92b : ((d : Int) == 92) = false := by simp; omega
              clear he
              rcases hnr with h2 | ⟨h2, h45⟩
              · have h2i : ¬ ((i : Int) + 2 < (s.size : Int)) := by omega
                go_wp2
                go_roundw
                case rel => exact ⟨i + 1, m, _, by go_num, by omega, by rw [List.drop_drop] at hml; exact hml, by rw [List.drop_drop] at HMG; rw [← HMG.out]; exact HM.out, by rw [ed] at HP1; exact HP1.out, (HP2.out.other _ (by omega)).trans HG0.out, HB.out.trans (HP2.out.below (by omega))⟩
                case measure => simp [intOf]; omega
              · obtain ⟨y, ey⟩ : ∃ y, s[i + 1].toNat = y := ⟨_, rfl⟩
                rw [ey] at h45
                have h45b : ((y : Int) == 45) = false := by simp; omega
                have h1 : i + 1 < s.size := by omega
                go_wp2
                go_roundw
                case rel => exact ⟨i + 1, m, _, by go_num, by omega, by rw [List.drop_drop] at hml; exact hml, by rw [List.drop_drop] at HMG; rw [← HMG.out]; exact HM.out, by rw [ed] at HP1; exact HP1.out, (HP2.out.other _ (by omega)).trans HG0.out, HB.out.trans (HP2.out.below (by omega))⟩
                case measure => simp [intOf]; omega
end Go.Proofs.YtpckadpnedfkkaaDoor
