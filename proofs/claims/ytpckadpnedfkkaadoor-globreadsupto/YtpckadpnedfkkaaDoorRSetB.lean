import Derived.Test.YtpckadpnedfkkaaDoorRSetM
namespace Go.Proofs.YtpckadpnedfkkaaDoor
open Go.RowKit Gb
set_option linter.unusedVariables false
set_option maxHeartbeats 4000000 in
set_option maxRecDepth 20000 in
theorem rset_none (s : ByteArray) (i0 : Nat) (hz : i0 = s.size) (ho : over (s.data.toList.drop i0) = false) (hm : s.size ≤ 3000000) (w : World) :
    Calls Tryd.prog 29 #[.string s, .int .i64 (i0 : Int)] w fun e w' => ∃ x : Nat, e = .returned (.tuple #[.agg (bt (setF (s.data.toList.drop i0)).1), .int .i64 (x : Int)]) ∧ x ≤ s.size ∧ s.data.toList.drop x = (setF (s.data.toList.drop i0)).2 ∧ Below w.heap.size w w' := by
  obtain ⟨hzv, hzs⟩ := zero_of_info info49
  have HR : Hid ((setF (s.data.toList.drop i0)).1 = (membs (s.data.toList.drop i0).length (s.data.toList.drop i0) (fun _ => false)).1 ∧ (setF (s.data.toList.drop i0)).2 = (membs (s.data.toList.drop i0).length (s.data.toList.drop i0) (fun _ => false)).2.drop 1) := by
    unfold setF
    rw [if_neg (by rw [ho]; decide)]
    exact ⟨rfl, rfl⟩
  have HL0 : Hid ((s.data.toList.drop i0).length ≤ (s.data.toList.drop i0).length) := Nat.le_refl _
  have hnl : ¬ ((i0 : Int) < (s.size : Int)) := by omega
  have hge : s.size ≤ i0 := by omega
  have hle : i0 ≤ s.size := by omega
  clear ho hz
  go_enter Tryd.func29, Tryd.ntmps29
  go_wp2
  go_loopw [1, 8, 9, 10] (fun a _ _ _ wr => ∃ (i n : Nat) (f : UInt8 → Bool), a = .int .i64 (i : Int) ∧ s.size ≤ i ∧ i ≤ s.size ∧ (s.data.toList.drop i).length ≤ n ∧ membs n (s.data.toList.drop i) f = membs (s.data.toList.drop i0).length (s.data.toList.drop i0) (fun _ => false) ∧ wr.heap[w.heap.size + 1]? = some (.cells (bt f) 49) ∧ wr.heap[w.heap.size]? = some (.cells (bt (fun _ => false)) 49) ∧ Below w.heap.size w wr) (fun a _ _ _ _ => s.size - (intOf a).toNat)
  case atStart => exact ⟨i0, _, _, rfl, by omega, by omega, HL0.out, rfl, (two_allocs _ _ _).2, (two_allocs _ _ _).1, by go_grown⟩
  case round =>
    obtain ⟨i, n, f, rfl, hgi, hi, hn, hmb, hgs, hg0, hbel⟩ := hrel
    have HM : Hid (membs n (s.data.toList.drop i) f = membs (s.data.toList.drop i0).length (s.data.toList.drop i0) (fun _ => false)) := hmb
    have HG : Hid (wr.heap[w.heap.size + 1]? = some (.cells (bt f) 49)) := hgs
    have HG0 : Hid (wr.heap[w.heap.size]? = some (.cells (bt (fun _ => false)) 49)) := hg0
    have HB : Hid (Below w.heap.size w wr) := hbel
    clear hmb hgs hg0 hbel
    by_cases hie : i = s.size
    · have HST : Hid _ := membs_stop n _ f (d_stop s i (by omega))
      have hnlt : ¬ ((i : Int) < (s.size : Int)) := by omega
      go_wp2
      go_loopw [11] (fun a wx => a = .int .i64 0 ∧ wx.heap[w.heap.size + 1]? = some (.cells (bt f) 49) ∧ wx.heap[w.heap.size]? = some (.cells (bt (fun _ => false)) 49) ∧ Below w.heap.size w wx) (fun _ _ => 0)
      case atStart => exact ⟨rfl, HG.out, HG0.out, HB.out⟩
      case round =>
        obtain ⟨rfl, hgs, hg0, hbel⟩ := hrel
        have HG2 : Hid (wr.heap[w.heap.size + 1]? = some (.cells (bt f) 49)) := hgs
        have HG02 : Hid (wr.heap[w.heap.size]? = some (.cells (bt (fun _ => false)) 49)) := hg0
        have HB2 : Hid (Below w.heap.size w wr) := hbel
        clear hgs hg0 hbel
        go_wp2_with fail
        refine wp_load_at _ _ _ _ rfl rfl (load_bt HG2.out) ?_
        have hmn : min (s.size : Int) ((s.size : Int) + 1) = (s.size : Int) := by omega
        have hmn2 : (if (s.size : Int) + 1 < (s.size : Int) then ((s.size : Int) + 1) else (s.size : Int)) = (s.size : Int) := by rw [if_neg (by omega)]
        have hstc := cells_bt (f' := f) HG02.out
        obtain ⟨hr1, hr2⟩ := row_bt (f' := f) HG02.out
        go_wp2
        refine bodyPost_ret (v := .tuple #[.agg (bt f), .int .i64 (s.size : Int)]) ?_ rfl ⟨s.size, ?_, by omega, ?_, HB2.out.trans (hr2.below (Nat.le_refl _))⟩
        · rw [results_cell_tmp rfl]
          have hl := load_bt hr1
          simp only [Instr.loadAt, Instr.sureAddr, Sem.run_bind, Sem.run_pure, Result.andThen] at hl
          simp [asAddr, Result.andThen, hl]
        · rw [HR.out.1, ← HM.out, HST.out]
        · rw [HR.out.2, ← HM.out, HST.out]
          rw [hie, List.drop_eq_nil_of_le (by rw [list_len]; exact Nat.le_refl _)]; rfl
    · exact absurd hie (by omega)
end Go.Proofs.YtpckadpnedfkkaaDoor
