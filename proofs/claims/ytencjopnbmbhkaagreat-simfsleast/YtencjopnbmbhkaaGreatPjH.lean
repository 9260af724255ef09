import Derived.Test.YtencjopnbmbhkaaGreatPjF
namespace Go.Proofs.YtencjopnbmbhkaaGreat
open Go.RowKit Go.Maps
set_option linter.unusedVariables false
set_option linter.unusedSimpArgs false
set_option maxHeartbeats 4000000 in
set_option maxRecDepth 100000 in
theorem ins_grow (X i vc : Nat) (p : Pq) (E o c : Nat) (l : List Pq) (hl : l.length ≤ 2199023255552) (w : World) (hB : PX w E o c l) (hi : i < l.length) (hX : w.heap[X]? = some (.cells #[.int .i64 (p.s : Int), .bool p.c, meetV p] 81)) (hroom : c < l.length + 1) :
    Calls Tryz.prog 85 #[.slice (some ⟨E, o * 3, none⟩) l.length c, .int .i64 (i : Int), .slice (some ⟨X, 0, none⟩) 1 vc] w fun r w' => InsP w (.slice (some ⟨E, o * 3, none⟩) l.length c) (l.take i ++ p :: l.drop i) r w' := by
  have hle := hB.le
  have hcm := hB.max
  obtain ⟨q, hq⟩ : ∃ q, i + 1 = q := ⟨_, rfl⟩
  obtain ⟨u, hu⟩ : ∃ u, l.length - i = u := ⟨_, rfl⟩
  obtain ⟨t, ht⟩ : ∃ t, l.length + 1 = t := ⟨_, rfl⟩
  have hz2 : ¬ ((i : Int) = (l.length : Int)) := by omega
  have hb4 : ¬ (c = i) := by omega
  have hw1 : IntKind.i64.wrap ((i : Int) + 1) = (q : Int) := by rw [IntKind.wrap_i64] <;> omega
  have hw2 : IntKind.i64.wrap ((l.length : Int) + 1) = (t : Int) := by rw [IntKind.wrap_i64] <;> omega
  have hb6 : ((c : Int) < (t : Int)) := by omega
  have hb9 : (q : Int) ≤ (t : Int) := by omega
  have hb10 : (i : Int) ≤ (t : Int) := by omega
  have hqt : t - q = u := by omega
  obtain ⟨k, hk⟩ : ∃ k, t - i = k := ⟨_, rfl⟩
  have hw3 : IntKind.i64.wrap ((t : Int) - (i : Int)) = (k : Int) := by rw [IntKind.wrap_i64] <;> omega
  have hik : i + k = t := by omega
  have hic : (i : Int) ≤ (c : Int) := by omega
  have hin : (i : Int) ≤ (l.length : Int) := by omega
  obtain ⟨i0, hi0, hz0, hz1, hz2'⟩ := info_parts infoP
  have hcs : ∀ a v, (plnE.fl (l.take i))[a]? = some v → w.drew.cell? ((⟨E, o * 3, none⟩ : Addr).add a) = some v := fun a v ha => hB.takeAt i (by omega) a v ha
  have hfi : (plnE.fl (l.take i)).length = i * 3 := by rw [flq_len, List.length_take]; congr 1; omega
  have hold : (Builtin.firstCells i0.size i (.slice (some ⟨E, o * 3, none⟩) i c)).run Tryz.prog w.drew = .ok (plnE.fl (l.take i)).toArray w.drew := by
    rw [hz1]; exact run_firstCells_some w.drew 3 i ⟨E, o * 3, none⟩ i c (plnE.fl (l.take i)) hfi hcs
  have hrun : ∀ ty, (Builtin.append_ #[58, 3] ty #[.slice (some ⟨E, o * 3, none⟩) i c, .int .i64 (k : Int)]).run Tryz.prog w = _ := fun ty =>
    Lib.run_append_grow_zeros w 58 3 ty 81 i0 _ .i64 .i64 Tryz.underlying58 Tryz.underlying3 hi0 hz0 (some ⟨E, o * 3, none⟩) i c (plnE.fl (l.take i)) hold k (by omega) (by omega) (by omega) (by omega) (by rw [hz2']; omega) (by rw [hz2']; exact growslice_fits (by omega) (by omega))
  obtain ⟨c', hc'⟩ : ∃ c', grownCap w (i + k) c 81 = c' := ⟨_, rfl⟩
  have hc1 : i + k ≤ c' := by rw [← hc']; exact grownCap_ge w (i + k) c 81
  have hcm' : c' ≤ maxLen := by rw [← hc']; exact grownCap_le_maxLen w (i + k) c 81 (by unfold maxLen; omega)
  rw [hc'] at hrun
  obtain ⟨CUR, hCUR⟩ : ∃ CUR, CUR = (plnE.fl (l.take i)).toArray ++ Builtin.zeroCells (Value.cells (.agg #[.int .i64 0, .bool false, .nilFunc])) k ++ Builtin.zeroCells (Value.cells (.agg #[.int .i64 0, .bool false, .nilFunc])) (c' - (i + k)) := ⟨_, rfl⟩
  rw [← hCUR] at hrun
  obtain ⟨W1, hW1⟩ : ∃ W1, W1 = w.drew.alloc (.cells CUR 81) := ⟨_, rfl⟩
  rw [← hW1] at hrun
  have hbw : Below w.heap.size w W1 := by rw [hW1]; exact (Below.refl _ w).drew.alloc (Nat.le_refl _) _
  have hXW : W1.heap[X]? = some (.cells #[.int .i64 (p.s : Int), .bool p.c, meetV p] 81) := (hbw.block X (row_lt hX)).trans hX
  have hBE : PX W1 E o c l := hB.on hbw
  have r0 : W1.heap[w.heap.size]? = some (.cells CUR 81) := by rw [hW1]; exact one_alloc w.drew _
  have s0 : CUR.size = c' * 3 := by
    rw [hCUR]; simp only [Array.size_append, size_zeroCells, List.size_toArray, hfi]
    rw [show (Value.cells (.agg #[.int .i64 0, .bool false, .nilFunc])).size = 3 from rfl]; omega
  have hgl : ∀ (j : Nat) (v : Value), (plnE.fl (l.take i))[j]? = some v → CUR[j]? = some v := fun j v hj => by
    have hl' := (List.getElem?_eq_some_iff.1 hj).1
    rw [hCUR, Array.getElem?_append_left (by simp; omega), Array.getElem?_append_left (by simpa using hl'), List.getElem?_toArray]
    exact hj
  have hel : (plnE.enc p).length = 3 := rfl
  have hfl : (plnE.fl (l.drop i)).length = u * 3 := by rw [flq_len, List.length_drop, hu]
  have r1 := heap_cells w.heap.size _ (plnE.enc p) (i * 3) W1 CUR r0 (by rw [hel]; omega)
  have s1 := spl_size CUR (i * 3) (plnE.enc p) (by rw [hel]; omega)
  have HRES : Hid (InsP w (.slice (some ⟨E, o * 3, none⟩) l.length c) (l.take i ++ p :: l.drop i) (.returned (.slice (some ⟨w.heap.size, 0, none⟩) t c')) ((W1.setCells w.heap.size (i * 3) (plnE.enc p)).drew.setCells w.heap.size (q * 3) (plnE.fl (l.drop i)))) := by
    have r1d : (W1.setCells w.heap.size (i * 3) (plnE.enc p)).drew.heap[w.heap.size]? = _ := r1
    have r2 := heap_cells w.heap.size _ (plnE.fl (l.drop i)) (q * 3) _ _ r1d (by rw [s1, hfl]; omega)
    have hP := PX.fill (p := p) (i := i) (c := c') (by omega) (by omega) (by unfold maxLen at hcm'; omega) (by omega) hgl (E := w.heap.size) (W := (W1.setCells w.heap.size (i * 3) (plnE.enc p)).drew.setCells w.heap.size (q * 3) (plnE.fl (l.drop i))) (by rw [hq]; exact r2)
    refine ⟨_, rfl, hP.prow' (by rw [ins_len l p i (by omega)]; omega), ModP.below ?_, fun k hk => Or.inr (by cases hk; exact Nat.le_refl _)⟩
    have b1 := (grown_only w.heap.size (plnE.enc p) (i * 3) W1).below (B := w.heap.size) (Nat.le_refl _)
    have b2 := (grown_only w.heap.size (plnE.fl (l.drop i)) (q * 3) (W1.setCells w.heap.size (i * 3) (plnE.enc p)).drew).below (B := w.heap.size) (Nat.le_refl _)
    exact ((hbw.trans b1).drew).trans b2
  have hcp1 : ∀ ty dc, (Builtin.copy_ #[58, 58] ty #[.slice (some ⟨w.heap.size, i * 3, none⟩) k dc, .slice (some ⟨X, 0, none⟩) 1 vc]).run Tryz.prog W1 = .ok (goInt (Nat.min 1 k)) (W1.setCells w.heap.size (i * 3) (plnE.enc p)) := fun ty dc =>
    run_copyP W1 ty w.heap.size (i * 3) k dc ⟨X, 0, none⟩ 1 vc (plnE.enc p) (by rw [hel]; simp only [Nat.min_def]; split <;> omega) (encAt hXW)
      (fun a ha => by rw [hel] at ha; rw [cell_of_row _ _ _ _ _ _ r0, Array.getElem?_eq_getElem (by omega)]; rfl) (fun a ha => frozen_of_row _ _ _ _ _ r0) (enc_one _)
  obtain ⟨W2, hW2⟩ : ∃ W2, W2 = W1.setCells w.heap.size (i * 3) (plnE.enc p) := ⟨_, rfl⟩
  have hBE2 : PX W2 E o c l := hBE.same (by rw [hW2, (grown_cells w.heap.size _ _ W1).block E hBE.lt (by have := hB.lt; simp; omega)])
  rw [← hW2] at r1 hcp1 HRES
  have r1d : W2.drew.heap[w.heap.size]? = _ := r1
  have hcp2 : ∀ ty dc sc, (Builtin.copy_ #[58, 58] ty #[.slice (some ⟨w.heap.size, q * 3, none⟩) u dc, .slice (some ⟨E, o * 3 + i * 3, none⟩) u sc]).run Tryz.prog W2.drew = .ok (goInt (Nat.min u u)) (W2.drew.setCells w.heap.size (q * 3) (plnE.fl (l.drop i))) := fun ty dc sc =>
    run_copyP W2.drew ty w.heap.size (q * 3) u dc ⟨E, o * 3 + i * 3, none⟩ u sc (plnE.fl (l.drop i)) (by rw [hfl]; simp) (hBE2.dropAt i (by omega))
      (fun k hk => by rw [cell_of_row _ _ _ _ _ _ r1d, Array.getElem?_eq_getElem (by omega)]; rfl) (fun k hk => frozen_of_row _ _ _ _ _ r1d) (flq_one _)
  have hci : ¬ (c' = i) := by omega
  have hcq : ¬ (c' = q) := by omega
  have mixed : Tryz.prog.follows Departure.mixedOrders = true := by kernel_rfl
  have HRUN : Hid _ := hrun
  obtain ⟨S, hS⟩ : ∃ S, w.heap.size = S := ⟨_, rfl⟩
  rw [hS] at hcp1 hcp2 HRES HRUN
  rw [hik] at HRUN
  clear hold hcs hrun hc' hz2' hz1 hz0 hi0 hfi hcm' hbw hXW hBE r0 s0 hgl r1 r1d hBE2 hfl hCUR s1 hB hX hS hW1 hel
  subst hW2
  go_enter Tryz.func85, Tryz.ntmps85
  go_upto_region 9 with fail
  go_wp2_with (at_builtin; go_must (refine Lib.wpList_append_run _ rfl _ _ 58 3 rfl (.slice (some ⟨E, o * 3, none⟩) i c) (.int .i64 (k : Int)) ?a1 ?a2 _ _ (HRUN.out _) ?_))
  case a1 => rfl
  case a2 => rfl
  go_region_law_o (refine step_copy_runI rfl _ _ 58 58 rfl _ _ (by simp [Act.eval, Act.put]) (by simp [Act.eval, Act.put]) (hcp2 _ _ _) ?_)
  go_wp2
  go_returns
  exact HRES.out
end Go.Proofs.YtencjopnbmbhkaaGreat
