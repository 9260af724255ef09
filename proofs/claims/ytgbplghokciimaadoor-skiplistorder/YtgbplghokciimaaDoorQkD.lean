import Derived.Test.YtgbplghokciimaaDoorQkC
namespace Go.Proofs.YtgbplghokciimaaDoor.S
open Go.RowKit
set_option linter.unusedVariables false
theorem flat24 (d : Nat → Lk) : flat2 d 24 = [ptr (d 0).1, .int .i64 ((d 0).2 : Nat), ptr (d 1).1, .int .i64 ((d 1).2 : Nat), ptr (d 2).1, .int .i64 ((d 2).2 : Nat), ptr (d 3).1, .int .i64 ((d 3).2 : Nat), ptr (d 4).1, .int .i64 ((d 4).2 : Nat), ptr (d 5).1, .int .i64 ((d 5).2 : Nat), ptr (d 6).1, .int .i64 ((d 6).2 : Nat), ptr (d 7).1, .int .i64 ((d 7).2 : Nat), ptr (d 8).1, .int .i64 ((d 8).2 : Nat), ptr (d 9).1, .int .i64 ((d 9).2 : Nat), ptr (d 10).1, .int .i64 ((d 10).2 : Nat), ptr (d 11).1, .int .i64 ((d 11).2 : Nat), ptr (d 12).1, .int .i64 ((d 12).2 : Nat), ptr (d 13).1, .int .i64 ((d 13).2 : Nat), ptr (d 14).1, .int .i64 ((d 14).2 : Nat), ptr (d 15).1, .int .i64 ((d 15).2 : Nat), ptr (d 16).1, .int .i64 ((d 16).2 : Nat), ptr (d 17).1, .int .i64 ((d 17).2 : Nat), ptr (d 18).1, .int .i64 ((d 18).2 : Nat), ptr (d 19).1, .int .i64 ((d 19).2 : Nat), ptr (d 20).1, .int .i64 ((d 20).2 : Nat), ptr (d 21).1, .int .i64 ((d 21).2 : Nat), ptr (d 22).1, .int .i64 ((d 22).2 : Nat), ptr (d 23).1, .int .i64 ((d 23).2 : Nat)] := rfl
theorem idx0 (d : Nat → Lk) (w : World) : (Instr.index 132 (.agg (flat2 d 24).toArray) (.int .i64 0)).run Tryd.prog w = .ok (.agg #[ptr (d 0).1, .int .i64 ((d 0).2 : Nat)]) w := by
  rw [flat24]
  kernel_rfl
theorem fld0 (a b : Value) (w : World) : (Instr.field 130 (.agg #[a, b]) 0).run Tryd.prog w = .ok a w := by kernel_rfl
theorem fld1 (a b : Value) (w : World) : (Instr.field 130 (.agg #[a, b]) 1).run Tryd.prog w = .ok b w := by kernel_rfl
theorem prv_zero {hs : List Nat} {k p : Nat} (hpos : ∀ h ∈ hs, 1 ≤ h) (hk : k ≤ hs.length) (hp : IsPrv hs 0 k p) : p = k := by
  rcases Nat.lt_or_ge p k with h | h
  · refine absurd ?_ (hp.last k h (Nat.le_refl _))
    refine Or.inr ⟨hs[k - 1], List.getElem?_eq_getElem (by omega), ?_⟩
    have := hpos _ (List.getElem_mem (l := hs) (n := k - 1) (by omega))
    omega
  · have := hp.le; omega
theorem Wy.zero {S : SkS} {k : Nat} {d : Nat → Lk} (hw : Wy S k 0 d) (hpos : ∀ h ∈ hts S.T, 1 ≤ h) (hk : k ≤ S.T.length) (hH : 0 < S.H) : d 0 = (pAt S.hb S.T k, k) := by
  obtain ⟨p, hp, e⟩ := hw.1 0 (Nat.le_refl _) hH
  rw [prv_zero hpos (by rw [hts_len]; exact hk) hp] at e
  exact e
set_option maxHeartbeats 1000000 in
set_option maxRecDepth 100000 in
theorem ahead1_any (a b B : Nat) (x y : En) (pl : Value) (w : World) (hB : w.cell? ⟨B, 0, none⟩ = some (.pointer (some ⟨b, 0, none⟩))) (a0 : w.cell? ⟨a, 0, none⟩ = some (.string x.1)) (a1 : w.cell? ⟨a, 1, none⟩ = some (.int .i64 x.2.1)) (b0 : w.cell? ⟨b, 0, none⟩ = some (.string y.1)) (b1 : w.cell? ⟨b, 1, none⟩ = some (.int .i64 y.2.1)) : Calls Tryd.prog 89 #[.pointer (some ⟨a, 0, none⟩), pl, .pointer (some ⟨B, 0, none⟩)] w fun e w' => e = .returned (.bool (ahd x y)) ∧ Below w.heap.size w w' := by
  have HI : Hid _ := isAhead_any a b x y w a0 a1 b0 b1
  clear a0 a1 b0 b1
  go_enter Tryd.func89, Tryd.ntmps89
  go_wp2_with fail
  refine (show Calls _ _ _ _ _ from HI.out).mono ?_
  rintro e w1 ⟨rfl, hb1⟩
  have HB : Hid _ := hb1
  clear hb1
  go_wp2
  go_returns
  exact ⟨rfl, HB.out⟩
theorem tow_cells {W : World} {b : Nat} {t : Tw} {pv : Option Nat} {T : Nat} (h : Blk W b (towL t pv) T) : W.cell? ⟨b, 0, none⟩ = some (.string t.e.1) ∧ W.cell? ⟨b, 1, none⟩ = some (.int .i64 t.e.2.1) := by
  rw [h.cell, h.cell]; exact ⟨rfl, rfl⟩
set_option maxHeartbeats 2000000 in
set_option maxRecDepth 100000 in
theorem ahead_any (g : Nat) (S : SkS) (C : Nat → Nat) (n : Nat) (pv : Nat → Option Nat) (k tb : Nat) (x : En) (w : World) (h : Sk w g S C n (lnk S.hb S.T) pv) (hk : k ≤ S.T.length) (hH : S.H ≤ 24) (hn : S.T.length ≤ 1099511627776) (x0 : w.cell? ⟨tb, 0, none⟩ = some (.string x.1)) (x1 : w.cell? ⟨tb, 1, none⟩ = some (.int .i64 x.2.1)) (hA : ∀ q (hq : q < S.T.length), ahd S.T[q].e x = decide (q < k)) : Calls Tryd.prog 70 #[.pointer (some ⟨g, 0, none⟩), .pointer (some ⟨tb, 0, none⟩)] w fun e w' => ∃ d, e = .returned (.agg (flat2 d 24).toArray) ∧ Wy S k 0 d ∧ Below w.heap.size w w' := by
  obtain ⟨W0, hW0⟩ : ∃ W0, W0 = (w.alloc (.cells #[.pointer (some ⟨tb, 0, none⟩)] 120)).alloc (.cells #[.pointer none, .int .i64 0, .pointer none, .int .i64 0, .pointer none, .int .i64 0, .pointer none, .int .i64 0, .pointer none, .int .i64 0, .pointer none, .int .i64 0, .pointer none, .int .i64 0, .pointer none, .int .i64 0, .pointer none, .int .i64 0, .pointer none, .int .i64 0, .pointer none, .int .i64 0, .pointer none, .int .i64 0, .pointer none, .int .i64 0, .pointer none, .int .i64 0, .pointer none, .int .i64 0, .pointer none, .int .i64 0, .pointer none, .int .i64 0, .pointer none, .int .i64 0, .pointer none, .int .i64 0, .pointer none, .int .i64 0, .pointer none, .int .i64 0, .pointer none, .int .i64 0, .pointer none, .int .i64 0, .pointer none, .int .i64 0] 132) := ⟨_, rfl⟩
  obtain ⟨R, hR⟩ : ∃ R, R = w.heap.size + 1 := ⟨_, rfl⟩
  obtain ⟨X, hX⟩ : ∃ X, X = w.heap.size := ⟨_, rfl⟩
  have hb0 : Below w.heap.size w W0 := by
    rw [hW0]
    repeat (refine Below.alloc ?_ (by simp) _)
    exact Below.refl _ _
  have hB0 : Blk W0 X [.pointer (some ⟨tb, 0, none⟩)] 120 := by
    unfold Blk
    rw [hW0, hX, heap_alloc_old _ _ (by simp)]
    exact heap_alloc_new _ _
  have hR0 : Blk W0 R (flat2 (fun _ => (none, 0)) 24) 132 := by
    unfold Blk
    rw [hW0, hR, zero24]
    have := heap_alloc_new (w.alloc (.cells #[.pointer (some ⟨tb, 0, none⟩)] 120)) (.cells #[.pointer none, .int .i64 0, .pointer none, .int .i64 0, .pointer none, .int .i64 0, .pointer none, .int .i64 0, .pointer none, .int .i64 0, .pointer none, .int .i64 0, .pointer none, .int .i64 0, .pointer none, .int .i64 0, .pointer none, .int .i64 0, .pointer none, .int .i64 0, .pointer none, .int .i64 0, .pointer none, .int .i64 0, .pointer none, .int .i64 0, .pointer none, .int .i64 0, .pointer none, .int .i64 0, .pointer none, .int .i64 0, .pointer none, .int .i64 0, .pointer none, .int .i64 0, .pointer none, .int .i64 0, .pointer none, .int .i64 0, .pointer none, .int .i64 0, .pointer none, .int .i64 0, .pointer none, .int .i64 0, .pointer none, .int .i64 0] 132)
    simpa using this
  have hT : Tst W0 S.hb S.T k 89 (.pointer (some ⟨X, 0, none⟩)) := fun q hq W' hW' => by
    have hsk := (h.below hb0).below hW'
    obtain ⟨y0, y1⟩ := tow_cells (hsk.tow q hq)
    have hbx := cells_below hB0 hW'
    have hbb := hb0.trans (hW'.mono hb0.size)
    rw [← hA q hq]
    exact ahead1_any _ _ X _ x _ W' (by rw [hbx.cell]; rfl) y0 y1 (cell_on x0 hbb) (cell_on x1 hbb)
  have HS : Hid _ := seek_any g S C n pv k 89 Tryd.call89 _ W0 (h.below hb0) hk hH hn hT
  have HB0 : Hid _ := hb0
  have HR0 : Hid _ := hR0
  have HRw : Hid (w.heap.size ≤ R) := by show _ ≤ _; omega
  clear h hA hT hb0 hB0 hR0 x0 x1
  go_enter Tryd.func70, Tryd.ntmps70
  go_wp2_with fail
  rw [← hW0, ← hR, ← hX]
  clear hW0 hR hX
  refine (show Calls _ _ _ _ _ from HS.out).mono ?_
  rintro e w1 ⟨d, rfl, hw, hb1⟩
  have HW : Hid _ := hw
  have HB1 : Hid (Below w.heap.size w w1) := bel_to HB0.out hb1 (Nat.le_refl _)
  have HR1 : Hid _ := cells_below HR0.out hb1
  clear hw hb1
  go_wp2_with (first | (refine wpList_store_row rfl 132 _ _ rfl R _ rfl rfl _ _ HR1.out (infoW d) (sizeW _ d) (oneW d) ?_))
  refine ⟨rfl, _, results_cell_row (p := 4) (ty := 132) rfl _ _ R _ _ _ _ rfl (setRow_heap _ _ _ _ _ _ HR1.out) Tryd.underlying132 rfl (infoW d), ?_⟩
  exact ⟨d, rfl, HW.out, HB1.out.trans ⟨rfl, rfl, rfl, by rw [setRow_size]; exact Nat.le_refl _, fun q hq => setRow_other _ _ _ _ (by have := HRw.out; omega)⟩⟩
set_option maxHeartbeats 1000000 in
set_option maxRecDepth 100000 in
theorem tower1_any (tv : Value) (pl : Nat) (B : Nat) (r : Int) (hr : -1 ≤ r ∧ r ≤ 4398046511104) (w : World) (hB : w.cell? ⟨B, 0, none⟩ = some (.int .i64 r)) : Calls Tryd.prog 91 #[tv, .int .i64 (pl : Int), .pointer (some ⟨B, 0, none⟩)] w fun e w' => e = .returned (.bool (decide ((pl : Int) ≤ r + 1))) ∧ Below w.heap.size w w' := by
  have e1 : IntKind.i64.wrap (r + 1) = r + 1 := by rw [IntKind.wrap_i64] <;> omega
  go_enter Tryd.func91, Tryd.ntmps91
  go_wp2
  go_returns
  exact ⟨by first | rfl | simp [*], Below.refl _ _⟩
set_option maxHeartbeats 2000000 in
set_option maxRecDepth 100000 in
theorem tower_any (g : Nat) (S : SkS) (C : Nat → Nat) (n : Nat) (pv : Nat → Option Nat) (k : Nat) (r : Int) (hr : -1 ≤ r ∧ r ≤ 4398046511104) (w : World) (h : Sk w g S C n (lnk S.hb S.T) pv) (hk : k ≤ S.T.length) (hkr : ∀ q, q < S.T.length → (((q + 1 : Nat) : Int) ≤ r + 1 ↔ q < k)) (hH : S.H ≤ 24) (hn : S.T.length ≤ 1099511627776) (hpos : ∀ h ∈ hts S.T, 1 ≤ h) : Calls Tryd.prog 71 #[.pointer (some ⟨g, 0, none⟩), .int .i64 r] w fun e w' => ∃ o, e = .returned (ptr o) ∧ (0 < S.H → o = pAt S.hb S.T k) ∧ Below w.heap.size w w' := by
  obtain ⟨W0, hW0⟩ : ∃ W0, W0 = w.alloc (.cells #[.int .i64 r] 3) := ⟨_, rfl⟩
  obtain ⟨X, hX⟩ : ∃ X, X = w.heap.size := ⟨_, rfl⟩
  have hb0 : Below w.heap.size w W0 := by
    rw [hW0]
    repeat (refine Below.alloc ?_ (by simp) _)
    exact Below.refl _ _
  have hB0 : Blk W0 X [.int .i64 r] 3 := by
    unfold Blk
    rw [hW0, hX]
    exact heap_alloc_new _ _
  have hT : Tst W0 S.hb S.T k 91 (.pointer (some ⟨X, 0, none⟩)) := fun q hq W' hW' => by
    have hbx := cells_below hB0 hW'
    have e : decide (q < k) = decide (((q + 1 : Nat) : Int) ≤ r + 1) := by rw [decide_eq_decide]; exact (hkr q hq).symm
    rw [e]
    exact tower1_any _ _ X r hr W' (by rw [hbx.cell]; rfl)
  have HS : Hid _ := seek_any g S C n pv k 91 Tryd.call91 _ W0 (h.below hb0) hk hH hn hT
  have HB0 : Hid _ := hb0
  have HPO : Hid _ := hpos
  clear h hkr hT hb0 hB0 hpos
  go_enter Tryd.func71, Tryd.ntmps71
  go_wp2_with fail
  rw [← hW0, ← hX]
  clear hW0 hX
  refine (show Calls _ _ _ _ _ from HS.out).mono ?_
  rintro e w1 ⟨d, rfl, hw, hb1⟩
  have HW : Hid _ := hw
  have HB1 : Hid (Below w.heap.size w w1) := bel_to HB0.out hb1 (Nat.le_refl _)
  have HD : Hid (0 < S.H → (d 0).1 = pAt S.hb S.T k) := fun h0 => by rw [hw.zero HPO.out hk h0]
  clear hw hb1
  have hidx := idx0 d w1
  generalize (flat2 d 24).toArray = A at *
  generalize d 0 = d0 at *
  have hfl := fld0 (ptr d0.1) (.int .i64 (d0.2 : Nat)) w1
  go_wp2
  go_returns
  exact ⟨_, rfl, HD.out, HB1.out⟩
end Go.Proofs.YtgbplghokciimaaDoor.S
