import Derived.Test.YtgbplghokciimaaDoorSpA
import Derived.Deep.CutRange
import Derived.Deep.RegionWith
namespace Go.Proofs.YtgbplghokciimaaDoor.I
open Go.RowKit
set_option linter.unusedVariables false
set_option maxHeartbeats 800000 in
set_option maxRecDepth 100000 in
theorem scoreEnd_eq (a f : Int) (o : Bool) (w : World) : Calls Tryd.prog 79 #[bv a f o] w fun e w' => e = .returned (bv a f o) ∧ w' = (w.alloc (.cells #[.int .i64 a, .int .i64 f, .bool o] 28)).alloc (.cells #[.int .i64 a, .int .i64 f, .bool o] 143) := by
  go_enter Tryd.func79, Tryd.ntmps79
  go_wp2
  go_returns
  exact ⟨rfl, rfl⟩
theorem at_newN {w : World} {o : Obj} {k : Nat} (h : k = w.heap.size) : (w.alloc o).heap[k]? = some o := by subst h; exact one_alloc w o
theorem at_old {w : World} {o p : Obj} {k : Nat} (h : w.heap[k]? = some p) : (w.alloc o).heap[k]? = some p := (heap_alloc_old _ _ (row_lt h)).trans h
theorem Wy.place {W : World} {g : Nat} {S : SkS} {N k : Nat} {d : Nat → Lk} (h : Bd W g S N) (hw : Wy S k 0 d) (hk : k ≤ S.T.length) : (d 0).2 = k := by
  by_cases hH : 0 < S.H
  · rw [hw.zero h.pos hk hH]
  · have hT : S.T.length = 0 := by
      rcases Nat.eq_zero_or_pos S.T.length with q | q
      · exact q
      · have h1 := h.pos S.T[0].h (List.mem_map.2 ⟨_, List.getElem_mem q, rfl⟩)
        have h2 := h.top.le S.T[0].h (List.mem_map.2 ⟨_, List.getElem_mem q, rfl⟩)
        omega
    rw [hw.2 0 (by omega)]
    show 0 = k
    omega
set_option maxHeartbeats 4000000 in
set_option maxRecDepth 100000 in
theorem span_any (g : Nat) (S : SkS) (N : Nat) (lo hi : SBd) (w : World) (h : Bd w g S N) (hN : N ≤ 1000000) : Calls Tryd.prog 55 #[.pointer (some ⟨g, 0, none⟩), bdV lo, bdV hi] w fun e w' => e = .returned (.tuple #[.int .i64 (kLo (ens S.T) lo : Int), .int .i64 (kHi (ens S.T) hi : Int)]) ∧ Below w.heap.size w w' := by
  obtain ⟨l0, l1, l2⟩ := lo
  obtain ⟨h0, h1, h2⟩ := hi
  have HBD : Hid (Bd w g S N) := h
  obtain ⟨W0, hW0⟩ : ∃ W0, W0 = (w.alloc (.cells #[.int .i64 l0, .int .i64 l1, .bool l2] 28)).alloc (.cells #[.int .i64 h0, .int .i64 h1, .bool h2] 28) := ⟨_, rfl⟩
  have hbW : Below w.heap.size w W0 := by
    rw [hW0]
    repeat (refine Below.alloc ?_ (by simp <;> omega) _)
    exact Below.refl _ _
  have hq0 : W0.heap[w.heap.size]? = some (.cells #[.int .i64 l0, .int .i64 l1, .bool l2] 28) := by rw [hW0, heap_alloc_old _ _ (by simp)]; exact heap_alloc_new _ _
  have hq1 : W0.heap[w.heap.size + 1]? = some (.cells #[.int .i64 h0, .int .i64 h1, .bool h2] 28) := by
    rw [hW0]
    have := heap_alloc_new (w.alloc (.cells #[.int .i64 l0, .int .i64 l1, .bool l2] 28)) (.cells #[.int .i64 h0, .int .i64 h1, .bool h2] 28)
    simpa using this
  obtain ⟨lb, hlb⟩ : ∃ lb, w.heap.size = lb := ⟨_, rfl⟩
  obtain ⟨hb, hhb⟩ : ∃ hb, lb + 1 = hb := ⟨_, rfl⟩
  have HBW : Hid (Below w.heap.size w W0) := hbW
  rw [hlb] at hq0
  rw [hlb, hhb] at hq1
  have x0 : W0.cell? ⟨lb, 0, none⟩ = some (.int .i64 l0) := by rw [cell_of_row _ _ _ _ _ _ hq0]; rfl
  have x1 : W0.cell? ⟨lb, 1, none⟩ = some (.int .i64 l1) := by rw [cell_of_row _ _ _ _ _ _ hq0]; rfl
  have x2 : W0.cell? ⟨lb, 2, none⟩ = some (.bool l2) := by rw [cell_of_row _ _ _ _ _ _ hq0]; rfl
  have y0 : W0.cell? ⟨hb, 0, none⟩ = some (.int .i64 h0) := by rw [cell_of_row _ _ _ _ _ _ hq1]; rfl
  have y1 : W0.cell? ⟨hb, 1, none⟩ = some (.int .i64 h1) := by rw [cell_of_row _ _ _ _ _ _ hq1]; rfl
  have y2 : W0.cell? ⟨hb, 2, none⟩ = some (.bool h2) := by rw [cell_of_row _ _ _ _ _ _ hq1]; rfl
  have hll : lb < W0.heap.size := row_lt hq0
  have hhl : hb < W0.heap.size := row_lt hq1
  clear h hbW hq0 hq1
  go_enter Tryd.func55, Tryd.ntmps55
  go_upto_region 1 with fail
  rw [← hW0]
  clear hW0 hlb hhb
  go_cut [8, 9] from 8 to 15 (fun s8 s9 wx => ∃ B8 B9 : Nat, s8 = .pointer (some ⟨B8, 0, none⟩) ∧ s9 = .pointer (some ⟨B9, 0, none⟩) ∧ wx.heap[B8]? = some (.cells #[.int .i64 l0, .int .i64 l1, .bool l2] 143) ∧ wx.heap[B9]? = some (.cells #[.int .i64 h0, .int .i64 h1, .bool h2] 143) ∧ Below W0.heap.size W0 wx)
  case first =>
    have hd : Below W0.heap.size W0 W0.drew := (Below.refl _ W0).drew
    have ne1 : ∀ j, lb ≠ W0.heap.size + j := fun j => by omega
    have ne2 : ∀ j, hb ≠ W0.heap.size + j := fun j => by omega
    have hSA := And.intro x0 (And.intro x1 (And.intro x2 (And.intro y0 (And.intro y1 y2))))
    have HKS : Hid (∀ w' : World, Below W0.heap.size W0 w' → w'.cell? ⟨lb, 0, none⟩ = some (.int .i64 l0) ∧ w'.cell? ⟨lb, 1, none⟩ = some (.int .i64 l1) ∧ w'.cell? ⟨lb, 2, none⟩ = some (.bool l2) ∧ w'.cell? ⟨hb, 0, none⟩ = some (.int .i64 h0) ∧ w'.cell? ⟨hb, 1, none⟩ = some (.int .i64 h1) ∧ w'.cell? ⟨hb, 2, none⟩ = some (.bool h2)) := fun w' hb2' => ⟨cell_on x0 hb2', cell_on x1 hb2', cell_on x2 hb2', cell_on y0 hb2', cell_on y1 hb2', cell_on y2 hb2'⟩
    go_region_held3 (fun w' : World => w'.cell? ⟨lb, 0, none⟩ = some (.int .i64 l0) ∧ w'.cell? ⟨lb, 1, none⟩ = some (.int .i64 l1) ∧ w'.cell? ⟨lb, 2, none⟩ = some (.bool l2) ∧ w'.cell? ⟨hb, 0, none⟩ = some (.int .i64 h0) ∧ w'.cell? ⟨hb, 1, none⟩ = some (.int .i64 h1) ∧ w'.cell? ⟨hb, 2, none⟩ = some (.bool h2))
      (first | exact hSA | exact HKS.out _ (by repeat (first | exact Below.refl _ _ | refine Below.drew ?_ | refine Below.alloc ?_ (by simp <;> omega) _ | refine Below.setCell ?_ (by simp <;> omega) _)))
      (first | (go_at_call 79; refine (scoreEnd_eq _ _ _ _).mono ?_; rintro e w2 ⟨rfl, rfl⟩))
    all_goals
      go_wp2_with fail
      go_meet
      refine ⟨_, _, rfl, rfl, ?_, ?_, ?_⟩
      · show (World.alloc _ _).heap[_]? = _
        repeat (first | (refine at_newN ?_; simp; done) | refine at_old ?_)
      · show (World.alloc _ _).heap[_]? = _
        repeat (first | (refine at_newN ?_; simp; done) | refine at_old ?_)
      · repeat (first | exact Below.refl _ _ | refine Below.drew ?_ | refine Below.alloc ?_ (by simp <;> omega) _)
  case rest =>
    obtain ⟨B8, B9, rfl, rfl, hr8, hr9, hbc⟩ := hcut
    have hbw : Below w.heap.size w wc := bel_to HBW.out hbc (Nat.le_refl _)
    have HBc : Hid (Below w.heap.size w wc) := hbw
    have HR8 : Hid (wc.heap[B8]? = some (.cells #[.int .i64 l0, .int .i64 l1, .bool l2] 143)) := hr8
    have HR9 : Hid (wc.heap[B9]? = some (.cells #[.int .i64 h0, .int .i64 h1, .bool h2] 143)) := hr9
    have hbd := HBD.out.below hbw
    have hbr := hbd.brd
    have hkl : kLo (ens S.T) (l0, l1, l2) ≤ S.T.length := by have := kLo_le (ens S.T) (l0, l1, l2); rw [ens_len] at this; exact this
    have hkh : kHi (ens S.T) (h0, h1, h2) ≤ S.T.length := by have := kHi_le (ens S.T) (h0, h1, h2); rw [ens_len] at this; exact this
    have hT1 : Tst wc S.hb S.T (kLo (ens S.T) (l0, l1, l2)) 80 (.pointer (some ⟨B8, 0, none⟩)) := fun q hq W' hW' => by
      obtain ⟨y0, y1⟩ := tow_cells ((hbd.sk.below hW').tow q hq)
      have hrw := keep_row HR8.out hW'
      have := kLo_dec hbr (l0, l1, l2) q (by rw [ens_len]; exact hq)
      rw [List.getElem_map] at this
      rw [← this]
      exact span1_any _ B8 _ _ l0 l1 l2 W' y1 (by rw [cell_of_row _ _ _ _ _ _ hrw]; rfl) (by rw [cell_of_row _ _ _ _ _ _ hrw]; rfl) (by rw [cell_of_row _ _ _ _ _ _ hrw]; rfl)
    have HS1 : Hid _ := seek_any g S (cntT S.T) S.T.length (pAt S.hb S.T) (kLo (ens S.T) (l0, l1, l2)) 80 Tryd.call80 _ wc hbd.sk hkl hbd.h24 (by have := hbd.len; omega) hT1
    have HK2 : Hid (∀ W', Below wc.heap.size wc W' → Calls Tryd.prog 62 #[.pointer (some ⟨g, 0, none⟩), .func (.func 82) #[] #[.pointer (some ⟨B9, 0, none⟩)]] W' fun e w' => ∃ d, e = .returned (.agg (flat2 d 24).toArray) ∧ Wy S (kHi (ens S.T) (h0, h1, h2)) 0 d ∧ Below W'.heap.size W' w') := fun W' hW1 => by
      have hbd2 := hbd.below hW1
      refine seek_any g S (cntT S.T) S.T.length (pAt S.hb S.T) (kHi (ens S.T) (h0, h1, h2)) 82 Tryd.call82 _ W' hbd2.sk hkh hbd2.h24 (by have := hbd2.len; omega) (fun q hq W2 hW2 => ?_)
      obtain ⟨y0, y1⟩ := tow_cells ((hbd2.sk.below hW2).tow q hq)
      have hrw := keep_row (keep_row HR9.out hW1) hW2
      have := kHi_dec hbr (h0, h1, h2) q (by rw [ens_len]; exact hq)
      rw [List.getElem_map] at this
      rw [← this]
      exact span2_any _ B9 _ _ h0 h1 h2 W2 y1 (by rw [cell_of_row _ _ _ _ _ _ hrw]; rfl) (by rw [cell_of_row _ _ _ _ _ _ hrw]; rfl) (by rw [cell_of_row _ _ _ _ _ _ hrw]; rfl)
    have HP1 : Hid (∀ d, Wy S (kLo (ens S.T) (l0, l1, l2)) 0 d → (d 0).2 = kLo (ens S.T) (l0, l1, l2)) := fun d hw => Wy.place hbd hw hkl
    have HP2 : Hid (∀ d, Wy S (kHi (ens S.T) (h0, h1, h2)) 0 d → (d 0).2 = kHi (ens S.T) (h0, h1, h2)) := fun d hw => Wy.place hbd hw hkh
    have hmf : ∀ (fn : Fn) (first cap : Array Value) (w : World), (Instr.makeFunc fn first cap).run Tryd.prog w = .ok (.func fn first cap) w := fun _ _ _ _ => rfl
    clear hr8 hr9 hbc hbw hbd hbr hkl hkh hT1 x0 x1 x2 y0 y1 y2 hll hhl
    generalize hK1 : kLo (ens S.T) (l0, l1, l2) = K1 at *
    generalize hK2 : kHi (ens S.T) (h0, h1, h2) = K2 at *
    have HK1 : Hid (kLo (ens S.T) (l0, l1, l2) = K1) := hK1
    have HKK2 : Hid (kHi (ens S.T) (h0, h1, h2) = K2) := hK2
    clear hK1 hK2
    go_wp2_with fail
    refine (show Calls _ _ _ _ _ from HS1.out).mono ?_
    rintro e w2 ⟨d, rfl, hw, hb2⟩
    have hp1 := HP1.out d hw
    obtain ⟨W3, hW3⟩ : ∃ W3, W3 = w2.alloc (.cells (flat2 d 24).toArray 77) := ⟨_, rfl⟩
    have HW3 : Hid (W3 = w2.alloc (.cells (flat2 d 24).toArray 77)) := hW3
    have hb3 : Below w2.heap.size w2 W3 := by rw [hW3]; exact (Below.refl _ _).alloc (Nat.le_refl _) _
    have HB3 : Hid (Below wc.heap.size wc W3) := bel_to hb2 hb3 (Nat.le_refl _)
    have HY3 : Hid (Blk W3 w2.heap.size (flat2 d 24) 77) := by rw [hW3]; exact one_alloc _ _
    have HZ : Hid (Blk (w2.alloc (.cells (flat2 (fun _ => (none, 0)) 24).toArray 77)) w2.heap.size (flat2 (fun _ => (none, 0)) 24) 77) := one_alloc _ _
    have HCA : Hid _ := HK2.out W3 HB3.out
    have HPL : Hid ((d 0).2 = K1) := hp1
    rw [zero24] at HZ
    clear hw hb2 hb3 hW3 hp1
    go_wp2_with (first | (refine wpList_store_row rfl 77 _ _ rfl w2.heap.size _ rfl rfl _ _ HZ.out (infoW d) (by rw [← zero24]; exact sizeW _ d) (oneW d) ?_; rw [World.setRow_alloc_new, ← HW3.out]))
    refine (show Calls _ _ _ _ _ from HCA.out).mono ?_
    rintro e w5 ⟨d2, rfl, hw, hb5⟩
    have hp2 := HP2.out d2 hw
    obtain ⟨R1, hR1⟩ : ∃ R1, w2.heap.size = R1 := ⟨_, rfl⟩
    rw [hR1] at HY3 ⊢
    obtain ⟨W6, hW6⟩ : ∃ W6, W6 = w5.alloc (.cells (flat2 d2 24).toArray 77) := ⟨_, rfl⟩
    have HW6 : Hid (W6 = w5.alloc (.cells (flat2 d2 24).toArray 77)) := hW6
    have hb6 : Below w5.heap.size w5 W6 := by rw [hW6]; exact (Below.refl _ _).alloc (Nat.le_refl _) _
    have HB6 : Hid (Below w.heap.size w W6) := bel_to HBc.out (bel_to HB3.out (bel_to hb5 hb6 (Nat.le_refl _)) (Nat.le_refl _)) (Nat.le_refl _)
    have HY6 : Hid (Blk W6 w5.heap.size (flat2 d2 24) 77) := by rw [hW6]; exact one_alloc _ _
    have HY3' : Hid (Blk W6 R1 (flat2 d 24) 77) := cells_below (cells_below HY3.out hb5) hb6
    have HZ2 : Hid (Blk (w5.alloc (.cells (flat2 (fun _ => (none, 0)) 24).toArray 77)) w5.heap.size (flat2 (fun _ => (none, 0)) 24) 77) := one_alloc _ _
    rw [zero24] at HZ2
    obtain ⟨_, a1⟩ := flat2_get d 24 0 (by omega)
    obtain ⟨_, a2⟩ := flat2_get d2 24 0 (by omega)
    have c1 : W6.cell? ⟨R1, 1, none⟩ = some (.int .i64 (K1 : Int)) := by rw [HY3'.out.cell, ← HPL.out]; exact a1
    have c2 : W6.cell? ⟨w5.heap.size, 1, none⟩ = some (.int .i64 (K2 : Int)) := by rw [HY6.out.cell, ← hp2]; exact a2
    clear hw hb5 hb6 hW6 hp2 hR1 a1 a2
    go_wp2_with (first | (refine wpList_store_row rfl 77 _ _ rfl w5.heap.size _ rfl rfl _ _ HZ2.out (infoW d2) (by rw [← zero24]; exact sizeW _ d2) (oneW d2) ?_; rw [World.setRow_alloc_new, ← HW6.out]))
    go_quiet (fail)
    go_wp2
    go_returns
    refine ⟨by rw [HK1.out, HKK2.out]; first | rfl | (simp; done), ?_⟩
    repeat (first | exact HB6.out | refine below_dn ?_ _)
set_option maxHeartbeats 1000000 in
set_option maxRecDepth 100000 in
theorem Count_any (g : Nat) (S : SkS) (N : Nat) (lo hi : SBd) (w : World) (h : Bd w g S N) (hN : N ≤ 1000000) : Calls Tryd.prog 53 #[.pointer (some ⟨g, 0, none⟩), bdV lo, bdV hi] w fun e w' => e = .returned (.int .i64 ((rngS (ens S.T) lo hi).length : Int)) ∧ Below w.heap.size w w' := by
  have hbr := h.brd
  have hlen := h.len
  have HLE : Hid ((rngS (ens S.T) lo hi).length = kHi (ens S.T) hi - kLo (ens S.T) lo) := by
    show _ = _
    rw [rngS_eq hbr, List.length_drop, List.length_take]
    have := kHi_le (ens S.T) hi
    omega
  have hk1 := kLo_le (ens S.T) lo
  have hk2 := kHi_le (ens S.T) hi
  rw [ens_len] at hk1 hk2
  obtain ⟨l0, l1, l2⟩ := lo
  obtain ⟨h0, h1, h2⟩ := hi
  obtain ⟨W0, hW0⟩ : ∃ W0, W0 = (w.alloc (.cells #[.int .i64 l0, .int .i64 l1, .bool l2] 28)).alloc (.cells #[.int .i64 h0, .int .i64 h1, .bool h2] 28) := ⟨_, rfl⟩
  have hbW : Below w.heap.size w W0 := by
    rw [hW0]
    repeat (refine Below.alloc ?_ (by simp <;> omega) _)
    exact Below.refl _ _
  have HBW : Hid (Below w.heap.size w W0) := hbW
  have HSP : Hid _ := span_any g S N (l0, l1, l2) (h0, h1, h2) W0 (h.below hbW) hN
  clear h hbW hbr
  generalize kLo (ens S.T) (l0, l1, l2) = K1 at *
  generalize kHi (ens S.T) (h0, h1, h2) = K2 at *
  generalize (rngS (ens S.T) (l0, l1, l2) (h0, h1, h2)).length = M at *
  have hw1 : IntKind.i64.wrap ((K2 : Int) - (K1 : Int)) = (K2 : Int) - (K1 : Int) := by rw [IntKind.wrap_i64] <;> omega
  go_enter Tryd.func53, Tryd.ntmps53
  go_wp2_with fail
  rw [← hW0]
  clear hW0
  refine (show Calls _ _ _ _ _ from HSP.out).mono ?_
  rintro e w1 ⟨rfl, hb1⟩
  have HB1 : Hid (Below w.heap.size w w1) := bel_to HBW.out hb1 (Nat.le_refl _)
  clear hb1
  have hM := HLE.out
  by_cases hc : (K2 : Int) - (K1 : Int) < 0
  · have HMM : Hid ((M : Int) = 0) := by show _ = _; omega
    have hmx : (if (K2 : Int) - (K1 : Int) < 0 then (0 : Int) else (K2 : Int) - (K1 : Int)) = 0 := if_pos hc
    clear hM
    go_wp2
    all_goals
      go_returns
      exact ⟨by rw [HMM.out]; first | rfl | (simp; done) | (simp; omega), HB1.out⟩
  · have HMM : Hid ((M : Int) = (K2 : Int) - (K1 : Int)) := by show _ = _; omega
    have hmx : (if (K2 : Int) - (K1 : Int) < 0 then (0 : Int) else (K2 : Int) - (K1 : Int)) = (K2 : Int) - (K1 : Int) := if_neg hc
    clear hM
    go_wp2
    all_goals
      go_returns
      exact ⟨by rw [HMM.out]; first | rfl | (simp; done) | (simp; omega), HB1.out⟩
end Go.Proofs.YtgbplghokciimaaDoor.I
