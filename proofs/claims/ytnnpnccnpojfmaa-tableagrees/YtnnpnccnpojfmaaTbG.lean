import Derived.Test.YtnnpnccnpojfmaaTbF
import Derived.Test.YtnnpnccnpojfmaaTbR
import Derived.Test.YtnnpnccnpojfmaaTbA
namespace Go.Proofs.Ytnnpnccnpojfmaa
open Go.RowKit
set_option linter.unusedVariables false
set_option linter.unusedSimpArgs false
abbrev TabAt (W : World) (G : Nat) : Prop := W.heap[G]? = some (.cells TB.tabCells.toArray 53)
theorem tab_cell {W : World} {G : Nat} (h : TabAt W G) (i : Nat) (r : Rw) (hr : TB.tab[i]? = some r) (j : Nat) (hj : j < 8) : W.cell? ⟨G, i * 8 + j, none⟩ = (TB.cells r)[j]? := by
  obtain ⟨hi, e⟩ := List.getElem?_eq_some_iff.1 hr
  subst e
  rw [cell_of_row _ _ _ _ _ _ h, List.getElem?_toArray]
  exact TB.tabCells_get i j hi hj
theorem u8_beq (c k : UInt8) : (c == k) = (c.toNat == k.toNat) := by
  rw [Bool.eq_iff_iff, beq_iff_eq, beq_iff_eq]
  exact ⟨fun h => by rw [h], fun h => UInt8.toNat_inj.1 h⟩
theorem spec_u8 (r : Rw) : TB.spec (some r) = .agg #[.string r.nm, .int .i64 r.le, .int .i64 r.mo, .bool (r.wh == 119), .bool (r.wh == 97), .bool (r.wh == 83), .int .i64 r.fi, .int .i64 r.la, .int .i64 r.st, .int .i64 r.co] := by
  rw [u8_beq, u8_beq, u8_beq]; rfl
set_option maxHeartbeats 2000000 in
set_option maxRecDepth 20000 in
theorem rfind_any (s : ByteArray) (hs : s.size ≤ 140737488351232) (w : World) : Calls Try.prog 18 #[.string s] w fun e w' => e = .returned (.tuple #[TB.spec (TB.find (TB.low s.data.toList)), .bool (TB.find (TB.low s.data.toList)).isSome]) ∧ Below w.heap.size w w' := by
  obtain ⟨L, hL⟩ : ∃ L, TB.low s.data.toList = L := ⟨_, rfl⟩
  have HLW : Hid _ := rlower_any s (by omega)
  rw [hL] at HLW ⊢
  obtain ⟨lo, hlo⟩ : ∃ lo, strB L = lo := ⟨_, rfl⟩
  have HLO : Hid (lo.data.toList = L) := by show _ = _; rw [← hlo, strB_list]
  rw [hlo] at HLW
  clear hL hlo
  have HRW : Hid _ := rows_any
  go_enter Try.func18, Try.ntmps18
  go_wp2_with fail
  refine (show Calls _ _ _ _ _ from HLW.out _).mono ?_
  rintro e w1 ⟨rfl, hb1⟩
  have HG1 : Hid (w1.heap[w.heap.size]? = some zspec) := keep_row (one_alloc w _) hb1
  have HB1 : Hid (Below w.heap.size w w1) := bel_to ((Below.refl _ w).alloc (Nat.le_refl _) _) hb1 (Nat.le_refl _)
  clear hb1 HLW
  go_wp2_with fail
  refine (show Calls _ _ _ _ _ from HRW.out _).mono ?_
  rintro e w2 ⟨rfl, hw2⟩
  have HT2 : Hid (TabAt w2 w1.heap.size) := by rw [hw2]; exact one_alloc w1 _
  have HG2 : Hid (w2.heap[w.heap.size]? = some zspec) := by rw [hw2]; exact keep_row HG1.out ((Below.refl _ _).alloc (Nat.le_refl _) _)
  have HB2 : Hid (Below w.heap.size w w2) := by rw [hw2]; exact bel_to HB1.out ((Below.refl _ _).alloc (Nat.le_refl _) _) (Nat.le_refl _)
  clear hw2 HRW
  obtain ⟨G, hG⟩ : ∃ G, w1.heap.size = G := ⟨_, rfl⟩
  rw [hG] at HT2 ⊢
  clear hG
  go_wp2
  go_loopw [5, 6] (fun ci _ wr => ∃ i : Nat, ci = .int .i64 (i : Int) ∧ i ≤ 161 ∧ (∀ j q, j < i → TB.tab[j]? = some q → q.nm.data.toList ≠ L) ∧ wr.heap[w.heap.size]? = some zspec ∧ Below w.heap.size w wr ∧ TabAt wr G) (fun ci _ _ => 161 - (intOf ci).toNat)
  case atStart => exact ⟨0, rfl, by omega, fun j _ h _ => absurd h (by omega), HG2.out, HB2.out, HT2.out⟩
  case round =>
    obtain ⟨i, rfl, hi, hno, hrow, hbel, htab⟩ := hrel
    have HNO : Hid _ := hno
    have HG : Hid (wr.heap[w.heap.size]? = some zspec) := hrow
    have HB : Hid (Below w.heap.size w wr) := hbel
    have HT : Hid (TabAt wr G) := htab
    clear hno hrow hbel htab
    by_cases hlt : i < 161
    · obtain ⟨r, hr⟩ : ∃ r, TB.tab[i]? = some r := ⟨_, List.getElem?_eq_getElem (by rw [TB.tab_len]; exact hlt)⟩
      have HRE : Hid _ := hr
      have c0 : wr.cell? ⟨G, i * 8, none⟩ = some (.string r.nm) := tab_cell HT.out i r hr 0 (by omega)
      have c1 : wr.cell? ⟨G, i * 8 + 1, none⟩ = some (.int .i64 r.le) := tab_cell HT.out i r hr 1 (by omega)
      have c2 : wr.cell? ⟨G, i * 8 + 2, none⟩ = some (.int .i64 r.mo) := tab_cell HT.out i r hr 2 (by omega)
      have c3 : wr.cell? ⟨G, i * 8 + 3, none⟩ = some (.string ⟨#[r.wh]⟩) := tab_cell HT.out i r hr 3 (by omega)
      have c4 : wr.cell? ⟨G, i * 8 + 4, none⟩ = some (.int .i64 r.fi) := tab_cell HT.out i r hr 4 (by omega)
      have c5 : wr.cell? ⟨G, i * 8 + 5, none⟩ = some (.int .i64 r.la) := tab_cell HT.out i r hr 5 (by omega)
      have c6 : wr.cell? ⟨G, i * 8 + 6, none⟩ = some (.int .i64 r.st) := tab_cell HT.out i r hr 6 (by omega)
      have c7 : wr.cell? ⟨G, i * 8 + 7, none⟩ = some (.int .i64 r.co) := tab_cell HT.out i r hr 7 (by omega)
      clear hr
      have hz0 : (0 : Int) ≤ (i : Int) := by omega
      have hz1 : (i : Int) < 161 := by omega
      go_upto_region 7 with fail
      obtain ⟨W2, hW2⟩ : ∃ W, wr.alloc (.cells #[.string r.nm, .int .i64 r.le, .int .i64 r.mo, .string ⟨#[r.wh]⟩, .int .i64 r.fi, .int .i64 r.la, .int .i64 r.st, .int .i64 r.co] 53) = W := ⟨_, rfl⟩
      have HBA : Hid (Below wr.heap.size wr W2) := by rw [← hW2]; exact (Below.refl _ _).alloc (Nat.le_refl _) _
      have HR2 : Hid (W2.heap[wr.heap.size]? = some (.cells #[.string r.nm, .int .i64 r.le, .int .i64 r.mo, .string ⟨#[r.wh]⟩, .int .i64 r.fi, .int .i64 r.la, .int .i64 r.st, .int .i64 r.co] 53)) := by rw [← hW2]; exact one_alloc wr _
      rw [hW2]
      have HG2 : Hid (W2.heap[w.heap.size]? = some zspec) := keep_row HG.out HBA.out
      have HB2 : Hid (Below w.heap.size w W2) := bel_to HB.out HBA.out (Nat.le_refl _)
      have HT2 : Hid (TabAt W2 G) := keep_row HT.out HBA.out
      obtain ⟨RA, hRA⟩ : ∃ RA, wr.heap.size = RA := ⟨_, rfl⟩
      rw [hRA] at HR2 ⊢
      clear hW2 hRA HBA c0 c1 c2 c3 c4 c5 c6 c7
      obtain ⟨q0, q1, q2, q3, q4, q5, q6, q7, qf⟩ := row8 HR2.out
      by_cases heq : r.nm.data.toList = L
      · have ht : (r.nm.toList == lo.toList) = true := str_same (by rw [HLO.out]; exact heq)
        have HF : Hid (TB.find L = some r) := find_hit i r HRE.out HNO.out heq
        clear heq
        obtain ⟨d0, d1, d2, d3, d4, d5, d6, d7, d8, d9, df⟩ := row10 HG2.out
        go_wp2
        obtain ⟨hF3, hO3⟩ := heap_set10 _ w.heap.size 28 _ _ _ _ _ _ _ _ _ _ (.string r.nm) (.int .i64 r.le) (.int .i64 r.mo) (.bool (r.wh == 119)) (.bool (r.wh == 97)) (.bool (r.wh == 83)) (.int .i64 r.fi) (.int .i64 r.la) (.int .i64 r.st) (.int .i64 r.co) HG2.out
        obtain ⟨k0, k1, k2, k3, k4, k5, k6, k7, k8, k9, kf⟩ := row10 hF3
        refine bodyPost_ret (v := .tuple #[.agg #[.string r.nm, .int .i64 r.le, .int .i64 r.mo, .bool (r.wh == 119), .bool (r.wh == 97), .bool (r.wh == 83), .int .i64 r.fi, .int .i64 r.la, .int .i64 r.st, .int .i64 r.co], .bool true]) (by simp [results, Try.results18, go_sem, k0, k1, k2, k3, k4, k5, k6, k7, k8, k9]) rfl ⟨by rw [HF.out, spec_u8]; rfl, ?_⟩
        exact HB2.out.trans (hO3.below (Nat.le_refl _))
      · have ht : (r.nm.toList == lo.toList) = false := str_other (by rw [HLO.out]; exact heq)
        have HNE : Hid (∀ j q, j < i + 1 → TB.tab[j]? = some q → q.nm.data.toList ≠ L) := fun j q hj hq => by
          rcases Nat.lt_succ_iff_lt_or_eq.1 hj with h2 | rfl
          · exact HNO.out j q h2 hq
          · have e0 : r = q := by have := HRE.out.symm.trans hq; simpa using this
            rw [← e0]; exact heq
        clear heq
        go_wp2
        go_roundw
        case rel => exact ⟨i + 1, by go_num, by omega, HNE.out, HG2.out, HB2.out, HT2.out⟩
        case measure => simp [intOf]; omega
    · have hie : i = 161 := by omega
      have HF : Hid (TB.find L = none) := find_miss fun j q hj hq => HNO.out j q (by omega) hq
      have hz1 : ¬ (i : Int) < 161 := by omega
      clear hie
      obtain ⟨d0, d1, d2, d3, d4, d5, d6, d7, d8, d9, df⟩ := row10 HG.out
      go_wp2
      obtain ⟨hF3, hO3⟩ := heap_set10 _ w.heap.size 28 _ _ _ _ _ _ _ _ _ _ (.string ⟨#[]⟩) (.int .i64 0) (.int .i64 0) (.bool false) (.bool false) (.bool false) (.int .i64 0) (.int .i64 0) (.int .i64 0) (.int .i64 0) HG.out
      obtain ⟨k0, k1, k2, k3, k4, k5, k6, k7, k8, k9, kf⟩ := row10 hF3
      refine bodyPost_ret (v := .tuple #[TB.spec none, .bool false]) (by simp [results, Try.results18, go_sem, k0, k1, k2, k3, k4, k5, k6, k7, k8, k9, TB.spec, TB.nmO, TB.leO, TB.moO, TB.wO, TB.aO, TB.sO, TB.fiO, TB.laO, TB.stO, TB.coO]) rfl ⟨by rw [HF.out]; rfl, ?_⟩
      exact HB.out.trans (hO3.below (Nat.le_refl _))
end Go.Proofs.Ytnnpnccnpojfmaa
