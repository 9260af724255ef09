import Derived.Test.YtdemodhjlbkbeabRC
namespace Go.Proofs.Ytdemodhjlbkbeab
open Go.RowKit
set_option linter.unusedVariables false
theorem hit_lt (es : List Ent) (k : ByteArray) (h : hit es k = true) : lb es k < es.length := by
  unfold hit at h
  rcases Nat.lt_or_ge (lb es k) es.length with h1 | h1
  · exact h1
  · rw [List.getElem?_eq_none h1] at h; cases h
set_option maxHeartbeats 8000000 in
set_option maxRecDepth 100000 in
theorem drop_any (b0 g o B n i E c : Nat) (hn : 0 < n) (hn4 : n ≤ 4398046511104) (hi : i < n) (h : Int) (hh : bits .and .i64 h ((n : Int) - 1) = (i : Int)) (k : ByteArray) (es : List Ent) (hr : Rising es) (hl : es.length ≤ 4398046511000) (hht : hit es k = true) (cnt : Nat) (hcnt1 : 1 ≤ cnt) (hcnt : cnt ≤ 4398046511104) (dc : Array Value) (bvs : Array Value) (w : World) (hbE : b0 ≤ E)
    (hg : w.heap[g]? = some (.cells dc 56)) (hc0 : dc[o]? = some (.slice (some ⟨B, 0, none⟩) n n)) (hc1 : dc[o + 1]? = some (.int .i64 (cnt : Int))) (hB : w.heap[B]? = some (.cells bvs 83)) (hbi : bvs[i]? = some (.slice (some ⟨E, 0, none⟩) es.length c)) (hbk : Bx w E c es) :
    Calls Try.prog 36 #[.pointer (some ⟨g, o, none⟩), .int .i64 h, .string k] w fun e w' => e = .returned (.bool true) ∧ ∃ bv', w'.heap[g]? = some (.cells (dc.setIfInBounds (o + 1) (.int .i64 ((cnt : Int) - 1))) 56) ∧ w'.heap[B]? = some (.cells (bvs.setIfInBounds i bv') 83) ∧ BV w' b0 bv' (delL es (lb es k)) ∧ (∀ E', bv'.ownBlock = some E' → E' = E) ∧ Touch w w' g B (.slice (some ⟨E, 0, none⟩) es.length c) := by
  have HGB : Hid (g ≠ B) := fun e => by subst e; have := hg.symm.trans hB; simp at this
  obtain ⟨cur0, hE0, _⟩ := hbk.row
  have HEG : Hid (E ≠ g ∧ E ≠ B ∧ E < w.heap.size) := by
    refine ⟨fun e => ?_, fun e => ?_, hbk.lt⟩
    · subst e; have := hg.symm.trans hE0; simp at this
    · subst e; have := hB.symm.trans hE0; simp at this
  have hlb := hit_lt es k hht
  have HPL := place_any g o B n i hn hn4 hi h hh k _ es hr (by omega) w (by rw [cell_of_row _ _ _ _ _ _ hg]; exact hc0) (by rw [cell_of_row _ _ _ _ _ _ hB]; exact hbi) (Or.inr ⟨E, c, rfl, hbk.le, hbk.ents⟩)
  rw [hht] at HPL
  have HPH : Hid _ := HPL
  have HSD : Hid (∀ W, Below w.heap.size w W → Calls Try.prog 56 #[.slice (some ⟨E, 0, none⟩) es.length c, .int .i64 (lb es k : Nat), .int .i64 (((lb es k : Nat) : Int) + 1)] W fun r w' => r = .returned (.slice (some ⟨E, 0, none⟩) (es.length - 1) c) ∧ Bx w' E c (delL es (lb es k)) ∧ W.grownBy w' (some E)) := fun W hW => sdel_any b0 (lb es k) E c es (by omega) W (hbk.on hW) hlb
  have HDL : Hid ((delL es (lb es k)).length = es.length - 1) := delL_len es (lb es k) hlb
  have HLE : Hid (es.length ≤ c) := hbk.le
  have HC0 : Hid _ := hc0
  have HC1 : Hid _ := hc1
  have HBI : Hid _ := hbi
  have HG : Hid _ := hg
  have HB : Hid _ := hB
  have hlpos : 0 < es.length := by omega
  generalize delL es (lb es k) = ES at *
  generalize hlL : lb es k = L at *
  obtain ⟨N, hN⟩ : ∃ N, es.length = N := ⟨_, rfl⟩
  rw [hN] at hl hlb HSD HDL HLE HBI hlpos ⊢
  have hz0 : (0 : Int) ≤ (i : Int) := by omega
  have hz1 : (i : Int) < (n : Int) := by omega
  have hwL : IntKind.i64.wrap ((L : Int) + 1) = (L : Int) + 1 := by rw [IntKind.wrap_i64] <;> omega
  clear hg hB hbk hr hbi hc0 hc1 HPL hht hE0 hlL hN
  go_enter Try.func36, Try.ntmps36
  go_wp2_with fail
  refine (show Calls _ _ _ _ _ from HPH.out).mono ?_
  rintro e w1 ⟨rfl, hb1⟩
  have HBL1 : Hid (Below w.heap.size w w1) := hb1
  have HG1 : Hid _ := keep_row HG.out hb1
  have HB1 : Hid _ := keep_row HB.out hb1
  clear hb1
  go_upto_region 4 with fail
  go_cut [7] from 20 to 36 (fun sv wx => sv = .int .i64 (i : Int) ∧ wx.heap[g]? = some (.cells dc 56) ∧ wx.heap[B]? = some (.cells (bvs.setIfInBounds i (.slice (some ⟨E, 0, none⟩) (N - 1) c)) 83) ∧ Bx wx E c ES ∧ Touch w wx g B (.slice (some ⟨E, 0, none⟩) N c))
  case first =>
    have hgl := row_lt HG.out
    have hBl := row_lt HB.out
    have HT : Hid (Calls Try.prog 56 #[.slice (some ⟨E, 0, none⟩) N c, .int .i64 (L : Int), .int .i64 ((L : Int) + 1)] w1.drew fun r w' => r = .returned (.slice (some ⟨E, 0, none⟩) (N - 1) c) ∧ w'.heap[g]? = some (.cells dc 56) ∧ w'.heap[B]? = some (.cells bvs 83) ∧ Bx w' E c ES ∧ Touch w w' g B (.slice (some ⟨E, 0, none⟩) N c)) := by
      have hbb : Below w.heap.size w w1.drew := HBL1.out.drew
      refine Calls.mono (HSD.out _ hbb) ?_
      rintro r w2 ⟨rfl, hbx, hgr⟩
      obtain ⟨n1, n2, n3⟩ := HEG.out
      refine ⟨rfl, ?_, ?_, hbx, (Touch.of_below hbb).trans (Touch.of_grown hgr)⟩
      · exact (hgr.block g (Nat.lt_of_lt_of_le hgl hbb.size) (by simpa using Ne.symm n1)).trans (keep_row HG.out hbb)
      · exact (hgr.block B (Nat.lt_of_lt_of_le hBl hbb.size) (by simpa using Ne.symm n2)).trans (keep_row HB.out hbb)
    have c0 : w1.cell? ⟨g, o, none⟩ = some (.slice (some ⟨B, 0, none⟩) n n) := by rw [cell_of_row _ _ _ _ _ _ HG1.out]; exact HC0.out
    have cf : ∀ j, w1.frozen? ⟨g, j, none⟩ = false := fun j => frozen_of_row _ _ _ _ _ HG1.out
    have b0' : w1.cell? ⟨B, i, none⟩ = some (.slice (some ⟨E, 0, none⟩) N c) := by rw [cell_of_row _ _ _ _ _ _ HB1.out]; exact HBI.out
    have bf : ∀ j, w1.frozen? ⟨B, j, none⟩ = false := fun j => frozen_of_row _ _ _ _ _ HB1.out
    go_region_with (go_at_call 56; refine (show Calls _ _ _ _ _ from HT.out).mono ?_; rintro e w2 ⟨rfl, hg2, hB2, hx2, ht2⟩; have d0 : w2.cell? ⟨g, o, none⟩ = some (.slice (some ⟨B, 0, none⟩) n n) := (by rw [cell_of_row _ _ _ _ _ _ hg2]; exact HC0.out); have e0 : w2.cell? ⟨B, i, none⟩ = some (.slice (some ⟨E, 0, none⟩) N c) := (by rw [cell_of_row _ _ _ _ _ _ hB2]; exact HBI.out); have df : ∀ j, w2.frozen? ⟨g, j, none⟩ = false := (fun j => frozen_of_row _ _ _ _ _ hg2); have ef : ∀ j, w2.frozen? ⟨B, j, none⟩ = false := (fun j => frozen_of_row _ _ _ _ _ hB2))
    all_goals
      go_wp2_with fail
      go_meet
      refine ⟨rfl, ?_, ?_, ?_, ht2.set _ _ (Or.inr rfl)⟩
      · rw [heap_setCell_other _ _ _ _ HGB.out]; exact hg2
      · rw [heap_setCell_same _ _ _ _ _ _ hB2]
      · exact hx2.same (heap_setCell_other _ _ _ _ (by show E ≠ B; exact HEG.out.2.1))
  case rest =>
    obtain ⟨rfl, hg3, hB3, hx3, ht3⟩ := hcut
    have HG3 : Hid _ := hg3
    have HB3 : Hid _ := hB3
    have HX3 : Hid (Bx wc E c ES) := hx3
    have HT3 : Hid (Touch w wc g B (.slice (some ⟨E, 0, none⟩) N c)) := ht3
    have hil : i < bvs.size := by rcases Nat.lt_or_ge i bvs.size with h1 | h1; exact h1; have := HBI.out; rw [Array.getElem?_eq_none h1] at this; cases this
    have c0 : wc.cell? ⟨g, o, none⟩ = some (.slice (some ⟨B, 0, none⟩) n n) := by rw [cell_of_row _ _ _ _ _ _ hg3]; exact HC0.out
    have c1 : wc.cell? ⟨g, o + 1, none⟩ = some (.int .i64 (cnt : Int)) := by rw [cell_of_row _ _ _ _ _ _ hg3]; exact HC1.out
    have cf : ∀ j, wc.frozen? ⟨g, j, none⟩ = false := fun j => frozen_of_row _ _ _ _ _ hg3
    have b1 : wc.cell? ⟨B, i, none⟩ = some (.slice (some ⟨E, 0, none⟩) (N - 1) c) := by rw [cell_of_row _ _ _ _ _ _ hB3, Array.getElem?_setIfInBounds]; simp [hil]
    have bf : ∀ j, wc.frozen? ⟨B, j, none⟩ = false := fun j => frozen_of_row _ _ _ _ _ hB3
    clear hg3 hB3 hx3 ht3
    by_cases hN1 : N = 1
    · subst hN1
      have HES : Hid (ES = []) := List.eq_nil_of_length_eq_zero (by have := HDL.out; simpa using this)
      go_upto_region 7 with fail
      obtain ⟨W5, hW5⟩ : ∃ W5, W5 = wc.setCell ⟨B, i, none⟩ (.slice none 0 0) := ⟨_, rfl⟩
      rw [← hW5]
      have HG5 : Hid (W5.heap[g]? = some (.cells dc 56)) := by rw [hW5, heap_setCell_other _ _ _ _ HGB.out]; exact HG3.out
      have HB5 : Hid (W5.heap[B]? = some (.cells (bvs.setIfInBounds i (.slice none 0 0)) 83)) := by show _ = _; rw [hW5, heap_setCell_same _ _ _ _ _ _ HB3.out]; simp
      have HT5 : Hid (Touch w W5 g B (.slice (some ⟨E, 0, none⟩) 1 c)) := by rw [hW5]; exact HT3.out.set _ _ (Or.inr rfl)
      clear hW5 c0 c1 cf b1 bf
      have c1 : W5.cell? ⟨g, o + 1, none⟩ = some (.int .i64 (cnt : Int)) := by rw [cell_of_row _ _ _ _ _ _ HG5.out]; exact HC1.out
      have cf : ∀ j, W5.frozen? ⟨g, j, none⟩ = false := fun j => frozen_of_row _ _ _ _ _ HG5.out
      go_wp2
      go_returns
      refine ⟨rfl, .slice none 0 0, ?_, ?_, Or.inl ⟨rfl, HES.out⟩, (fun E' h => by cases h), HT5.out.set _ _ (Or.inl rfl)⟩
      · rw [heap_setCell_same _ _ _ _ _ _ HG5.out]
      · rw [heap_setCell_other _ _ _ _ (Ne.symm HGB.out)]; exact HB5.out
    · have hne : ((N - 1 : Nat) : Int) ≠ 0 := by omega
      have hne2 : (((N - 1 : Nat) : Int) == 0) = false := by simpa using hne
      go_wp2
      go_returns
      refine ⟨rfl, .slice (some ⟨E, 0, none⟩) (N - 1) c, ?_, ?_, Or.inr ⟨E, c, by rw [HDL.out], ⟨hbE, fun e => by have := HDL.out; rw [e] at this; simp at this; omega⟩, ?_⟩, (fun E' h => by simpa [Value.ownBlock] using h.symm), HT3.out.set _ _ (Or.inl rfl)⟩
      · rw [heap_setCell_same _ _ _ _ _ _ HG3.out]
      · rw [heap_setCell_other _ _ _ _ (Ne.symm HGB.out)]; exact HB3.out
      · exact HX3.out.same (heap_setCell_other _ _ _ _ (by show E ≠ g; exact HEG.out.1))
end Go.Proofs.Ytdemodhjlbkbeab
namespace Go.Proofs.Ytdemodhjlbkbeab
open Go.RowKit
set_option linter.unusedVariables false
theorem moves_yes (g : Nat) (P : Option Addr) (n c : Nat) (hn : 0 < n) (w : World) (h : w.cell? ⟨g, 3, none⟩ = some (.slice P n c)) : Calls Try.prog 32 #[.pointer (some ⟨g, 0, none⟩)] w fun e w' => e = .returned (.bool true) ∧ w' = w := by
  have HS : Hid _ := size_any g 3 P n c w h
  clear h
  go_enter Try.func32, Try.ntmps32
  go_wp2_with fail
  refine (show Calls _ _ _ _ _ from HS.out).mono ?_
  rintro e w1 ⟨rfl, rfl⟩
  go_wp2
  go_returns
  refine ⟨?_, rfl⟩
  simp
theorem bucket_any (g o B n i : Nat) (hi : i < n) (P : Option Addr) (l c : Nat) (hlc : l ≤ c) (w : World) (hc : w.cell? ⟨g, o, none⟩ = some (.slice (some ⟨B, 0, none⟩) n n)) (hB : w.cell? ⟨B, i, none⟩ = some (.slice P l c)) : Calls Try.prog 48 #[.pointer (some ⟨g, o, none⟩), .int .i64 (i : Int)] w fun e w' => e = .returned (.slice P l l) ∧ w' = w := by
  have hc2 : (l : Int) ≤ (c : Int) := by omega
  have hz0 : (0 : Int) ≤ (i : Int) := by omega
  have hz1 : (i : Int) < (n : Int) := by omega
  go_enter Try.func48, Try.ntmps48
  go_wp2
  go_returns
  exact ⟨rfl, rfl⟩
set_option maxHeartbeats 1000000 in
set_option maxRecDepth 100000 in
theorem take_any (g o B n i : Nat) (hi : i < n) (P : Option Addr) (l c cnt : Nat) (hlc : l ≤ c) (hlt : l ≤ cnt) (hcnt : cnt ≤ 4398046511104) (dc bvs : Array Value) (w : World)
    (hg : w.heap[g]? = some (.cells dc 56)) (hc0 : dc[o]? = some (.slice (some ⟨B, 0, none⟩) n n)) (hc1 : dc[o + 1]? = some (.int .i64 (cnt : Int))) (hB : w.heap[B]? = some (.cells bvs 83)) (hbi : bvs[i]? = some (.slice P l c)) :
    Calls Try.prog 49 #[.pointer (some ⟨g, o, none⟩), .int .i64 (i : Int)] w fun e w' => e = .returned (.slice P l l) ∧ w'.heap[g]? = some (.cells (dc.setIfInBounds (o + 1) (.int .i64 ((cnt : Int) - (l : Int)))) 56) ∧ w'.heap[B]? = some (.cells (bvs.setIfInBounds i (.slice none 0 0)) 83) ∧ Touch w w' g B (.slice none 0 0) := by
  have HGB : Hid (g ≠ B) := fun e => by subst e; have := hg.symm.trans hB; simp at this
  have c0 : w.cell? ⟨g, o, none⟩ = some (.slice (some ⟨B, 0, none⟩) n n) := by rw [cell_of_row _ _ _ _ _ _ hg]; exact hc0
  have b0 : w.cell? ⟨B, i, none⟩ = some (.slice P l c) := by rw [cell_of_row _ _ _ _ _ _ hB]; exact hbi
  have bf : ∀ j, w.frozen? ⟨B, j, none⟩ = false := fun j => frozen_of_row _ _ _ _ _ hB
  have HBK : Hid _ := bucket_any g o B n i hi P l c hlc w c0 b0
  have HG : Hid _ := hg
  have HB : Hid _ := hB
  have HC1 : Hid _ := hc1
  have hz0 : (0 : Int) ≤ (i : Int) := by omega
  have hz1 : (i : Int) < (n : Int) := by omega
  have hin : i < n := hi
  clear hg hB hc0 hc1 hbi
  go_enter Try.func49, Try.ntmps49
  go_wp2_with fail
  refine (show Calls _ _ _ _ _ from HBK.out).mono ?_
  rintro e w1 ⟨rfl, rfl⟩
  go_upto_region 3 with fail
  obtain ⟨W5, hW5⟩ : ∃ W5, W5 = w1.setCell ⟨B, i, none⟩ (.slice none 0 0) := ⟨_, rfl⟩
  rw [← hW5]
  have HG5 : Hid (W5.heap[g]? = some (.cells dc 56)) := by rw [hW5, heap_setCell_other _ _ _ _ HGB.out]; exact HG.out
  have HB5 : Hid (W5.heap[B]? = some (.cells (bvs.setIfInBounds i (.slice none 0 0)) 83)) := by show _ = _; rw [hW5, heap_setCell_same _ _ _ _ _ _ HB.out]
  have HT5 : Hid (Touch w1 W5 g B (.slice none 0 0)) := by rw [hW5]; exact (Touch.of_below (Below.refl _ _)).set _ _ (Or.inr rfl)
  clear hW5 c0 b0 bf
  have c1 : W5.cell? ⟨g, o + 1, none⟩ = some (.int .i64 (cnt : Int)) := by rw [cell_of_row _ _ _ _ _ _ HG5.out]; exact HC1.out
  have cf : ∀ j, W5.frozen? ⟨g, j, none⟩ = false := fun j => frozen_of_row _ _ _ _ _ HG5.out
  go_wp2
  go_returns
  refine ⟨rfl, ?_, ?_, HT5.out.set _ _ (Or.inl rfl)⟩
  · rw [heap_setCell_same _ _ _ _ _ _ HG5.out]
  · rw [heap_setCell_other _ _ _ _ (Ne.symm HGB.out)]; exact HB5.out
/-- a dict's cells. -/
def dca (seed : Int) (v1 : Value) (n1 : Int) (v2 : Value) (n2 : Int) (ix : Int) : Array Value := #[.int .i64 seed, v1, .int .i64 n1, v2, .int .i64 n2, .int .i64 ix]
set_option maxHeartbeats 1000000 in
set_option maxRecDepth 100000 in
theorem end_stay (g : Nat) (P : Option Addr) (n c : Nat) (k : Nat) (hk : n = 0 ∨ k ≠ 0) (w : World) (h3 : w.cell? ⟨g, 3, none⟩ = some (.slice P n c)) (h2 : w.cell? ⟨g, 2, none⟩ = some (.int .i64 (k : Int))) : Calls Try.prog 37 #[.pointer (some ⟨g, 0, none⟩)] w fun e w' => e = .returned (.tuple #[]) ∧ w' = w := by
  by_cases hn : n = 0
  · subst hn
    have HM : Hid _ := moves_no g P c w h3
    clear h3 h2
    go_enter Try.func37, Try.ntmps37
    go_wp2_with fail
    refine (show Calls _ _ _ _ _ from HM.out).mono ?_
    rintro e w1 ⟨rfl, rfl⟩
    go_wp2
    go_returns
    exact ⟨rfl, rfl⟩
  · have HM : Hid _ := moves_yes g P n c (by omega) w h3
    have hk0 : ((k : Int) == 0) = false := by simp; omega
    go_enter Try.func37, Try.ntmps37
    go_wp2_with fail
    refine (show Calls _ _ _ _ _ from HM.out).mono ?_
    rintro e w1 ⟨rfl, rfl⟩
    go_wp2
    go_returns
    exact ⟨rfl, rfl⟩
set_option maxHeartbeats 1000000 in
set_option maxRecDepth 100000 in
theorem end_done (g : Nat) (seed : Int) (v1 : Value) (P : Option Addr) (n c : Nat) (hn : 0 < n) (n2 ix : Int) (w : World) (hg : w.heap[g]? = some (.cells (dca seed v1 0 (.slice P n c) n2 ix) 56)) : Calls Try.prog 37 #[.pointer (some ⟨g, 0, none⟩)] w fun e w' => e = .returned (.tuple #[]) ∧ w'.heap[g]? = some (.cells (dca seed (.slice P n c) n2 (.slice none 0 0) 0 ix) 56) ∧ Only w w' g := by
  obtain ⟨c0, c1, c2, c3, c4, c5, cf⟩ := row6 hg
  have HM : Hid _ := moves_yes g P n c hn w c3
  have HG : Hid _ := hg
  clear hg
  go_enter Try.func37, Try.ntmps37
  go_wp2_with fail
  refine (show Calls _ _ _ _ _ from HM.out).mono ?_
  rintro e w1 ⟨rfl, rfl⟩
  go_wp2
  go_returns
  refine ⟨rfl, ?_, ((((Only.refl w1 g).set _ _).set _ _).set _ _).set _ _⟩
  rw [heap_setCell_same _ _ _ _ _ _ (heap_setCell_same _ _ _ _ _ _ (heap_setCell_same _ _ _ _ _ _ (heap_setCell_same _ _ _ _ _ _ HG.out)))]; rfl
end Go.Proofs.Ytdemodhjlbkbeab
namespace Go.Proofs.Ytdemodhjlbkbeab
open Go.RowKit
set_option linter.unusedVariables false
set_option maxHeartbeats 1000000 in
theorem find_first (g : Nat) (h : Int) (k : ByteArray) (a : Addr) (w : World) (h1 : Calls Try.prog 50 #[.pointer (some ⟨g, 1, none⟩), .int .i64 h, .string k] w fun e w' => e = .returned (.pointer (some a)) ∧ Below w.heap.size w w') : Calls Try.prog 29 #[.pointer (some ⟨g, 0, none⟩), .int .i64 h, .string k] w fun e w' => e = .returned (.pointer (some a)) ∧ Below w.heap.size w w' := by
  have HP : Hid _ := h1
  clear h1
  go_enter Try.func29, Try.ntmps29
  go_wp2_with fail
  refine (show Calls _ _ _ _ _ from HP.out).mono ?_
  rintro e w1 ⟨rfl, hb1⟩
  have HB1 : Hid (Below w.heap.size w w1) := hb1
  clear hb1
  go_wp2
  go_returns
  exact ⟨rfl, HB1.out⟩
set_option maxHeartbeats 1000000 in
theorem find_second (g : Nat) (h : Int) (k : ByteArray) (x : Value) (w : World) (h1 : Calls Try.prog 50 #[.pointer (some ⟨g, 1, none⟩), .int .i64 h, .string k] w fun e w' => e = .returned (.pointer none) ∧ Below w.heap.size w w') (h2 : ∀ W, Below w.heap.size w W → Calls Try.prog 50 #[.pointer (some ⟨g, 3, none⟩), .int .i64 h, .string k] W fun e w' => e = .returned x ∧ Below W.heap.size W w') : Calls Try.prog 29 #[.pointer (some ⟨g, 0, none⟩), .int .i64 h, .string k] w fun e w' => e = .returned x ∧ Below w.heap.size w w' := by
  have HP : Hid _ := h1
  have HQ : Hid _ := h2
  clear h1 h2
  go_enter Try.func29, Try.ntmps29
  go_wp2_with fail
  refine (show Calls _ _ _ _ _ from HP.out).mono ?_
  rintro e w1 ⟨rfl, hb1⟩
  have HB1 : Hid (Below w.heap.size w w1) := hb1
  clear hb1
  go_wp2_with fail
  refine (show Calls _ _ _ _ _ from HQ.out _ HB1.out).mono ?_
  rintro e w2 ⟨rfl, hb2⟩
  have HB2 : Hid (Below w.heap.size w w2) := bel_to HB1.out hb2 (Nat.le_refl _)
  clear hb2
  go_wp2
  go_returns
  exact ⟨rfl, HB2.out⟩
set_option maxHeartbeats 1000000 in
theorem Get_hit (g : Nat) (seed H : Int) (k : ByteArray) (hk : k.size ≤ 281474976710656) (E q : Nat) (v : Int) (w : World) (hs : w.cell? ⟨g, 0, none⟩ = some (.int .i64 seed)) (hv : ∀ W, Below w.heap.size w W → W.cell? ⟨E, q + 1, none⟩ = some (.int .i64 v))
    (hf : Calls Try.prog 29 #[.pointer (some ⟨g, 0, none⟩), .int .i64 (hashT seed k), .string k] w fun e w' => e = .returned (.pointer (some ⟨E, q, none⟩)) ∧ Below w.heap.size w w') :
    Calls Try.prog 17 #[.pointer (some ⟨g, 0, none⟩), .string k] w fun e w' => e = .returned (.tuple #[.int .i64 v, .bool true]) ∧ Below w.heap.size w w' := by
  have HH : Hid _ := Hash_any seed k hk w
  have HF : Hid _ := hf
  have HV : Hid _ := hv
  clear hf hv
  generalize hashT seed k = Z at *
  go_enter Try.func17, Try.ntmps17
  go_wp2_with fail
  refine (show Calls _ _ _ _ _ from HH.out).mono ?_
  rintro e w1 ⟨rfl, rfl⟩
  go_wp2_with fail
  refine (show Calls _ _ _ _ _ from HF.out).mono ?_
  rintro e w2 ⟨rfl, hb2⟩
  have HB2 : Hid (Below _ w1 w2) := hb2
  have c1 := HV.out _ hb2
  clear hb2 hs
  go_wp2
  go_returns
  exact ⟨rfl, HB2.out⟩
set_option maxHeartbeats 1000000 in
theorem Get_miss (g : Nat) (seed : Int) (k : ByteArray) (hk : k.size ≤ 281474976710656) (w : World) (hs : w.cell? ⟨g, 0, none⟩ = some (.int .i64 seed))
    (hf : Calls Try.prog 29 #[.pointer (some ⟨g, 0, none⟩), .int .i64 (hashT seed k), .string k] w fun e w' => e = .returned (.pointer none) ∧ Below w.heap.size w w') :
    Calls Try.prog 17 #[.pointer (some ⟨g, 0, none⟩), .string k] w fun e w' => e = .returned (.tuple #[.int .i64 0, .bool false]) ∧ Below w.heap.size w w' := by
  have HH : Hid _ := Hash_any seed k hk w
  have HF : Hid _ := hf
  clear hf
  generalize hashT seed k = Z at *
  go_enter Try.func17, Try.ntmps17
  go_wp2_with fail
  refine (show Calls _ _ _ _ _ from HH.out).mono ?_
  rintro e w1 ⟨rfl, rfl⟩
  go_wp2_with fail
  refine (show Calls _ _ _ _ _ from HF.out).mono ?_
  rintro e w2 ⟨rfl, hb2⟩
  have HB2 : Hid (Below _ w1 w2) := hb2
  clear hb2 hs
  go_wp2
  go_returns
  exact ⟨rfl, HB2.out⟩
set_option maxHeartbeats 1000000 in
set_option maxRecDepth 100000 in
/-- a move begins, and ends at once where there is nothing to move. -/
theorem begin_any (g : Nat) (seed : Int) (v1 : Value) (k : Nat) (hk : 0 < k) (v2 : Value) (n2 ix : Int) (n : Nat) (hn : 0 < n) (hn4 : n ≤ 4398046511104) (w : World) (hg : w.heap[g]? = some (.cells (dca seed v1 (k : Int) v2 n2 ix) 56)) (hv2 : ∃ P l c, v2 = .slice P l c) :
    Calls Try.prog 52 #[.pointer (some ⟨g, 0, none⟩), .int .i64 (n : Int)] w fun e w' => e = .returned (.tuple #[]) ∧ ∃ B, w.heap.size ≤ B ∧ w'.heap[g]? = some (.cells (dca seed v1 (k : Int) (.slice (some ⟨B, 0, none⟩) n n) 0 0) 56) ∧ w'.heap[B]? = some (.cells (madeCells #[.slice none 0 0] n) 83) ∧ w.heap.size ≤ w'.heap.size ∧ (∀ q, q < w.heap.size → q ≠ g → w'.heap[q]? = w.heap[q]?) ∧ Below g w w' := by
  obtain ⟨P2, l2, c2, rfl⟩ := hv2
  have HN : Hid _ := newTable_any n hn4 w
  have HG : Hid _ := hg
  have HGL : Hid (g < w.heap.size) := row_lt hg
  clear hg
  go_enter Try.func52, Try.ntmps52
  go_wp2_with fail
  refine (show Calls _ _ _ _ _ from HN.out).mono ?_
  rintro e w2 ⟨rfl, hB, hb⟩
  have HR2 : Hid _ := keep_row HG.out hb
  have HB : Hid _ := hB
  have HBL : Hid (Below _ w w2) := hb
  clear hb hB
  obtain ⟨c0, c1, c2, c3, c4, c5, cf⟩ := row6 HR2.out
  go_upto_region 2 with fail
  obtain ⟨W5, hW5⟩ : ∃ W5, W5 = ((w2.setCell ⟨g, 3, none⟩ (.slice (some ⟨w.heap.size + 1, 0, none⟩) n n)).setCell ⟨g, 4, none⟩ (.int .i64 0)).setCell ⟨g, 5, none⟩ (.int .i64 0) := ⟨_, rfl⟩
  rw [← hW5]
  have HG5 : Hid (W5.heap[g]? = some (.cells (dca seed v1 (k : Int) (.slice (some ⟨w.heap.size + 1, 0, none⟩) n n) 0 0) 56)) := by
    rw [hW5, heap_setCell_same _ _ _ _ _ _ (heap_setCell_same _ _ _ _ _ _ (heap_setCell_same _ _ _ _ _ _ HR2.out))]; rfl
  have HO5 : Hid (Only w2 W5 g) := by rw [hW5]; exact (((Only.refl w2 g).set _ _).set _ _).set _ _
  clear hW5 c0 c1 c2 c3 c4 c5 cf
  obtain ⟨c0, c1, c2, c3, c4, c5, cf⟩ := row6 HG5.out
  have HE : Hid _ := end_stay g _ n n k (Or.inr (by omega)) W5 c3 c2
  go_wp2_with fail
  refine (show Calls _ _ _ _ _ from HE.out).mono ?_
  rintro e w6 ⟨rfl, rfl⟩
  go_wp2
  go_returns
  have hgl := HGL.out
  refine ⟨rfl, w.heap.size + 1, by omega, HG5.out, ?_, ?_, fun q hq hne => ?_, (HBL.out.mono (by omega)).trans (HO5.out.below (Nat.le_refl _))⟩
  · rw [HO5.out.other _ (show w.heap.size + 1 ≠ g by omega)]; exact HB.out
  · rw [HO5.out.size]; exact HBL.out.size
  · rw [HO5.out.other q hne]; exact HBL.out.block q hq
end Go.Proofs.Ytdemodhjlbkbeab
namespace Go.Proofs.Ytdemodhjlbkbeab
open Go.RowKit
set_option linter.unusedVariables false
set_option maxHeartbeats 1000000 in
set_option maxRecDepth 100000 in
theorem room_first (g : Nat) (seed : Int) (P1 : Option Addr) (k1 : Nat) (k : Int) (v2 : Value) (n2 ix : Int) (w : World) (hg : w.heap[g]? = some (.cells (dca seed (.slice P1 0 k1) k v2 n2 ix) 56)) : Calls Try.prog 30 #[.pointer (some ⟨g, 0, none⟩)] w fun e w' => e = .returned (.tuple #[]) ∧ ∃ B, w.heap.size ≤ B ∧ w'.heap[g]? = some (.cells (dca seed (.slice (some ⟨B, 0, none⟩) 4 4) 0 v2 n2 ix) 56) ∧ w'.heap[B]? = some (.cells #[.slice none 0 0, .slice none 0 0, .slice none 0 0, .slice none 0 0] 83) ∧ w.heap.size ≤ w'.heap.size ∧ (∀ q, q < w.heap.size → q ≠ g → w'.heap[q]? = w.heap[q]?) ∧ Below g w w' := by
  have HR : Hid _ := hg
  obtain ⟨c0, c1, c2, c3, c4, c5, cf⟩ := row6 hg
  have HS : Hid _ := size_any g 1 P1 0 k1 w c1
  have HN : Hid _ := newTable_4 w
  clear hg
  go_enter Try.func30, Try.ntmps30
  go_wp2_with fail
  refine (show Calls _ _ _ _ _ from HS.out).mono ?_
  rintro e w1 ⟨rfl, rfl⟩
  go_wp2_with fail
  refine (show Calls _ _ _ _ _ from HN.out).mono ?_
  rintro e w2 ⟨rfl, hB, hb⟩
  have HR2 : Hid _ := keep_row HR.out hb
  have HB : Hid _ := hB
  have HBL : Hid (Below _ w1 w2) := hb
  clear c0 c1 c2 c3 c4 c5 cf hb hB
  obtain ⟨c0, c1, c2, c3, c4, c5, cf⟩ := row6 HR2.out
  go_wp2
  go_returns
  have hgl := row_lt HR.out
  refine ⟨rfl, w1.heap.size + 1, by omega, ?_, ?_, ?_, fun q hq hne => ?_, ?_⟩
  · rw [heap_setCell_same _ _ _ _ _ _ (heap_setCell_same _ _ _ _ _ _ HR2.out)]; rfl
  · rw [heap_setCell_other _ _ _ _ (show w1.heap.size + 1 ≠ g by omega), heap_setCell_other _ _ _ _ (show w1.heap.size + 1 ≠ g by omega)]; exact HB.out
  · rw [World.size_setCell, World.size_setCell]; exact HBL.out.size
  · rw [heap_setCell_other _ _ _ _ (show q ≠ g from hne), heap_setCell_other _ _ _ _ (show q ≠ g from hne)]; exact HBL.out.block q hq
  · exact ((HBL.out.mono (show g ≤ w1.heap.size by omega)).setCell (p := ⟨g, 1, none⟩) (Nat.le_refl _) _).setCell (p := ⟨g, 2, none⟩) (Nat.le_refl _) _
set_option maxHeartbeats 1000000 in
set_option maxRecDepth 100000 in
theorem room_moving (g B n : Nat) (hn : 0 < n) (seed : Int) (k : Int) (P : Option Addr) (m c : Nat) (hm : 0 < m) (n2 ix : Int) (w : World) (hg : w.heap[g]? = some (.cells (dca seed (.slice (some ⟨B, 0, none⟩) n n) k (.slice P m c) n2 ix) 56)) : Calls Try.prog 30 #[.pointer (some ⟨g, 0, none⟩)] w fun e w' => e = .returned (.tuple #[]) ∧ w' = w := by
  obtain ⟨c0, c1, c2, c3, c4, c5, cf⟩ := row6 hg
  have HS : Hid _ := size_any g 1 _ n n w c1
  have HM : Hid _ := moves_yes g P m c hm w c3
  have hne : ((n : Int) == 0) = false := by simp; omega
  clear hg
  go_enter Try.func30, Try.ntmps30
  go_wp2_with fail
  refine (show Calls _ _ _ _ _ from HS.out).mono ?_
  rintro e w1 ⟨rfl, rfl⟩
  go_wp2_with fail
  refine (show Calls _ _ _ _ _ from HM.out).mono ?_
  rintro e w1 ⟨rfl, rfl⟩
  go_wp2
  go_returns
  exact ⟨rfl, rfl⟩
set_option maxHeartbeats 1000000 in
set_option maxRecDepth 100000 in
theorem room_enough (g B n : Nat) (hn : 0 < n) (seed : Int) (k : Nat) (hk : k < n) (P : Option Addr) (c : Nat) (n2 ix : Int) (w : World) (hg : w.heap[g]? = some (.cells (dca seed (.slice (some ⟨B, 0, none⟩) n n) (k : Int) (.slice P 0 c) n2 ix) 56)) : Calls Try.prog 30 #[.pointer (some ⟨g, 0, none⟩)] w fun e w' => e = .returned (.tuple #[]) ∧ w' = w := by
  obtain ⟨c0, c1, c2, c3, c4, c5, cf⟩ := row6 hg
  have HS : Hid _ := size_any g 1 _ n n w c1
  have HM : Hid _ := moves_no g P c w c3
  have hne : ((n : Int) == 0) = false := by simp; omega
  clear hg
  go_enter Try.func30, Try.ntmps30
  go_wp2_with fail
  refine (show Calls _ _ _ _ _ from HS.out).mono ?_
  rintro e w1 ⟨rfl, rfl⟩
  go_wp2_with fail
  refine (show Calls _ _ _ _ _ from HM.out).mono ?_
  rintro e w1 ⟨rfl, rfl⟩
  go_wp2
  go_returns
  exact ⟨rfl, rfl⟩
set_option maxHeartbeats 1000000 in
set_option maxRecDepth 100000 in
theorem room_grow (g B n : Nat) (hn : 0 < n) (hn4 : n ≤ 2199023255552) (seed : Int) (k : Nat) (hk : n ≤ k) (hk4 : k ≤ 4398046511104) (P : Option Addr) (c : Nat) (n2 ix : Int) (w : World) (hg : w.heap[g]? = some (.cells (dca seed (.slice (some ⟨B, 0, none⟩) n n) (k : Int) (.slice P 0 c) n2 ix) 56)) : Calls Try.prog 30 #[.pointer (some ⟨g, 0, none⟩)] w fun e w' => e = .returned (.tuple #[]) ∧ ∃ B2, w.heap.size ≤ B2 ∧ w'.heap[g]? = some (.cells (dca seed (.slice (some ⟨B, 0, none⟩) n n) (k : Int) (.slice (some ⟨B2, 0, none⟩) (2 * n) (2 * n)) 0 0) 56) ∧ w'.heap[B2]? = some (.cells (madeCells #[.slice none 0 0] (2 * n)) 83) ∧ w.heap.size ≤ w'.heap.size ∧ (∀ q, q < w.heap.size → q ≠ g → w'.heap[q]? = w.heap[q]?) ∧ Below g w w' := by
  obtain ⟨c0, c1, c2, c3, c4, c5, cf⟩ := row6 hg
  have HS : Hid _ := size_any g 1 _ n n w c1
  have HM : Hid _ := moves_no g P c w c3
  obtain ⟨N, hN⟩ : ∃ N, 2 * n = N := ⟨_, rfl⟩
  have HBG : Hid _ := begin_any g seed (.slice (some ⟨B, 0, none⟩) n n) k (by omega) (.slice P 0 c) n2 ix N (by omega) (by omega) w hg ⟨_, _, _, rfl⟩
  have hne : ((n : Int) == 0) = false := by simp; omega
  have h2n : (2 : Int) * (n : Int) = (N : Int) := by omega
  rw [hN]
  clear hg hN
  go_enter Try.func30, Try.ntmps30
  go_wp2_with fail
  refine (show Calls _ _ _ _ _ from HS.out).mono ?_
  rintro e w1 ⟨rfl, rfl⟩
  go_wp2_with fail
  refine (show Calls _ _ _ _ _ from HM.out).mono ?_
  rintro e w1 ⟨rfl, rfl⟩
  go_wp2_with fail
  refine (show Calls _ _ _ _ _ from HBG.out).mono ?_
  rintro e w2 ⟨rfl, hres⟩
  have HRES : Hid _ := hres
  clear hres c0 c1 c2 c3 c4 c5 cf
  go_wp2
  go_returns
  exact ⟨rfl, HRES.out⟩
/-- the size of a table that is made smaller: 4, doubled until it is not below k. -/
def Up (k s : Nat) : Prop := ∃ j, s = 4 * 2 ^ j ∧ k ≤ s ∧ (j = 0 ∨ 2 * 2 ^ j < k)
theorem Up.uniq {k s t : Nat} (h1 : Up k s) (h2 : Up k t) : s = t := by
  obtain ⟨i, rfl, hi1, hi2⟩ := h1
  obtain ⟨j, rfl, hj1, hj2⟩ := h2
  rcases Nat.lt_trichotomy i j with h | h | h
  · have := Nat.pow_le_pow_right (show 0 < 2 by omega) (show i + 1 ≤ j by omega)
    rw [Nat.pow_succ] at this
    rcases hj2 with h0 | h0 <;> omega
  · rw [h]
  · have := Nat.pow_le_pow_right (show 0 < 2 by omega) (show j + 1 ≤ i by omega)
    rw [Nat.pow_succ] at this
    rcases hi2 with h0 | h0 <;> omega
end Go.Proofs.Ytdemodhjlbkbeab
namespace Go.Proofs.Ytdemodhjlbkbeab
open Go.RowKit
set_option linter.unusedVariables false
set_option maxHeartbeats 1000000 in
set_option maxRecDepth 100000 in
theorem begin_zero (g : Nat) (seed : Int) (v1 : Value) (hv1 : ∃ P l c, v1 = .slice P l c) (v2 : Value) (n2 ix : Int) (n : Nat) (hn : 0 < n) (hn4 : n ≤ 4398046511104) (w : World) (hg : w.heap[g]? = some (.cells (dca seed v1 0 v2 n2 ix) 56)) (hv2 : ∃ P l c, v2 = .slice P l c) :
    Calls Try.prog 52 #[.pointer (some ⟨g, 0, none⟩), .int .i64 (n : Int)] w fun e w' => e = .returned (.tuple #[]) ∧ ∃ B, w.heap.size ≤ B ∧ w'.heap[g]? = some (.cells (dca seed (.slice (some ⟨B, 0, none⟩) n n) 0 (.slice none 0 0) 0 0) 56) ∧ w'.heap[B]? = some (.cells (madeCells #[.slice none 0 0] n) 83) ∧ w.heap.size ≤ w'.heap.size ∧ (∀ q, q < w.heap.size → q ≠ g → w'.heap[q]? = w.heap[q]?) ∧ Below g w w' := by
  obtain ⟨P2, l2, c2, rfl⟩ := hv2
  have HN : Hid _ := newTable_any n hn4 w
  have HG : Hid _ := hg
  have HGL : Hid (g < w.heap.size) := row_lt hg
  clear hg
  go_enter Try.func52, Try.ntmps52
  go_wp2_with fail
  refine (show Calls _ _ _ _ _ from HN.out).mono ?_
  rintro e w2 ⟨rfl, hB, hb⟩
  have HR2 : Hid _ := keep_row HG.out hb
  have HB : Hid _ := hB
  have HBL : Hid (Below _ w w2) := hb
  clear hb hB
  obtain ⟨c0, c1, c2, c3, c4, c5, cf⟩ := row6 HR2.out
  go_upto_region 2 with fail
  obtain ⟨W5, hW5⟩ : ∃ W5, W5 = ((w2.setCell ⟨g, 3, none⟩ (.slice (some ⟨w.heap.size + 1, 0, none⟩) n n)).setCell ⟨g, 4, none⟩ (.int .i64 0)).setCell ⟨g, 5, none⟩ (.int .i64 0) := ⟨_, rfl⟩
  rw [← hW5]
  have HG5 : Hid (W5.heap[g]? = some (.cells (dca seed v1 0 (.slice (some ⟨w.heap.size + 1, 0, none⟩) n n) 0 0) 56)) := by
    rw [hW5, heap_setCell_same _ _ _ _ _ _ (heap_setCell_same _ _ _ _ _ _ (heap_setCell_same _ _ _ _ _ _ HR2.out))]; rfl
  have HO5 : Hid (Only w2 W5 g) := by rw [hW5]; exact (((Only.refl w2 g).set _ _).set _ _).set _ _
  clear hW5 c0 c1 c2 c3 c4 c5 cf
  have HE : Hid _ := end_done g seed v1 _ n n hn 0 0 W5 HG5.out
  go_wp2_with fail
  refine (show Calls _ _ _ _ _ from HE.out).mono ?_
  rintro e w6 ⟨rfl, hg6, ho6⟩
  have HG6 : Hid _ := hg6
  have HO6 : Hid (Only w2 w6 g) := HO5.out.trans ho6
  clear hg6 ho6
  go_wp2
  go_returns
  have hgl := HGL.out
  refine ⟨rfl, w.heap.size + 1, by omega, HG6.out, ?_, ?_, fun q hq hne => ?_, (HBL.out.mono (by omega)).trans (HO6.out.below (Nat.le_refl _))⟩
  · rw [HO6.out.other _ (show w.heap.size + 1 ≠ g by omega)]; exact HB.out
  · rw [HO6.out.size]; exact HBL.out.size
  · rw [HO6.out.other q hne]; exact HBL.out.block q hq
set_option maxHeartbeats 1000000 in
set_option maxRecDepth 100000 in
theorem give_moving (g B n : Nat) (seed : Int) (k : Int) (P : Option Addr) (m c : Nat) (hm : 0 < m) (n2 ix : Int) (w : World) (hg : w.heap[g]? = some (.cells (dca seed (.slice (some ⟨B, 0, none⟩) n n) k (.slice P m c) n2 ix) 56)) : Calls Try.prog 38 #[.pointer (some ⟨g, 0, none⟩)] w fun e w' => e = .returned (.tuple #[]) ∧ w' = w := by
  obtain ⟨c0, c1, c2, c3, c4, c5, cf⟩ := row6 hg
  have HS : Hid _ := size_any g 1 _ n n w c1
  have HM : Hid _ := moves_yes g P m c hm w c3
  clear hg
  go_enter Try.func38, Try.ntmps38
  go_wp2_with fail
  refine (show Calls _ _ _ _ _ from HS.out).mono ?_
  rintro e w1 ⟨rfl, rfl⟩
  go_wp2_with fail
  refine (show Calls _ _ _ _ _ from HM.out).mono ?_
  rintro e w1 ⟨rfl, rfl⟩
  go_wp2
  go_returns
  exact ⟨rfl, rfl⟩
end Go.Proofs.Ytdemodhjlbkbeab
namespace Go.Proofs.Ytdemodhjlbkbeab
open Go.RowKit
set_option linter.unusedVariables false
/-- a dict's cells behind a move to a smaller table has begun: without keys it has ended. -/
def dcs (seed : Int) (B n k B2 s : Nat) : Array Value := if k = 0 then dca seed (.slice (some ⟨B2, 0, none⟩) s s) 0 (.slice none 0 0) 0 0 else dca seed (.slice (some ⟨B, 0, none⟩) n n) (k : Int) (.slice (some ⟨B2, 0, none⟩) s s) 0 0
theorem dcs_0 (seed : Int) (B n B2 s : Nat) : dcs seed B n 0 B2 s = dca seed (.slice (some ⟨B2, 0, none⟩) s s) 0 (.slice none 0 0) 0 0 := rfl
theorem dcs_k (seed : Int) (B n k B2 s : Nat) (h : k ≠ 0) : dcs seed B n k B2 s = dca seed (.slice (some ⟨B, 0, none⟩) n n) (k : Int) (.slice (some ⟨B2, 0, none⟩) s s) 0 0 := if_neg h
theorem begin_dcs (g B n : Nat) (seed : Int) (k : Nat) (P : Option Addr) (c : Nat) (n2 ix : Int) (s : Nat) (hs : 0 < s) (hs4 : s ≤ 4398046511104) (w : World) (hg : w.heap[g]? = some (.cells (dca seed (.slice (some ⟨B, 0, none⟩) n n) (k : Int) (.slice P 0 c) n2 ix) 56)) : Calls Try.prog 52 #[.pointer (some ⟨g, 0, none⟩), .int .i64 (s : Int)] w fun e w' => e = .returned (.tuple #[]) ∧ ∃ B2, w.heap.size ≤ B2 ∧ w'.heap[g]? = some (.cells (dcs seed B n k B2 s) 56) ∧ w'.heap[B2]? = some (.cells (madeCells #[.slice none 0 0] s) 83) ∧ w.heap.size ≤ w'.heap.size ∧ (∀ q, q < w.heap.size → q ≠ g → w'.heap[q]? = w.heap[q]?) ∧ Below g w w' := by
  by_cases h0 : k = 0
  · subst h0
    have hg0 : w.heap[g]? = some (.cells (dca seed (.slice (some ⟨B, 0, none⟩) n n) 0 (.slice P 0 c) n2 ix) 56) := hg
    refine Calls.mono (begin_zero g seed _ ⟨_, _, _, rfl⟩ _ n2 ix s hs hs4 w hg0 ⟨_, _, _, rfl⟩) ?_
    rintro e w' ⟨rfl, B2, h1, h2, h3⟩
    exact ⟨rfl, B2, h1, by rw [dcs_0]; exact h2, h3⟩
  · refine Calls.mono (begin_any g seed _ k (by omega) _ n2 ix s hs hs4 w hg ⟨_, _, _, rfl⟩) ?_
    rintro e w' ⟨rfl, B2, h1, h2, h3⟩
    exact ⟨rfl, B2, h1, by rw [dcs_k _ _ _ _ _ _ h0]; exact h2, h3⟩
set_option maxHeartbeats 2000000 in
set_option maxRecDepth 100000 in
theorem give_shrink (g B n : Nat) (hn : 4 < n) (hn4 : n ≤ 4398046511104) (seed : Int) (k : Nat) (hk : k ≤ n / 8) (P : Option Addr) (c : Nat) (n2 ix : Int) (w : World) (hg : w.heap[g]? = some (.cells (dca seed (.slice (some ⟨B, 0, none⟩) n n) (k : Int) (.slice P 0 c) n2 ix) 56)) : Calls Try.prog 38 #[.pointer (some ⟨g, 0, none⟩)] w fun e w' => e = .returned (.tuple #[]) ∧ ∃ s B2, Up k s ∧ w.heap.size ≤ B2 ∧ w'.heap[g]? = some (.cells (dcs seed B n k B2 s) 56) ∧ w'.heap[B2]? = some (.cells (madeCells #[.slice none 0 0] s) 83) ∧ w.heap.size ≤ w'.heap.size ∧ (∀ q, q < w.heap.size → q ≠ g → w'.heap[q]? = w.heap[q]?) ∧ Below g w w' := by
  obtain ⟨c0, c1, c2, c3, c4, c5, cf⟩ := row6 hg
  have HS : Hid _ := size_any g 1 _ n n w c1
  have HM : Hid _ := moves_no g P c w c3
  have HG : Hid _ := hg
  clear hg
  go_enter Try.func38, Try.ntmps38
  go_wp2_with fail
  refine (show Calls _ _ _ _ _ from HS.out).mono ?_
  rintro e w1 ⟨rfl, rfl⟩
  go_wp2_with fail
  refine (show Calls _ _ _ _ _ from HM.out).mono ?_
  rintro e w1 ⟨rfl, rfl⟩
  go_wp2
  go_loopw [3] (fun cs wr => wr = w1 ∧ ∃ s j : Nat, cs = .int .i64 (s : Int) ∧ s = 4 * 2 ^ j ∧ s ≤ 4398046511104 ∧ (j = 0 ∨ 2 * 2 ^ j < k)) (fun cs _ => k - (intOf cs).toNat)
  case atStart => exact ⟨rfl, 4, 0, rfl, rfl, by omega, Or.inl rfl⟩
  case round =>
    obtain ⟨rfl, s, j, rfl, hs, hs4, hj⟩ := hrel
    have HSJ : Hid _ := hs
    have HJ : Hid _ := hj
    have hs0 : 0 < s := by rw [hs]; exact Nat.mul_pos (by omega) (Nat.pow_pos (by omega))
    clear hs hj
    by_cases hlt : s < k
    · go_wp2
      go_roundw
      case rel =>
        refine ⟨trivial, s * 2, j + 1, by simp, ?_, by omega, Or.inr ?_⟩
        · rw [HSJ.out, Nat.pow_succ]; omega
        · have := HSJ.out; rw [Nat.pow_succ]; omega
      case measure => simp [intOf]; omega
    · have HUP : Hid (Up k s) := ⟨j, HSJ.out, by omega, HJ.out⟩
      have HB2 : Hid _ := begin_dcs g B n seed k P c n2 ix s hs0 hs4 _ HG.out
      go_wp2_with fail
      refine (show Calls _ _ _ _ _ from HB2.out).mono ?_
      rintro e w2 ⟨rfl, B2, hres⟩
      have HRES : Hid _ := hres
      clear hres c0 c1 c2 c3 c4 c5 cf
      go_wp2
      go_returns
      exact ⟨rfl, s, B2, HUP.out, HRES.out⟩
end Go.Proofs.Ytdemodhjlbkbeab
namespace Go.Proofs.Ytdemodhjlbkbeab
open Go.RowKit
set_option linter.unusedVariables false
set_option maxHeartbeats 1000000 in
set_option maxRecDepth 100000 in
theorem give_keep (g B n : Nat) (hn4 : n ≤ 4398046511104) (seed : Int) (k : Nat) (hk : n ≤ 4 ∨ n / 8 < k) (P : Option Addr) (c : Nat) (n2 ix : Int) (w : World) (hg : w.heap[g]? = some (.cells (dca seed (.slice (some ⟨B, 0, none⟩) n n) (k : Int) (.slice P 0 c) n2 ix) 56)) : Calls Try.prog 38 #[.pointer (some ⟨g, 0, none⟩)] w fun e w' => e = .returned (.tuple #[]) ∧ w' = w := by
  obtain ⟨c0, c1, c2, c3, c4, c5, cf⟩ := row6 hg
  have HS : Hid _ := size_any g 1 _ n n w c1
  have HM : Hid _ := moves_no g P c w c3
  have HI : Hid (n ≤ 4 ∨ (4 < n ∧ n / 8 < k)) := by
    rcases Nat.lt_or_ge 4 n with h1 | h1
    · right; refine ⟨h1, ?_⟩; omega
    · left; exact h1
  clear hg hk
  rcases HI.out with h1 | ⟨h1, h2⟩
  all_goals
    go_enter Try.func38, Try.ntmps38
    go_wp2_with fail
    refine (show Calls _ _ _ _ _ from HS.out).mono ?_
    rintro e w1 ⟨rfl, rfl⟩
    go_wp2_with fail
    refine (show Calls _ _ _ _ _ from HM.out).mono ?_
    rintro e w1 ⟨rfl, rfl⟩
    go_wp2
    go_returns
    exact ⟨rfl, rfl⟩
end Go.Proofs.Ytdemodhjlbkbeab
