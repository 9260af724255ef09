import Derived.Test.YtpckadpnedfkkaaDoorRScr
import Derived.Test.YtpckadpnedfkkaaDoorRLex
import Derived.Test.YtpckadpnedfkkaaDoorRFold
namespace Go.Proofs.YtpckadpnedfkkaaDoor
open Go.RowKit Vi Gb
set_option linter.unusedVariables false
theorem two_alloc (w : World) (a b : Obj) : ((w.alloc a).alloc b).heap[w.heap.size]? = some a ∧ ((w.alloc a).alloc b).heap[w.heap.size + 1]? = some b ∧ Below w.heap.size w ((w.alloc a).alloc b) := by
  refine ⟨?_, ?_, ((Below.refl _ w).alloc (Nat.le_refl _) _).alloc (by show w.heap.size ≤ (w.heap.push a).size; simp) _⟩
  · show ((w.heap.push a).push b)[w.heap.size]? = some a
    simp [Array.getElem?_push]
  · show ((w.heap.push a).push b)[w.heap.size + 1]? = some b
    rw [Array.getElem?_push, if_pos (by simp)]
theorem heap_b0 (w : World) (g T : Nat) (a b c v : Value) (h : w.heap[g]? = some (.cells #[a, b, c] T)) : (w.setCell ⟨g, 0, none⟩ v).heap[g]? = some (.cells #[v, b, c] T) := by
  rw [heap_setCell_same _ _ _ _ _ _ h]; rfl
set_option maxHeartbeats 2000000 in
set_option maxRecDepth 20000 in
theorem rbound_e (s r f : ByteArray) (hs : s.size ≤ 140737488355328) (hem : s.toList.isEmpty = true) (hf : ∀ w : World, Calls Tryd.prog 17 #[.string s] w fun e w' => e = .returned (.string f) ∧ Below w.heap.size w w') (hsc : ∀ w : World, Calls Tryd.prog 13 #[.string s] w fun e w' => e = .returned (scoreT s.data.toList) ∧ Below w.heap.size w w') (hbd : boundOf s.data.toList = bndF f.data.toList s.data.toList false) (w : World) :
    Calls Tryd.prog 9 #[.string s] w fun e w' => e = .returned (bndT (boundOf s.data.toList)) ∧ Below w.heap.size w w' := by
  have HF : Hid (∀ w : World, Calls Tryd.prog 17 #[.string s] w fun e w' => e = .returned (.string f) ∧ Below w.heap.size w w') := hf
  have HS : Hid (∀ w : World, Calls Tryd.prog 13 #[.string s] w fun e w' => e = .returned (scoreT s.data.toList) ∧ Below w.heap.size w w') := hsc
  unfold bndF at hbd
  clear hf hsc
  by_cases c1 : f.data.toList = [45, 105, 110, 102]
  · have HR : Hid (boundOf s.data.toList = (0, -1, false, 0)) := by show _ = _; rw [hbd, if_pos c1]
    have t1 := lit_same c1
    clear hbd c1
    go_enter Tryd.func9, Tryd.ntmps9
    go_wp2_with fail
    refine (show Calls _ _ _ _ _ from HF.out _).mono ?_
    rintro e w2 ⟨rfl, hb2⟩
    obtain ⟨ha, hb, hB⟩ := two_alloc w (.cells #[.int .i64 0, .int .i64 0, .bool false] 25) (.cells #[.int .i64 0, .int .i64 0, .bool false] 25)
    have HG2 : Hid (w2.heap[w.heap.size]? = some (.cells #[.int .i64 0, .int .i64 0, .bool false] 25)) := (hb2.block _ (row_lt ha)).trans ha
    have HH2 : Hid (w2.heap[w.heap.size + 1]? = some (.cells #[.int .i64 0, .int .i64 0, .bool false] 25)) := (hb2.block _ (row_lt hb)).trans hb
    have HB2 : Hid (Below w.heap.size w w2) := hB.trans (hb2.mono hB.size)
    clear hb2 ha hb hB
    obtain ⟨d0, d1, d2, df⟩ := row3 HG2.out
    go_wp2
    obtain ⟨hF3, hO3⟩ := heap_set3 w2 w.heap.size 25 _ _ _ (.int .i64 0) (.int .i64 (-1)) (.bool false) HG2.out
    obtain ⟨k0, k1, k2, kf⟩ := row3 hF3
    refine bodyPost_ret (v := .tuple #[.agg #[.int .i64 0, .int .i64 (-1), .bool false], .int .i64 0]) (by simp [results, Tryd.results9, go_sem, k0, k1, k2]) rfl ⟨?_, ?_⟩
    · rw [HR.out]; rfl
    · exact HB2.out.trans (hO3.below (Nat.le_refl _))
  have t1 := lit_other c1
  by_cases c23 : f.data.toList = [43, 105, 110, 102] ∨ f.data.toList = [105, 110, 102]
  · have HR : Hid (boundOf s.data.toList = (0, 1, false, 0)) := by show _ = _; rw [hbd, if_neg c1, if_pos c23]
    clear hbd c1
    by_cases c2 : f.data.toList = [43, 105, 110, 102]
    · have t2 := lit_same c2
      clear c2 c23
      go_enter Tryd.func9, Tryd.ntmps9
      go_wp2_with fail
      refine (show Calls _ _ _ _ _ from HF.out _).mono ?_
      rintro e w2 ⟨rfl, hb2⟩
      obtain ⟨ha, hb, hB⟩ := two_alloc w (.cells #[.int .i64 0, .int .i64 0, .bool false] 25) (.cells #[.int .i64 0, .int .i64 0, .bool false] 25)
      have HG2 : Hid (w2.heap[w.heap.size]? = some (.cells #[.int .i64 0, .int .i64 0, .bool false] 25)) := (hb2.block _ (row_lt ha)).trans ha
      have HH2 : Hid (w2.heap[w.heap.size + 1]? = some (.cells #[.int .i64 0, .int .i64 0, .bool false] 25)) := (hb2.block _ (row_lt hb)).trans hb
      have HB2 : Hid (Below w.heap.size w w2) := hB.trans (hb2.mono hB.size)
      clear hb2 ha hb hB
      obtain ⟨d0, d1, d2, df⟩ := row3 HG2.out
      go_wp2
      obtain ⟨hF3, hO3⟩ := heap_set3 w2 w.heap.size 25 _ _ _ (.int .i64 0) (.int .i64 1) (.bool false) HG2.out
      obtain ⟨k0, k1, k2, kf⟩ := row3 hF3
      refine bodyPost_ret (v := .tuple #[.agg #[.int .i64 0, .int .i64 1, .bool false], .int .i64 0]) (by simp [results, Tryd.results9, go_sem, k0, k1, k2]) rfl ⟨?_, ?_⟩
      · rw [HR.out]; rfl
      · exact HB2.out.trans (hO3.below (Nat.le_refl _))
    · have t2 := lit_other c2
      have t3 := lit_same (c23.resolve_left c2)
      clear c2 c23
      go_enter Tryd.func9, Tryd.ntmps9
      go_wp2_with fail
      refine (show Calls _ _ _ _ _ from HF.out _).mono ?_
      rintro e w2 ⟨rfl, hb2⟩
      obtain ⟨ha, hb, hB⟩ := two_alloc w (.cells #[.int .i64 0, .int .i64 0, .bool false] 25) (.cells #[.int .i64 0, .int .i64 0, .bool false] 25)
      have HG2 : Hid (w2.heap[w.heap.size]? = some (.cells #[.int .i64 0, .int .i64 0, .bool false] 25)) := (hb2.block _ (row_lt ha)).trans ha
      have HH2 : Hid (w2.heap[w.heap.size + 1]? = some (.cells #[.int .i64 0, .int .i64 0, .bool false] 25)) := (hb2.block _ (row_lt hb)).trans hb
      have HB2 : Hid (Below w.heap.size w w2) := hB.trans (hb2.mono hB.size)
      clear hb2 ha hb hB
      obtain ⟨d0, d1, d2, df⟩ := row3 HG2.out
      go_wp2
      obtain ⟨hF3, hO3⟩ := heap_set3 w2 w.heap.size 25 _ _ _ (.int .i64 0) (.int .i64 1) (.bool false) HG2.out
      obtain ⟨k0, k1, k2, kf⟩ := row3 hF3
      refine bodyPost_ret (v := .tuple #[.agg #[.int .i64 0, .int .i64 1, .bool false], .int .i64 0]) (by simp [results, Tryd.results9, go_sem, k0, k1, k2]) rfl ⟨?_, ?_⟩
      · rw [HR.out]; rfl
      · exact HB2.out.trans (hO3.below (Nat.le_refl _))
  have t2 := lit_other (fun h => c23 (Or.inl h))
  have t3 := lit_other (fun h => c23 (Or.inr h))
  rw [if_neg c1, if_neg c23] at hbd
  clear c1 c23
  cases hsc : scoreOf s.data.toList with
  | none =>
    have HR : Hid (boundOf s.data.toList = (0, 0, false, 40)) := by show _ = _; rw [hbd, bndS_none hsc]
    rw [scoreT_none hsc] at HS
    clear hbd hsc
    go_enter Tryd.func9, Tryd.ntmps9
    go_wp2_with fail
    refine (show Calls _ _ _ _ _ from HF.out _).mono ?_
    rintro e w2 ⟨rfl, hb2⟩
    obtain ⟨ha, hb, hB⟩ := two_alloc w (.cells #[.int .i64 0, .int .i64 0, .bool false] 25) (.cells #[.int .i64 0, .int .i64 0, .bool false] 25)
    have HG2 : Hid (w2.heap[w.heap.size]? = some (.cells #[.int .i64 0, .int .i64 0, .bool false] 25)) := (hb2.block _ (row_lt ha)).trans ha
    have HH2 : Hid (w2.heap[w.heap.size + 1]? = some (.cells #[.int .i64 0, .int .i64 0, .bool false] 25)) := (hb2.block _ (row_lt hb)).trans hb
    have HB2 : Hid (Below w.heap.size w w2) := hB.trans (hb2.mono hB.size)
    clear hb2 ha hb hB
    go_wp2_with fail
    refine (show Calls _ _ _ _ _ from HS.out _).mono ?_
    rintro e w3 ⟨rfl, hb3⟩
    have HG2 : Hid (w3.heap[w.heap.size]? = some (.cells #[.int .i64 0, .int .i64 0, .bool false] 25)) := (hb3.block _ (row_lt HG2.out)).trans HG2.out
    have HH2 : Hid (w3.heap[w.heap.size + 1]? = some (.cells #[.int .i64 0, .int .i64 0, .bool false] 25)) := (hb3.block _ (row_lt HH2.out)).trans HH2.out
    have HB2 : Hid (Below w.heap.size w w3) := HB2.out.trans (hb3.mono HB2.out.size)
    clear hb3
    obtain ⟨d0, d1, d2, df⟩ := row3 HG2.out
    go_wp2
    obtain ⟨hF3, hO3⟩ := heap_set3 w3 w.heap.size 25 _ _ _ (.int .i64 0) (.int .i64 0) (.bool false) HG2.out
    obtain ⟨k0, k1, k2, kf⟩ := row3 hF3
    refine bodyPost_ret (v := .tuple #[.agg #[.int .i64 0, .int .i64 0, .bool false], .int .i64 40]) (by simp [results, Tryd.results9, go_sem, k0, k1, k2]) rfl ⟨?_, ?_⟩
    · rw [HR.out]; rfl
    · exact HB2.out.trans (hO3.below (Nat.le_refl _))
  | some v =>
    have HR : Hid (boundOf s.data.toList = (v, 0, false, 0)) := by show _ = _; rw [hbd, bndS_some hsc]
    rw [scoreT_some hsc] at HS
    clear hbd hsc
    go_enter Tryd.func9, Tryd.ntmps9
    go_wp2_with fail
    refine (show Calls _ _ _ _ _ from HF.out _).mono ?_
    rintro e w2 ⟨rfl, hb2⟩
    obtain ⟨ha, hb, hB⟩ := two_alloc w (.cells #[.int .i64 0, .int .i64 0, .bool false] 25) (.cells #[.int .i64 0, .int .i64 0, .bool false] 25)
    have HG2 : Hid (w2.heap[w.heap.size]? = some (.cells #[.int .i64 0, .int .i64 0, .bool false] 25)) := (hb2.block _ (row_lt ha)).trans ha
    have HH2 : Hid (w2.heap[w.heap.size + 1]? = some (.cells #[.int .i64 0, .int .i64 0, .bool false] 25)) := (hb2.block _ (row_lt hb)).trans hb
    have HB2 : Hid (Below w.heap.size w w2) := hB.trans (hb2.mono hB.size)
    clear hb2 ha hb hB
    go_wp2_with fail
    refine (show Calls _ _ _ _ _ from HS.out _).mono ?_
    rintro e w3 ⟨rfl, hb3⟩
    have HG2 : Hid (w3.heap[w.heap.size]? = some (.cells #[.int .i64 0, .int .i64 0, .bool false] 25)) := (hb3.block _ (row_lt HG2.out)).trans HG2.out
    have HH2 : Hid (w3.heap[w.heap.size + 1]? = some (.cells #[.int .i64 0, .int .i64 0, .bool false] 25)) := (hb3.block _ (row_lt HH2.out)).trans HH2.out
    have HB2 : Hid (Below w.heap.size w w3) := HB2.out.trans (hb3.mono HB2.out.size)
    clear hb3
    obtain ⟨b0, b1, b2, bf⟩ := row3 HH2.out
    go_upto_region 15 with fail
    obtain ⟨w4, hw4⟩ : ∃ w4, w3.setCell ⟨w.heap.size + 1, 0, none⟩ (.int .i64 v) = w4 := ⟨_, rfl⟩
    have HH4 : Hid (w4.heap[w.heap.size + 1]? = some (.cells #[.int .i64 v, .int .i64 0, .bool false] 25)) := by rw [← hw4]; exact heap_b0 _ _ _ _ _ _ _ HH2.out
    have HG2 : Hid (w4.heap[w.heap.size]? = some (.cells #[.int .i64 0, .int .i64 0, .bool false] 25)) := by rw [← hw4]; exact (heap_setCell_other _ _ _ _ (by show w.heap.size ≠ w.heap.size + 1; omega)).trans HG2.out
    have HB2 : Hid (Below w.heap.size w w4) := by rw [← hw4]; exact HB2.out.setCell (p := ⟨w.heap.size + 1, 0, none⟩) (show w.heap.size ≤ w.heap.size + 1 by omega) _
    rw [hw4]
    clear hw4 b0 b1 b2 bf
    obtain ⟨b0, b1, b2, bf⟩ := row3 HH4.out
    obtain ⟨d0, d1, d2, df⟩ := row3 HG2.out
    go_wp2
    obtain ⟨hF3, hO3⟩ := heap_set3 w4 w.heap.size 25 _ _ _ (.int .i64 v) (.int .i64 0) (.bool false) HG2.out
    obtain ⟨k0, k1, k2, kf⟩ := row3 hF3
    refine bodyPost_ret (v := .tuple #[.agg #[.int .i64 v, .int .i64 0, .bool false], .int .i64 0]) (by simp [results, Tryd.results9, go_sem, k0, k1, k2]) rfl ⟨?_, ?_⟩
    · rw [HR.out]; rfl
    · exact HB2.out.trans (hO3.below (Nat.le_refl _))
set_option maxHeartbeats 2000000 in
set_option maxRecDepth 20000 in
theorem rbound_n (s r f : ByteArray) (hs : s.size ≤ 140737488355328) (hs0 : 0 < s.size) (hem : s.toList.isEmpty = false) (n : Nat) (en : s[0].toNat = n) (q1 : ((n : Int) == 40) = false) (hf : ∀ w : World, Calls Tryd.prog 17 #[.string s] w fun e w' => e = .returned (.string f) ∧ Below w.heap.size w w') (hsc : ∀ w : World, Calls Tryd.prog 13 #[.string s] w fun e w' => e = .returned (scoreT s.data.toList) ∧ Below w.heap.size w w') (hbd : boundOf s.data.toList = bndF f.data.toList s.data.toList false) (w : World) :
    Calls Tryd.prog 9 #[.string s] w fun e w' => e = .returned (bndT (boundOf s.data.toList)) ∧ Below w.heap.size w w' := by
  have HF : Hid (∀ w : World, Calls Tryd.prog 17 #[.string s] w fun e w' => e = .returned (.string f) ∧ Below w.heap.size w w') := hf
  have HS : Hid (∀ w : World, Calls Tryd.prog 13 #[.string s] w fun e w' => e = .returned (scoreT s.data.toList) ∧ Below w.heap.size w w') := hsc
  unfold bndF at hbd
  clear hf hsc
  by_cases c1 : f.data.toList = [45, 105, 110, 102]
  · have HR : Hid (boundOf s.data.toList = (0, -1, false, 0)) := by show _ = _; rw [hbd, if_pos c1]
    have t1 := lit_same c1
    clear hbd c1
    go_enter Tryd.func9, Tryd.ntmps9
    go_wp2_with fail
    refine (show Calls _ _ _ _ _ from HF.out _).mono ?_
    rintro e w2 ⟨rfl, hb2⟩
    obtain ⟨ha, hb, hB⟩ := two_alloc w (.cells #[.int .i64 0, .int .i64 0, .bool false] 25) (.cells #[.int .i64 0, .int .i64 0, .bool false] 25)
    have HG2 : Hid (w2.heap[w.heap.size]? = some (.cells #[.int .i64 0, .int .i64 0, .bool false] 25)) := (hb2.block _ (row_lt ha)).trans ha
    have HH2 : Hid (w2.heap[w.heap.size + 1]? = some (.cells #[.int .i64 0, .int .i64 0, .bool false] 25)) := (hb2.block _ (row_lt hb)).trans hb
    have HB2 : Hid (Below w.heap.size w w2) := hB.trans (hb2.mono hB.size)
    clear hb2 ha hb hB
    obtain ⟨d0, d1, d2, df⟩ := row3 HG2.out
    go_wp2
    obtain ⟨hF3, hO3⟩ := heap_set3 w2 w.heap.size 25 _ _ _ (.int .i64 0) (.int .i64 (-1)) (.bool false) HG2.out
    obtain ⟨k0, k1, k2, kf⟩ := row3 hF3
    refine bodyPost_ret (v := .tuple #[.agg #[.int .i64 0, .int .i64 (-1), .bool false], .int .i64 0]) (by simp [results, Tryd.results9, go_sem, k0, k1, k2]) rfl ⟨?_, ?_⟩
    · rw [HR.out]; rfl
    · exact HB2.out.trans (hO3.below (Nat.le_refl _))
  have t1 := lit_other c1
  by_cases c23 : f.data.toList = [43, 105, 110, 102] ∨ f.data.toList = [105, 110, 102]
  · have HR : Hid (boundOf s.data.toList = (0, 1, false, 0)) := by show _ = _; rw [hbd, if_neg c1, if_pos c23]
    clear hbd c1
    by_cases c2 : f.data.toList = [43, 105, 110, 102]
    · have t2 := lit_same c2
      clear c2 c23
      go_enter Tryd.func9, Tryd.ntmps9
      go_wp2_with fail
      refine (show Calls _ _ _ _ _ from HF.out _).mono ?_
      rintro e w2 ⟨rfl, hb2⟩
      obtain ⟨ha, hb, hB⟩ := two_alloc w (.cells #[.int .i64 0, .int .i64 0, .bool false] 25) (.cells #[.int .i64 0, .int .i64 0, .bool false] 25)
      have HG2 : Hid (w2.heap[w.heap.size]? = some (.cells #[.int .i64 0, .int .i64 0, .bool false] 25)) := (hb2.block _ (row_lt ha)).trans ha
      have HH2 : Hid (w2.heap[w.heap.size + 1]? = some (.cells #[.int .i64 0, .int .i64 0, .bool false] 25)) := (hb2.block _ (row_lt hb)).trans hb
      have HB2 : Hid (Below w.heap.size w w2) := hB.trans (hb2.mono hB.size)
      clear hb2 ha hb hB
      obtain ⟨d0, d1, d2, df⟩ := row3 HG2.out
      go_wp2
      obtain ⟨hF3, hO3⟩ := heap_set3 w2 w.heap.size 25 _ _ _ (.int .i64 0) (.int .i64 1) (.bool false) HG2.out
      obtain ⟨k0, k1, k2, kf⟩ := row3 hF3
      refine bodyPost_ret (v := .tuple #[.agg #[.int .i64 0, .int .i64 1, .bool false], .int .i64 0]) (by simp [results, Tryd.results9, go_sem, k0, k1, k2]) rfl ⟨?_, ?_⟩
      · rw [HR.out]; rfl
      · exact HB2.out.trans (hO3.below (Nat.le_refl _))
    · have t2 := lit_other c2
      have t3 := lit_same (c23.resolve_left c2)
      clear c2 c23
      go_enter Tryd.func9, Tryd.ntmps9
      go_wp2_with fail
      refine (show Calls _ _ _ _ _ from HF.out _).mono ?_
      rintro e w2 ⟨rfl, hb2⟩
      obtain ⟨ha, hb, hB⟩ := two_alloc w (.cells #[.int .i64 0, .int .i64 0, .bool false] 25) (.cells #[.int .i64 0, .int .i64 0, .bool false] 25)
      have HG2 : Hid (w2.heap[w.heap.size]? = some (.cells #[.int .i64 0, .int .i64 0, .bool false] 25)) := (hb2.block _ (row_lt ha)).trans ha
      have HH2 : Hid (w2.heap[w.heap.size + 1]? = some (.cells #[.int .i64 0, .int .i64 0, .bool false] 25)) := (hb2.block _ (row_lt hb)).trans hb
      have HB2 : Hid (Below w.heap.size w w2) := hB.trans (hb2.mono hB.size)
      clear hb2 ha hb hB
      obtain ⟨d0, d1, d2, df⟩ := row3 HG2.out
      go_wp2
      obtain ⟨hF3, hO3⟩ := heap_set3 w2 w.heap.size 25 _ _ _ (.int .i64 0) (.int .i64 1) (.bool false) HG2.out
      obtain ⟨k0, k1, k2, kf⟩ := row3 hF3
      refine bodyPost_ret (v := .tuple #[.agg #[.int .i64 0, .int .i64 1, .bool false], .int .i64 0]) (by simp [results, Tryd.results9, go_sem, k0, k1, k2]) rfl ⟨?_, ?_⟩
      · rw [HR.out]; rfl
      · exact HB2.out.trans (hO3.below (Nat.le_refl _))
  have t2 := lit_other (fun h => c23 (Or.inl h))
  have t3 := lit_other (fun h => c23 (Or.inr h))
  rw [if_neg c1, if_neg c23] at hbd
  clear c1 c23
  cases hsc : scoreOf s.data.toList with
  | none =>
    have HR : Hid (boundOf s.data.toList = (0, 0, false, 40)) := by show _ = _; rw [hbd, bndS_none hsc]
    rw [scoreT_none hsc] at HS
    clear hbd hsc
    go_enter Tryd.func9, Tryd.ntmps9
    go_wp2_with fail
    refine (show Calls _ _ _ _ _ from HF.out _).mono ?_
    rintro e w2 ⟨rfl, hb2⟩
    obtain ⟨ha, hb, hB⟩ := two_alloc w (.cells #[.int .i64 0, .int .i64 0, .bool false] 25) (.cells #[.int .i64 0, .int .i64 0, .bool false] 25)
    have HG2 : Hid (w2.heap[w.heap.size]? = some (.cells #[.int .i64 0, .int .i64 0, .bool false] 25)) := (hb2.block _ (row_lt ha)).trans ha
    have HH2 : Hid (w2.heap[w.heap.size + 1]? = some (.cells #[.int .i64 0, .int .i64 0, .bool false] 25)) := (hb2.block _ (row_lt hb)).trans hb
    have HB2 : Hid (Below w.heap.size w w2) := hB.trans (hb2.mono hB.size)
    clear hb2 ha hb hB
    go_wp2_with fail
    refine (show Calls _ _ _ _ _ from HS.out _).mono ?_
    rintro e w3 ⟨rfl, hb3⟩
    have HG2 : Hid (w3.heap[w.heap.size]? = some (.cells #[.int .i64 0, .int .i64 0, .bool false] 25)) := (hb3.block _ (row_lt HG2.out)).trans HG2.out
    have HH2 : Hid (w3.heap[w.heap.size + 1]? = some (.cells #[.int .i64 0, .int .i64 0, .bool false] 25)) := (hb3.block _ (row_lt HH2.out)).trans HH2.out
    have HB2 : Hid (Below w.heap.size w w3) := HB2.out.trans (hb3.mono HB2.out.size)
    clear hb3
    obtain ⟨d0, d1, d2, df⟩ := row3 HG2.out
    go_wp2
    obtain ⟨hF3, hO3⟩ := heap_set3 w3 w.heap.size 25 _ _ _ (.int .i64 0) (.int .i64 0) (.bool false) HG2.out
    obtain ⟨k0, k1, k2, kf⟩ := row3 hF3
    refine bodyPost_ret (v := .tuple #[.agg #[.int .i64 0, .int .i64 0, .bool false], .int .i64 40]) (by simp [results, Tryd.results9, go_sem, k0, k1, k2]) rfl ⟨?_, ?_⟩
    · rw [HR.out]; rfl
    · exact HB2.out.trans (hO3.below (Nat.le_refl _))
  | some v =>
    have HR : Hid (boundOf s.data.toList = (v, 0, false, 0)) := by show _ = _; rw [hbd, bndS_some hsc]
    rw [scoreT_some hsc] at HS
    clear hbd hsc
    go_enter Tryd.func9, Tryd.ntmps9
    go_wp2_with fail
    refine (show Calls _ _ _ _ _ from HF.out _).mono ?_
    rintro e w2 ⟨rfl, hb2⟩
    obtain ⟨ha, hb, hB⟩ := two_alloc w (.cells #[.int .i64 0, .int .i64 0, .bool false] 25) (.cells #[.int .i64 0, .int .i64 0, .bool false] 25)
    have HG2 : Hid (w2.heap[w.heap.size]? = some (.cells #[.int .i64 0, .int .i64 0, .bool false] 25)) := (hb2.block _ (row_lt ha)).trans ha
    have HH2 : Hid (w2.heap[w.heap.size + 1]? = some (.cells #[.int .i64 0, .int .i64 0, .bool false] 25)) := (hb2.block _ (row_lt hb)).trans hb
    have HB2 : Hid (Below w.heap.size w w2) := hB.trans (hb2.mono hB.size)
    clear hb2 ha hb hB
    go_wp2_with fail
    refine (show Calls _ _ _ _ _ from HS.out _).mono ?_
    rintro e w3 ⟨rfl, hb3⟩
    have HG2 : Hid (w3.heap[w.heap.size]? = some (.cells #[.int .i64 0, .int .i64 0, .bool false] 25)) := (hb3.block _ (row_lt HG2.out)).trans HG2.out
    have HH2 : Hid (w3.heap[w.heap.size + 1]? = some (.cells #[.int .i64 0, .int .i64 0, .bool false] 25)) := (hb3.block _ (row_lt HH2.out)).trans HH2.out
    have HB2 : Hid (Below w.heap.size w w3) := HB2.out.trans (hb3.mono HB2.out.size)
    clear hb3
    obtain ⟨b0, b1, b2, bf⟩ := row3 HH2.out
    go_upto_region 15 with fail
    obtain ⟨w4, hw4⟩ : ∃ w4, w3.setCell ⟨w.heap.size + 1, 0, none⟩ (.int .i64 v) = w4 := ⟨_, rfl⟩
    have HH4 : Hid (w4.heap[w.heap.size + 1]? = some (.cells #[.int .i64 v, .int .i64 0, .bool false] 25)) := by rw [← hw4]; exact heap_b0 _ _ _ _ _ _ _ HH2.out
    have HG2 : Hid (w4.heap[w.heap.size]? = some (.cells #[.int .i64 0, .int .i64 0, .bool false] 25)) := by rw [← hw4]; exact (heap_setCell_other _ _ _ _ (by show w.heap.size ≠ w.heap.size + 1; omega)).trans HG2.out
    have HB2 : Hid (Below w.heap.size w w4) := by rw [← hw4]; exact HB2.out.setCell (p := ⟨w.heap.size + 1, 0, none⟩) (show w.heap.size ≤ w.heap.size + 1 by omega) _
    rw [hw4]
    clear hw4 b0 b1 b2 bf
    obtain ⟨b0, b1, b2, bf⟩ := row3 HH4.out
    obtain ⟨d0, d1, d2, df⟩ := row3 HG2.out
    go_wp2
    obtain ⟨hF3, hO3⟩ := heap_set3 w4 w.heap.size 25 _ _ _ (.int .i64 v) (.int .i64 0) (.bool false) HG2.out
    obtain ⟨k0, k1, k2, kf⟩ := row3 hF3
    refine bodyPost_ret (v := .tuple #[.agg #[.int .i64 v, .int .i64 0, .bool false], .int .i64 0]) (by simp [results, Tryd.results9, go_sem, k0, k1, k2]) rfl ⟨?_, ?_⟩
    · rw [HR.out]; rfl
    · exact HB2.out.trans (hO3.below (Nat.le_refl _))
set_option maxHeartbeats 2000000 in
set_option maxRecDepth 20000 in
theorem rbound_m (s r f : ByteArray) (hs : s.size ≤ 140737488355328) (hs0 : 0 < s.size) (hem : s.toList.isEmpty = false) (en : s[0].toNat = 40) (er : s.extract 1 s.size = r) (hf : ∀ w : World, Calls Tryd.prog 17 #[.string r] w fun e w' => e = .returned (.string f) ∧ Below w.heap.size w w') (hsc : ∀ w : World, Calls Tryd.prog 13 #[.string r] w fun e w' => e = .returned (scoreT r.data.toList) ∧ Below w.heap.size w w') (hbd : boundOf s.data.toList = bndF f.data.toList r.data.toList true) (w : World) :
    Calls Tryd.prog 9 #[.string s] w fun e w' => e = .returned (bndT (boundOf s.data.toList)) ∧ Below w.heap.size w w' := by
  have HF : Hid (∀ w : World, Calls Tryd.prog 17 #[.string r] w fun e w' => e = .returned (.string f) ∧ Below w.heap.size w w') := hf
  have HS : Hid (∀ w : World, Calls Tryd.prog 13 #[.string r] w fun e w' => e = .returned (scoreT r.data.toList) ∧ Below w.heap.size w w') := hsc
  unfold bndF at hbd
  clear hf hsc
  by_cases c1 : f.data.toList = [45, 105, 110, 102]
  · have HR : Hid (boundOf s.data.toList = (0, -1, false, 0)) := by show _ = _; rw [hbd, if_pos c1]
    have t1 := lit_same c1
    clear hbd c1
    go_enter Tryd.func9, Tryd.ntmps9
    go_wp2_with fail
    refine (show Calls _ _ _ _ _ from HF.out _).mono ?_
    rintro e w2 ⟨rfl, hb2⟩
    obtain ⟨ha, hb, hB⟩ := two_alloc w (.cells #[.int .i64 0, .int .i64 0, .bool false] 25) (.cells #[.int .i64 0, .int .i64 0, .bool true] 25)
    have HG2 : Hid (w2.heap[w.heap.size]? = some (.cells #[.int .i64 0, .int .i64 0, .bool false] 25)) := (hb2.block _ (row_lt ha)).trans ha
    have HH2 : Hid (w2.heap[w.heap.size + 1]? = some (.cells #[.int .i64 0, .int .i64 0, .bool true] 25)) := (hb2.block _ (row_lt hb)).trans hb
    have HB2 : Hid (Below w.heap.size w w2) := hB.trans (hb2.mono hB.size)
    clear hb2 ha hb hB
    obtain ⟨d0, d1, d2, df⟩ := row3 HG2.out
    go_wp2
    obtain ⟨hF3, hO3⟩ := heap_set3 w2 w.heap.size 25 _ _ _ (.int .i64 0) (.int .i64 (-1)) (.bool false) HG2.out
    obtain ⟨k0, k1, k2, kf⟩ := row3 hF3
    refine bodyPost_ret (v := .tuple #[.agg #[.int .i64 0, .int .i64 (-1), .bool false], .int .i64 0]) (by simp [results, Tryd.results9, go_sem, k0, k1, k2]) rfl ⟨?_, ?_⟩
    · rw [HR.out]; rfl
    · exact HB2.out.trans (hO3.below (Nat.le_refl _))
  have t1 := lit_other c1
  by_cases c23 : f.data.toList = [43, 105, 110, 102] ∨ f.data.toList = [105, 110, 102]
  · have HR : Hid (boundOf s.data.toList = (0, 1, false, 0)) := by show _ = _; rw [hbd, if_neg c1, if_pos c23]
    clear hbd c1
    by_cases c2 : f.data.toList = [43, 105, 110, 102]
    · have t2 := lit_same c2
      clear c2 c23
      go_enter Tryd.func9, Tryd.ntmps9
      go_wp2_with fail
      refine (show Calls _ _ _ _ _ from HF.out _).mono ?_
      rintro e w2 ⟨rfl, hb2⟩
      obtain ⟨ha, hb, hB⟩ := two_alloc w (.cells #[.int .i64 0, .int .i64 0, .bool false] 25) (.cells #[.int .i64 0, .int .i64 0, .bool true] 25)
      have HG2 : Hid (w2.heap[w.heap.size]? = some (.cells #[.int .i64 0, .int .i64 0, .bool false] 25)) := (hb2.block _ (row_lt ha)).trans ha
      have HH2 : Hid (w2.heap[w.heap.size + 1]? = some (.cells #[.int .i64 0, .int .i64 0, .bool true] 25)) := (hb2.block _ (row_lt hb)).trans hb
      have HB2 : Hid (Below w.heap.size w w2) := hB.trans (hb2.mono hB.size)
      clear hb2 ha hb hB
      obtain ⟨d0, d1, d2, df⟩ := row3 HG2.out
      go_wp2
      obtain ⟨hF3, hO3⟩ := heap_set3 w2 w.heap.size 25 _ _ _ (.int .i64 0) (.int .i64 1) (.bool false) HG2.out
      obtain ⟨k0, k1, k2, kf⟩ := row3 hF3
      refine bodyPost_ret (v := .tuple #[.agg #[.int .i64 0, .int .i64 1, .bool false], .int .i64 0]) (by simp [results, Tryd.results9, go_sem, k0, k1, k2]) rfl ⟨?_, ?_⟩
      · rw [HR.out]; rfl
      · exact HB2.out.trans (hO3.below (Nat.le_refl _))
    · have t2 := lit_other c2
      have t3 := lit_same (c23.resolve_left c2)
      clear c2 c23
      go_enter Tryd.func9, Tryd.ntmps9
      go_wp2_with fail
      refine (show Calls _ _ _ _ _ from HF.out _).mono ?_
      rintro e w2 ⟨rfl, hb2⟩
      obtain ⟨ha, hb, hB⟩ := two_alloc w (.cells #[.int .i64 0, .int .i64 0, .bool false] 25) (.cells #[.int .i64 0, .int .i64 0, .bool true] 25)
      have HG2 : Hid (w2.heap[w.heap.size]? = some (.cells #[.int .i64 0, .int .i64 0, .bool false] 25)) := (hb2.block _ (row_lt ha)).trans ha
      have HH2 : Hid (w2.heap[w.heap.size + 1]? = some (.cells #[.int .i64 0, .int .i64 0, .bool true] 25)) := (hb2.block _ (row_lt hb)).trans hb
      have HB2 : Hid (Below w.heap.size w w2) := hB.trans (hb2.mono hB.size)
      clear hb2 ha hb hB
      obtain ⟨d0, d1, d2, df⟩ := row3 HG2.out
      go_wp2
      obtain ⟨hF3, hO3⟩ := heap_set3 w2 w.heap.size 25 _ _ _ (.int .i64 0) (.int .i64 1) (.bool false) HG2.out
      obtain ⟨k0, k1, k2, kf⟩ := row3 hF3
      refine bodyPost_ret (v := .tuple #[.agg #[.int .i64 0, .int .i64 1, .bool false], .int .i64 0]) (by simp [results, Tryd.results9, go_sem, k0, k1, k2]) rfl ⟨?_, ?_⟩
      · rw [HR.out]; rfl
      · exact HB2.out.trans (hO3.below (Nat.le_refl _))
  have t2 := lit_other (fun h => c23 (Or.inl h))
  have t3 := lit_other (fun h => c23 (Or.inr h))
  rw [if_neg c1, if_neg c23] at hbd
  clear c1 c23
  cases hsc : scoreOf r.data.toList with
  | none =>
    have HR : Hid (boundOf s.data.toList = (0, 0, false, 40)) := by show _ = _; rw [hbd, bndS_none hsc]
    rw [scoreT_none hsc] at HS
    clear hbd hsc
    go_enter Tryd.func9, Tryd.ntmps9
    go_wp2_with fail
    refine (show Calls _ _ _ _ _ from HF.out _).mono ?_
    rintro e w2 ⟨rfl, hb2⟩
    obtain ⟨ha, hb, hB⟩ := two_alloc w (.cells #[.int .i64 0, .int .i64 0, .bool false] 25) (.cells #[.int .i64 0, .int .i64 0, .bool true] 25)
    have HG2 : Hid (w2.heap[w.heap.size]? = some (.cells #[.int .i64 0, .int .i64 0, .bool false] 25)) := (hb2.block _ (row_lt ha)).trans ha
    have HH2 : Hid (w2.heap[w.heap.size + 1]? = some (.cells #[.int .i64 0, .int .i64 0, .bool true] 25)) := (hb2.block _ (row_lt hb)).trans hb
    have HB2 : Hid (Below w.heap.size w w2) := hB.trans (hb2.mono hB.size)
    clear hb2 ha hb hB
    go_wp2_with fail
    refine (show Calls _ _ _ _ _ from HS.out _).mono ?_
    rintro e w3 ⟨rfl, hb3⟩
    have HG2 : Hid (w3.heap[w.heap.size]? = some (.cells #[.int .i64 0, .int .i64 0, .bool false] 25)) := (hb3.block _ (row_lt HG2.out)).trans HG2.out
    have HH2 : Hid (w3.heap[w.heap.size + 1]? = some (.cells #[.int .i64 0, .int .i64 0, .bool true] 25)) := (hb3.block _ (row_lt HH2.out)).trans HH2.out
    have HB2 : Hid (Below w.heap.size w w3) := HB2.out.trans (hb3.mono HB2.out.size)
    clear hb3
    obtain ⟨d0, d1, d2, df⟩ := row3 HG2.out
    go_wp2
    obtain ⟨hF3, hO3⟩ := heap_set3 w3 w.heap.size 25 _ _ _ (.int .i64 0) (.int .i64 0) (.bool false) HG2.out
    obtain ⟨k0, k1, k2, kf⟩ := row3 hF3
    refine bodyPost_ret (v := .tuple #[.agg #[.int .i64 0, .int .i64 0, .bool false], .int .i64 40]) (by simp [results, Tryd.results9, go_sem, k0, k1, k2]) rfl ⟨?_, ?_⟩
    · rw [HR.out]; rfl
    · exact HB2.out.trans (hO3.below (Nat.le_refl _))
  | some v =>
    have HR : Hid (boundOf s.data.toList = (v, 0, true, 0)) := by show _ = _; rw [hbd, bndS_some hsc]
    rw [scoreT_some hsc] at HS
    clear hbd hsc
    go_enter Tryd.func9, Tryd.ntmps9
    go_wp2_with fail
    refine (show Calls _ _ _ _ _ from HF.out _).mono ?_
    rintro e w2 ⟨rfl, hb2⟩
    obtain ⟨ha, hb, hB⟩ := two_alloc w (.cells #[.int .i64 0, .int .i64 0, .bool false] 25) (.cells #[.int .i64 0, .int .i64 0, .bool true] 25)
    have HG2 : Hid (w2.heap[w.heap.size]? = some (.cells #[.int .i64 0, .int .i64 0, .bool false] 25)) := (hb2.block _ (row_lt ha)).trans ha
    have HH2 : Hid (w2.heap[w.heap.size + 1]? = some (.cells #[.int .i64 0, .int .i64 0, .bool true] 25)) := (hb2.block _ (row_lt hb)).trans hb
    have HB2 : Hid (Below w.heap.size w w2) := hB.trans (hb2.mono hB.size)
    clear hb2 ha hb hB
    go_wp2_with fail
    refine (show Calls _ _ _ _ _ from HS.out _).mono ?_
    rintro e w3 ⟨rfl, hb3⟩
    have HG2 : Hid (w3.heap[w.heap.size]? = some (.cells #[.int .i64 0, .int .i64 0, .bool false] 25)) := (hb3.block _ (row_lt HG2.out)).trans HG2.out
    have HH2 : Hid (w3.heap[w.heap.size + 1]? = some (.cells #[.int .i64 0, .int .i64 0, .bool true] 25)) := (hb3.block _ (row_lt HH2.out)).trans HH2.out
    have HB2 : Hid (Below w.heap.size w w3) := HB2.out.trans (hb3.mono HB2.out.size)
    clear hb3
    obtain ⟨b0, b1, b2, bf⟩ := row3 HH2.out
    go_upto_region 15 with fail
    obtain ⟨w4, hw4⟩ : ∃ w4, w3.setCell ⟨w.heap.size + 1, 0, none⟩ (.int .i64 v) = w4 := ⟨_, rfl⟩
    have HH4 : Hid (w4.heap[w.heap.size + 1]? = some (.cells #[.int .i64 v, .int .i64 0, .bool true] 25)) := by rw [← hw4]; exact heap_b0 _ _ _ _ _ _ _ HH2.out
    have HG2 : Hid (w4.heap[w.heap.size]? = some (.cells #[.int .i64 0, .int .i64 0, .bool false] 25)) := by rw [← hw4]; exact (heap_setCell_other _ _ _ _ (by show w.heap.size ≠ w.heap.size + 1; omega)).trans HG2.out
    have HB2 : Hid (Below w.heap.size w w4) := by rw [← hw4]; exact HB2.out.setCell (p := ⟨w.heap.size + 1, 0, none⟩) (show w.heap.size ≤ w.heap.size + 1 by omega) _
    rw [hw4]
    clear hw4 b0 b1 b2 bf
    obtain ⟨b0, b1, b2, bf⟩ := row3 HH4.out
    obtain ⟨d0, d1, d2, df⟩ := row3 HG2.out
    go_wp2
    obtain ⟨hF3, hO3⟩ := heap_set3 w4 w.heap.size 25 _ _ _ (.int .i64 v) (.int .i64 0) (.bool true) HG2.out
    obtain ⟨k0, k1, k2, kf⟩ := row3 hF3
    refine bodyPost_ret (v := .tuple #[.agg #[.int .i64 v, .int .i64 0, .bool true], .int .i64 0]) (by simp [results, Tryd.results9, go_sem, k0, k1, k2]) rfl ⟨?_, ?_⟩
    · rw [HR.out]; rfl
    · exact HB2.out.trans (hO3.below (Nat.le_refl _))
theorem rbound_any (s : ByteArray) (hs : s.size ≤ 140737488351232) (w : World) :
    Calls Tryd.prog 9 #[.string s] w fun e w' => e = .returned (bndT (boundOf s.data.toList)) ∧ Below w.heap.size w w' := by
  by_cases hz : s.size = 0
  · have e : s.data.toList = [] := List.length_eq_zero_iff.1 (by rw [list_len]; exact hz)
    exact rbound_e s s (foldB s) (by omega) (str_empty hz) (fun w => rfold_any s hs w) (fun w => rscore_any s (by omega) w) (by
      unfold boundOf foldB; rw [strB_list, e, restL_nil, isC_nil]) w
  · have hs0 : 0 < s.size := by omega
    by_cases hc : s[0].toNat = 40
    · have hr : (s.extract 1 s.size).size ≤ s.size := by rw [ext_size _ _ _ (Nat.le_refl _)]; omega
      have hl : restL 40 s.data.toList = (s.extract 1 s.size).data.toList := by rw [← tail_str s 40 hs0 (UInt8.toNat_inj.1 hc), strB_list]
      have hi : isC 40 s.data.toList = true := by rw [first_is s 40 hs0 _ rfl, hc]; rfl
      exact rbound_m s _ (foldB (s.extract 1 s.size)) (by omega) hs0 (str_full hz) hc rfl (fun w => rfold_any _ (by omega) w) (fun w => rscore_any _ (by omega) w) (by
        unfold boundOf foldB; rw [strB_list, hi, hl]) w
    · have hl : restL 40 s.data.toList = s.data.toList := by
        rw [head_tl s hs0]; exact restL_no _ (fun x => hc (by rw [x]; rfl))
      have hi : isC 40 s.data.toList = false := by rw [first_is s 40 hs0 _ rfl]; exact decide_eq_false hc
      exact rbound_n s s (foldB s) (by omega) hs0 (str_full hz) _ rfl (by simp; omega) (fun w => rfold_any s hs w) (fun w => rscore_any s (by omega) w) (by
        unfold boundOf foldB; rw [strB_list, hi, hl]) w
end Go.Proofs.YtpckadpnedfkkaaDoor
