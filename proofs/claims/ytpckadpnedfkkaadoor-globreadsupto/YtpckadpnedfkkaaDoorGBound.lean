import Derived.Test.YtpckadpnedfkkaaDoorNum4
import Derived.Test.YtpckadpnedfkkaaDoorGFold
import Derived.Test.YtpckadpnedfkkaaDoorGStep
namespace Go.Proofs.YtpckadpnedfkkaaDoor
open Go.RowKit Vi Gb
set_option linter.unusedVariables false
def scoreOf (l : List UInt8) : Option Int := match numberOf l with
  | some v => if -9007199254740991 ≤ v ∧ v ≤ 9007199254740991 then some v else none
  | none => none
def scoreT (l : List UInt8) : Value := match scoreOf l with
  | some v => .tuple #[.int .i64 v, .bool true]
  | none => .tuple #[.int .i64 0, .bool false]
theorem scoreT_some {l : List UInt8} {v : Int} (h : scoreOf l = some v) : scoreT l = .tuple #[.int .i64 v, .bool true] := by unfold scoreT; rw [h]
theorem scoreT_none {l : List UInt8} (h : scoreOf l = none) : scoreT l = .tuple #[.int .i64 0, .bool false] := by unfold scoreT; rw [h]
theorem scoreOf_in {l : List UInt8} {v : Int} (h : numberOf l = some v) (h1 : -9007199254740991 ≤ v) (h2 : v ≤ 9007199254740991) : scoreOf l = some v := by unfold scoreOf; rw [h]; exact if_pos ⟨h1, h2⟩
theorem scoreOf_out {l : List UInt8} {v : Int} (h : numberOf l = some v) (h1 : ¬ (-9007199254740991 ≤ v ∧ v ≤ 9007199254740991)) : scoreOf l = none := by unfold scoreOf; rw [h]; exact if_neg h1
theorem scoreOf_no {l : List UInt8} (h : numberOf l = none) : scoreOf l = none := by unfold scoreOf; rw [h]
set_option maxHeartbeats 400000 in
set_option maxRecDepth 20000 in
theorem score_any (s : ByteArray) (hs : s.size ≤ 281474976710656) (w : World) (hL : Laid w) :
    Calls Tryd.prog 12 #[.string s] w fun e w' => e = .returned (scoreT s.data.toList) ∧ Below w.heap.size w w' := by
  have HN : Hid _ := number_any s hs w hL
  clear hL
  cases hn : numberOf s.data.toList with
  | none =>
    rw [numT_none hn] at HN
    have HR : Hid _ := scoreT_none (scoreOf_no hn)
    clear hn
    go_enter Tryd.func12, Tryd.ntmps12
    go_wp2_with fail
    refine (show Calls _ _ _ _ _ from HN.out).mono ?_
    rintro e w1 ⟨rfl, hb1⟩
    go_wp2
    go_ret2
    exact ⟨by rw [HR.out]; rfl, hb1⟩
  | some v =>
    rw [numT_some hn] at HN
    by_cases h1 : v < -9007199254740991
    · have HR : Hid _ := scoreT_none (scoreOf_out hn (by omega))
      clear hn
      go_enter Tryd.func12, Tryd.ntmps12
      go_wp2_with fail
      refine (show Calls _ _ _ _ _ from HN.out).mono ?_
      rintro e w1 ⟨rfl, hb1⟩
      go_wp2
      go_ret2
      exact ⟨by rw [HR.out]; rfl, hb1⟩
    · by_cases h2 : 9007199254740991 < v
      · have HR : Hid _ := scoreT_none (scoreOf_out hn (by omega))
        clear hn
        go_enter Tryd.func12, Tryd.ntmps12
        go_wp2_with fail
        refine (show Calls _ _ _ _ _ from HN.out).mono ?_
        rintro e w1 ⟨rfl, hb1⟩
        go_wp2
        go_ret2
        exact ⟨by rw [HR.out]; rfl, hb1⟩
      · have HR : Hid _ := scoreT_some (scoreOf_in hn (by omega) (by omega))
        clear hn
        go_enter Tryd.func12, Tryd.ntmps12
        go_wp2_with fail
        refine (show Calls _ _ _ _ _ from HN.out).mono ?_
        rintro e w1 ⟨rfl, hb1⟩
        go_wp2
        go_ret2
        exact ⟨by rw [HR.out]; rfl, hb1⟩
def restL (c : UInt8) (l : List UInt8) : List UInt8 := Lib.trimPrefix l [c]
def isC (c : UInt8) (l : List UInt8) : Bool := Lib.hasPrefix l [c]
theorem cut_any (s : ByteArray) (c : UInt8) (w : World) :
    Calls Tryd.prog 21 #[.string s, .string ⟨#[c]⟩] w fun e w' => e = .returned (.tuple #[.string (strB (restL c s.data.toList)), .bool (isC c s.data.toList)]) ∧ w' = w :=
  Tryd.strings_CutPrefix s ⟨#[c]⟩ w
theorem isC_nil (c : UInt8) : isC c [] = false := by unfold isC Lib.hasPrefix; simp
theorem isC_cons (c d : UInt8) (r : List UInt8) : isC c (d :: r) = (d == c) := by
  unfold isC Lib.hasPrefix
  rw [Bool.eq_iff_iff]; simp
  exact ⟨fun h => h.symm, fun h => h.symm⟩
theorem restL_nil (c : UInt8) : restL c [] = [] := by unfold restL Lib.trimPrefix; simp [Lib.hasPrefix]
theorem restL_yes (c : UInt8) (r : List UInt8) : restL c (c :: r) = r := by unfold restL Lib.trimPrefix; simp [Lib.hasPrefix]
theorem restL_no {c d : UInt8} (r : List UInt8) (h : ¬ d = c) : restL c (d :: r) = d :: r := by
  unfold restL Lib.trimPrefix
  rw [if_neg]
  intro hh
  have := isC_cons c d r
  unfold isC at this
  rw [this] at hh
  exact h (by simpa using hh)
theorem restL_len (c : UInt8) (l : List UInt8) : (restL c l).length ≤ l.length := by
  cases l with
  | nil => rw [restL_nil]; exact Nat.le_refl _
  | cons d r =>
    by_cases h : d = c
    · subst h; rw [restL_yes]; simp
    · rw [restL_no r h]; exact Nat.le_refl _
def bndS (r : List UInt8) (op : Bool) : Int × Int × Bool × Int := match scoreOf r with
  | some v => (v, 0, op, 0)
  | none => (0, 0, false, 40)
theorem bndS_some {r : List UInt8} {v : Int} (h : scoreOf r = some v) (op : Bool) : bndS r op = (v, 0, op, 0) := by unfold bndS; rw [h]
theorem bndS_none {r : List UInt8} (h : scoreOf r = none) (op : Bool) : bndS r op = (0, 0, false, 40) := by unfold bndS; rw [h]
/-- the end of a range of scores: Score, Inf, Open and the error. -/
def bndF (f r : List UInt8) (op : Bool) : Int × Int × Bool × Int :=
  if f = [45, 105, 110, 102] then (0, -1, false, 0)
  else if f = [43, 105, 110, 102] ∨ f = [105, 110, 102] then (0, 1, false, 0)
  else bndS r op
def boundOf (l : List UInt8) : Int × Int × Bool × Int := bndF (fold (restL 40 l)) (restL 40 l) (isC 40 l)
def bndT (q : Int × Int × Bool × Int) : Value := .tuple #[.agg #[.int .i64 q.1, .int .i64 q.2.1, .bool q.2.2.1], .int .i64 q.2.2.2]
theorem heap_set3 (w : World) (g T : Nat) (a b c v0 v1 v2 : Value) (h : w.heap[g]? = some (.cells #[a, b, c] T)) :
    (((w.setCell ⟨g, 0, none⟩ v0).setCell ⟨g, 1, none⟩ v1).setCell ⟨g, 2, none⟩ v2).heap[g]? = some (.cells #[v0, v1, v2] T) ∧ Only w (((w.setCell ⟨g, 0, none⟩ v0).setCell ⟨g, 1, none⟩ v1).setCell ⟨g, 2, none⟩ v2) g := by
  refine ⟨?_, (((Only.refl w g).set _ _).set _ _).set _ _⟩
  rw [heap_setCell_same _ _ _ _ _ _ (heap_setCell_same _ _ _ _ _ _ (heap_setCell_same _ _ _ _ _ _ h))]; rfl
theorem row3 {w : World} {g T : Nat} {v0 v1 v2 : Value} (h : w.heap[g]? = some (.cells #[v0, v1, v2] T)) :
    w.cell? ⟨g, 0, none⟩ = some v0 ∧ w.cell? ⟨g, 1, none⟩ = some v1 ∧ w.cell? ⟨g, 2, none⟩ = some v2 ∧ ∀ j, w.frozen? ⟨g, j, none⟩ = false := by
  refine ⟨?_, ?_, ?_, fun j => frozen_of_row _ _ _ _ _ h⟩ <;> rw [cell_of_row _ _ _ _ _ _ h] <;> rfl
theorem lit_same {s : ByteArray} {x : List UInt8} (h : s.data.toList = x) : (s.toList == x) = true := by rw [ByteArray.toList_eq, h]; simp
theorem lit_other {s : ByteArray} {x : List UInt8} (h : ¬ s.data.toList = x) : (s.toList == x) = false := by rw [ByteArray.toList_eq]; simpa using h
set_option maxHeartbeats 1000000 in
set_option maxRecDepth 20000 in
theorem bound_any (s : ByteArray) (hs : s.size ≤ 140737488355328) (w : World) (hL : Laid w) :
    Calls Tryd.prog 8 #[.string s] w fun e w' => e = .returned (bndT (boundOf s.data.toList)) ∧ Below w.heap.size w w' := by
  obtain ⟨r, hr⟩ : ∃ r, strB (restL 40 s.data.toList) = r := ⟨_, rfl⟩
  have hrl : r.data.toList = restL 40 s.data.toList := by rw [← hr, strB_list]
  have hrz : r.size ≤ s.size := by rw [← list_len, ← list_len s, hrl]; exact restL_len _ _
  obtain ⟨op, hop⟩ : ∃ op, isC 40 s.data.toList = op := ⟨_, rfl⟩
  have HC : Hid (∀ w : World, Calls Tryd.prog 21 #[.string s, .string ⟨#[40]⟩] w fun e w' => e = .returned (.tuple #[.string r, .bool op]) ∧ w' = w) := fun w => by
    have := cut_any s 40 w
    rw [hr, hop] at this
    exact this
  have HL : Hid (Laid w) := hL
  have hFL : (foldB r).data.toList = fold (restL 40 s.data.toList) := by rw [← hrl]; unfold foldB; rw [strB_list]
  have hbd : boundOf s.data.toList = bndF (foldB r).data.toList r.data.toList op := by
    rw [hFL, hrl, ← hop]; rfl
  unfold bndF at hbd
  clear hFL hop hr hrl hL
  obtain ⟨f, hf⟩ : ∃ f, foldB r = f := ⟨_, rfl⟩
  have HF : Hid (∀ w : World, Calls Tryd.prog 16 #[.string r] w fun e w' => e = .returned (.string f) ∧ Below w.heap.size w w') := fun w => by
    have := fold_any r (by omega) w
    rw [hf] at this
    exact this
  rw [hf] at hbd
  clear hf
  by_cases c1 : f.data.toList = [45, 105, 110, 102]
  · have HR : Hid (boundOf s.data.toList = (0, -1, false, 0)) := by show _ = _; rw [hbd, if_pos c1]
    have t1 := lit_same c1
    clear hbd c1
    go_enter Tryd.func8, Tryd.ntmps8
    go_wp2_with fail
    refine (show Calls _ _ _ _ _ from HC.out _).mono ?_
    rintro e w1 ⟨rfl, hw1⟩
    have HG1 : Hid (w1.heap[w.heap.size]? = some (.cells #[.int .i64 0, .int .i64 0, .bool false] 25)) := by rw [hw1]; exact one_alloc w _
    have HB1 : Hid (Below w.heap.size w w1) := by rw [hw1]; exact (Below.refl _ w).alloc (Nat.le_refl _) _
    clear hw1
    go_wp2_with fail
    refine (show Calls _ _ _ _ _ from HF.out _).mono ?_
    rintro e w2 ⟨rfl, hb2⟩
    have HG2 : Hid (w2.heap[w.heap.size]? = some (.cells #[.int .i64 0, .int .i64 0, .bool false] 25)) := (hb2.block _ (row_lt HG1.out)).trans HG1.out
    have HB2 : Hid (Below w.heap.size w w2) := HB1.out.trans (hb2.mono HB1.out.size)
    obtain ⟨d0, d1, d2, df⟩ := row3 HG2.out
    clear hb2
    go_wp2
    obtain ⟨hF3, hO3⟩ := heap_set3 w2 w.heap.size 25 _ _ _ (.int .i64 0) (.int .i64 (-1)) (.bool false) HG2.out
    obtain ⟨k0, k1, k2, kf⟩ := row3 hF3
    refine bodyPost_ret (v := .tuple #[.agg #[.int .i64 0, .int .i64 (-1), .bool false], .int .i64 0]) (by simp [results, Tryd.results8, go_sem, k0, k1, k2]) rfl ⟨?_, ?_⟩
    · rw [HR.out]; rfl
    · exact HB2.out.trans (hO3.below (Nat.le_refl _))
  · have t1 := lit_other c1
    by_cases c2 : f.data.toList = [43, 105, 110, 102]
    · have HR : Hid (boundOf s.data.toList = (0, 1, false, 0)) := by show _ = _; rw [hbd, if_neg c1, if_pos (Or.inl c2)]
      have t2 := lit_same c2
      clear hbd c1 c2
      go_enter Tryd.func8, Tryd.ntmps8
      go_wp2_with fail
      refine (show Calls _ _ _ _ _ from HC.out _).mono ?_
      rintro e w1 ⟨rfl, hw1⟩
      have HG1 : Hid (w1.heap[w.heap.size]? = some (.cells #[.int .i64 0, .int .i64 0, .bool false] 25)) := by rw [hw1]; exact one_alloc w _
      have HB1 : Hid (Below w.heap.size w w1) := by rw [hw1]; exact (Below.refl _ w).alloc (Nat.le_refl _) _
      clear hw1
      go_wp2_with fail
      refine (show Calls _ _ _ _ _ from HF.out _).mono ?_
      rintro e w2 ⟨rfl, hb2⟩
      have HG2 : Hid (w2.heap[w.heap.size]? = some (.cells #[.int .i64 0, .int .i64 0, .bool false] 25)) := (hb2.block _ (row_lt HG1.out)).trans HG1.out
      have HB2 : Hid (Below w.heap.size w w2) := HB1.out.trans (hb2.mono HB1.out.size)
      obtain ⟨d0, d1, d2, df⟩ := row3 HG2.out
      clear hb2
      go_wp2
      obtain ⟨hF3, hO3⟩ := heap_set3 w2 w.heap.size 25 _ _ _ (.int .i64 0) (.int .i64 1) (.bool false) HG2.out
      obtain ⟨k0, k1, k2, kf⟩ := row3 hF3
      refine bodyPost_ret (v := .tuple #[.agg #[.int .i64 0, .int .i64 1, .bool false], .int .i64 0]) (by simp [results, Tryd.results8, go_sem, k0, k1, k2]) rfl ⟨?_, ?_⟩
      · rw [HR.out]; rfl
      · exact HB2.out.trans (hO3.below (Nat.le_refl _))
    · have t2 := lit_other c2
      by_cases c3 : f.data.toList = [105, 110, 102]
      · have HR : Hid (boundOf s.data.toList = (0, 1, false, 0)) := by show _ = _; rw [hbd, if_neg c1, if_pos (Or.inr c3)]
        have t3 := lit_same c3
        clear hbd c1 c2 c3
        go_enter Tryd.func8, Tryd.ntmps8
        go_wp2_with fail
        refine (show Calls _ _ _ _ _ from HC.out _).mono ?_
        rintro e w1 ⟨rfl, hw1⟩
        have HG1 : Hid (w1.heap[w.heap.size]? = some (.cells #[.int .i64 0, .int .i64 0, .bool false] 25)) := by rw [hw1]; exact one_alloc w _
        have HB1 : Hid (Below w.heap.size w w1) := by rw [hw1]; exact (Below.refl _ w).alloc (Nat.le_refl _) _
        clear hw1
        go_wp2_with fail
        refine (show Calls _ _ _ _ _ from HF.out _).mono ?_
        rintro e w2 ⟨rfl, hb2⟩
        have HG2 : Hid (w2.heap[w.heap.size]? = some (.cells #[.int .i64 0, .int .i64 0, .bool false] 25)) := (hb2.block _ (row_lt HG1.out)).trans HG1.out
        have HB2 : Hid (Below w.heap.size w w2) := HB1.out.trans (hb2.mono HB1.out.size)
        obtain ⟨d0, d1, d2, df⟩ := row3 HG2.out
        clear hb2
        go_wp2
        obtain ⟨hF3, hO3⟩ := heap_set3 w2 w.heap.size 25 _ _ _ (.int .i64 0) (.int .i64 1) (.bool false) HG2.out
        obtain ⟨k0, k1, k2, kf⟩ := row3 hF3
        refine bodyPost_ret (v := .tuple #[.agg #[.int .i64 0, .int .i64 1, .bool false], .int .i64 0]) (by simp [results, Tryd.results8, go_sem, k0, k1, k2]) rfl ⟨?_, ?_⟩
        · rw [HR.out]; rfl
        · exact HB2.out.trans (hO3.below (Nat.le_refl _))
      · have t3 := lit_other c3
        have hbd2 : boundOf s.data.toList = bndS r.data.toList op := by
          rw [hbd, if_neg c1, if_neg]
          rintro (h | h)
          · exact c2 h
          · exact c3 h
        clear hbd c1 c2 c3
        cases hsc : scoreOf r.data.toList with
        | none =>
          have HR : Hid (boundOf s.data.toList = (0, 0, false, 40)) := by show _ = _; rw [hbd2, bndS_none hsc]
          have HST : Hid _ := scoreT_none hsc
          clear hbd2 hsc
          go_enter Tryd.func8, Tryd.ntmps8
          go_wp2_with fail
          refine (show Calls _ _ _ _ _ from HC.out _).mono ?_
          rintro e w1 ⟨rfl, hw1⟩
          have HG1 : Hid (w1.heap[w.heap.size]? = some (.cells #[.int .i64 0, .int .i64 0, .bool false] 25)) := by rw [hw1]; exact one_alloc w _
          have HB1 : Hid (Below w.heap.size w w1) := by rw [hw1]; exact (Below.refl _ w).alloc (Nat.le_refl _) _
          clear hw1
          go_wp2_with fail
          refine (show Calls _ _ _ _ _ from HF.out _).mono ?_
          rintro e w2 ⟨rfl, hb2⟩
          have HG2 : Hid (w2.heap[w.heap.size]? = some (.cells #[.int .i64 0, .int .i64 0, .bool false] 25)) := (hb2.block _ (row_lt HG1.out)).trans HG1.out
          have HB2 : Hid (Below w.heap.size w w2) := HB1.out.trans (hb2.mono HB1.out.size)
          obtain ⟨d0, d1, d2, df⟩ := row3 HG2.out
          clear hb2
          clear d0 d1 d2 df
          have HSC : Hid _ := score_any r (by omega) w2 (HL.out.on (HB2.out))
          rw [HST.out] at HSC
          go_wp2_with fail
          refine (show Calls _ _ _ _ _ from HSC.out).mono ?_
          rintro e w3 ⟨rfl, hb3⟩
          have HG2 : Hid (w3.heap[w.heap.size]? = some (.cells #[.int .i64 0, .int .i64 0, .bool false] 25)) := (hb3.block _ (row_lt HG2.out)).trans HG2.out
          have HB2 : Hid (Below w.heap.size w w3) := HB2.out.trans (hb3.mono HB2.out.size)
          obtain ⟨d0, d1, d2, df⟩ := row3 HG2.out
          clear hb3
          go_wp2
          obtain ⟨hF3, hO3⟩ := heap_set3 w3 w.heap.size 25 _ _ _ (.int .i64 0) (.int .i64 0) (.bool false) HG2.out
          obtain ⟨k0, k1, k2, kf⟩ := row3 hF3
          refine bodyPost_ret (v := .tuple #[.agg #[.int .i64 0, .int .i64 0, .bool false], .int .i64 40]) (by simp [results, Tryd.results8, go_sem, k0, k1, k2]) rfl ⟨?_, ?_⟩
          · rw [HR.out]; rfl
          · exact HB2.out.trans (hO3.below (Nat.le_refl _))
        | some v =>
          have HR : Hid (boundOf s.data.toList = (v, 0, op, 0)) := by show _ = _; rw [hbd2, bndS_some hsc]
          have HST : Hid _ := scoreT_some hsc
          clear hbd2 hsc
          go_enter Tryd.func8, Tryd.ntmps8
          go_wp2_with fail
          refine (show Calls _ _ _ _ _ from HC.out _).mono ?_
          rintro e w1 ⟨rfl, hw1⟩
          have HG1 : Hid (w1.heap[w.heap.size]? = some (.cells #[.int .i64 0, .int .i64 0, .bool false] 25)) := by rw [hw1]; exact one_alloc w _
          have HB1 : Hid (Below w.heap.size w w1) := by rw [hw1]; exact (Below.refl _ w).alloc (Nat.le_refl _) _
          clear hw1
          go_wp2_with fail
          refine (show Calls _ _ _ _ _ from HF.out _).mono ?_
          rintro e w2 ⟨rfl, hb2⟩
          have HG2 : Hid (w2.heap[w.heap.size]? = some (.cells #[.int .i64 0, .int .i64 0, .bool false] 25)) := (hb2.block _ (row_lt HG1.out)).trans HG1.out
          have HB2 : Hid (Below w.heap.size w w2) := HB1.out.trans (hb2.mono HB1.out.size)
          obtain ⟨d0, d1, d2, df⟩ := row3 HG2.out
          clear hb2
          clear d0 d1 d2 df
          have HSC : Hid _ := score_any r (by omega) w2 (HL.out.on (HB2.out))
          rw [HST.out] at HSC
          go_wp2_with fail
          refine (show Calls _ _ _ _ _ from HSC.out).mono ?_
          rintro e w3 ⟨rfl, hb3⟩
          have HG2 : Hid (w3.heap[w.heap.size]? = some (.cells #[.int .i64 0, .int .i64 0, .bool false] 25)) := (hb3.block _ (row_lt HG2.out)).trans HG2.out
          have HB2 : Hid (Below w.heap.size w w3) := HB2.out.trans (hb3.mono HB2.out.size)
          obtain ⟨d0, d1, d2, df⟩ := row3 HG2.out
          clear hb3
          go_wp2
          obtain ⟨hF3, hO3⟩ := heap_set3 w3 w.heap.size 25 _ _ _ (.int .i64 v) (.int .i64 0) (.bool op) HG2.out
          obtain ⟨k0, k1, k2, kf⟩ := row3 hF3
          refine bodyPost_ret (v := .tuple #[.agg #[.int .i64 v, .int .i64 0, .bool op], .int .i64 0]) (by simp [results, Tryd.results8, go_sem, k0, k1, k2]) rfl ⟨?_, ?_⟩
          · rw [HR.out]; rfl
          · exact HB2.out.trans (hO3.below (Nat.le_refl _))
end Go.Proofs.YtpckadpnedfkkaaDoor
