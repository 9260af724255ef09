import Derived.Test.YtadihhngegimkaaGreatDoorLRow
import Derived.Test.YtadihhngegimkaaGreatDoorDig6
namespace Go.Proofs.YtadihhngegimkaaGreatDoor
open Go.RowKit
set_option linter.unusedVariables false
structure Lay (w : World) : Prop where
  laid : Laid w
  wid : Wid w
theorem Lay.on {w w' : World} (h : Lay w) (hb : Below w.heap.size w w') : Lay w' := ⟨h.laid.on hb, h.wid.on hb⟩
theorem numI_any (n : Int) (w : World) : Calls Tryz.prog 46 #[.int .i64 n] w fun e w' => e = .returned (.agg #[.string ⟨#[]⟩, .int .i64 n, .bool true]) ∧ Below w.heap.size w w' := by
  go_enter Tryz.func46, Tryz.ntmps46
  go_wp2
  refine bodyPost_ret (v := .agg #[.string ⟨#[]⟩, .int .i64 n, .bool true]) (by simp [results, Tryz.results46, go_sem]) rfl ⟨rfl, ?_⟩
  go_grown
theorem numOf_any (s : ByteArray) (hs : s.size ≤ 281474976710656) (w : World) (hL : Laid w) :
    Calls Tryz.prog 45 #[.string s] w fun e w' => e = .returned (numT s.data.toList) ∧ Below w.heap.size w w' := by
  have HL : Hid (Laid w) := hL
  clear hL
  by_cases h : 20 < s.size
  · have HN : Hid (numT s.data.toList = .tuple #[.int .i64 0, .bool false]) := by
      refine numT_none ?_
      cases hn : Vi.numberOf s.data.toList with
      | none => rfl
      | some v =>
        obtain ⟨e1, e2, e3, _⟩ := Vi.numberOf_some hn
        have := LM.itoa_short v ⟨e2, e3⟩
        rw [e1, list_len] at this; omega
    go_enter Tryz.func45, Tryz.ntmps45
    go_wp2_with fail
    go_ret2
    exact ⟨by rw [HN.out]; rfl, Below.refl _ _⟩
  · have h' : s.size ≤ 20 := by omega
    go_enter Tryz.func45, Tryz.ntmps45
    go_wp2_with fail
    refine (number_any s (by omega) _ HL.out).mono ?_
    rintro e w1 ⟨rfl, hb1⟩
    cases hn : Vi.numberOf s.data.toList with
    | none =>
      have HN : Hid (numT s.data.toList = .tuple #[.int .i64 0, .bool false]) := numT_none hn
      rw [HN.out]
      go_wp2
      go_ret2
      exact ⟨by rw [HN.out]; rfl, hb1⟩
    | some v =>
      have HN : Hid (numT s.data.toList = .tuple #[.int .i64 v, .bool true]) := numT_some hn
      rw [HN.out]
      go_wp2
      go_ret2
      exact ⟨by rw [HN.out]; rfl, hb1⟩
theorem itemOf_any (s : ByteArray) (hs : s.size ≤ 281474976710656) (w : World) (hL : Laid w) :
    Calls Tryz.prog 27 #[.string s] w fun e w' => e = .returned (encI (LM.itemOf s.data.toList)) ∧ Below w.heap.size w w' := by
  have HL : Hid (Laid w) := hL
  clear hL
  cases hn : Vi.numberOf s.data.toList with
  | none =>
    have HN : Hid (numT s.data.toList = .tuple #[.int .i64 0, .bool false]) := numT_none hn
    have HI : Hid (encI (LM.itemOf s.data.toList) = .agg #[.string s, .int .i64 0, .bool false]) := by show _ = _; unfold LM.itemOf; rw [hn]; rfl
    go_enter Tryz.func27, Tryz.ntmps27
    go_wp2_with fail
    refine (numOf_any s hs _ (HL.out.on ((Below.refl _ w).alloc (Nat.le_refl _) _))).mono ?_
    rintro e w1 ⟨rfl, hb1⟩
    have HG1 : Hid (w1.heap[w.heap.size]? = some (.cells #[.string ⟨#[]⟩, .int .i64 0, .bool false] 61)) := keep_row (one_alloc w _) hb1
    have HB1 : Hid (Below w.heap.size w w1) := bel_to ((Below.refl _ w).alloc (Nat.le_refl _) _) hb1 (Nat.le_refl _)
    obtain ⟨d0, d1, d2, df⟩ := row3 HG1.out
    clear hb1
    rw [HN.out]
    go_wp2
    obtain ⟨hF3, hO3⟩ := heap_set3 w1 w.heap.size 61 _ _ _ (.string s) (.int .i64 0) (.bool false) HG1.out
    obtain ⟨k0, k1, k2, kf⟩ := row3 hF3
    refine bodyPost_ret (v := .agg #[.string s, .int .i64 0, .bool false]) (by simp [results, Tryz.results27, go_sem, k0, k1, k2]) rfl ⟨?_, ?_⟩
    · rw [HI.out]
    · exact HB1.out.trans (hO3.below (Nat.le_refl _))
  | some v =>
    have HN : Hid (numT s.data.toList = .tuple #[.int .i64 v, .bool true]) := numT_some hn
    have HI : Hid (encI (LM.itemOf s.data.toList) = .agg #[.string ⟨#[]⟩, .int .i64 v, .bool true]) := by show _ = _; unfold LM.itemOf; rw [hn]; rfl
    go_enter Tryz.func27, Tryz.ntmps27
    go_wp2_with fail
    refine (numOf_any s hs _ (HL.out.on ((Below.refl _ w).alloc (Nat.le_refl _) _))).mono ?_
    rintro e w1 ⟨rfl, hb1⟩
    have HG1 : Hid (w1.heap[w.heap.size]? = some (.cells #[.string ⟨#[]⟩, .int .i64 0, .bool false] 61)) := keep_row (one_alloc w _) hb1
    have HB1 : Hid (Below w.heap.size w w1) := bel_to ((Below.refl _ w).alloc (Nat.le_refl _) _) hb1 (Nat.le_refl _)
    clear hb1
    rw [HN.out]
    go_wp2_with fail
    refine (numI_any v _).mono ?_
    rintro e w2 ⟨rfl, hb2⟩
    have HG2 : Hid (w2.heap[w.heap.size]? = some (.cells #[.string ⟨#[]⟩, .int .i64 0, .bool false] 61)) := keep_row HG1.out hb2
    have HB2 : Hid (Below w.heap.size w w2) := bel_to HB1.out hb2 (Nat.le_refl _)
    obtain ⟨d0, d1, d2, df⟩ := row3 HG2.out
    clear hb2
    go_wp2
    obtain ⟨hF3, hO3⟩ := heap_set3 w2 w.heap.size 61 _ _ _ (.string ⟨#[]⟩) (.int .i64 v) (.bool true) HG2.out
    obtain ⟨k0, k1, k2, kf⟩ := row3 hF3
    refine bodyPost_ret (v := .agg #[.string ⟨#[]⟩, .int .i64 v, .bool true]) (by simp [results, Tryz.results27, go_sem, k0, k1, k2]) rfl ⟨?_, ?_⟩
    · rw [HI.out]
    · exact HB2.out.trans (hO3.below (Nat.le_refl _))
theorem value_num (n : Int) (t : ByteArray) (hn : LM.I64 n) (w : World) (hL : Laid w) : Calls Tryz.prog 26 #[.agg #[.string t, .int .i64 n, .bool true]] w fun e w' => e = .returned (.string (itoaB n)) ∧ Below w.heap.size w w' := by
  have HL : Hid (Laid w) := hL
  have HN : Hid (LM.I64 n) := hn
  clear hL hn
  go_enter Tryz.func26, Tryz.ntmps26
  go_wp2_with fail
  refine (digits_any n HN.out.1 HN.out.2 _ (HL.out.on ((Below.refl _ w).alloc (Nat.le_refl _) _))).mono ?_
  rintro e w1 ⟨rfl, hb1⟩
  have HB : Hid (Below w.heap.size w w1) := ((Below.refl _ w).alloc (Nat.le_refl _) _).trans (hb1.mono (by simp))
  clear hb1
  go_wp2
  go_ret
  exact ⟨rfl, HB.out⟩
theorem clone_any (t : ByteArray) (h : t.size ≤ 281474976710656) (w : World) : Calls Tryz.prog 44 #[.string t] w fun e w' => e = .returned (.string t) ∧ Below w.heap.size w w' := by
  go_enter Tryz.func44, Tryz.ntmps44
  go_wp2_with fail
  refine (Tryz.stringslite_Clone t _ h).mono ?_
  rintro e w1 ⟨rfl, hb1⟩
  go_wp2
  go_ret
  exact ⟨rfl, hb1⟩
theorem value_txt (n : Int) (t : ByteArray) (h : t.size ≤ 281474976710656) (w : World) : Calls Tryz.prog 26 #[.agg #[.string t, .int .i64 n, .bool false]] w fun e w' => e = .returned (.string t) ∧ Below w.heap.size w w' := by
  go_enter Tryz.func26, Tryz.ntmps26
  go_wp2_with fail
  refine (clone_any t h _).mono ?_
  rintro e w1 ⟨rfl, hb1⟩
  have HB : Hid (Below w.heap.size w w1) := ((Below.refl _ w).alloc (Nat.le_refl _) _).trans (hb1.mono (by simp))
  clear hb1
  go_wp2
  go_ret
  exact ⟨rfl, HB.out⟩
theorem value_any (it : LM.Item) (h : LM.Wf it) (w : World) (hL : Laid w) : Calls Tryz.prog 26 #[encI it] w fun e w' => e = .returned (.string (strB (LM.val it))) ∧ Below w.heap.size w w' := by
  obtain ⟨t, n, b⟩ := it
  rcases h with ⟨h1, h2, h3⟩ | ⟨h1, h2, h3, h4⟩
  · simp only at h1 h2 h3; subst h1
    exact value_num n _ h3 w hL
  · simp only at h1 h2 h3 h4; subst h1
    exact value_txt n _ (by rw [strB_size]; exact Nat.le_trans h4 (by decide)) w
end Go.Proofs.YtadihhngegimkaaGreatDoor
