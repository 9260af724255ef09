import Derived.Test.YtgbplghokciimaaDoorSkD
import Derived.Deep.CutRange
namespace Go.Proofs.YtgbplghokciimaaDoor
open Go.RowKit
set_option linter.unusedVariables false
abbrev lxV (b : LBd) : Value := .agg #[.string b.1, .int .i64 b.2.1, .bool b.2.2]
theorem dec_str (a b : ByteArray) : decide (a = b) = (a.toList == b.toList) := by
  by_cases h : a = b
  · subst h; simp
  · rw [str_other (fun e => h (ByteArray.ext (Array.toList_inj.1 e)))]; simpa using h
theorem lex_cases (m a : ByteArray) (f : Int) (o : Bool) : f < 0 ∨ 0 < f ∨ (f = 0 ∧ Op.bytesLess m.toList a.toList = true ∧ Op.bytesLess a.toList m.toList = false ∧ ¬ m.toList = a.toList ∧ (m.toList == a.toList) = false) ∨ (f = 0 ∧ Op.bytesLess m.toList a.toList = false ∧ Op.bytesLess a.toList m.toList = true ∧ ¬ m.toList = a.toList ∧ (m.toList == a.toList) = false) ∨ (f = 0 ∧ a = m ∧ Op.bytesLess m.toList m.toList = false ∧ o = true) ∨ (f = 0 ∧ a = m ∧ Op.bytesLess m.toList m.toList = false ∧ o = false) := by
  rcases Int.lt_trichotomy f 0 with h | h | h
  · exact .inl h
  · refine .inr (.inr ?_)
    by_cases e : a = m
    · subst e
      have := byl_irrefl a.toList
      cases o <;> simp [h, this]
    · have e1 : ¬ m.toList = a.toList := fun q => e (by
        have q' := q
        rw [ByteArray.toList_eq, ByteArray.toList_eq] at q'
        exact (ByteArray.ext (Array.toList_inj.1 q')).symm)
      have e2 : (m.toList == a.toList) = false := by simpa using e1
      rcases h1 : Op.bytesLess m.toList a.toList with _ | _
      · rcases h2 : Op.bytesLess a.toList m.toList with _ | _
        · exact absurd (byl_tri _ _ h1 h2) e1
        · exact .inr (.inl ⟨h, rfl, rfl, e1, e2⟩)
      · refine .inl ⟨h, rfl, ?_, e1, e2⟩
        exact ltB_asym (a := m) (b := a) h1
  · exact .inr (.inl h)
set_option maxHeartbeats 4000000 in
set_option maxRecDepth 100000 in
theorem rInLex_any (m : ByteArray) (lo hi : LBd) (w : World) : Calls Tryd.prog 78 #[.string m, lxV lo, lxV hi] w fun e w' => e = .returned (.bool (loL m lo && hiL m hi)) ∧ Below w.heap.size w w' := by
  obtain ⟨b1, hb1⟩ : ∃ b1, loL m lo = b1 := ⟨_, rfl⟩
  obtain ⟨b2, hb2⟩ : ∃ b2, hiL m hi = b2 := ⟨_, rfl⟩
  rw [hb1, hb2]
  obtain ⟨ls, li, lop⟩ := lo
  obtain ⟨hs, hi2, hop⟩ := hi
  have HL : Hid _ := lex_cases m ls li lop
  have HH : Hid _ := lex_cases m hs hi2 hop
  simp only [loL, hiL, ltB, dec_str] at hb1 hb2
  have HB1 : Hid _ := hb1
  have HB2 : Hid _ := hb2
  clear hb1 hb2
  go_enter Tryd.func78, Tryd.ntmps78
  go_upto_region 1 with fail
  go_cut [7] from 7 to 33 (fun s7 wx => s7 = .bool b1 ∧ wx = (w.alloc (.cells #[.string ls, .int .i64 li, .bool lop] 30)).alloc (.cells #[.string hs, .int .i64 hi2, .bool hop] 30))
  case first =>
    have hB := HB1.out
    rcases HL.out with h1 | h1 | ⟨rfl, h1, h2, h3, h4⟩ | ⟨rfl, h1, h2, h3, h4⟩ | ⟨rfl, rfl, h1, rfl⟩ | ⟨rfl, rfl, h1, rfl⟩
    all_goals
      have HB3 : Hid _ := hB
      clear hB
      go_wp2_with fail
      go_meet
      refine ⟨?_, rfl⟩
      have h := HB3.out
      rw [← h]
      first
      | (simp [*]; done)
      | (simp [*]; omega)
  case rest =>
    obtain ⟨rfl, rfl⟩ := hcut
    have hB := HB2.out
    rcases HH.out with h1 | h1 | ⟨rfl, h1, h2, h3, h4⟩ | ⟨rfl, h1, h2, h3, h4⟩ | ⟨rfl, rfl, h1, rfl⟩ | ⟨rfl, rfl, h1, rfl⟩
    all_goals
      have HB3 : Hid _ := hB
      clear hB
      go_wp2
      all_goals
        go_returns
        refine ⟨?_, ?_⟩
        · have h := HB3.out
          try rw [← h]
          first
          | (simp [*]; done)
          | (simp [*]; omega)
        · repeat (refine Below.alloc ?_ (by simp <;> omega) _)
          exact Below.refl _ _
set_option maxHeartbeats 800000 in
set_option maxRecDepth 100000 in
theorem memberEnd_any (b : LBd) (w : World) : Calls Tryd.prog 92 #[lxV b] w fun e w' => e = .returned (lxV b) ∧ Below w.heap.size w w' := by
  obtain ⟨a, f, o⟩ := b
  go_enter Tryd.func92, Tryd.ntmps92
  go_wp2
  go_returns
  refine ⟨rfl, ?_⟩
  repeat (refine Below.alloc ?_ (by simp <;> omega) _)
  exact Below.refl _ _
set_option maxHeartbeats 800000 in
set_option maxRecDepth 100000 in
theorem underL_any (b : LBd) (m : ByteArray) (w : World) : Calls Tryd.prog 94 #[lxV b, .string m] w fun e w' => e = .returned (.bool (loL m b)) ∧ Below w.heap.size w w' := by
  obtain ⟨a, f, o⟩ := b
  have HL := lex_cases m a f o
  simp only [loL, ltB, dec_str]
  rcases HL with h1 | h1 | ⟨rfl, h1, h2, h3, h4⟩ | ⟨rfl, h1, h2, h3, h4⟩ | ⟨rfl, rfl, h1, rfl⟩ | ⟨rfl, rfl, h1, rfl⟩
  all_goals
    go_enter Tryd.func94, Tryd.ntmps94
    go_wp2
    go_returns
    refine ⟨?_, ?_⟩
    · first
      | (simp [*]; done)
      | (simp [*]; omega)
    · repeat (refine Below.alloc ?_ (by simp <;> omega) _)
      exact Below.refl _ _
set_option maxHeartbeats 800000 in
set_option maxRecDepth 100000 in
theorem overL_any (b : LBd) (m : ByteArray) (w : World) : Calls Tryd.prog 95 #[lxV b, .string m] w fun e w' => e = .returned (.bool (hiL m b)) ∧ Below w.heap.size w w' := by
  obtain ⟨a, f, o⟩ := b
  have HL := lex_cases m a f o
  simp only [hiL, ltB, dec_str]
  rcases HL with h1 | h1 | ⟨rfl, h1, h2, h3, h4⟩ | ⟨rfl, h1, h2, h3, h4⟩ | ⟨rfl, rfl, h1, rfl⟩ | ⟨rfl, rfl, h1, rfl⟩
  all_goals
    go_enter Tryd.func95, Tryd.ntmps95
    go_wp2
    go_returns
    refine ⟨?_, ?_⟩
    · first
      | (simp [*]; done)
      | (simp [*]; omega)
    · repeat (refine Below.alloc ?_ (by simp <;> omega) _)
      exact Below.refl _ _
end Go.Proofs.YtgbplghokciimaaDoor
