import Derived.Test.YtdemodhjlbkbeabRB
import Derived.Deep.RegionWith
import Derived.Deep.CutRange
namespace Go.Proofs.Ytdemodhjlbkbeab
open Go.RowKit
set_option linter.unusedVariables false
set_option maxHeartbeats 2000000 in
set_option maxRecDepth 100000 in
theorem add_new (h : Int) (hh : bits .and .i64 h 3 = 1) (b0 g B : Nat) (hbg : b0 ≤ g) (hbB : b0 ≤ B) (v : Int) (w : World) (hg : w.heap[g]? = some (.cells (dcells (some ⟨B, 0, none⟩) 4 4 0) 56)) (hB : w.heap[B]? = some (.cells (bcells (.slice none 0 0)) 83)) :
    Calls Try.prog 33 #[.pointer (some ⟨g, 1, none⟩), .int .i64 h, .agg #[.string ⟨#[97]⟩, .int .i64 v]] w fun e w' => e = .returned (.tuple #[]) ∧ ∃ E c, w.heap.size ≤ E ∧ w'.heap[g]? = some (.cells (dcells (some ⟨B, 0, none⟩) 4 4 1) 56) ∧ w'.heap[B]? = some (.cells (bcells (.slice (some ⟨E, 0, none⟩) 1 c)) 83) ∧ One w' E c v ∧ Below b0 w w' := by
  have HGB : Hid (g ≠ B) := fun e => by subst e; rw [hg] at hB; simp [dcells, bcells] at hB
  have HPL : Hid (∀ W, Below w.heap.size w W → Calls Try.prog 54 #[.pointer (some ⟨g, 1, none⟩), .int .i64 h, .string ⟨#[97]⟩] W fun e w' => e = .returned (.tuple #[.int .i64 1, .int .i64 0, .bool false]) ∧ w' = W) := fun W hW => place_new h hh g B W (row6 (keep_row hg hW)).2.1 (keep_row hB hW)
  have HIN : Hid _ := ins_nil
  have HG : Hid _ := hg
  have HB : Hid _ := hB
  have HX : Hid _ := one_alloc w (.cells #[.string ⟨#[97]⟩, .int .i64 v] 70)
  obtain ⟨W0, hW0⟩ : ∃ W0, W0 = w.alloc (.cells #[.string ⟨#[97]⟩, .int .i64 v] 70) := ⟨_, rfl⟩
  have HBL : Hid (Below w.heap.size w W0) := by rw [hW0]; exact (Below.refl _ w).alloc (Nat.le_refl _) _
  rw [← hW0] at HX
  clear hg hB
  go_enter Try.func33, Try.ntmps33
  go_upto_region 1 with fail
  rw [← hW0]
  clear hW0
  have HG1 : Hid _ := keep_row HG.out HBL.out
  have HB1 : Hid _ := keep_row HB.out HBL.out
  obtain ⟨c0, c1, c2, c3, c4, c5, cf⟩ := row6 HG1.out
  obtain ⟨b1, b2, b3, b4, bf⟩ := row4 HB1.out
  obtain ⟨x0, x1, xf⟩ := row2 HX.out
  go_wp2_with fail
  refine (show Calls _ _ _ _ _ from HPL.out _ HBL.out).mono ?_
  rintro e w1 ⟨rfl, rfl⟩
  go_upto_region 2 with fail
  have HT : Hid (Calls Try.prog 55 #[.slice none 0 0, .int .i64 0, .slice (some ⟨w1.heap.size, 0, none⟩) 1 1] (w1.alloc (.cells #[.string ⟨#[97]⟩, .int .i64 v] 70)).drew fun e w' => ∃ E c, e = .returned (.slice (some ⟨E, 0, none⟩) 1 c) ∧ w1.heap.size ≤ E ∧ One w' E c v ∧ Below w1.heap.size w1 w') := by
    have h1 := ins_nil w1.heap.size v (w1.alloc (.cells #[.string ⟨#[97]⟩, .int .i64 v] 70)).drew (one_alloc w1 _)
    refine Calls.mono h1 ?_
    rintro e w2 ⟨⟨E, c, rfl, hE, hO⟩, hb⟩
    have hbb : Below w1.heap.size w1 w2 := bel_to (((Below.refl _ w1).alloc (Nat.le_refl _) _).drew) hb (Nat.le_refl _)
    exact ⟨E, c, rfl, by have := World.size_alloc w1 (.cells #[.string ⟨#[97]⟩, .int .i64 v] 70); have h3 : (w1.alloc (.cells #[.string ⟨#[97]⟩, .int .i64 v] 70)).heap.size ≤ E := hE; omega, hO, hbb⟩
  go_cut [6] from 18 to 34 (fun sv wx => sv = .int .i64 1 ∧ ∃ E c, w1.heap.size ≤ E ∧ wx.heap[g]? = some (.cells (dcells (some ⟨B, 0, none⟩) 4 4 0) 56) ∧ wx.heap[B]? = some (.cells (bcells (.slice (some ⟨E, 0, none⟩) 1 c)) 83) ∧ One wx E c v ∧ Below b0 w wx)
  case first =>
    have hba : Below w1.heap.size w1 (w1.alloc (.cells #[.string ⟨#[97]⟩, .int .i64 v] 70)) := (Below.refl _ w1).alloc (Nat.le_refl _) _
    obtain ⟨p0, p1, p2, p3, p4, p5, pf⟩ := row6 (keep_row HG1.out hba)
    obtain ⟨q1, q2, q3, q4, qf⟩ := row4 (keep_row HB1.out hba)
    obtain ⟨y0, y1, yf⟩ := row2 (keep_row HX.out hba)
    clear hba
    go_region_with (go_at_call 55; refine (show Calls _ _ _ _ _ from HT.out).mono ?_; rintro e w2 ⟨E, c, rfl, hE, hO, hbb⟩; obtain ⟨d0, d1, d2, d3, d4, d5, df⟩ := row6 (keep_row HG1.out hbb); obtain ⟨e1, e2, e3, e4, ef⟩ := row4 (keep_row HB1.out hbb))
    all_goals
      have hgl := row_lt HG1.out
      have hBl := row_lt HB1.out
      have hr1 := keep_row HG1.out hbb
      have hr2 := keep_row HB1.out hbb
      go_wp2_with fail
      go_meet
      refine ⟨rfl, E, c, hE, ?_, ?_, ?_, ?_⟩
      · rw [heap_setCell_other _ _ _ _ HGB.out]; exact hr1
      · rw [heap_setCell_same _ _ _ _ _ _ hr2]; rfl
      · exact hO.same (heap_setCell_other _ _ _ _ (by show E ≠ B; omega))
      · exact ((HBL.out.mono (show b0 ≤ w.heap.size by have := row_lt HG.out; omega)).trans (hbb.mono (show b0 ≤ w1.heap.size by omega))).setCell (p := ⟨B, 1, none⟩) hbB _
  case rest =>
    obtain ⟨rfl, E, c, hE, hG3, hB3, hO3, hb3⟩ := hcut
    have HG3 : Hid _ := hG3
    have HB3 : Hid _ := hB3
    have HO3 : Hid (One wc E c v) := hO3
    have HL3 : Hid (Below b0 w wc) := hb3
    have HE : Hid (w1.heap.size ≤ E) := hE
    clear c0 c1 c2 c3 c4 c5 cf b1 b2 b3 b4 bf x0 x1 xf hG3 hB3 hO3 hb3 hE
    obtain ⟨c0, c1, c2, c3, c4, c5, cf⟩ := row6 HG3.out
    go_wp2
    go_returns
    have hgl := row_lt HG1.out
    have hEs := HE.out
    have hw1 := HBL.out.size
    refine ⟨rfl, E, c, by omega, ?_, ?_, ?_, ?_⟩
    · rw [heap_setCell_same _ _ _ _ _ _ HG3.out]; rfl
    · rw [heap_setCell_other _ _ _ _ (Ne.symm HGB.out)]; exact HB3.out
    · exact HO3.out.same (heap_setCell_other _ _ _ _ (by show E ≠ g; omega))
    · exact HL3.out.setCell (p := ⟨g, 2, none⟩) hbg _
end Go.Proofs.Ytdemodhjlbkbeab
