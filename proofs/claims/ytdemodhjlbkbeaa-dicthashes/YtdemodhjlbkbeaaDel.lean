import Derived.Test.YtdemodhjlbkbeaaClr
namespace Go.Proofs.Ytdemodhjlbkbeaa
open Go.RowKit
set_option linter.unusedVariables false
set_option maxHeartbeats 1000000 in
set_option maxRecDepth 100000 in
theorem sdel (E c : Nat) (v : Int) (w : World) (hO : One w E c v) : Calls Try.prog 47 #[.slice (some ⟨E, 0, none⟩) 1 c, .int .i64 0, .int .i64 1] w fun e w' => e = .returned (.slice (some ⟨E, 0, none⟩) 0 c) ∧ Below E w w' ∧ w'.heap.size = w.heap.size ∧ ∀ k, k ≠ E → w'.heap[k]? = w.heap[k]? := by
  obtain ⟨e0, e1, ef⟩ := hO.cells
  have hc1 : 1 ≤ c := by obtain ⟨_, _, _, h, _⟩ := hO; exact h
  have hcl : Sem.run Try.prog (Builtin.clear_ #[71] 0 #[.slice (some ⟨E, 0, none⟩) 1 c]) w.drew = .ok (.tuple #[]) ((w.drew.setCell ⟨E, 0, none⟩ (.string ⟨#[]⟩)).setCell ⟨E, 1, none⟩ (.int .i64 0)) := run_clr E c 0 w.drew _ _ e0 e1 ef
  clear hO
  by_cases hc2 : c = 1
  all_goals
   try subst hc2
   go_enter Try.func47, Try.ntmps47
   go_wp2_with fail
   go_region
   all_goals
    go_wp2
    go_returns
    refine ⟨rfl, ?_, ?_, fun k hk => ?_⟩
    · exact ((Below.refl E w).drew.setCell (p := ⟨E, 0, none⟩) (Nat.le_refl _) _).setCell (p := ⟨E, 1, none⟩) (Nat.le_refl _) _
    · show ((w.setCell ⟨E, 0, none⟩ (.string ⟨#[]⟩)).setCell ⟨E, 1, none⟩ (.int .i64 0)).heap.size = _
      rw [World.size_setCell, World.size_setCell]
    · show ((w.setCell ⟨E, 0, none⟩ (.string ⟨#[]⟩)).setCell ⟨E, 1, none⟩ (.int .i64 0)).heap[k]? = _
      rw [heap_setCell_other _ _ _ _ (show k ≠ E from hk), heap_setCell_other _ _ _ _ (show k ≠ E from hk)]
/-- the dict without its key. -/
def DN (W : World) (g B : Nat) : Prop := W.heap[g]? = some (.cells (dcells (some ⟨B, 0, none⟩) 4 4 0) 58)
set_option maxHeartbeats 2000000 in
set_option maxRecDepth 100000 in
theorem drop_one (h : Int) (hh : bits .and .i64 h 3 = 1) (g B E c : Nat) (v : Int) (w : World) (hgB : g < B) (hgE : g < E) (hD : DW w g B E c v) :
    Calls Try.prog 30 #[.pointer (some ⟨g, 1, none⟩), .int .i64 h, .string ⟨#[97]⟩] w fun e w' => e = .returned (.bool true) ∧ DN w' g B ∧ Below g w w' := by
  obtain ⟨c0, c1, c2, c3, c4, c5, cf⟩ := row6 hD.d
  have ho := hD.o.cells
  have HP : Hid _ := place_one h hh g B E c v w c1 hD.b ho.1 ho.2.1
  have HD : Hid (DW w g B E c v) := hD
  have HGL : Hid (g < w.heap.size) := row_lt hD.d
  clear hD ho
  go_enter Try.func30, Try.ntmps30
  go_wp2_with fail
  refine (show Calls _ _ _ _ _ from HP.out).mono ?_
  rintro e w1 ⟨rfl, hb1⟩
  have HD1 : Hid (DW w1 g B E c v) := HD.out.on hb1
  have hgl := HGL.out
  have HL1 : Hid (Below g w w1) := hb1.mono (by omega)
  clear hb1 c0 c1 c2 c3 c4 c5 cf
  go_upto_region 4 with fail
  go_cut [7] from 20 to 36 (fun sv wx => sv = .int .i64 1 ∧ wx.heap[g]? = some (.cells (dcells (some ⟨B, 0, none⟩) 4 4 1) 58) ∧ wx.heap[B]? = some (.cells (bcells (.slice (some ⟨E, 0, none⟩) 0 c)) 71) ∧ Below g w wx)
  case first =>
    obtain ⟨n1, n2, n3⟩ := HD1.out.ne
    obtain ⟨c0, c1, c2, c3, c4, c5, cf⟩ := row6 HD1.out.d
    obtain ⟨b1, b2, b3, b4, bf⟩ := row4 HD1.out.b
    have HS : Hid (Calls Try.prog 47 #[.slice (some ⟨E, 0, none⟩) 1 c, .int .i64 0, .int .i64 1] w1.drew fun e w' => e = .returned (.slice (some ⟨E, 0, none⟩) 0 c) ∧ w'.heap[g]? = some (.cells (dcells (some ⟨B, 0, none⟩) 4 4 1) 58) ∧ w'.heap[B]? = some (.cells (bcells (.slice (some ⟨E, 0, none⟩) 1 c)) 71) ∧ Below g w1 w') := by
      refine Calls.mono (sdel E c v w1.drew (HD1.out.drew).o) ?_
      rintro e w2 ⟨rfl, h1, h2, h3⟩
      exact ⟨rfl, (h3 g n2).trans HD1.out.d, (h3 B n3).trans HD1.out.b, (Below.refl _ _).drew.trans (h1.mono (by omega))⟩
    have HN1 : Hid (g ≠ B) := n1
    clear n1 n2 n3
    go_region_with (go_at_call 47; refine (show Calls _ _ _ _ _ from HS.out).mono ?_; rintro e w2 ⟨rfl, hg2, hB2, hb2⟩; obtain ⟨d0, d1, d2, d3, d4, d5, df⟩ := row6 hg2; obtain ⟨e1, e2, e3, e4, ef⟩ := row4 hB2)
    all_goals
      go_wp2_with fail
      go_meet
      refine ⟨rfl, ?_, ?_, ?_⟩
      · rw [heap_setCell_other _ _ _ _ HN1.out]; exact hg2
      · rw [heap_setCell_same _ _ _ _ _ _ hB2]; rfl
      · exact (HL1.out.trans hb2).setCell (p := ⟨B, 1, none⟩) (by show g ≤ B; omega) _
  case rest =>
    obtain ⟨rfl, hg3, hB3, hb3⟩ := hcut
    have HG3 : Hid _ := hg3
    have HB3 : Hid _ := hB3
    have HL3 : Hid (Below g w wc) := hb3
    have HN1 : Hid (g ≠ B) := HD1.out.ne.1
    obtain ⟨c0, c1, c2, c3, c4, c5, cf⟩ := row6 hg3
    obtain ⟨b1, b2, b3, b4, bf⟩ := row4 hB3
    clear hg3 hB3 hb3
    go_upto_region 7 with fail
    obtain ⟨W5, hW5⟩ : ∃ W5, W5 = wc.setCell ⟨B, 1, none⟩ (.slice none 0 0) := ⟨_, rfl⟩
    rw [← hW5]
    have HG5 : Hid (W5.heap[g]? = some (.cells (dcells (some ⟨B, 0, none⟩) 4 4 1) 58)) := by rw [hW5, heap_setCell_other _ _ _ _ HN1.out]; exact HG3.out
    have HL5 : Hid (Below g w W5) := by rw [hW5]; exact HL3.out.setCell (p := ⟨B, 1, none⟩) (by show g ≤ B; omega) _
    clear hW5 c0 c1 c2 c3 c4 c5 cf b1 b2 b3 b4 bf
    obtain ⟨c0, c1, c2, c3, c4, c5, cf⟩ := row6 HG5.out
    go_wp2
    go_returns
    refine ⟨rfl, ?_, HL5.out.setCell (p := ⟨g, 2, none⟩) (Nat.le_refl _) _⟩
    show _ = _
    rw [heap_setCell_same _ _ _ _ _ _ HG5.out]; rfl
end Go.Proofs.Ytdemodhjlbkbeaa
