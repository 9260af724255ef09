import Derived.Test.YtdemodhjlbkbeaaAdd
import Derived.Test.YtdemodhjlbkbeaaVis
namespace Go.Proofs.Ytdemodhjlbkbeaa
open Go.RowKit
set_option linter.unusedVariables false
theorem hash_a : bits .and .i64 (hashT 0 ⟨#[97]⟩) 3 = 1 := by kernel_rfl
theorem hash_call (w : World) : ∃ H, bits .and .i64 H 3 = 1 ∧ ∀ W : World, Calls Try.prog 10 #[.int .i64 0, .string ⟨#[97]⟩] W fun e w' => e = .returned (.int .i64 H) ∧ w' = W := ⟨_, hash_a, fun W => Hash_any 0 ⟨#[97]⟩ (by decide) W⟩
set_option maxHeartbeats 2000000 in
set_option maxRecDepth 100000 in
theorem Set_new (g : Nat) (v : Int) (w : World) (hg : w.heap[g]? = some (.cells (dcells none 0 0 0) 58)) :
    Calls Try.prog 13 #[.pointer (some ⟨g, 0, none⟩), .string ⟨#[97]⟩, .int .i64 v] w fun e w' => e = .returned (.bool true) ∧ ∃ B E c, g < B ∧ g < E ∧ DW w' g B E c v ∧ Below g w w' := by
  obtain ⟨H, hh, hHC⟩ := hash_call w
  have HHC : Hid _ := hHC
  have HGL : Hid (g < w.heap.size) := row_lt hg
  have HG : Hid _ := hg
  obtain ⟨c0, c1, c2, c3, c4, c5, cf⟩ := row6 hg
  have HST : Hid _ := step_no g none 0 w c3
  have HFN : Hid _ := find_nil g none none 0 0 H ⟨#[97]⟩ w c1 c3
  have HMR : Hid _ := makeRoom_0 g w hg
  have HCL : Hid _ := clone_any ⟨#[97]⟩ (by decide)
  have HAD : Hid (∀ B W, g ≤ B → W.heap[g]? = some (.cells (dcells (some ⟨B, 0, none⟩) 4 4 0) 58) → W.heap[B]? = some (.cells (bcells (.slice none 0 0)) 71) → Calls Try.prog 29 #[.pointer (some ⟨g, 1, none⟩), .int .i64 H, .agg #[.string ⟨#[97]⟩, .int .i64 v]] W fun e w' => e = .returned (.tuple #[]) ∧ ∃ E c, W.heap.size ≤ E ∧ w'.heap[g]? = some (.cells (dcells (some ⟨B, 0, none⟩) 4 4 1) 58) ∧ w'.heap[B]? = some (.cells (bcells (.slice (some ⟨E, 0, none⟩) 1 c)) 71) ∧ One w' E c v ∧ Below g W w') := fun B W hB h1 h2 => add_new H hh g g B (Nat.le_refl _) hB v W h1 h2
  clear hg hHC
  go_enter Try.func13, Try.ntmps13
  go_wp2_with fail
  refine (show Calls _ _ _ _ _ from HST.out).mono ?_
  rintro e w1 ⟨rfl, rfl⟩
  go_wp2_with fail
  refine (show Calls _ _ _ _ _ from HHC.out _).mono ?_
  rintro e w1 ⟨rfl, rfl⟩
  go_wp2_with fail
  refine (show Calls _ _ _ _ _ from HFN.out).mono ?_
  rintro e w1 ⟨rfl, rfl⟩
  go_wp2_with fail
  refine (show Calls _ _ _ _ _ from HMR.out).mono ?_
  rintro e w2 ⟨rfl, B, hB, hg2, hB2, hs2, hb2⟩
  have HG2 : Hid _ := hg2
  have HB2 : Hid (w2.heap[B]? = some (.cells (bcells (.slice none 0 0)) 71)) := hB2
  have HBG : Hid (g < B) := by have := HGL.out; show _ < _; omega
  have HL2 : Hid (Below g w1 w2) := hb2
  clear hg2 hB2 hs2 hb2 hB c0 c1 c2 c3 c4 c5 cf
  go_wp2_with fail
  refine (show Calls _ _ _ _ _ from HCL.out _).mono ?_
  rintro e w3 ⟨rfl, hb3⟩
  have HG3 : Hid _ := keep_row HG2.out hb3
  have HB3 : Hid _ := keep_row HB2.out hb3
  have hgl2 := row_lt HG2.out
  have HL3 : Hid (Below g w1 w3) := HL2.out.trans (hb3.mono (by omega))
  clear hb3
  have HX : Hid _ := one_alloc w3 (.cells #[.string ⟨#[97]⟩, .int .i64 v] 62)
  obtain ⟨W4, hW4⟩ : ∃ W4, W4 = w3.alloc (.cells #[.string ⟨#[97]⟩, .int .i64 v] 62) := ⟨_, rfl⟩
  have hb4 : Below w3.heap.size w3 W4 := by rw [hW4]; exact (Below.refl _ _).alloc (Nat.le_refl _) _
  rw [← hW4] at HX
  have HG4 : Hid _ := keep_row HG3.out hb4
  have HB4 : Hid _ := keep_row HB3.out hb4
  have hgl3 := row_lt HG3.out
  have HL4 : Hid (Below g w1 W4) := HL3.out.trans (hb4.mono (by omega))
  clear hb4
  go_upto_region 9 with fail
  rw [← hW4]
  clear hW4
  obtain ⟨c0, c1, c2, c3, c4, c5, cf⟩ := row6 HG4.out
  have HMV : Hid _ := moves_no g none 0 W4 c3
  go_wp2_with fail
  refine (show Calls _ _ _ _ _ from HMV.out).mono ?_
  rintro e w5 ⟨rfl, rfl⟩
  obtain ⟨x0, x1, xf⟩ := row2 HX.out
  go_wp2_with fail
  have HAD1 : Hid (Calls Try.prog 29 #[.pointer (some ⟨g, 1, none⟩), .int .i64 H, .agg #[.string ⟨#[97]⟩, .int .i64 v]] w5.drew fun e w' => e = .returned (.tuple #[]) ∧ ∃ E c, w5.heap.size ≤ E ∧ w'.heap[g]? = some (.cells (dcells (some ⟨B, 0, none⟩) 4 4 1) 58) ∧ w'.heap[B]? = some (.cells (bcells (.slice (some ⟨E, 0, none⟩) 1 c)) 71) ∧ One w' E c v ∧ Below g w5 w') := by
    have hbg := HBG.out
    refine Calls.mono (HAD.out B w5.drew (by omega) HG4.out HB4.out) ?_
    rintro e w6 ⟨rfl, E, c, h1, h2, h3, h4, h5⟩
    exact ⟨rfl, E, c, h1, h2, h3, h4, (Below.refl _ _).drew.trans h5⟩
  go_region_with (go_at_call 29; refine (show Calls _ _ _ _ _ from HAD1.out).mono ?_; rintro e w6 ⟨rfl, E, c, hE, hg6, hB6, hO6, hb6⟩)
  all_goals
    go_wp2
    go_returns
    have hgl := row_lt HG4.out
    exact ⟨rfl, B, E, c, HBG.out, by omega, ⟨hg6, hB6, hO6⟩, HL4.out.trans hb6⟩
end Go.Proofs.Ytdemodhjlbkbeaa
