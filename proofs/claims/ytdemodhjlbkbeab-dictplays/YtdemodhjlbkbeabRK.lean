import Derived.Test.YtdemodhjlbkbeabRJ
import Derived.Test.YtdemodhjlbkbeabRE
namespace Go.Proofs.Ytdemodhjlbkbeab
open Go.RowKit
set_option linter.unusedVariables false
theorem hash_a : bits .and .i64 (hashT 0 ⟨#[97]⟩) 3 = 1 := by kernel_rfl
theorem hash_call (w : World) : ∃ H, bits .and .i64 H 3 = 1 ∧ ∀ W : World, Calls Try.prog 28 #[.int .i64 0, .string ⟨#[97]⟩] W fun e w' => e = .returned (.int .i64 H) ∧ w' = W := ⟨_, hash_a, fun W => Hash_any 0 ⟨#[97]⟩ (by decide) W⟩
set_option maxHeartbeats 2000000 in
set_option maxRecDepth 100000 in
theorem Set_new (g : Nat) (v : Int) (w : World) (hg : w.heap[g]? = some (.cells (dcells none 0 0 0) 56)) :
    Calls Try.prog 8 #[.pointer (some ⟨g, 0, none⟩), .string ⟨#[97]⟩, .int .i64 v] w fun e w' => e = .returned (.bool true) ∧ ∃ B E c, g < B ∧ g < E ∧ DW w' g B E c v ∧ Below g w w' := by
  obtain ⟨H, hh, hHC⟩ := hash_call w
  have HHC : Hid _ := hHC
  have HGL : Hid (g < w.heap.size) := row_lt hg
  have HG : Hid _ := hg
  obtain ⟨c0, c1, c2, c3, c4, c5, cf⟩ := row6 hg
  have HST : Hid _ := step_no g none 0 w c3
  have HFN : Hid _ := find_nil g none none 0 0 H ⟨#[97]⟩ w c1 c3
  have HMR : Hid _ := makeRoom_0 g w hg
  have HCL : Hid _ := clone_any ⟨#[97]⟩ (by decide)
  have HAD : Hid (∀ B W, g ≤ B → W.heap[g]? = some (.cells (dcells (some ⟨B, 0, none⟩) 4 4 0) 56) → W.heap[B]? = some (.cells (bcells (.slice none 0 0)) 83) → Calls Try.prog 33 #[.pointer (some ⟨g, 1, none⟩), .int .i64 H, .agg #[.string ⟨#[97]⟩, .int .i64 v]] W fun e w' => e = .returned (.tuple #[]) ∧ ∃ E c, W.heap.size ≤ E ∧ w'.heap[g]? = some (.cells (dcells (some ⟨B, 0, none⟩) 4 4 1) 56) ∧ w'.heap[B]? = some (.cells (bcells (.slice (some ⟨E, 0, none⟩) 1 c)) 83) ∧ One w' E c v ∧ Below g W w') := fun B W hB h1 h2 => add_new H hh g g B (Nat.le_refl _) hB v W h1 h2
  clear hg hHC
  go_enter Try.func8, Try.ntmps8
  go_wp2_with fail
  refine (show Calls _ _ _ _ _ from HST.out).mono ?_
  rintro e w1 ⟨rfl, rfl⟩
  go_wp2_with fail
  refine (show Calls _ _ _ _ _ from HHC.out _).mono ?_
  rintro e w1 ⟨rfl, rfl⟩
  go_wp2_with fail
  refine (show Calls _ _ _ _ _ from HFN.out).mono ?_
  rintro e w1 ⟨rfl, rfl⟩
  go_wp2_with fail
  refine (show Calls _ _ _ _ _ from HMR.out).mono ?_
  rintro e w2 ⟨rfl, B, hB, hg2, hB2, hs2, hb2⟩
  have HG2 : Hid _ := hg2
  have HB2 : Hid (w2.heap[B]? = some (.cells (bcells (.slice none 0 0)) 83)) := hB2
  have HBG : Hid (g < B) := by have := HGL.out; show _ < _; omega
  have HL2 : Hid (Below g w1 w2) := hb2
  clear hg2 hB2 hs2 hb2 hB c0 c1 c2 c3 c4 c5 cf
  go_wp2_with fail
  refine (show Calls _ _ _ _ _ from HCL.out _).mono ?_
  rintro e w3 ⟨rfl, hb3⟩
  have HG3 : Hid _ := keep_row HG2.out hb3
  have HB3 : Hid _ := keep_row HB2.out hb3
  have hgl2 := row_lt HG2.out
  have HL3 : Hid (Below g w1 w3) := HL2.out.trans (hb3.mono (by omega))
  clear hb3
  have HX : Hid _ := one_alloc w3 (.cells #[.string ⟨#[97]⟩, .int .i64 v] 70)
  obtain ⟨W4, hW4⟩ : ∃ W4, W4 = w3.alloc (.cells #[.string ⟨#[97]⟩, .int .i64 v] 70) := ⟨_, rfl⟩
  have hb4 : Below w3.heap.size w3 W4 := by rw [hW4]; exact (Below.refl _ _).alloc (Nat.le_refl _) _
  rw [← hW4] at HX
  have HG4 : Hid _ := keep_row HG3.out hb4
  have HB4 : Hid _ := keep_row HB3.out hb4
  have hgl3 := row_lt HG3.out
  have HL4 : Hid (Below g w1 W4) := HL3.out.trans (hb4.mono (by omega))
  clear hb4
  go_upto_region 9 with fail
  rw [← hW4]
  clear hW4
  obtain ⟨c0, c1, c2, c3, c4, c5, cf⟩ := row6 HG4.out
  have HMV : Hid _ := moves_no g none 0 W4 c3
  go_wp2_with fail
  refine (show Calls _ _ _ _ _ from HMV.out).mono ?_
  rintro e w5 ⟨rfl, rfl⟩
  obtain ⟨x0, x1, xf⟩ := row2 HX.out
  go_wp2_with fail
  have HAD1 : Hid (Calls Try.prog 33 #[.pointer (some ⟨g, 1, none⟩), .int .i64 H, .agg #[.string ⟨#[97]⟩, .int .i64 v]] w5.drew fun e w' => e = .returned (.tuple #[]) ∧ ∃ E c, w5.heap.size ≤ E ∧ w'.heap[g]? = some (.cells (dcells (some ⟨B, 0, none⟩) 4 4 1) 56) ∧ w'.heap[B]? = some (.cells (bcells (.slice (some ⟨E, 0, none⟩) 1 c)) 83) ∧ One w' E c v ∧ Below g w5 w') := by
    have hbg := HBG.out
    refine Calls.mono (HAD.out B w5.drew (by omega) HG4.out HB4.out) ?_
    rintro e w6 ⟨rfl, E, c, h1, h2, h3, h4, h5⟩
    exact ⟨rfl, E, c, h1, h2, h3, h4, (Below.refl _ _).drew.trans h5⟩
  go_region_with (go_at_call 33; refine (show Calls _ _ _ _ _ from HAD1.out).mono ?_; rintro e w6 ⟨rfl, E, c, hE, hg6, hB6, hO6, hb6⟩)
  all_goals
    go_wp2
    go_returns
    have hgl := row_lt HG4.out
    exact ⟨rfl, B, E, c, HBG.out, by omega, ⟨hg6, hB6, hO6⟩, HL4.out.trans hb6⟩
end Go.Proofs.Ytdemodhjlbkbeab
namespace Go.Proofs.Ytdemodhjlbkbeab
open Go.RowKit
set_option linter.unusedVariables false
theorem DW.drewN {W : World} {g B E c : Nat} {v : Int} (h : DW W g B E c v) (n : Nat) : DW (W.drewN n) g B E c v := h.on (below_dn (Below.refl _ _) n)
theorem meet_q (g B E c i : Nat) (v : Int) (hi : i = 0 ∨ i = 2 ∨ i = 3) (P : Option Addr) (n kc : Nat) (w : World) (hD : DW w g B E c v) : Calls Try.prog 57 #[.pointer (some ⟨g, 1, none⟩), .slice P n kc, .int .i64 (i : Int)] w fun e w' => e = .returned (.slice P n kc) ∧ w' = w := by
  have hr := row4 hD.b
  refine meet_nil g B i (by omega) P n kc w (row6 hD.d).2.1 ?_
  rcases hi with rfl | rfl | rfl
  · exact hr.1
  · exact hr.2.2.1
  · exact hr.2.2.2.1
set_option maxHeartbeats 1000000 in
set_option maxRecDepth 100000 in
theorem visit_q (g B E c i nx : Nat) (v : Int) (hi : i = 0 ∨ i = 2 ∨ i = 3) (P : Option Addr) (n kc : Nat) (w : World) (hcu : bits .and .i64 (i : Int) 3 = (i : Int)) (hN : ∀ W, Calls Try.prog 58 #[.int .i64 (i : Int), .int .i64 4] W fun e w' => e = .returned (.int .i64 (nx : Int)) ∧ w' = W) (hD : DW w g B E c v) :
    Calls Try.prog 40 #[.pointer (some ⟨g, 0, none⟩), .slice P n kc, .int .i64 (i : Int)] w fun e w' => e = .returned (.tuple #[.slice P n kc, .int .i64 (nx : Int)]) ∧ ∃ k, w' = w.drewN k := by
  have HN : Hid _ := hN
  have HD : Hid (DW w g B E c v) := hD
  have HMV : Hid _ := hD.moves
  have HSZ : Hid (∀ W, DW W g B E c v → Calls Try.prog 39 #[.pointer (some ⟨g, 1, none⟩)] W fun e w' => e = .returned (.int .i64 4) ∧ ∃ k, w' = W.drewN k) := fun W h => h.size.mono (fun e w' ⟨h1, h2⟩ => ⟨h1, 0, h2⟩)
  clear hN hD
  go_enter Try.func40, Try.ntmps40
  go_wp2_with fail
  refine (show Calls _ _ _ _ _ from HMV.out).mono ?_
  rintro e w1 ⟨rfl, rfl⟩
  go_wp2_with fail
  go_quiet ((first
    | (go_at_call 39; exact Calls.quiet_of_same (HD.out.drewN _).size)
    | (go_at_call 57; exact Calls.quiet_of_same (meet_q g B E c i v hi P n kc _ (HD.out.drewN _)))
    | (go_at_call 58; exact Calls.quiet_of_same (HN.out _))))
  go_wp2
  go_returns
  exact ⟨rfl, nq, rfl⟩
end Go.Proofs.Ytdemodhjlbkbeab
namespace Go.Proofs.Ytdemodhjlbkbeab
open Go.RowKit
set_option linter.unusedVariables false
theorem meet_k (g B E c : Nat) (v : Int) (w : World) (hD : DW w g B E c v) : Calls Try.prog 57 #[.pointer (some ⟨g, 1, none⟩), .slice none 0 0, .int .i64 1] w fun e w' => ∃ K kc, e = .returned (.slice (some ⟨K, 0, none⟩) 1 kc) ∧ w.heap.size ≤ K ∧ w'.cell? ⟨K, 0, none⟩ = some (.string ⟨#[97]⟩) ∧ Below w.heap.size w w' := by
  refine (meet_one g B E c v w (row6 hD.d).2.1 (row4 hD.b).2.1 hD.o).mono ?_
  rintro e w' ⟨⟨r, rfl, K, kc, rfl, h1, h2⟩, hb⟩
  exact ⟨K, kc, rfl, h1, h2, hb⟩
set_option maxHeartbeats 600000 in
set_option maxRecDepth 100000 in
theorem visit_1 (g B E c : Nat) (v : Int) (w : World) (hD : DW w g B E c v) :
    Calls Try.prog 40 #[.pointer (some ⟨g, 0, none⟩), .slice none 0 0, .int .i64 1] w fun e w' => ∃ K kc, e = .returned (.tuple #[.slice (some ⟨K, 0, none⟩) 1 kc, .int .i64 3]) ∧ w.heap.size ≤ K ∧ w'.cell? ⟨K, 0, none⟩ = some (.string ⟨#[97]⟩) ∧ Below w.heap.size w w' := by
  have HN : Hid _ := next_1
  have HD : Hid (DW w g B E c v) := hD
  have HMV : Hid _ := hD.moves
  have HSZ : Hid (∀ W, DW W g B E c v → Calls Try.prog 39 #[.pointer (some ⟨g, 1, none⟩)] W fun e w' => e = .returned (.int .i64 4) ∧ w' = W) := fun W h => h.size
  have HMK : Hid (∀ W, DW W g B E c v → Calls Try.prog 57 #[.pointer (some ⟨g, 1, none⟩), .slice none 0 0, .int .i64 1] W fun e w' => ∃ K kc, e = .returned (.slice (some ⟨K, 0, none⟩) 1 kc) ∧ W.heap.size ≤ K ∧ w'.cell? ⟨K, 0, none⟩ = some (.string ⟨#[97]⟩) ∧ Below W.heap.size W w') := fun W h => meet_k g B E c v W h
  have hcu : bits .and .i64 1 3 = 1 := by kernel_rfl
  have HD1 : Hid (DW w.drew g B E c v) := hD.drew
  clear hD
  go_enter Try.func40, Try.ntmps40
  go_wp2_with fail
  refine (show Calls _ _ _ _ _ from HMV.out).mono ?_
  rintro e w1 ⟨rfl, rfl⟩
  go_wp2_with fail
  go_region_with (first
    | (go_at_call 39; refine (show Calls _ _ _ _ _ from HSZ.out _ ?_).mono ?_; (first | with_reducible assumption | with_reducible exact HD1.out); rintro e w2 ⟨rfl, rfl⟩)
    | (go_at_call 57; refine (show Calls _ _ _ _ _ from HMK.out _ HD1.out).mono ?_; rintro e w2 ⟨K, kc, rfl, hK, hkc, hb2⟩; have hD2 : DW w2 g B E c v := HD1.out.on hb2)
    | (go_at_call 58; refine (show Calls _ _ _ _ _ from HN.out _).mono ?_; rintro e w2 ⟨rfl, rfl⟩))
  all_goals
    go_wp2
    go_returns
    exact ⟨_, _, rfl, hK, hkc, bel_to ((Below.refl _ _).drew) hb2 (Nat.le_refl _)⟩
end Go.Proofs.Ytdemodhjlbkbeab
namespace Go.Proofs.Ytdemodhjlbkbeab
open Go.RowKit
set_option linter.unusedVariables false
theorem DW.ne {W : World} {g B E c : Nat} {v : Int} (h : DW W g B E c v) : g ≠ B ∧ g ≠ E ∧ B ≠ E := by
  obtain ⟨cur, h1, _⟩ := h.o
  refine ⟨fun e => ?_, fun e => ?_, fun e => ?_⟩
  · subst e; have := h.d.symm.trans h.b; simp [dcells, bcells] at this
  · subst e; have := h.d.symm.trans h1; simp at this
  · subst e; have := h.b.symm.trans h1; simp at this
theorem One.set {W : World} {E c : Nat} {v : Int} (h : One W E c v) (v2 : Int) : One (W.setCell ⟨E, 1, none⟩ (.int .i64 v2)) E c v2 := by
  obtain ⟨cur, h1, h2, h3, h4⟩ := h
  refine ⟨cur.setIfInBounds 1 (.int .i64 v2), ?_, by simpa using h2, h3, ?_⟩
  · rw [heap_setCell_same _ _ _ _ _ _ h1]
  · rw [Array.toList_setIfInBounds, List.take_set, h4]; rfl
set_option maxHeartbeats 1000000 in
set_option maxRecDepth 100000 in
theorem Set_old (g B E c : Nat) (v v2 : Int) (w : World) (hgE : g < E) (hD : DW w g B E c v) :
    Calls Try.prog 8 #[.pointer (some ⟨g, 0, none⟩), .string ⟨#[97]⟩, .int .i64 v2] w fun e w' => e = .returned (.bool false) ∧ DW w' g B E c v2 ∧ Below g w w' := by
  obtain ⟨H, hh, hHC⟩ := hash_call w
  have HHC : Hid _ := hHC
  have HD : Hid (DW w g B E c v) := hD
  obtain ⟨c0, c1, c2, c3, c4, c5, cf⟩ := row6 hD.d
  have HST : Hid _ := step_no g none 0 w c3
  have ho := hD.o.cells
  have HFN : Hid _ := find_one H hh g B E c v w c1 hD.b ho.1 ho.2.1
  have HGL : Hid (g < w.heap.size) := row_lt hD.d
  clear hHC hD ho
  go_enter Try.func8, Try.ntmps8
  go_wp2_with fail
  refine (show Calls _ _ _ _ _ from HST.out).mono ?_
  rintro e w1 ⟨rfl, rfl⟩
  go_wp2_with fail
  refine (show Calls _ _ _ _ _ from HHC.out _).mono ?_
  rintro e w1 ⟨rfl, rfl⟩
  go_wp2_with fail
  refine (show Calls _ _ _ _ _ from HFN.out).mono ?_
  rintro e w2 ⟨rfl, hb2⟩
  have HD2 : Hid (DW w2 g B E c v) := HD.out.on hb2
  have hgl := HGL.out
  have HL2 : Hid (Below g w1 w2) := hb2.mono (by omega)
  clear hb2 c0 c1 c2 c3 c4 c5 cf
  obtain ⟨e0, e1, ef⟩ := HD2.out.o.cells
  go_wp2
  go_returns
  obtain ⟨n1, n2, n3⟩ := HD2.out.ne
  refine ⟨rfl, ⟨?_, ?_, HD2.out.o.set v2⟩, HL2.out.setCell (p := ⟨E, 1, none⟩) (by show g ≤ E; omega) _⟩
  · rw [heap_setCell_other _ _ _ _ n2]; exact HD2.out.d
  · rw [heap_setCell_other _ _ _ _ n3]; exact HD2.out.b
set_option maxHeartbeats 1000000 in
set_option maxRecDepth 100000 in
theorem Get_one (g B E c : Nat) (v : Int) (w : World) (hD : DW w g B E c v) :
    Calls Try.prog 17 #[.pointer (some ⟨g, 0, none⟩), .string ⟨#[97]⟩] w fun e w' => e = .returned (.tuple #[.int .i64 v, .bool true]) ∧ Below w.heap.size w w' := by
  obtain ⟨H, hh, hHC⟩ := hash_call w
  have HHC : Hid _ := hHC
  have HD : Hid (DW w g B E c v) := hD
  obtain ⟨c0, c1, c2, c3, c4, c5, cf⟩ := row6 hD.d
  have ho := hD.o.cells
  have HFN : Hid _ := find_one H hh g B E c v w c1 hD.b ho.1 ho.2.1
  clear hHC hD ho
  go_enter Try.func17, Try.ntmps17
  go_wp2_with fail
  refine (show Calls _ _ _ _ _ from HHC.out _).mono ?_
  rintro e w1 ⟨rfl, rfl⟩
  go_wp2_with fail
  refine (show Calls _ _ _ _ _ from HFN.out).mono ?_
  rintro e w2 ⟨rfl, hb2⟩
  have HD2 : Hid (DW w2 g B E c v) := HD.out.on hb2
  have HL2 : Hid (Below _ w1 w2) := hb2
  clear hb2 c0 c1 c2 c3 c4 c5 cf
  obtain ⟨e0, e1, ef⟩ := HD2.out.o.cells
  go_wp2
  go_returns
  exact ⟨rfl, HL2.out⟩
set_option maxHeartbeats 1000000 in
set_option maxRecDepth 100000 in
theorem Tables_one (g B E c : Nat) (v : Int) (w : World) (hD : DW w g B E c v) :
    Calls Try.prog 20 #[.pointer (some ⟨g, 0, none⟩)] w fun e w' => e = .returned (.tuple #[.int .i64 4, .int .i64 0, .int .i64 (-1)]) ∧ w' = w := by
  have HMV : Hid _ := hD.moves
  have HSZ : Hid _ := hD.size
  clear hD
  go_enter Try.func20, Try.ntmps20
  go_wp2_with fail
  refine (show Calls _ _ _ _ _ from HMV.out).mono ?_
  rintro e w1 ⟨rfl, rfl⟩
  go_wp2_with fail
  refine (show Calls _ _ _ _ _ from HSZ.out).mono ?_
  rintro e w1 ⟨rfl, rfl⟩
  go_wp2
  go_returns
  exact ⟨rfl, rfl⟩
set_option maxHeartbeats 1000000 in
set_option maxRecDepth 100000 in
theorem Len_any (g : Nat) (n m : Nat) (hn : n ≤ 1000) (hm : m ≤ 1000) (w : World) (h2 : w.cell? ⟨g, 2, none⟩ = some (.int .i64 (n : Int))) (h4 : w.cell? ⟨g, 4, none⟩ = some (.int .i64 (m : Int))) :
    Calls Try.prog 21 #[.pointer (some ⟨g, 0, none⟩)] w fun e w' => e = .returned (.int .i64 ((n + m : Nat) : Int)) ∧ ∃ k, w' = w.drewN k := by
  have hw : IntKind.i64.wrap ((n : Int) + (m : Int)) = ((n + m : Nat) : Int) := by rw [IntKind.wrap_i64] <;> omega
  go_enter Try.func21, Try.ntmps21
  go_wp2_with fail
  go_quiet (fail)
  go_wp2
  go_returns
  exact ⟨rfl, nq, rfl⟩
/-- how many visits are left. -/
def left (c : Int) : Nat := if c = 0 then 3 else if c = 2 then 2 else if c = 1 then 1 else 0
set_option maxHeartbeats 2000000 in
set_option maxRecDepth 100000 in
theorem Scan_one (g B E c : Nat) (v : Int) (w : World) (hD : DW w g B E c v) :
    Calls Try.prog 13 #[.pointer (some ⟨g, 0, none⟩), .int .i64 0, .int .i64 10] w fun e w' => ∃ K kc, e = .returned (.tuple #[.slice (some ⟨K, 0, none⟩) 1 kc, .int .i64 0]) ∧ w'.cell? ⟨K, 0, none⟩ = some (.string ⟨#[97]⟩) ∧ Below w.heap.size w w' := by
  have HSZ : Hid _ := hD.size
  have HD : Hid (DW w g B E c v) := hD
  have HV0 : Hid (∀ W, DW W g B E c v → Calls Try.prog 40 #[.pointer (some ⟨g, 0, none⟩), .slice none 0 0, .int .i64 0] W fun e w' => e = .returned (.tuple #[.slice none 0 0, .int .i64 2]) ∧ ∃ k, w' = W.drewN k) := fun W h => visit_q g B E c 0 2 v (by omega) none 0 0 W (by kernel_rfl) next_0 h
  have HV2 : Hid (∀ W, DW W g B E c v → Calls Try.prog 40 #[.pointer (some ⟨g, 0, none⟩), .slice none 0 0, .int .i64 2] W fun e w' => e = .returned (.tuple #[.slice none 0 0, .int .i64 1]) ∧ ∃ k, w' = W.drewN k) := fun W h => visit_q g B E c 2 1 v (by omega) none 0 0 W (by kernel_rfl) next_2 h
  have HV3 : Hid (∀ K kc W, DW W g B E c v → Calls Try.prog 40 #[.pointer (some ⟨g, 0, none⟩), .slice (some ⟨K, 0, none⟩) 1 kc, .int .i64 3] W fun e w' => e = .returned (.tuple #[.slice (some ⟨K, 0, none⟩) 1 kc, .int .i64 0]) ∧ ∃ k, w' = W.drewN k) := fun K kc W h => visit_q g B E c 3 0 v (by omega) (some ⟨K, 0, none⟩) 1 kc W (by kernel_rfl) next_3 h
  have HV1 : Hid (∀ W, DW W g B E c v → Calls Try.prog 40 #[.pointer (some ⟨g, 0, none⟩), .slice none 0 0, .int .i64 1] W fun e w' => ∃ K kc, e = .returned (.tuple #[.slice (some ⟨K, 0, none⟩) 1 kc, .int .i64 3]) ∧ W.heap.size ≤ K ∧ w'.cell? ⟨K, 0, none⟩ = some (.string ⟨#[97]⟩) ∧ Below W.heap.size W w') := fun W h => visit_1 g B E c v W h
  clear hD
  go_enter Try.func13, Try.ntmps13
  go_wp2_with fail
  refine (show Calls _ _ _ _ _ from HSZ.out).mono ?_
  rintro e w1 ⟨rfl, rfl⟩
  go_wp2
  go_loopw [8, 1] (fun ck cc wr => Below w1.heap.size w1 wr ∧ ((ck = .slice none 0 0 ∧ (cc = .int .i64 0 ∨ cc = .int .i64 2 ∨ cc = .int .i64 1)) ∨ (∃ K kc, ck = .slice (some ⟨K, 0, none⟩) 1 kc ∧ wr.cell? ⟨K, 0, none⟩ = some (.string ⟨#[97]⟩) ∧ cc = .int .i64 3))) (fun _ cc _ => left (intOf cc))
  case atStart => exact ⟨Below.refl _ _, Or.inl ⟨rfl, Or.inl rfl⟩⟩
  case round =>
    obtain ⟨hb, ⟨rfl, rfl | rfl | rfl⟩ | ⟨K, kc, rfl, hk, rfl⟩⟩ := hrel
    · have HB : Hid (Below w1.heap.size w1 wr) := hb
      clear hb
      go_wp2_with fail
      refine (show Calls _ _ _ _ _ from HV0.out _ (HD.out.on HB.out)).mono ?_
      rintro e w2 ⟨rfl, k, rfl⟩
      go_wp2
      go_roundw
      case rel => exact ⟨below_dn HB.out k, Or.inl ⟨rfl, Or.inr (Or.inl rfl)⟩⟩
      case measure => simp [intOf, left]
    · have HB : Hid (Below w1.heap.size w1 wr) := hb
      clear hb
      go_wp2_with fail
      refine (show Calls _ _ _ _ _ from HV2.out _ (HD.out.on HB.out)).mono ?_
      rintro e w2 ⟨rfl, k, rfl⟩
      go_wp2
      go_roundw
      case rel => exact ⟨below_dn HB.out k, Or.inl ⟨rfl, Or.inr (Or.inr rfl)⟩⟩
      case measure => simp [intOf, left]
    · have HB : Hid (Below w1.heap.size w1 wr) := hb
      clear hb
      go_wp2_with fail
      refine (show Calls _ _ _ _ _ from HV1.out _ (HD.out.on HB.out)).mono ?_
      rintro e w2 ⟨K, kc, rfl, hK, hkc, hb2⟩
      have HK : Hid _ := hkc
      have HB2 : Hid (Below w1.heap.size w1 w2) := bel_to HB.out hb2 (Nat.le_refl _)
      clear hK hkc hb2
      go_wp2
      go_roundw
      case rel => exact ⟨HB2.out, Or.inr ⟨K, kc, rfl, HK.out, rfl⟩⟩
      case measure => simp [intOf, left]
    · have HB : Hid (Below w1.heap.size w1 wr) := hb
      have HK : Hid _ := hk
      clear hb hk
      go_wp2_with fail
      refine (show Calls _ _ _ _ _ from HV3.out _ _ _ (HD.out.on HB.out)).mono ?_
      rintro e w2 ⟨rfl, k, rfl⟩
      go_wp2
      go_returns
      exact ⟨K, kc, rfl, cell_on HK.out (below_dn (Below.refl _ _) k), below_dn HB.out k⟩
end Go.Proofs.Ytdemodhjlbkbeab
namespace Go.Proofs.Ytdemodhjlbkbeab
open Go.RowKit
set_option linter.unusedVariables false
set_option linter.unusedSimpArgs false
set_option maxHeartbeats 1000000 in
set_option maxRecDepth 100000 in
theorem run_clr (E c : Nat) (ty : TypeId) (W : World) (x y : Value) (h0 : W.cell? ⟨E, 0, none⟩ = some x) (h1 : W.cell? ⟨E, 1, none⟩ = some y) (hf : ∀ j, W.frozen? ⟨E, j, none⟩ = false) :
    Sem.run Try.prog (Builtin.clear_ #[83] ty #[.slice (some ⟨E, 0, none⟩) 1 c]) W = .ok (.tuple #[]) ((W.setCell ⟨E, 0, none⟩ (.string ⟨#[]⟩)).setCell ⟨E, 1, none⟩ (.int .i64 0)) := by
  obtain ⟨i0, hi, hz0, hz1, hz2⟩ := info_parts infoE
  have hzc : (Builtin.zeroCells #[.string ⟨#[]⟩, .int .i64 0] 1).toList = [.string ⟨#[]⟩, .int .i64 0] := by kernel_rfl
  have g1 : (W.setCell ⟨E, 0, none⟩ (.string ⟨#[]⟩)).cell? ⟨E, 1, none⟩ = some y := by rw [World.cell?_setCell_other]; exact h1; simp
  have g2 : (W.setCell ⟨E, 0, none⟩ (.string ⟨#[]⟩)).frozen? ⟨E, 1, none⟩ = false := by rw [World.frozen?_setCell]; exact hf 1
  simp only [Builtin.clear_]
  simp [go_sem]
  rw [hzc]
  simp [go_sem, storeCells, h0, h1, hf, g1, g2]
end Go.Proofs.Ytdemodhjlbkbeab
namespace Go.Proofs.Ytdemodhjlbkbeab
open Go.RowKit
set_option linter.unusedVariables false
set_option maxHeartbeats 1000000 in
set_option maxRecDepth 100000 in
theorem sdel (E c : Nat) (v : Int) (w : World) (hO : One w E c v) : Calls Try.prog 56 #[.slice (some ⟨E, 0, none⟩) 1 c, .int .i64 0, .int .i64 1] w fun e w' => e = .returned (.slice (some ⟨E, 0, none⟩) 0 c) ∧ Below E w w' ∧ w'.heap.size = w.heap.size ∧ ∀ k, k ≠ E → w'.heap[k]? = w.heap[k]? := by
  obtain ⟨e0, e1, ef⟩ := hO.cells
  have hc1 : 1 ≤ c := by obtain ⟨_, _, _, h, _⟩ := hO; exact h
  have hcl : Sem.run Try.prog (Builtin.clear_ #[83] 0 #[.slice (some ⟨E, 0, none⟩) 1 c]) w.drew = .ok (.tuple #[]) ((w.drew.setCell ⟨E, 0, none⟩ (.string ⟨#[]⟩)).setCell ⟨E, 1, none⟩ (.int .i64 0)) := run_clr E c 0 w.drew _ _ e0 e1 ef
  clear hO
  by_cases hc2 : c = 1
  all_goals
   try subst hc2
   go_enter Try.func56, Try.ntmps56
   go_wp2_with fail
   go_region
   all_goals
    go_wp2
    go_returns
    refine ⟨rfl, ?_, ?_, fun k hk => ?_⟩
    · exact ((Below.refl E w).drew.setCell (p := ⟨E, 0, none⟩) (Nat.le_refl _) _).setCell (p := ⟨E, 1, none⟩) (Nat.le_refl _) _
    · show ((w.setCell ⟨E, 0, none⟩ (.string ⟨#[]⟩)).setCell ⟨E, 1, none⟩ (.int .i64 0)).heap.size = _
      rw [World.size_setCell, World.size_setCell]
    · show ((w.setCell ⟨E, 0, none⟩ (.string ⟨#[]⟩)).setCell ⟨E, 1, none⟩ (.int .i64 0)).heap[k]? = _
      rw [heap_setCell_other _ _ _ _ (show k ≠ E from hk), heap_setCell_other _ _ _ _ (show k ≠ E from hk)]
/-- the dict without its key. -/
def DN (W : World) (g B : Nat) : Prop := W.heap[g]? = some (.cells (dcells (some ⟨B, 0, none⟩) 4 4 0) 56)
set_option maxHeartbeats 2000000 in
set_option maxRecDepth 100000 in
theorem drop_one (h : Int) (hh : bits .and .i64 h 3 = 1) (g B E c : Nat) (v : Int) (w : World) (hgB : g < B) (hgE : g < E) (hD : DW w g B E c v) :
    Calls Try.prog 36 #[.pointer (some ⟨g, 1, none⟩), .int .i64 h, .string ⟨#[97]⟩] w fun e w' => e = .returned (.bool true) ∧ DN w' g B ∧ Below g w w' := by
  obtain ⟨c0, c1, c2, c3, c4, c5, cf⟩ := row6 hD.d
  have ho := hD.o.cells
  have HP : Hid _ := place_one h hh g B E c v w c1 hD.b ho.1 ho.2.1
  have HD : Hid (DW w g B E c v) := hD
  have HGL : Hid (g < w.heap.size) := row_lt hD.d
  clear hD ho
  go_enter Try.func36, Try.ntmps36
  go_wp2_with fail
  refine (show Calls _ _ _ _ _ from HP.out).mono ?_
  rintro e w1 ⟨rfl, hb1⟩
  have HD1 : Hid (DW w1 g B E c v) := HD.out.on hb1
  have hgl := HGL.out
  have HL1 : Hid (Below g w w1) := hb1.mono (by omega)
  clear hb1 c0 c1 c2 c3 c4 c5 cf
  go_upto_region 4 with fail
  go_cut [7] from 20 to 36 (fun sv wx => sv = .int .i64 1 ∧ wx.heap[g]? = some (.cells (dcells (some ⟨B, 0, none⟩) 4 4 1) 56) ∧ wx.heap[B]? = some (.cells (bcells (.slice (some ⟨E, 0, none⟩) 0 c)) 83) ∧ Below g w wx)
  case first =>
    obtain ⟨n1, n2, n3⟩ := HD1.out.ne
    obtain ⟨c0, c1, c2, c3, c4, c5, cf⟩ := row6 HD1.out.d
    obtain ⟨b1, b2, b3, b4, bf⟩ := row4 HD1.out.b
    have HS : Hid (Calls Try.prog 56 #[.slice (some ⟨E, 0, none⟩) 1 c, .int .i64 0, .int .i64 1] w1.drew fun e w' => e = .returned (.slice (some ⟨E, 0, none⟩) 0 c) ∧ w'.heap[g]? = some (.cells (dcells (some ⟨B, 0, none⟩) 4 4 1) 56) ∧ w'.heap[B]? = some (.cells (bcells (.slice (some ⟨E, 0, none⟩) 1 c)) 83) ∧ Below g w1 w') := by
      refine Calls.mono (sdel E c v w1.drew (HD1.out.drew).o) ?_
      rintro e w2 ⟨rfl, h1, h2, h3⟩
      exact ⟨rfl, (h3 g n2).trans HD1.out.d, (h3 B n3).trans HD1.out.b, (Below.refl _ _).drew.trans (h1.mono (by omega))⟩
    have HN1 : Hid (g ≠ B) := n1
    clear n1 n2 n3
    go_region_with (go_at_call 56; refine (show Calls _ _ _ _ _ from HS.out).mono ?_; rintro e w2 ⟨rfl, hg2, hB2, hb2⟩; obtain ⟨d0, d1, d2, d3, d4, d5, df⟩ := row6 hg2; obtain ⟨e1, e2, e3, e4, ef⟩ := row4 hB2)
    all_goals
      go_wp2_with fail
      go_meet
      refine ⟨rfl, ?_, ?_, ?_⟩
      · rw [heap_setCell_other _ _ _ _ HN1.out]; exact hg2
      · rw [heap_setCell_same _ _ _ _ _ _ hB2]; rfl
      · exact (HL1.out.trans hb2).setCell (p := ⟨B, 1, none⟩) (by show g ≤ B; omega) _
  case rest =>
    obtain ⟨rfl, hg3, hB3, hb3⟩ := hcut
    have HG3 : Hid _ := hg3
    have HB3 : Hid _ := hB3
    have HL3 : Hid (Below g w wc) := hb3
    have HN1 : Hid (g ≠ B) := HD1.out.ne.1
    obtain ⟨c0, c1, c2, c3, c4, c5, cf⟩ := row6 hg3
    obtain ⟨b1, b2, b3, b4, bf⟩ := row4 hB3
    clear hg3 hB3 hb3
    go_upto_region 7 with fail
    obtain ⟨W5, hW5⟩ : ∃ W5, W5 = wc.setCell ⟨B, 1, none⟩ (.slice none 0 0) := ⟨_, rfl⟩
    rw [← hW5]
    have HG5 : Hid (W5.heap[g]? = some (.cells (dcells (some ⟨B, 0, none⟩) 4 4 1) 56)) := by rw [hW5, heap_setCell_other _ _ _ _ HN1.out]; exact HG3.out
    have HL5 : Hid (Below g w W5) := by rw [hW5]; exact HL3.out.setCell (p := ⟨B, 1, none⟩) (by show g ≤ B; omega) _
    clear hW5 c0 c1 c2 c3 c4 c5 cf b1 b2 b3 b4 bf
    obtain ⟨c0, c1, c2, c3, c4, c5, cf⟩ := row6 HG5.out
    go_wp2
    go_returns
    refine ⟨rfl, ?_, HL5.out.setCell (p := ⟨g, 2, none⟩) (Nat.le_refl _) _⟩
    show _ = _
    rw [heap_setCell_same _ _ _ _ _ _ HG5.out]; rfl
end Go.Proofs.Ytdemodhjlbkbeab
namespace Go.Proofs.Ytdemodhjlbkbeab
open Go.RowKit
set_option linter.unusedVariables false
set_option maxHeartbeats 1000000 in
set_option maxRecDepth 100000 in
theorem end_no (g : Nat) (w : World) (h : w.cell? ⟨g, 3, none⟩ = some (.slice none 0 0)) : Calls Try.prog 37 #[.pointer (some ⟨g, 0, none⟩)] w fun e w' => e = .returned (.tuple #[]) ∧ w' = w := by
  have HM : Hid _ := moves_no g none 0 w h
  clear h
  go_enter Try.func37, Try.ntmps37
  go_wp2_with fail
  refine (show Calls _ _ _ _ _ from HM.out).mono ?_
  rintro e w1 ⟨rfl, rfl⟩
  go_wp2
  go_returns
  exact ⟨rfl, rfl⟩
set_option maxHeartbeats 1000000 in
set_option maxRecDepth 100000 in
theorem give_no (g B : Nat) (w : World) (h1 : w.cell? ⟨g, 1, none⟩ = some (.slice (some ⟨B, 0, none⟩) 4 4)) (h : w.cell? ⟨g, 3, none⟩ = some (.slice none 0 0)) : Calls Try.prog 38 #[.pointer (some ⟨g, 0, none⟩)] w fun e w' => e = .returned (.tuple #[]) ∧ w' = w := by
  have HM : Hid _ := moves_no g none 0 w h
  have HS : Hid (Calls Try.prog 39 #[.pointer (some ⟨g, 1, none⟩)] w fun e w' => e = .returned (.int .i64 4) ∧ w' = w) := size_any g 1 _ 4 4 w h1
  clear h h1
  go_enter Try.func38, Try.ntmps38
  go_wp2_with fail
  refine (show Calls _ _ _ _ _ from HS.out).mono ?_
  rintro e w1 ⟨rfl, rfl⟩
  go_wp2_with fail
  refine (show Calls _ _ _ _ _ from HM.out).mono ?_
  rintro e w1 ⟨rfl, rfl⟩
  go_wp2
  go_returns
  exact ⟨rfl, rfl⟩
set_option maxHeartbeats 1000000 in
set_option maxRecDepth 100000 in
theorem Delete_one (g B E c : Nat) (v : Int) (w : World) (hgB : g < B) (hgE : g < E) (hD : DW w g B E c v) :
    Calls Try.prog 10 #[.pointer (some ⟨g, 0, none⟩), .string ⟨#[97]⟩] w fun e w' => e = .returned (.bool true) ∧ DN w' g B ∧ Below g w w' := by
  obtain ⟨H, hh, hHC⟩ := hash_call w
  have HHC : Hid _ := hHC
  obtain ⟨c0, c1, c2, c3, c4, c5, cf⟩ := row6 hD.d
  have HST : Hid _ := step_no g none 0 w c3
  have HDR : Hid _ := drop_one H hh g B E c v w hgB hgE hD
  clear hHC hD
  go_enter Try.func10, Try.ntmps10
  go_wp2_with fail
  refine (show Calls _ _ _ _ _ from HST.out).mono ?_
  rintro e w1 ⟨rfl, rfl⟩
  go_wp2_with fail
  refine (show Calls _ _ _ _ _ from HHC.out _).mono ?_
  rintro e w1 ⟨rfl, rfl⟩
  go_wp2_with fail
  refine (show Calls _ _ _ _ _ from HDR.out).mono ?_
  rintro e w2 ⟨rfl, hd2, hb2⟩
  have HD2 : Hid (DN w2 g B) := hd2
  have HL2 : Hid (Below g w1 w2) := hb2
  clear c0 c1 c2 c3 c4 c5 cf hb2
  have hd3 : w2.heap[g]? = some (.cells (dcells (some ⟨B, 0, none⟩) 4 4 0) 56) := hd2
  obtain ⟨c0, c1, c2, c3, c4, c5, cf⟩ := row6 hd3
  have HEN : Hid _ := end_no g w2 c3
  have HGV : Hid _ := give_no g B w2 c1 c3
  clear hd2 hd3
  go_wp2_with fail
  refine (show Calls _ _ _ _ _ from HEN.out).mono ?_
  rintro e w3 ⟨rfl, rfl⟩
  go_wp2_with fail
  refine (show Calls _ _ _ _ _ from HGV.out).mono ?_
  rintro e w3 ⟨rfl, rfl⟩
  go_wp2
  go_returns
  exact ⟨rfl, HD2.out, HL2.out⟩
set_option maxHeartbeats 1000000 in
set_option maxRecDepth 100000 in
theorem New_0 (w : World) : Calls Try.prog 4 #[.int .i64 0] w fun e w' => e = .returned (.pointer (some ⟨w.heap.size, 0, none⟩)) ∧ w'.heap[w.heap.size]? = some (.cells (dcells none 0 0 0) 56) ∧ Below w.heap.size w w' := by
  go_enter Try.func4, Try.ntmps4
  go_wp2
  go_returns
  exact ⟨rfl, one_alloc w _, (Below.refl _ w).alloc (Nat.le_refl _) _⟩
set_option maxHeartbeats 2000000 in
set_option maxRecDepth 100000 in
theorem works_any (w : World) : Calls Try.prog 6 #[] w fun e w' => e = .returned (.bool true) ∧ Below w.heap.size w w' := by
  have HNW : Hid _ := New_0 w
  go_enter Try.func6, Try.ntmps6
  go_wp2_with fail
  refine (show Calls _ _ _ _ _ from HNW.out).mono ?_
  rintro e w1 ⟨rfl, hg1, hb1⟩
  obtain ⟨g, hg⟩ : ∃ g, w.heap.size = g := ⟨_, rfl⟩
  rw [hg] at hg1 hb1 ⊢
  have HB1 : Hid (Below g w w1) := hb1
  have HS1 : Hid _ := Set_new g 7 w1 hg1
  have HGW : Hid _ := hg
  clear hg1 hb1 hg HNW
  go_wp2_with fail
  refine (show Calls _ _ _ _ _ from HS1.out).mono ?_
  rintro e w2 ⟨rfl, B, E, c, hgB, hgE, hd2, hb2⟩
  have HB2 : Hid (Below g w w2) := HB1.out.trans hb2
  have HS2 : Hid _ := Set_old g B E c 7 8 w2 hgE hd2
  clear hd2 hb2
  go_wp2_with fail
  refine (show Calls _ _ _ _ _ from HS2.out).mono ?_
  rintro e w3 ⟨rfl, hd3, hb3⟩
  have HB3 : Hid (Below g w w3) := HB2.out.trans hb3
  have HD3 : Hid (DW w3 g B E c 8) := hd3
  have HG3 : Hid _ := Get_one g B E c 8 w3 hd3
  clear hd3 hb3
  go_wp2_with fail
  refine (show Calls _ _ _ _ _ from HG3.out).mono ?_
  rintro e w4 ⟨rfl, hb4⟩
  have HD4 : Hid (DW w4 g B E c 8) := HD3.out.on hb4
  have hgl3 := row_lt HD3.out.d
  have HB4 : Hid (Below g w w4) := HB3.out.trans (hb4.mono (by omega))
  have HSC : Hid _ := Scan_one g B E c 8 w4 HD4.out
  clear hb4
  go_wp2_with fail
  refine (show Calls _ _ _ _ _ from HSC.out).mono ?_
  rintro e w5 ⟨K, kc, rfl, hk5, hb5⟩
  have HD5 : Hid (DW w5 g B E c 8) := HD4.out.on hb5
  have hgl4 := row_lt HD4.out.d
  have HB5 : Hid (Below g w w5) := HB4.out.trans (hb5.mono (by omega))
  have HK5 : Hid _ := hk5
  have HTB : Hid _ := Tables_one g B E c 8 w5 HD5.out
  clear hb5 hk5
  go_wp2_with fail
  refine (show Calls _ _ _ _ _ from HTB.out).mono ?_
  rintro e w6 ⟨rfl, rfl⟩
  have r6 := row6 HD5.out.d
  have HLN : Hid (Calls Try.prog 21 #[.pointer (some ⟨g, 0, none⟩)] w6 fun e w' => e = .returned (.int .i64 1) ∧ ∃ k, w' = w6.drewN k) := Len_any g 1 0 (by omega) (by omega) w6 r6.2.2.1 r6.2.2.2.2.1
  clear r6
  go_wp2_with fail
  refine (show Calls _ _ _ _ _ from HLN.out).mono ?_
  rintro e w7 ⟨rfl, k, hw7⟩
  have hbd : Below w6.heap.size w6 w7 := by rw [hw7]; exact below_dn (Below.refl _ _) k
  have hk7 := cell_on HK5.out hbd
  have HD7 : Hid (DW w7 g B E c 8) := HD5.out.on hbd
  have hgl5 := row_lt HD5.out.d
  have HB7 : Hid (Below g w w7) := HB5.out.trans (hbd.mono (by omega))
  have HDE : Hid _ := Delete_one g B E c 8 w7 hgB hgE HD7.out
  clear hbd hw7
  go_wp2_with fail
  refine (show Calls _ _ _ _ _ from HDE.out).mono ?_
  rintro e w8 ⟨rfl, hd8, hb8⟩
  have HB8 : Hid (Below g w w8) := HB7.out.trans hb8
  have hd9 : w8.heap[g]? = some (.cells (dcells (some ⟨B, 0, none⟩) 4 4 0) 56) := hd8
  have r8 := row6 hd9
  have HL8 : Hid (Calls Try.prog 21 #[.pointer (some ⟨g, 0, none⟩)] w8 fun e w' => e = .returned (.int .i64 0) ∧ ∃ k, w' = w8.drewN k) := Len_any g 0 0 (by omega) (by omega) w8 r8.2.2.1 r8.2.2.2.2.1
  clear r8 hd8 hd9 hb8
  go_wp2_with fail
  refine (show Calls _ _ _ _ _ from HL8.out).mono ?_
  rintro e w9 ⟨rfl, k9, rfl⟩
  go_wp2
  go_returns
  exact ⟨rfl, by rw [HGW.out]; exact below_dn HB8.out k9⟩
end Go.Proofs.Ytdemodhjlbkbeab
