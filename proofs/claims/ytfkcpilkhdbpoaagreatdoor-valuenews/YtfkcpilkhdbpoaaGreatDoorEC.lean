import Derived.Test.YtfkcpilkhdbpoaaGreatDoorEA
import Derived.Test.YtfkcpilkhdbpoaaGreatDoorShelf
namespace Go.Proofs.YtfkcpilkhdbpoaaGreatDoor.S8
open Go.RowKit
set_option linter.unusedVariables false
theorem clone_any (s : ByteArray) (hs : s.size ≤ 281474976710656) (w : World) : Calls Tryz.prog 77 #[.string s] w fun e w' => e = .returned (.string s) ∧ Below w.heap.size w w' := by
  have HC : Hid _ := Tryz.stringslite_Clone s w hs
  go_enter Tryz.func77, Tryz.ntmps77
  go_wp2_with fail
  refine (show Calls _ _ _ _ _ from HC.out).mono ?_
  rintro e w1 ⟨rfl, hb⟩
  have HB : Hid (Below w.heap.size w w1) := hb
  clear hb
  go_wp2
  go_returns
  exact ⟨rfl, HB.out⟩
theorem info9 : (Tryz.prog.info? 9).map (fun i => (i.zero, i.size, i.bytes)) = some (some (.string ⟨#[]⟩), 1, 16) := by kernel_rfl
theorem row1 {w : World} {g T : Nat} {v0 : Value} (h : w.heap[g]? = some (.cells #[v0] T)) : w.cell? ⟨g, 0, none⟩ = some v0 ∧ ∀ j, w.frozen? ⟨g, j, none⟩ = false := by
  refine ⟨?_, fun j => frozen_of_row _ _ _ _ _ h⟩ <;> rw [cell_of_row _ _ _ _ _ _ h] <;> rfl
/-- the dict of one key. -/
structure DW (W : World) (g B E c : Nat) (v : ByteArray) : Prop where
  d : W.heap[g]? = some (.cells (dcells (some ⟨B, 0, none⟩) 4 4 1) 487)
  b : W.heap[B]? = some (.cells (bcells (.slice (some ⟨E, 0, none⟩) 1 c)) 539)
  o : One W E c v
theorem DW.on {W W' : World} {g B E c : Nat} {v : ByteArray} (h : DW W g B E c v) (hb : Below W.heap.size W W') : DW W' g B E c v := ⟨keep_row h.d hb, keep_row h.b hb, h.o.on hb⟩
theorem DW.size {W : World} {g B E c : Nat} {v : ByteArray} (h : DW W g B E c v) : Calls Tryz.prog 417 #[.pointer (some ⟨g, 1, none⟩)] W fun e w' => e = .returned (.int .i64 4) ∧ w' = W := size_any g 1 _ 4 4 W (row6 h.d).2.1
theorem DW.moves {W : World} {g B E c : Nat} {v : ByteArray} (h : DW W g B E c v) : Calls Tryz.prog 389 #[.pointer (some ⟨g, 0, none⟩)] W fun e w' => e = .returned (.bool false) ∧ w' = W := moves_no g none 0 W (row6 h.d).2.2.2.1
theorem DW.drew {W : World} {g B E c : Nat} {v : ByteArray} (h : DW W g B E c v) : DW W.drew g B E c v := h.on (Below.refl _ _).drew
end Go.Proofs.YtfkcpilkhdbpoaaGreatDoor.S8
namespace Go.Proofs.YtfkcpilkhdbpoaaGreatDoor.S8
open Go.RowKit
set_option linter.unusedVariables false
theorem hash_a : bits .and .i64 (hashT 0 ⟨#[97]⟩) 3 = 1 := by kernel_rfl
theorem hash_call (w : World) : ∃ H, bits .and .i64 H 3 = 1 ∧ ∀ W : World, Calls Tryz.prog 356 #[.int .i64 0, .string ⟨#[97]⟩] W fun e w' => e = .returned (.int .i64 H) ∧ w' = W := ⟨_, hash_a, fun W => Hash_any 0 ⟨#[97]⟩ (by decide) W⟩
set_option maxHeartbeats 2000000 in
set_option maxRecDepth 100000 in
theorem Set_new (g : Nat) (v : ByteArray) (w : World) (hg : w.heap[g]? = some (.cells (dcells none 0 0 0) 487)) :
    Calls Tryz.prog 353 #[.pointer (some ⟨g, 0, none⟩), .string ⟨#[97]⟩, .string v] w fun e w' => e = .returned (.bool true) ∧ ∃ B E c, g < B ∧ g < E ∧ DW w' g B E c v ∧ Md g g w w' := by
  obtain ⟨H, hh, hHC⟩ := hash_call w
  have HHC : Hid _ := hHC
  have HGL : Hid (g < w.heap.size) := row_lt hg
  have HG : Hid _ := hg
  obtain ⟨c0, c1, c2, c3, c4, c5, cf⟩ := row6 hg
  have HST : Hid _ := step_no g none 0 w c3
  have HFN : Hid _ := find_nil g none none 0 0 H ⟨#[97]⟩ w c1 c3
  have HMR : Hid _ := makeRoom_0 g w hg
  have HCL : Hid _ := clone_any ⟨#[97]⟩ (by decide)
  have HAD : Hid (∀ B W, g ≤ B → W.heap[g]? = some (.cells (dcells (some ⟨B, 0, none⟩) 4 4 0) 487) → W.heap[B]? = some (.cells (bcells (.slice none 0 0)) 539) → Calls Tryz.prog 390 #[.pointer (some ⟨g, 1, none⟩), .int .i64 H, .agg #[.string ⟨#[97]⟩, .string v]] W fun e w' => e = .returned (.tuple #[]) ∧ ∃ E c, W.heap.size ≤ E ∧ w'.heap[g]? = some (.cells (dcells (some ⟨B, 0, none⟩) 4 4 1) 487) ∧ w'.heap[B]? = some (.cells (bcells (.slice (some ⟨E, 0, none⟩) 1 c)) 539) ∧ One w' E c v ∧ Md g B W w') := fun B W hB h1 h2 => add_new H hh g B v W h1 h2
  clear hg hHC
  go_enter Tryz.func353, Tryz.ntmps353
  go_wp2_with fail
  refine (show Calls _ _ _ _ _ from HST.out).mono ?_
  rintro e w1 ⟨rfl, rfl⟩
  go_wp2_with fail
  refine (show Calls _ _ _ _ _ from HHC.out _).mono ?_
  rintro e w1 ⟨rfl, rfl⟩
  go_wp2_with fail
  refine (show Calls _ _ _ _ _ from HFN.out).mono ?_
  rintro e w1 ⟨rfl, rfl⟩
  go_wp2_with fail
  refine (show Calls _ _ _ _ _ from HMR.out).mono ?_
  rintro e w2 ⟨rfl, B, hB, hg2, hB2, hs2, hb2⟩
  have HG2 : Hid _ := hg2
  have HB2 : Hid (w2.heap[B]? = some (.cells (bcells (.slice none 0 0)) 539)) := hB2
  have HBG : Hid (g < B) := by have := HGL.out; show _ < _; omega
  have HBW : Hid (w1.heap.size ≤ B) := hB
  have HL2 : Hid (Md g g w1 w2) := hb2
  clear hg2 hB2 hs2 hb2 hB c0 c1 c2 c3 c4 c5 cf
  go_wp2_with fail
  refine (show Calls _ _ _ _ _ from HCL.out _).mono ?_
  rintro e w3 ⟨rfl, hb3⟩
  have HG3 : Hid _ := keep_row HG2.out hb3
  have HB3 : Hid _ := keep_row HB2.out hb3
  have hgl2 := row_lt HG2.out
  have HL3 : Hid (Md g g w1 w3) := HL2.out.trans (Md.of hb3)
  clear hb3
  have HX : Hid _ := one_alloc w3 (.cells #[.string ⟨#[97]⟩, .string v] 518)
  obtain ⟨W4, hW4⟩ : ∃ W4, W4 = w3.alloc (.cells #[.string ⟨#[97]⟩, .string v] 518) := ⟨_, rfl⟩
  have hb4 : Below w3.heap.size w3 W4 := by rw [hW4]; exact (Below.refl _ _).alloc (Nat.le_refl _) _
  rw [← hW4] at HX
  have HG4 : Hid _ := keep_row HG3.out hb4
  have HB4 : Hid _ := keep_row HB3.out hb4
  have hgl3 := row_lt HG3.out
  have HL4 : Hid (Md g g w1 W4) := HL3.out.trans (Md.of hb4)
  clear hb4
  go_upto_region 9 with fail
  rw [← hW4]
  clear hW4
  obtain ⟨c0, c1, c2, c3, c4, c5, cf⟩ := row6 HG4.out
  have HMV : Hid _ := moves_no g none 0 W4 c3
  go_wp2_with fail
  refine (show Calls _ _ _ _ _ from HMV.out).mono ?_
  rintro e w5 ⟨rfl, rfl⟩
  obtain ⟨x0, x1, xf⟩ := row2 HX.out
  go_wp2_with fail
  have HAD1 : Hid (Calls Tryz.prog 390 #[.pointer (some ⟨g, 1, none⟩), .int .i64 H, .agg #[.string ⟨#[97]⟩, .string v]] w5.drew fun e w' => e = .returned (.tuple #[]) ∧ ∃ E c, w5.heap.size ≤ E ∧ w'.heap[g]? = some (.cells (dcells (some ⟨B, 0, none⟩) 4 4 1) 487) ∧ w'.heap[B]? = some (.cells (bcells (.slice (some ⟨E, 0, none⟩) 1 c)) 539) ∧ One w' E c v ∧ Md g B w5 w') := by
    have hbg := HBG.out
    refine Calls.mono (HAD.out B w5.drew (by omega) HG4.out HB4.out) ?_
    rintro e w6 ⟨rfl, E, c, h1, h2, h3, h4, h5⟩
    exact ⟨rfl, E, c, h1, h2, h3, h4, (Md.of (Below.refl _ _).drew).trans h5⟩
  go_region_with (go_at_call 390; refine (show Calls _ _ _ _ _ from HAD1.out).mono ?_; rintro e w6 ⟨rfl, E, c, hE, hg6, hB6, hO6, hb6⟩)
  all_goals
    go_wp2
    go_returns
    have hgl := row_lt HG4.out
    exact ⟨rfl, B, E, c, HBG.out, by omega, ⟨hg6, hB6, hO6⟩, (HL4.out.wide.trans hb6).tight HBW.out⟩
end Go.Proofs.YtfkcpilkhdbpoaaGreatDoor.S8
namespace Go.Proofs.YtfkcpilkhdbpoaaGreatDoor.S8
open Go.RowKit
set_option linter.unusedVariables false
theorem DW.ne {W : World} {g B E c : Nat} {v : ByteArray} (h : DW W g B E c v) : g ≠ B ∧ g ≠ E ∧ B ≠ E := by
  obtain ⟨cur, h1, _⟩ := h.o
  refine ⟨fun e => ?_, fun e => ?_, fun e => ?_⟩
  · subst e; have := h.d.symm.trans h.b; simp [dcells, bcells] at this
  · subst e; have := h.d.symm.trans h1; simp at this
  · subst e; have := h.b.symm.trans h1; simp at this
set_option maxHeartbeats 1000000 in
set_option maxRecDepth 100000 in
theorem Get_one (g B E c : Nat) (v : ByteArray) (w : World) (hD : DW w g B E c v) :
    Calls Tryz.prog 352 #[.pointer (some ⟨g, 0, none⟩), .string ⟨#[97]⟩] w fun e w' => e = .returned (.tuple #[.string v, .bool true]) ∧ Below w.heap.size w w' := by
  obtain ⟨H, hh, hHC⟩ := hash_call w
  have HHC : Hid _ := hHC
  have HD : Hid (DW w g B E c v) := hD
  obtain ⟨c0, c1, c2, c3, c4, c5, cf⟩ := row6 hD.d
  have ho := hD.o.cells
  have HFN : Hid _ := find_one H hh g B E c v w c1 hD.b ho.1 ho.2.1
  clear hHC hD ho
  go_enter Tryz.func352, Tryz.ntmps352
  go_wp2_with fail
  refine (show Calls _ _ _ _ _ from HHC.out _).mono ?_
  rintro e w1 ⟨rfl, rfl⟩
  go_wp2_with fail
  refine (show Calls _ _ _ _ _ from HFN.out).mono ?_
  rintro e w2 ⟨rfl, hb2⟩
  have HD2 : Hid (DW w2 g B E c v) := HD.out.on hb2
  have HL2 : Hid (Below _ w1 w2) := hb2
  clear hb2 c0 c1 c2 c3 c4 c5 cf
  obtain ⟨e0, e1, ef⟩ := HD2.out.o.cells
  go_wp2
  go_returns
  exact ⟨rfl, HL2.out⟩
set_option maxHeartbeats 1000000 in
set_option maxRecDepth 100000 in
theorem Len_any (g : Nat) (n m : Nat) (hn : n ≤ 1000) (hm : m ≤ 1000) (w : World) (h2 : w.cell? ⟨g, 2, none⟩ = some (.int .i64 (n : Int))) (h4 : w.cell? ⟨g, 4, none⟩ = some (.int .i64 (m : Int))) :
    Calls Tryz.prog 630 #[.pointer (some ⟨g, 0, none⟩)] w fun e w' => e = .returned (.int .i64 ((n + m : Nat) : Int)) ∧ ∃ k, w' = w.drewN k := by
  have hw : IntKind.i64.wrap ((n : Int) + (m : Int)) = ((n + m : Nat) : Int) := by rw [IntKind.wrap_i64] <;> omega
  go_enter Tryz.func630, Tryz.ntmps630
  go_wp2_with fail
  go_quiet (fail)
  go_wp2
  go_returns
  exact ⟨rfl, nq, rfl⟩
/-- how many visits are left. -/
def left (c : Int) : Nat := if c = 0 then 3 else if c = 2 then 2 else if c = 1 then 1 else 0
end Go.Proofs.YtfkcpilkhdbpoaaGreatDoor.S8
