import Derived.Test.YtdemodhjlbkbeaaSetN
import Derived.Test.YtdemodhjlbkbeaaVs1
namespace Go.Proofs.Ytdemodhjlbkbeaa
open Go.RowKit
set_option linter.unusedVariables false
theorem DW.ne {W : World} {g B E c : Nat} {v : Int} (h : DW W g B E c v) : g ≠ B ∧ g ≠ E ∧ B ≠ E := by
  obtain ⟨cur, h1, _⟩ := h.o
  refine ⟨fun e => ?_, fun e => ?_, fun e => ?_⟩
  · subst e; have := h.d.symm.trans h.b; simp [dcells, bcells] at this
  · subst e; have := h.d.symm.trans h1; simp at this
  · subst e; have := h.b.symm.trans h1; simp at this
theorem One.set {W : World} {E c : Nat} {v : Int} (h : One W E c v) (v2 : Int) : One (W.setCell ⟨E, 1, none⟩ (.int .i64 v2)) E c v2 := by
  obtain ⟨cur, h1, h2, h3, h4⟩ := h
  refine ⟨cur.setIfInBounds 1 (.int .i64 v2), ?_, by simpa using h2, h3, ?_⟩
  · rw [heap_setCell_same _ _ _ _ _ _ h1]
  · rw [Array.toList_setIfInBounds, List.take_set, h4]; rfl
set_option maxHeartbeats 1000000 in
set_option maxRecDepth 100000 in
theorem Set_old (g B E c : Nat) (v v2 : Int) (w : World) (hgE : g < E) (hD : DW w g B E c v) :
    Calls Try.prog 13 #[.pointer (some ⟨g, 0, none⟩), .string ⟨#[97]⟩, .int .i64 v2] w fun e w' => e = .returned (.bool false) ∧ DW w' g B E c v2 ∧ Below g w w' := by
  obtain ⟨H, hh, hHC⟩ := hash_call w
  have HHC : Hid _ := hHC
  have HD : Hid (DW w g B E c v) := hD
  obtain ⟨c0, c1, c2, c3, c4, c5, cf⟩ := row6 hD.d
  have HST : Hid _ := step_no g none 0 w c3
  have ho := hD.o.cells
  have HFN : Hid _ := find_one H hh g B E c v w c1 hD.b ho.1 ho.2.1
  have HGL : Hid (g < w.heap.size) := row_lt hD.d
  clear hHC hD ho
  go_enter Try.func13, Try.ntmps13
  go_wp2_with fail
  refine (show Calls _ _ _ _ _ from HST.out).mono ?_
  rintro e w1 ⟨rfl, rfl⟩
  go_wp2_with fail
  refine (show Calls _ _ _ _ _ from HHC.out _).mono ?_
  rintro e w1 ⟨rfl, rfl⟩
  go_wp2_with fail
  refine (show Calls _ _ _ _ _ from HFN.out).mono ?_
  rintro e w2 ⟨rfl, hb2⟩
  have HD2 : Hid (DW w2 g B E c v) := HD.out.on hb2
  have hgl := HGL.out
  have HL2 : Hid (Below g w1 w2) := hb2.mono (by omega)
  clear hb2 c0 c1 c2 c3 c4 c5 cf
  obtain ⟨e0, e1, ef⟩ := HD2.out.o.cells
  go_wp2
  go_returns
  obtain ⟨n1, n2, n3⟩ := HD2.out.ne
  refine ⟨rfl, ⟨?_, ?_, HD2.out.o.set v2⟩, HL2.out.setCell (p := ⟨E, 1, none⟩) (by show g ≤ E; omega) _⟩
  · rw [heap_setCell_other _ _ _ _ n2]; exact HD2.out.d
  · rw [heap_setCell_other _ _ _ _ n3]; exact HD2.out.b
set_option maxHeartbeats 1000000 in
set_option maxRecDepth 100000 in
theorem Get_one (g B E c : Nat) (v : Int) (w : World) (hD : DW w g B E c v) :
    Calls Try.prog 17 #[.pointer (some ⟨g, 0, none⟩), .string ⟨#[97]⟩] w fun e w' => e = .returned (.tuple #[.int .i64 v, .bool true]) ∧ Below w.heap.size w w' := by
  obtain ⟨H, hh, hHC⟩ := hash_call w
  have HHC : Hid _ := hHC
  have HD : Hid (DW w g B E c v) := hD
  obtain ⟨c0, c1, c2, c3, c4, c5, cf⟩ := row6 hD.d
  have ho := hD.o.cells
  have HFN : Hid _ := find_one H hh g B E c v w c1 hD.b ho.1 ho.2.1
  clear hHC hD ho
  go_enter Try.func17, Try.ntmps17
  go_wp2_with fail
  refine (show Calls _ _ _ _ _ from HHC.out _).mono ?_
  rintro e w1 ⟨rfl, rfl⟩
  go_wp2_with fail
  refine (show Calls _ _ _ _ _ from HFN.out).mono ?_
  rintro e w2 ⟨rfl, hb2⟩
  have HD2 : Hid (DW w2 g B E c v) := HD.out.on hb2
  have HL2 : Hid (Below _ w1 w2) := hb2
  clear hb2 c0 c1 c2 c3 c4 c5 cf
  obtain ⟨e0, e1, ef⟩ := HD2.out.o.cells
  go_wp2
  go_returns
  exact ⟨rfl, HL2.out⟩
set_option maxHeartbeats 1000000 in
set_option maxRecDepth 100000 in
theorem Tables_one (g B E c : Nat) (v : Int) (w : World) (hD : DW w g B E c v) :
    Calls Try.prog 20 #[.pointer (some ⟨g, 0, none⟩)] w fun e w' => e = .returned (.tuple #[.int .i64 4, .int .i64 0, .int .i64 (-1)]) ∧ w' = w := by
  have HMV : Hid _ := hD.moves
  have HSZ : Hid _ := hD.size
  clear hD
  go_enter Try.func20, Try.ntmps20
  go_wp2_with fail
  refine (show Calls _ _ _ _ _ from HMV.out).mono ?_
  rintro e w1 ⟨rfl, rfl⟩
  go_wp2_with fail
  refine (show Calls _ _ _ _ _ from HSZ.out).mono ?_
  rintro e w1 ⟨rfl, rfl⟩
  go_wp2
  go_returns
  exact ⟨rfl, rfl⟩
set_option maxHeartbeats 1000000 in
set_option maxRecDepth 100000 in
theorem Len_any (g : Nat) (n m : Nat) (hn : n ≤ 1000) (hm : m ≤ 1000) (w : World) (h2 : w.cell? ⟨g, 2, none⟩ = some (.int .i64 (n : Int))) (h4 : w.cell? ⟨g, 4, none⟩ = some (.int .i64 (m : Int))) :
    Calls Try.prog 16 #[.pointer (some ⟨g, 0, none⟩)] w fun e w' => e = .returned (.int .i64 ((n + m : Nat) : Int)) ∧ ∃ k, w' = w.drewN k := by
  have hw : IntKind.i64.wrap ((n : Int) + (m : Int)) = ((n + m : Nat) : Int) := by rw [IntKind.wrap_i64] <;> omega
  go_enter Try.func16, Try.ntmps16
  go_wp2_with fail
  go_quiet (fail)
  go_wp2
  go_returns
  exact ⟨rfl, nq, rfl⟩
/-- how many visits are left. -/
def left (c : Int) : Nat := if c = 0 then 3 else if c = 2 then 2 else if c = 1 then 1 else 0
set_option maxHeartbeats 2000000 in
set_option maxRecDepth 100000 in
theorem Scan_one (g B E c : Nat) (v : Int) (w : World) (hD : DW w g B E c v) :
    Calls Try.prog 19 #[.pointer (some ⟨g, 0, none⟩), .int .i64 0, .int .i64 10] w fun e w' => ∃ K kc, e = .returned (.tuple #[.slice (some ⟨K, 0, none⟩) 1 kc, .int .i64 0]) ∧ w'.cell? ⟨K, 0, none⟩ = some (.string ⟨#[97]⟩) ∧ Below w.heap.size w w' := by
  have HSZ : Hid _ := hD.size
  have HD : Hid (DW w g B E c v) := hD
  have HV0 : Hid (∀ W, DW W g B E c v → Calls Try.prog 37 #[.pointer (some ⟨g, 0, none⟩), .slice none 0 0, .int .i64 0] W fun e w' => e = .returned (.tuple #[.slice none 0 0, .int .i64 2]) ∧ ∃ k, w' = W.drewN k) := fun W h => visit_q g B E c 0 2 v (by omega) none 0 0 W (by kernel_rfl) next_0 h
  have HV2 : Hid (∀ W, DW W g B E c v → Calls Try.prog 37 #[.pointer (some ⟨g, 0, none⟩), .slice none 0 0, .int .i64 2] W fun e w' => e = .returned (.tuple #[.slice none 0 0, .int .i64 1]) ∧ ∃ k, w' = W.drewN k) := fun W h => visit_q g B E c 2 1 v (by omega) none 0 0 W (by kernel_rfl) next_2 h
  have HV3 : Hid (∀ K kc W, DW W g B E c v → Calls Try.prog 37 #[.pointer (some ⟨g, 0, none⟩), .slice (some ⟨K, 0, none⟩) 1 kc, .int .i64 3] W fun e w' => e = .returned (.tuple #[.slice (some ⟨K, 0, none⟩) 1 kc, .int .i64 0]) ∧ ∃ k, w' = W.drewN k) := fun K kc W h => visit_q g B E c 3 0 v (by omega) (some ⟨K, 0, none⟩) 1 kc W (by kernel_rfl) next_3 h
  have HV1 : Hid (∀ W, DW W g B E c v → Calls Try.prog 37 #[.pointer (some ⟨g, 0, none⟩), .slice none 0 0, .int .i64 1] W fun e w' => ∃ K kc, e = .returned (.tuple #[.slice (some ⟨K, 0, none⟩) 1 kc, .int .i64 3]) ∧ W.heap.size ≤ K ∧ w'.cell? ⟨K, 0, none⟩ = some (.string ⟨#[97]⟩) ∧ Below W.heap.size W w') := fun W h => visit_1 g B E c v W h
  clear hD
  go_enter Try.func19, Try.ntmps19
  go_wp2_with fail
  refine (show Calls _ _ _ _ _ from HSZ.out).mono ?_
  rintro e w1 ⟨rfl, rfl⟩
  go_wp2
  go_loopw [8, 1] (fun ck cc wr => Below w1.heap.size w1 wr ∧ ((ck = .slice none 0 0 ∧ (cc = .int .i64 0 ∨ cc = .int .i64 2 ∨ cc = .int .i64 1)) ∨ (∃ K kc, ck = .slice (some ⟨K, 0, none⟩) 1 kc ∧ wr.cell? ⟨K, 0, none⟩ = some (.string ⟨#[97]⟩) ∧ cc = .int .i64 3))) (fun _ cc _ => left (intOf cc))
  case atStart => exact ⟨Below.refl _ _, Or.inl ⟨rfl, Or.inl rfl⟩⟩
  case round =>
    obtain ⟨hb, ⟨rfl, rfl | rfl | rfl⟩ | ⟨K, kc, rfl, hk, rfl⟩⟩ := hrel
    · have HB : Hid (Below w1.heap.size w1 wr) := hb
      clear hb
      go_wp2_with fail
      refine (show Calls _ _ _ _ _ from HV0.out _ (HD.out.on HB.out)).mono ?_
      rintro e w2 ⟨rfl, k, rfl⟩
      go_wp2
      go_roundw
      case rel => exact ⟨below_dn HB.out k, Or.inl ⟨rfl, Or.inr (Or.inl rfl)⟩⟩
      case measure => simp [intOf, left]
    · have HB : Hid (Below w1.heap.size w1 wr) := hb
      clear hb
      go_wp2_with fail
      refine (show Calls _ _ _ _ _ from HV2.out _ (HD.out.on HB.out)).mono ?_
      rintro e w2 ⟨rfl, k, rfl⟩
      go_wp2
      go_roundw
      case rel => exact ⟨below_dn HB.out k, Or.inl ⟨rfl, Or.inr (Or.inr rfl)⟩⟩
      case measure => simp [intOf, left]
    · have HB : Hid (Below w1.heap.size w1 wr) := hb
      clear hb
      go_wp2_with fail
      refine (show Calls _ _ _ _ _ from HV1.out _ (HD.out.on HB.out)).mono ?_
      rintro e w2 ⟨K, kc, rfl, hK, hkc, hb2⟩
      have HK : Hid _ := hkc
      have HB2 : Hid (Below w1.heap.size w1 w2) := bel_to HB.out hb2 (Nat.le_refl _)
      clear hK hkc hb2
      go_wp2
      go_roundw
      case rel => exact ⟨HB2.out, Or.inr ⟨K, kc, rfl, HK.out, rfl⟩⟩
      case measure => simp [intOf, left]
    · have HB : Hid (Below w1.heap.size w1 wr) := hb
      have HK : Hid _ := hk
      clear hb hk
      go_wp2_with fail
      refine (show Calls _ _ _ _ _ from HV3.out _ _ _ (HD.out.on HB.out)).mono ?_
      rintro e w2 ⟨rfl, k, rfl⟩
      go_wp2
      go_returns
      exact ⟨K, kc, rfl, cell_on HK.out (below_dn (Below.refl _ _) k), below_dn HB.out k⟩
end Go.Proofs.Ytdemodhjlbkbeaa
