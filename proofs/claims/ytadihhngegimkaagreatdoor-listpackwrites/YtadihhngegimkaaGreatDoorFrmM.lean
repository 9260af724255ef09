import Derived.Test.YtadihhngegimkaaGreatDoorAt
import Derived.Test.YtadihhngegimkaaGreatDoorApi1
import Derived.Test.YtadihhngegimkaaGreatDoorBegM
import Derived.Test.YtadihhngegimkaaGreatDoorWlk
namespace Go.Proofs.YtadihhngegimkaaGreatDoor
open Go.RowKit
set_option linter.unusedVariables false
def wI : List LM.Item := [LM.txtI [97], LM.numI 1]
theorem wI_a : LM.itemOf [97] = LM.txtI [97] := by
  have : Vi.numberOf [97] = none := by decide +kernel
  unfold LM.itemOf; rw [this]
theorem wI_1 : LM.itemOf [49] = LM.numI 1 := by
  have : Vi.numberOf [49] = some 1 := by decide +kernel
  unfold LM.itemOf; rw [this]
theorem wI_b : LM.build wI = [12, 0, 0, 0, 2, 0, 129, 97, 2, 1, 1, 255] := by decide +kernel
theorem wI_new : newI [] 0 0 [⟨#[97]⟩, ⟨#[49]⟩] = wI := by
  show [LM.itemOf [97], LM.itemOf [49]] = wI
  rw [wI_a, wI_1]; rfl
theorem wI_fit : fitI [] 0 0 [⟨#[97]⟩, ⟨#[49]⟩] := by
  refine ⟨?_, by simp, ?_⟩
  · intro v hv
    rcases List.mem_cons.1 hv with rfl | hv
    · decide
    · rw [List.mem_singleton.1 hv]; decide
  · rw [wI_new]; decide +kernel
theorem wI_pk : LM.Pk [12, 0, 0, 0, 2, 0, 129, 97, 2, 1, 1, 255] wI := by
  refine ⟨?_, by decide, wI_b.symm, by decide⟩
  intro it h
  rcases List.mem_cons.1 h with rfl | h
  · exact Or.inr ⟨rfl, rfl, by decide +kernel, by decide⟩
  · rw [List.mem_singleton.1 h]; exact Or.inl ⟨rfl, rfl, by unfold LM.I64 LM.numI; decide⟩
theorem wI_at : atV wI 1 = .tuple #[.string ⟨#[49]⟩, .int .i64 0] := by
  have : LM.val (LM.numI 1) = [49] := by decide +kernel
  show Value.tuple #[.string (strB (LM.val (LM.numI 1))), .int .i64 0] = _
  rw [this]; rfl
theorem no_empty : ∀ l, ¬ LM.Pk (⟨#[]⟩ : ByteArray).data.toList l := fun l h => by
  have := h.reads.len7
  simp at this
set_option maxHeartbeats 2000000 in
set_option maxRecDepth 100000 in
theorem works_any (w : World) (hw : Lay w) : Calls Tryz.prog 13 #[] w fun e w' => e = .returned (.bool true) ∧ Below w.heap.size w w' := by
  have HW : Hid (Lay w) := hw
  have HNW : Hid (∀ v W, SRow W v [⟨#[97]⟩, ⟨#[49]⟩] → Lay W → Calls Tryz.prog 32 #[v] W fun e w' => e = .returned (.tuple #[.string ⟨#[12, 0, 0, 0, 2, 0, 129, 97, 2, 1, 1, 255]⟩, .int .i64 0]) ∧ Below W.heap.size W w') := fun v W hV hW => by
    have := New_any v [⟨#[97]⟩, ⟨#[49]⟩] (by decide) (by
      intro x hx
      rcases List.mem_cons.1 hx with rfl | hx
      · decide
      · rw [List.mem_singleton.1 hx]; decide) W hV hW
    unfold outS at this
    rw [if_pos wI_fit, wI_new, wI_b] at this
    exact this
  have HLN : Hid (∀ W, Lay W → Calls Tryz.prog 5 #[.string ⟨#[12, 0, 0, 0, 2, 0, 129, 97, 2, 1, 1, 255]⟩] W fun e w' => e = .returned (.tuple #[.int .i64 2, .int .i64 0]) ∧ Below W.heap.size W w') := fun W hW => Len_ok ⟨#[12, 0, 0, 0, 2, 0, 129, 97, 2, 1, 1, 255]⟩ wI wI_pk W hW
  have HAT : Hid (∀ W, Lay W → Calls Tryz.prog 7 #[.string ⟨#[12, 0, 0, 0, 2, 0, 129, 97, 2, 1, 1, 255]⟩, .int .i64 1] W fun e w' => e = .returned (.tuple #[.string ⟨#[49]⟩, .int .i64 0]) ∧ Below W.heap.size W w') := fun W hW => by
    have := At_ok ⟨#[12, 0, 0, 0, 2, 0, 129, 97, 2, 1, 1, 255]⟩ wI wI_pk 1 W hW
    rwa [wI_at] at this
  have HVB : Hid (∀ W, Lay W → Calls Tryz.prog 14 #[.string ⟨#[]⟩] W fun e w' => e = .returned (.int .i64 60) ∧ Below W.heap.size W w') := fun W hW => Valid_bad ⟨#[]⟩ (by decide) no_empty W hW
  obtain ⟨PP, hPP⟩ : ∃ PP : ByteArray, PP = ⟨#[12, 0, 0, 0, 2, 0, 129, 97, 2, 1, 1, 255]⟩ := ⟨_, rfl⟩
  rw [← hPP] at HNW HLN HAT
  have HPP : Hid _ := hPP
  have hcmp : (PP.toList == (⟨#[12, 0, 0, 0, 2, 0, 129, 97, 2, 1, 1, 255]⟩ : ByteArray).toList) = true := by rw [hPP]; exact str_same rfl
  have hcmp2 : (PP.toList == [12, 0, 0, 0, 2, 0, 129, 97, 2, 1, 1, 255]) = true := by rw [hPP, ByteArray.toList_eq]; rfl
  clear hw hPP
  go_enter Tryz.func13, Tryz.ntmps13
  go_wp2_with fail
  have HB0 : Hid (Below w.heap.size w (w.alloc (.cells #[.string ⟨#[97]⟩, .string ⟨#[49]⟩] 9))) := (Below.refl _ w).alloc (Nat.le_refl _) _
  have HSR : Hid (SRow (w.alloc (.cells #[.string ⟨#[97]⟩, .string ⟨#[49]⟩] 9)) (.slice (some ⟨w.heap.size, 0, none⟩) 2 2) [⟨#[97]⟩, ⟨#[49]⟩]) := Or.inr ⟨w.heap.size, 0, 2, rfl, fun j hj => by
    have h2 := prow2 (one_alloc w (.cells #[.string ⟨#[97]⟩, .string ⟨#[49]⟩] 9))
    match j, hj with
    | 0, _ => exact h2.1
    | 1, _ => exact h2.2.1⟩
  refine (show Calls _ _ _ _ _ from HNW.out _ _ HSR.out (HW.out.on HB0.out)).mono ?_
  rintro e w1 ⟨rfl, hb1⟩
  have HB1 : Hid (Below w.heap.size w w1) := bel_to HB0.out hb1 (Nat.le_refl _)
  clear hb1
  go_wp2_with fail
  refine (show Calls _ _ _ _ _ from HLN.out _ (HW.out.on HB1.out)).mono ?_
  rintro e w2 ⟨rfl, hb2⟩
  have HB2 : Hid (Below w.heap.size w w2) := bel_to HB1.out hb2 (Nat.le_refl _)
  clear hb2
  go_wp2_with fail
  refine (show Calls _ _ _ _ _ from HAT.out _ (HW.out.on HB2.out)).mono ?_
  rintro e w3 ⟨rfl, hb3⟩
  have HB3 : Hid (Below w.heap.size w w3) := bel_to HB2.out hb3 (Nat.le_refl _)
  clear hb3
  go_wp2_with fail
  refine (show Calls _ _ _ _ _ from HVB.out _ (HW.out.on HB3.out)).mono ?_
  rintro e w4 ⟨rfl, hb4⟩
  have HB4 : Hid (Below w.heap.size w w4) := bel_to HB3.out hb4 (Nat.le_refl _)
  clear hb4
  go_wp2
  go_ret
  exact ⟨rfl, HB4.out⟩
end Go.Proofs.YtadihhngegimkaaGreatDoor
namespace Go.Proofs.YtadihhngegimkaaGreatDoor
open Go.RowKit
set_option linter.unusedVariables false
theorem pk_sum {p : ByteArray} {l : List LM.Item} (h : LM.Pk p.data.toList l) : LM.bsum l ≤ 1073741824 := by have := h.size; rw [h.eq, LM.build_len] at this; omega
theorem pk_size {p : ByteArray} {l : List LM.Item} (h : LM.Pk p.data.toList l) : p.size ≤ 281474976710656 := by have := h.size; rw [list_len] at this; omega
open Classical in
theorem outS_two (P : Prop) (L : List UInt8) : ∃ Z x, outS P L = .tuple #[.string Z, .int .i64 x] := by
  unfold outS; split
  · exact ⟨_, _, rfl⟩
  · exact ⟨_, _, rfl⟩
open Classical in
set_option maxHeartbeats 1000000 in
set_option maxRecDepth 100000 in
theorem Insert_in (p : ByteArray) (l : List LM.Item) (h : LM.Pk p.data.toList l) (i : Nat) (hi : i ≤ l.length) (v : Value) (vs : List ByteArray) (hvl : vs.length ≤ 70368744177664) (hvm : ∀ x ∈ vs, x.size ≤ 281474976710656) (w : World) (hv : SRow w v vs) (hw : Lay w) :
    Calls Tryz.prog 18 #[.string p, .int .i64 (i : Int), v] w fun e w' => e = .returned (outS (fitI l i 0 vs) (LM.build (newI l i 0 vs))) ∧ Below w.heap.size w w' := by
  have HRH : Hid (Calls Tryz.prog 24 #[.string p] w (rdP p w)) := read_any p (pk_size h) w hw
  have HSP : Hid (∀ W, SRow W v vs → Lay W → Calls Tryz.prog 33 #[.agg #[.string (strB (LM.bodyOf l)), .int .i64 (l.length : Int)], .int .i64 (i : Int), .int .i64 0, v] W fun e w' => e = .returned (outS (fitI l i 0 vs) (LM.build (newI l i 0 vs))) ∧ Below W.heap.size W w') := fun W hV hW =>
    spl_any l (begC_any l h.wf (pk_sum h)) h.wf (pk_sum h) h.len i 0 (by omega) v vs hvl hvm W hV hW
  have HP : Hid _ := h
  have HV : Hid (SRow w v vs) := hv
  have HW : Hid (Lay w) := hw
  obtain ⟨P, c, rfl⟩ := hv.form
  obtain ⟨Z, x, hZ⟩ := outS_two (fitI l i 0 vs) (LM.build (newI l i 0 vs))
  rw [hZ] at HSP ⊢
  have hl20 := h.len
  clear hv hw h hvm hZ
  go_enter Tryz.func18, Tryz.ntmps18
  go_wp2_with fail
  refine (show Calls _ _ _ _ _ from HRH.out).mono ?_
  rintro e w1 ⟨⟨l', hl', rfl⟩ | ⟨hno, rfl⟩, hb1⟩
  case inr => exact absurd HP.out (hno l)
  have he : l' = l := hl'.uniq HP.out
  subst he
  have HB1 : Hid (Below w.heap.size w (w1.alloc (.cells #[.string (strB (LM.bodyOf l')), .int .i64 (l'.length : Int)] 54))) := hb1.alloc hb1.size _
  clear hb1 hl'
  generalize strB (LM.bodyOf l') = Bo at *
  go_wp2_with fail
  refine (show Calls _ _ _ _ _ from HSP.out _ (HV.out.on HB1.out) (HW.out.on HB1.out)).mono ?_
  rintro e w2 ⟨rfl, hb2⟩
  have HB2 : Hid (Below w.heap.size w w2) := bel_to HB1.out hb2 (Nat.le_refl _)
  clear hb2
  go_wp2
  go_ret2
  exact ⟨rfl, HB2.out⟩
set_option maxHeartbeats 1000000 in
set_option maxRecDepth 100000 in
theorem Insert_out (p : ByteArray) (l : List LM.Item) (h : LM.Pk p.data.toList l) (i : Int) (hi : ¬ (0 ≤ i ∧ i ≤ (l.length : Int))) (v : Value) (vs : List ByteArray) (w : World) (hv : SRow w v vs) (hw : Lay w) :
    Calls Tryz.prog 18 #[.string p, .int .i64 i, v] w fun e w' => e = .returned (.tuple #[.string ⟨#[]⟩, .int .i64 1]) ∧ Below w.heap.size w w' := by
  have HRH : Hid (Calls Tryz.prog 24 #[.string p] w (rdP p w)) := read_any p (pk_size h) w hw
  have HP : Hid _ := h
  obtain ⟨P, c, rfl⟩ := hv.form
  clear hv hw h
  go_enter Tryz.func18, Tryz.ntmps18
  go_wp2_with fail
  refine (show Calls _ _ _ _ _ from HRH.out).mono ?_
  rintro e w1 ⟨⟨l', hl', rfl⟩ | ⟨hno, rfl⟩, hb1⟩
  case inr => exact absurd HP.out (hno l)
  have he : l' = l := hl'.uniq HP.out
  subst he
  have HB1 : Hid (Below w.heap.size w (w1.alloc (.cells #[.string (strB (LM.bodyOf l')), .int .i64 (l'.length : Int)] 54))) := hb1.alloc hb1.size _
  clear hb1 hl'
  generalize strB (LM.bodyOf l') = Bo at *
  by_cases h0 : i < 0
  · go_wp2
    go_ret2
    exact ⟨rfl, HB1.out⟩
  · have h1 : (l'.length : Int) < i := by omega
    go_wp2
    go_ret2
    exact ⟨rfl, HB1.out⟩
set_option maxHeartbeats 1000000 in
set_option maxRecDepth 100000 in
theorem Insert_bad (p : ByteArray) (hp : p.size ≤ 281474976710656) (h : ∀ l, ¬ LM.Pk p.data.toList l) (i : Int) (v : Value) (vs : List ByteArray) (w : World) (hv : SRow w v vs) (hw : Lay w) :
    Calls Tryz.prog 18 #[.string p, .int .i64 i, v] w fun e w' => e = .returned (.tuple #[.string ⟨#[]⟩, .int .i64 60]) ∧ Below w.heap.size w w' := by
  have HRH : Hid (Calls Tryz.prog 24 #[.string p] w (rdP p w)) := read_any p hp w hw
  have HP : Hid _ := h
  obtain ⟨P, c, rfl⟩ := hv.form
  clear hv hw h hp
  go_enter Tryz.func18, Tryz.ntmps18
  go_wp2_with fail
  refine (show Calls _ _ _ _ _ from HRH.out).mono ?_
  rintro e w1 ⟨⟨l', hl', rfl⟩ | ⟨hno, rfl⟩, hb1⟩
  · exact absurd hl' (HP.out l')
  · have HB1 : Hid (Below w.heap.size w (w1.alloc (.cells #[.string ⟨#[]⟩, .int .i64 0] 54))) := hb1.alloc hb1.size _
    clear hb1 hno
    go_wp2
    go_ret2
    exact ⟨rfl, HB1.out⟩
end Go.Proofs.YtadihhngegimkaaGreatDoor
namespace Go.Proofs.YtadihhngegimkaaGreatDoor
open Go.RowKit
set_option linter.unusedVariables false
set_option maxHeartbeats 1000000 in
set_option maxRecDepth 100000 in
theorem Walk_bad (p : ByteArray) (hp : p.size ≤ 281474976710656) (b : Bool) (h : ∀ l, ¬ LM.Pk p.data.toList l) (w : World) (hw : Lay w) : Calls Tryz.prog 11 #[.string p, .bool b] w fun e w' => e = .returned (.tuple #[.slice none 0 0, .int .i64 60]) ∧ Below w.heap.size w w' := by
  have HRH : Hid (Calls Tryz.prog 24 #[.string p] w (rdP p w)) := read_any p hp w hw
  have HP : Hid _ := h
  clear hw h hp
  go_enter Tryz.func11, Tryz.ntmps11
  go_wp2_with fail
  refine (show Calls _ _ _ _ _ from HRH.out).mono ?_
  rintro e w1 ⟨⟨l', hl', rfl⟩ | ⟨hno, rfl⟩, hb1⟩
  · exact absurd hl' (HP.out l')
  · have HB : Hid (Below w.heap.size w w1) := hb1
    clear hb1 hno
    go_wp2
    go_ret2
    exact ⟨rfl, HB.out.alloc HB.out.size _⟩
end Go.Proofs.YtadihhngegimkaaGreatDoor
namespace Go.Proofs.YtadihhngegimkaaGreatDoor
open Go.RowKit
set_option linter.unusedVariables false
theorem nI_nil (vs : List ByteArray) : newI [] 0 0 vs = vs.map (fun v => LM.itemOf v.data.toList) := by unfold newI; simp
theorem fI_nil (vs : List ByteArray) : fitI [] 0 0 vs ↔ ((∀ v ∈ vs, v.size ≤ 524288) ∧ vs.length ≤ 1048576 ∧ 7 + LM.bsum (vs.map (fun v => LM.itemOf v.data.toList)) ≤ 1073741824) := by
  unfold fitI; rw [nI_nil]; simp
/-- the values of items. -/
def valsOf (l : List LM.Item) : List ByteArray := l.map (fun it => strB (LM.val it))
theorem vals_len (l : List LM.Item) : (valsOf l).length = l.length := by simp [valsOf]
theorem vals_its (l : List LM.Item) (h : ∀ it ∈ l, LM.Wf it) : (valsOf l).map (fun v => LM.itemOf v.data.toList) = l := by
  unfold valsOf
  rw [List.map_map]
  conv => rhs; rw [← List.map_id l]
  refine List.map_congr_left (fun it hit => ?_)
  simp only [Function.comp, id]
  rw [strB_list, LM.itemOf_val it (h it hit)]
theorem its_vals (vs : List ByteArray) : valsOf (vs.map (fun v => LM.itemOf v.data.toList)) = vs := by
  unfold valsOf
  rw [List.map_map]
  conv => rhs; rw [← List.map_id vs]
  refine List.map_congr_left (fun v hv => ?_)
  simp only [Function.comp, id]
  rw [LM.val_itemOf]
  exact bytes_ext (strB_list _)
theorem pk_fit {p : List UInt8} {l : List LM.Item} (h : LM.Pk p l) : fitI [] 0 0 (valsOf l) := by
  rw [fI_nil, vals_its l h.wf, vals_len]
  refine ⟨fun v hv => ?_, h.len, by have := h.size; rw [h.eq, LM.build_len] at this; exact this⟩
  obtain ⟨it, hit, rfl⟩ := List.mem_map.1 hv
  rw [strB_size]; exact LM.val_len it (h.wf it hit)
theorem fit_pk {vs : List ByteArray} (h : fitI [] 0 0 vs) : LM.Pk (LM.build (newI [] 0 0 vs)) (vs.map (fun v => LM.itemOf v.data.toList)) := by
  obtain ⟨h1, h2, h3⟩ := (fI_nil vs).1 h
  refine ⟨fun it hit => ?_, by simpa using h2, by rw [nI_nil], by rw [nI_nil, LM.build_len]; exact h3⟩
  obtain ⟨v, hv, rfl⟩ := List.mem_map.1 hit
  exact LM.itemOf_wf _ (by rw [list_len]; exact h1 v hv)
theorem pk_head {p q : List UInt8} {l m : List LM.Item} (h : LM.Pk p l) (h' : LM.Pk q m) (e : p.take 4 = q.take 4) : p.length = q.length := by
  rw [← h.reads.head, ← h'.reads.head, e]
theorem pk_cut {p : List UInt8} {l : List LM.Item} (h : LM.Pk p l) (i : Nat) (hi : i < p.length) : ∀ m, ¬ LM.Pk (p.take i) m := fun m h' => by
  have h7 := h'.reads.len7
  rw [List.length_take] at h7
  have := pk_head h h' (by rw [List.take_take, show min 4 i = 4 by omega])
  rw [List.length_take] at this; omega
theorem pk_more {p r : List UInt8} {l : List LM.Item} (h : LM.Pk p l) (hr : r ≠ []) : ∀ m, ¬ LM.Pk (p ++ r) m := fun m h' => by
  have h7 := h.reads.len7
  have := pk_head h h' (by rw [List.take_append_of_le_length (by omega)])
  rw [List.length_append] at this
  exact hr (List.eq_nil_of_length_eq_zero (by omega))
/-- New of what a listpack holds. -/
theorem New_pk (p : ByteArray) (l : List LM.Item) (h : LM.Pk p.data.toList l) (v : Value) (w : World) (hv : SRow w v (valsOf l)) (hw : Lay w) :
    Calls Tryz.prog 32 #[v] w fun e w' => e = .returned (.tuple #[.string p, .int .i64 0]) ∧ Below w.heap.size w w' := by
  have hl := h.len
  have hf := pk_fit h
  have := New_any v (valsOf l) (by rw [vals_len]; omega) (fun x hx => by have := hf.1 x hx; omega) w hv hw
  unfold outS at this
  rw [if_pos hf, nI_nil, vals_its l h.wf, ← h.eq] at this
  have e : strB p.data.toList = p := bytes_ext (strB_list _)
  rwa [e] at this
theorem walk_row {w : World} {base g n : Nat} {l : List LM.Item} (h : w.ownsRow base 9 1 (.slice (some ⟨g, 0, none⟩) n n) n (l.map (fun it => Value.string (strB (LM.val it))))) (hn : n = l.length) : SRow w (.slice (some ⟨g, 0, none⟩) n n) (valsOf l) :=
  srow_of_own (n := n) (by unfold valsOf; rw [List.map_map]; exact h) (by rw [vals_len]; exact hn)
end Go.Proofs.YtadihhngegimkaaGreatDoor
namespace Go.Proofs.YtadihhngegimkaaGreatDoor
open Go.RowKit
set_option linter.unusedVariables false
open Classical in
theorem outS_new (vs : List ByteArray) : ∃ Z E, ((E = 0 ∧ fitI [] 0 0 vs ∧ Z = strB (LM.build (newI [] 0 0 vs))) ∨ (E = 2 ∧ ¬ fitI [] 0 0 vs)) ∧ outS (fitI [] 0 0 vs) (LM.build (newI [] 0 0 vs)) = .tuple #[.string Z, .int .i64 E] := by
  unfold outS
  by_cases h : fitI [] 0 0 vs
  · rw [if_pos h]; exact ⟨_, _, Or.inl ⟨rfl, h, rfl⟩, rfl⟩
  · rw [if_neg h]; exact ⟨_, _, Or.inr ⟨rfl, h⟩, rfl⟩
theorem New_form (v : Value) (vs : List ByteArray) (hvl : vs.length * 16 ≤ 140737488351232) (hvm : ∀ x ∈ vs, x.size ≤ 281474976710656) :
    ∃ Z E, ((E = 0 ∧ fitI [] 0 0 vs ∧ Z = strB (LM.build (newI [] 0 0 vs))) ∨ (E = 2 ∧ ¬ fitI [] 0 0 vs)) ∧ ∀ W, SRow W v vs → Lay W → Calls Tryz.prog 32 #[v] W fun e w' => e = .returned (.tuple #[.string Z, .int .i64 E]) ∧ Below W.heap.size W w' := by
  obtain ⟨Z, E, hE, hO⟩ := outS_new vs
  exact ⟨Z, E, hE, fun W hV hW => by have := New_any v vs (by omega) hvm W hV hW; rwa [hO] at this⟩
theorem same_form (va vb : Value) (xs ys : List ByteArray) (ha : xs.length ≤ 70368744177664) (hb : ys.length ≤ 70368744177664) :
    ∃ b : Bool, (b = true ↔ xs = ys) ∧ ∀ W, SRow W va xs → SRow W vb ys → Calls Tryz.prog 16 #[va, vb] W fun e w' => e = .returned (.bool b) ∧ Below W.heap.size W w' := by
  classical
  refine ⟨decide (xs = ys), by simp, fun W hA hB => (same_any va vb xs ys ha hb W hA hB).mono ?_⟩
  rintro e w' ⟨⟨b, rfl, hb⟩, k, rfl⟩
  refine ⟨?_, below_dn (Below.refl _ _) _⟩
  congr 2
  rw [Bool.eq_iff_iff, hb]; simp
end Go.Proofs.YtadihhngegimkaaGreatDoor
