import Derived.Test.YtafphabeihoijaaDoorWlk
import Derived.Test.YtafphabeihoijaaDoorWks
import Derived.Test.YtafphabeihoijaaDoorApi2
namespace Go.Proofs.YtafphabeihoijaaDoor
open Go.RowKit
set_option linter.unusedVariables false
set_option maxHeartbeats 1000000 in
set_option maxRecDepth 100000 in
theorem Walk_bad (p : ByteArray) (hp : p.size ≤ 281474976710656) (b : Bool) (h : ∀ l, ¬ LM.Pk p.data.toList l) (w : World) (hw : Lay w) : Calls Tryd.prog 8 #[.string p, .bool b] w fun e w' => e = .returned (.tuple #[.slice none 0 0, .int .i64 60]) ∧ Below w.heap.size w w' := by
  have HRH : Hid (Calls Tryd.prog 24 #[.string p] w (rdP p w)) := read_any p hp w hw
  have HP : Hid _ := h
  clear hw h hp
  go_enter Tryd.func8, Tryd.ntmps8
  go_wp2_with fail
  refine (show Calls _ _ _ _ _ from HRH.out).mono ?_
  rintro e w1 ⟨⟨l', hl', rfl⟩ | ⟨hno, rfl⟩, hb1⟩
  · exact absurd hl' (HP.out l')
  · have HB : Hid (Below w.heap.size w w1) := hb1
    clear hb1 hno
    go_wp2
    go_ret2
    exact ⟨rfl, HB.out.alloc HB.out.size _⟩
end Go.Proofs.YtafphabeihoijaaDoor
namespace Go.Proofs.YtafphabeihoijaaDoor
open Go.RowKit
set_option linter.unusedVariables false
theorem nI_nil (vs : List ByteArray) : newI [] 0 0 vs = vs.map (fun v => LM.itemOf v.data.toList) := by unfold newI; simp
theorem fI_nil (vs : List ByteArray) : fitI [] 0 0 vs ↔ ((∀ v ∈ vs, v.size ≤ 524288) ∧ vs.length ≤ 1048576 ∧ 7 + LM.bsum (vs.map (fun v => LM.itemOf v.data.toList)) ≤ 1073741824) := by
  unfold fitI; rw [nI_nil]; simp
/-- the values of items. -/
def valsOf (l : List LM.Item) : List ByteArray := l.map (fun it => strB (LM.val it))
theorem vals_len (l : List LM.Item) : (valsOf l).length = l.length := by simp [valsOf]
theorem vals_its (l : List LM.Item) (h : ∀ it ∈ l, LM.Wf it) : (valsOf l).map (fun v => LM.itemOf v.data.toList) = l := by
  unfold valsOf
  rw [List.map_map]
  conv => rhs; rw [← List.map_id l]
  refine List.map_congr_left (fun it hit => ?_)
  simp only [Function.comp, id]
  rw [strB_list, LM.itemOf_val it (h it hit)]
theorem its_vals (vs : List ByteArray) : valsOf (vs.map (fun v => LM.itemOf v.data.toList)) = vs := by
  unfold valsOf
  rw [List.map_map]
  conv => rhs; rw [← List.map_id vs]
  refine List.map_congr_left (fun v hv => ?_)
  simp only [Function.comp, id]
  rw [LM.val_itemOf]
  exact bytes_ext (strB_list _)
theorem pk_fit {p : List UInt8} {l : List LM.Item} (h : LM.Pk p l) : fitI [] 0 0 (valsOf l) := by
  rw [fI_nil, vals_its l h.wf, vals_len]
  refine ⟨fun v hv => ?_, h.len, by have := h.size; rw [h.eq, LM.build_len] at this; exact this⟩
  obtain ⟨it, hit, rfl⟩ := List.mem_map.1 hv
  rw [strB_size]; exact LM.val_len it (h.wf it hit)
theorem fit_pk {vs : List ByteArray} (h : fitI [] 0 0 vs) : LM.Pk (LM.build (newI [] 0 0 vs)) (vs.map (fun v => LM.itemOf v.data.toList)) := by
  obtain ⟨h1, h2, h3⟩ := (fI_nil vs).1 h
  refine ⟨fun it hit => ?_, by simpa using h2, by rw [nI_nil], by rw [nI_nil, LM.build_len]; exact h3⟩
  obtain ⟨v, hv, rfl⟩ := List.mem_map.1 hit
  exact LM.itemOf_wf _ (by rw [list_len]; exact h1 v hv)
theorem pk_head {p q : List UInt8} {l m : List LM.Item} (h : LM.Pk p l) (h' : LM.Pk q m) (e : p.take 4 = q.take 4) : p.length = q.length := by
  rw [← h.reads.head, ← h'.reads.head, e]
theorem pk_cut {p : List UInt8} {l : List LM.Item} (h : LM.Pk p l) (i : Nat) (hi : i < p.length) : ∀ m, ¬ LM.Pk (p.take i) m := fun m h' => by
  have h7 := h'.reads.len7
  rw [List.length_take] at h7
  have := pk_head h h' (by rw [List.take_take, show min 4 i = 4 by omega])
  rw [List.length_take] at this; omega
theorem pk_more {p r : List UInt8} {l : List LM.Item} (h : LM.Pk p l) (hr : r ≠ []) : ∀ m, ¬ LM.Pk (p ++ r) m := fun m h' => by
  have h7 := h.reads.len7
  have := pk_head h h' (by rw [List.take_append_of_le_length (by omega)])
  rw [List.length_append] at this
  exact hr (List.eq_nil_of_length_eq_zero (by omega))
/-- New of what a listpack holds. -/
theorem New_pk (p : ByteArray) (l : List LM.Item) (h : LM.Pk p.data.toList l) (v : Value) (w : World) (hv : SRow w v (valsOf l)) (hw : Lay w) :
    Calls Tryd.prog 10 #[v] w fun e w' => e = .returned (.tuple #[.string p, .int .i64 0]) ∧ Below w.heap.size w w' := by
  have hl := h.len
  have hf := pk_fit h
  have := New_any v (valsOf l) (by rw [vals_len]; omega) (fun x hx => by have := hf.1 x hx; omega) w hv hw
  unfold outS at this
  rw [if_pos hf, nI_nil, vals_its l h.wf, ← h.eq] at this
  have e : strB p.data.toList = p := bytes_ext (strB_list _)
  rwa [e] at this
theorem walk_row {w : World} {base g n : Nat} {l : List LM.Item} (h : w.ownsRow base 9 1 (.slice (some ⟨g, 0, none⟩) n n) n (l.map (fun it => Value.string (strB (LM.val it))))) (hn : n = l.length) : SRow w (.slice (some ⟨g, 0, none⟩) n n) (valsOf l) :=
  srow_of_own (n := n) (by unfold valsOf; rw [List.map_map]; exact h) (by rw [vals_len]; exact hn)
end Go.Proofs.YtafphabeihoijaaDoor
namespace Go.Proofs.YtafphabeihoijaaDoor
open Go.RowKit
set_option linter.unusedVariables false
open Classical in
theorem outS_new (vs : List ByteArray) : ∃ Z E, ((E = 0 ∧ fitI [] 0 0 vs ∧ Z = strB (LM.build (newI [] 0 0 vs))) ∨ (E = 2 ∧ ¬ fitI [] 0 0 vs)) ∧ outS (fitI [] 0 0 vs) (LM.build (newI [] 0 0 vs)) = .tuple #[.string Z, .int .i64 E] := by
  unfold outS
  by_cases h : fitI [] 0 0 vs
  · rw [if_pos h]; exact ⟨_, _, Or.inl ⟨rfl, h, rfl⟩, rfl⟩
  · rw [if_neg h]; exact ⟨_, _, Or.inr ⟨rfl, h⟩, rfl⟩
theorem New_form (v : Value) (vs : List ByteArray) (hvl : vs.length * 16 ≤ 140737488351232) (hvm : ∀ x ∈ vs, x.size ≤ 281474976710656) :
    ∃ Z E, ((E = 0 ∧ fitI [] 0 0 vs ∧ Z = strB (LM.build (newI [] 0 0 vs))) ∨ (E = 2 ∧ ¬ fitI [] 0 0 vs)) ∧ ∀ W, SRow W v vs → Lay W → Calls Tryd.prog 10 #[v] W fun e w' => e = .returned (.tuple #[.string Z, .int .i64 E]) ∧ Below W.heap.size W w' := by
  obtain ⟨Z, E, hE, hO⟩ := outS_new vs
  exact ⟨Z, E, hE, fun W hV hW => by have := New_any v vs (by omega) hvm W hV hW; rwa [hO] at this⟩
theorem same_form (va vb : Value) (xs ys : List ByteArray) (ha : xs.length ≤ 70368744177664) (hb : ys.length ≤ 70368744177664) :
    ∃ b : Bool, (b = true ↔ xs = ys) ∧ ∀ W, SRow W va xs → SRow W vb ys → Calls Tryd.prog 12 #[va, vb] W fun e w' => e = .returned (.bool b) ∧ Below W.heap.size W w' := by
  classical
  refine ⟨decide (xs = ys), by simp, fun W hA hB => (same_any va vb xs ys ha hb W hA hB).mono ?_⟩
  rintro e w' ⟨⟨b, rfl, hb⟩, k, rfl⟩
  refine ⟨?_, below_dn (Below.refl _ _) _⟩
  congr 2
  rw [Bool.eq_iff_iff, hb]; simp
set_option maxHeartbeats 2000000 in
set_option maxRecDepth 100000 in
theorem Form_bad (p m : ByteArray) (v : Value) (vs : List ByteArray) (hp : p.size ≤ 140737488351232) (hvl : vs.length * 16 ≤ 140737488351232) (hvm : ∀ x ∈ vs, x.size ≤ 281474976710656) (hno : ∀ l, ¬ LM.Pk p.data.toList l) (w : World) (hv : SRow w v vs) (hw : Lay w) :
    Calls Tryd.prog 3 #[.string p, .string m, v] w fun e w' => e = .returned (.bool true) ∧ Below w.heap.size w w' := by
  have HW : Hid (Lay w) := hw
  have HV : Hid (SRow w v vs) := hv
  have HWB : Hid (∀ W, Lay W → Calls Tryd.prog 8 #[.string p, .bool false] W fun e w' => e = .returned (.tuple #[.slice none 0 0, .int .i64 60]) ∧ Below W.heap.size W w') := fun W hW => Walk_bad p (by omega) false hno W hW
  have HVB : Hid (∀ W, Lay W → Calls Tryd.prog 9 #[.string p] W fun e w' => e = .returned (.int .i64 60) ∧ Below W.heap.size W w') := fun W hW => Valid_bad p (by omega) hno W hW
  obtain ⟨Z, E, hE, hN⟩ := New_form v vs hvl hvm
  have HNW : Hid _ := hN
  have HWK : Hid (∀ W, Lay W → Calls Tryd.prog 11 #[] W fun e w' => e = .returned (.bool true) ∧ Below W.heap.size W w') := works_any
  obtain ⟨P, c, rfl⟩ := hv.form
  clear hv hw hvl hvm hE hN hno hp
  go_enter Tryd.func3, Tryd.ntmps3
  go_wp2_with fail
  refine (show Calls _ _ _ _ _ from HWB.out _ HW.out).mono ?_
  rintro e w1 ⟨rfl, hb1⟩
  have HB1 : Hid (Below w.heap.size w w1) := hb1
  clear hb1
  go_wp2_with fail
  refine (show Calls _ _ _ _ _ from HVB.out _ (HW.out.on HB1.out)).mono ?_
  rintro e w2 ⟨rfl, hb2⟩
  have HB2 : Hid (Below w.heap.size w w2) := bel_to HB1.out hb2 (Nat.le_refl _)
  clear hb2
  go_wp2_with fail
  refine (show Calls _ _ _ _ _ from HNW.out _ (HV.out.on HB2.out) (HW.out.on HB2.out)).mono ?_
  rintro e w3 ⟨rfl, hb3⟩
  have HB3 : Hid (Below w.heap.size w w3) := bel_to HB2.out hb3 (Nat.le_refl _)
  clear hb3
  go_wp2_with fail
  refine (show Calls _ _ _ _ _ from HWK.out _ (HW.out.on HB3.out)).mono ?_
  rintro e w4 ⟨rfl, hb4⟩
  have HB4 : Hid (Below w.heap.size w w4) := bel_to HB3.out hb4 (Nat.le_refl _)
  clear hb4
  go_wp2
  go_ret
  exact ⟨rfl, HB4.out⟩
set_option maxHeartbeats 4000000 in
set_option maxRecDepth 100000 in
theorem Form_ok (p m : ByteArray) (v : Value) (vs : List ByteArray) (hm : m.size ≤ 140737488351232) (hvl : vs.length * 16 ≤ 140737488351232) (hvm : ∀ x ∈ vs, x.size ≤ 281474976710656) (l : List LM.Item) (hpk : LM.Pk p.data.toList l) (w : World) (hv : SRow w v vs) (hw : Lay w) :
    Calls Tryd.prog 3 #[.string p, .string m, v] w fun e w' => e = .returned (.bool true) ∧ Below w.heap.size w w' := by
  have HW : Hid (Lay w) := hw
  have HV : Hid (SRow w v vs) := hv
  have hps : p.size ≤ 1073741824 := by have := hpk.size; rwa [list_len] at this
  have hll := hpk.len
  have HWB : Hid (∀ W, Lay W → Calls Tryd.prog 8 #[.string p, .bool false] W fun e w' => (∃ g, e = .returned (.tuple #[.slice (some ⟨g, 0, none⟩) l.length l.length, .int .i64 0]) ∧ SRow w' (.slice (some ⟨g, 0, none⟩) l.length l.length) (valsOf l)) ∧ Below W.heap.size W w') := fun W hW => by
    refine (Walk_f p l hpk W hW).mono ?_
    rintro e w' ⟨⟨g, rfl, ho⟩, hb⟩
    exact ⟨⟨g, rfl, walk_row ho rfl⟩, hb⟩
  have HVB : Hid (∀ W, Lay W → Calls Tryd.prog 9 #[.string p] W fun e w' => e = .returned (.int .i64 0) ∧ Below W.heap.size W w') := fun W hW => Valid_ok p l hpk W hW
  have HVC : Hid (∀ i, i < p.size → ∀ W, Lay W → Calls Tryd.prog 9 #[.string (p.extract 0 i)] W fun e w' => e = .returned (.int .i64 60) ∧ Below W.heap.size W w') := fun i hi W hW => by
    refine Valid_bad _ (by rw [ext_size _ _ _ (by omega)]; omega) ?_ W hW
    have := pk_cut hpk i (by rw [list_len]; exact hi)
    rw [ext_any]
    simpa using this
  have HVM : Hid (m.data.toList ≠ [] → ∀ W, Lay W → Calls Tryd.prog 9 #[.string (p ++ m)] W fun e w' => e = .returned (.int .i64 60) ∧ Below W.heap.size W w') := fun hne W hW => by
    refine Valid_bad _ (by rw [ByteArray.size_append]; omega) ?_ W hW
    have := pk_more hpk hne
    rwa [show (p ++ m).data.toList = p.data.toList ++ m.data.toList by simp]
  have HNP : Hid (∀ va W, SRow W va (valsOf l) → Lay W → Calls Tryd.prog 10 #[va] W fun e w' => e = .returned (.tuple #[.string p, .int .i64 0]) ∧ Below W.heap.size W w') := fun va W hV hW => New_pk p l hpk va W hV hW
  obtain ⟨Z, E, hE, hN⟩ := New_form v vs hvl hvm
  have HNW : Hid _ := hN
  have HWK : Hid (∀ W, Lay W → Calls Tryd.prog 11 #[] W fun e w' => e = .returned (.bool true) ∧ Below W.heap.size W w') := works_any
  have HSM : Hid (∀ va : Value, ∃ b : Bool, (b = true ↔ valsOf l = vs) ∧ ∀ W, SRow W va (valsOf l) → SRow W v vs → Calls Tryd.prog 12 #[va, v] W fun e w' => e = .returned (.bool b) ∧ Below W.heap.size W w') := fun va => same_form va v (valsOf l) vs (by rw [vals_len]; omega) (by omega)
  have HEQ : Hid (E = 0 → (p = Z ↔ valsOf l = vs)) := fun h0 => by
    rcases hE with ⟨_, hf, rfl⟩ | ⟨h2, _⟩
    · have hk := fit_pk hf
      constructor
      · intro he
        have h1 : p.data.toList = LM.build (newI [] 0 0 vs) := by rw [he, strB_list]
        rw [← h1] at hk
        rw [hpk.uniq hk, its_vals]
      · intro he
        rw [nI_nil, ← he, vals_its l hpk.wf, ← hpk.eq]
        exact (bytes_ext (strB_list _)).symm
    · rw [h2] at h0; cases h0
  have HE2 : Hid (E = 0 ∨ E = 2) := by rcases hE with ⟨h, _⟩ | ⟨h, _⟩; exact Or.inl h; exact Or.inr h
  have hpp : (p.toList == p.toList) = true := str_same rfl
  obtain ⟨P, c, rfl⟩ := hv.form
  have hjoin : p.size + m.size ≤ 9223372036854775807 := by omega
  clear hv hw hvl hvm hE hN hpk
  go_enter Tryd.func3, Tryd.ntmps3
  go_wp2_with fail
  refine (show Calls _ _ _ _ _ from HWB.out _ HW.out).mono ?_
  rintro e w1 ⟨⟨g, rfl, hs1⟩, hb1⟩
  have HB1 : Hid (Below w.heap.size w w1) := hb1
  have HS1 : Hid (SRow w1 (.slice (some ⟨g, 0, none⟩) l.length l.length) (valsOf l)) := hs1
  clear hb1 hs1
  go_wp2_with fail
  refine (show Calls _ _ _ _ _ from HVB.out _ (HW.out.on HB1.out)).mono ?_
  rintro e w2 ⟨rfl, hb2⟩
  have HB2 : Hid (Below w1.heap.size w1 w2) := hb2
  have HL2 : Hid (Lay w2) := (HW.out.on HB1.out).on hb2
  clear hb2
  go_wp2_with fail
  refine (show Calls _ _ _ _ _ from HNP.out _ _ (HS1.out.on HB2.out) HL2.out).mono ?_
  rintro e w3 ⟨rfl, hb3⟩
  have HB3 : Hid (Below w1.heap.size w1 w3) := bel_to HB2.out hb3 (Nat.le_refl _)
  clear hb3
  go_wp2
  go_loopw [11] (fun ci wr => Below w1.heap.size w1 wr ∧ ∃ i : Nat, i ≤ p.size ∧ ci = .int .i64 (i : Int)) (fun ci _ => p.size - (intOf ci).toNat)
  case atStart => exact ⟨HB3.out, 0, by omega, rfl⟩
  case round =>
    obtain ⟨hbr, i, hi, rfl⟩ := hrel
    have HBR : Hid (Below w1.heap.size w1 wr) := hbr
    have HBW : Hid (Below w.heap.size w wr) := bel_to HB1.out hbr (Nat.le_refl _)
    clear hbr
    by_cases hlt : i < p.size
    · have hVI := HVC.out i hlt
      obtain ⟨S, hS⟩ : ∃ S, p.extract 0 i = S := ⟨_, rfl⟩
      rw [hS] at hVI
      have HVI : Hid _ := hVI
      clear hVI
      go_wp2_with fail
      refine (show Calls _ _ _ _ _ from HVI.out _ (HW.out.on HBW.out)).mono ?_
      rintro e w5 ⟨rfl, hb5⟩
      have HB5 : Hid (Below w1.heap.size w1 w5) := bel_to HBR.out hb5 (Nat.le_refl _)
      clear hb5
      go_wp2
      go_roundw
      case rel => exact ⟨HB5.out, i + 1, hlt, rfl⟩
      case measure => simp [intOf]; omega
    · have he : i = p.size := by omega
      subst he
      by_cases hmm : m.data.toList = []
      · have hme : m.toList.isEmpty = true := by rw [ByteArray.toList_eq, hmm]; rfl
        clear hmm
        go_wp2_with fail
        refine (show Calls _ _ _ _ _ from HNW.out _ (HV.out.on HBW.out) (HW.out.on HBW.out)).mono ?_
        rintro e w6 ⟨rfl, hb6⟩
        have HB6 : Hid (Below w1.heap.size w1 w6) := bel_to HBR.out hb6 (Nat.le_refl _)
        clear hb6
        have HB6w : Hid (Below w.heap.size w w6) := bel_to HB1.out HB6.out (Nat.le_refl _)
        go_wp2_with fail
        refine (show Calls _ _ _ _ _ from HWK.out _ (HW.out.on HB6w.out)).mono ?_
        rintro e w7 ⟨rfl, hb7⟩
        have HB7 : Hid (Below w1.heap.size w1 w7) := bel_to HB6.out hb7 (Nat.le_refl _)
        have HB7w : Hid (Below w.heap.size w w7) := bel_to HB1.out HB7.out (Nat.le_refl _)
        clear hb7
        rcases HE2.out with rfl | rfl
        · obtain ⟨bb, hbb, hsm⟩ := HSM.out (.slice (some ⟨g, 0, none⟩) l.length l.length)
          have hbp := hbb.trans (HEQ.out rfl).symm
          have HSS : Hid _ := hsm
          clear hsm hbb HEQ
          have hcmp : (p.toList == Z.toList) = bb := by
            cases bb with
            | true => exact str_same (by rw [hbp.1 rfl])
            | false => exact str_other (fun h => by have := hbp.2 (bytes_ext h); cases this)
          clear hbp
          go_wp2_with fail
          refine (show Calls _ _ _ _ _ from HSS.out _ (HS1.out.on HB7.out) (HV.out.on HB7w.out)).mono ?_
          rintro e w8 ⟨rfl, hb8⟩
          have HB8 : Hid (Below w.heap.size w w8) := bel_to HB7w.out hb8 (Nat.le_refl _)
          clear hb8
          go_wp2
          go_ret
          exact ⟨by simp, HB8.out⟩
        · go_wp2
          go_ret
          exact ⟨rfl, HB7w.out⟩
      · have hme : m.toList.isEmpty = false := by rw [ByteArray.toList_eq]; cases hq : m.data.toList with | nil => exact absurd hq hmm | cons x r => rfl
        have HVX : Hid _ := HVM.out hmm
        clear hmm
        go_wp2_with fail
        refine (show Calls _ _ _ _ _ from HVX.out _ (HW.out.on HBW.out)).mono ?_
        rintro e w5 ⟨rfl, hb5⟩
        have HB5 : Hid (Below w1.heap.size w1 w5) := bel_to HBR.out hb5 (Nat.le_refl _)
        have HB5w : Hid (Below w.heap.size w w5) := bel_to HB1.out HB5.out (Nat.le_refl _)
        clear hb5
        go_wp2_with fail
        refine (show Calls _ _ _ _ _ from HNW.out _ (HV.out.on HB5w.out) (HW.out.on HB5w.out)).mono ?_
        rintro e w6 ⟨rfl, hb6⟩
        have HB6 : Hid (Below w1.heap.size w1 w6) := bel_to HB5.out hb6 (Nat.le_refl _)
        clear hb6
        have HB6w : Hid (Below w.heap.size w w6) := bel_to HB1.out HB6.out (Nat.le_refl _)
        go_wp2_with fail
        refine (show Calls _ _ _ _ _ from HWK.out _ (HW.out.on HB6w.out)).mono ?_
        rintro e w7 ⟨rfl, hb7⟩
        have HB7 : Hid (Below w1.heap.size w1 w7) := bel_to HB6.out hb7 (Nat.le_refl _)
        have HB7w : Hid (Below w.heap.size w w7) := bel_to HB1.out HB7.out (Nat.le_refl _)
        clear hb7
        rcases HE2.out with rfl | rfl
        · obtain ⟨bb, hbb, hsm⟩ := HSM.out (.slice (some ⟨g, 0, none⟩) l.length l.length)
          have hbp := hbb.trans (HEQ.out rfl).symm
          have HSS : Hid _ := hsm
          clear hsm hbb HEQ
          have hcmp : (p.toList == Z.toList) = bb := by
            cases bb with
            | true => exact str_same (by rw [hbp.1 rfl])
            | false => exact str_other (fun h => by have := hbp.2 (bytes_ext h); cases this)
          clear hbp
          go_wp2_with fail
          refine (show Calls _ _ _ _ _ from HSS.out _ (HS1.out.on HB7.out) (HV.out.on HB7w.out)).mono ?_
          rintro e w8 ⟨rfl, hb8⟩
          have HB8 : Hid (Below w.heap.size w w8) := bel_to HB7w.out hb8 (Nat.le_refl _)
          clear hb8
          go_wp2
          go_ret
          exact ⟨by simp, HB8.out⟩
        · go_wp2
          go_ret
          exact ⟨rfl, HB7w.out⟩
theorem ListpackForm_walk (p m : ByteArray) (v : Value) (vs : List ByteArray) (hp : p.size ≤ 140737488351232) (hm : m.size ≤ 140737488351232) (hvl : vs.length * 16 ≤ 140737488351232) (hvm : ∀ x ∈ vs, x.size ≤ 281474976710656) (w : World) (hv : SRow w v vs) (hnil : ∀ c, v = .slice none 0 c → c = 0) (hw : Lay w) :
    Calls Tryd.prog 3 #[.string p, .string m, v] w fun e w' => e = .returned (.bool true) ∧ Below w.heap.size w w' := by
  by_cases h : ∃ l, LM.Pk p.data.toList l
  · obtain ⟨l, h⟩ := h
    exact Form_ok p m v vs hm hvl hvm l h w hv hw
  · exact Form_bad p m v vs hp hvl hvm (fun l hl => h ⟨l, hl⟩) w hv hw
end Go.Proofs.YtafphabeihoijaaDoor
