import Derived.Test.YtdemodhjlbkbeabRG
import Derived.Lib.ItoaMem
namespace Go.Proofs.Ytdemodhjlbkbeab
open Go.RowKit
set_option linter.unusedVariables false
theorem ents_cells {w : World} {E : Nat} {es : List Ent} (h : Ents w E es) : ∀ j u, (flat es)[j]? = some u → w.cell? ((⟨E, 0, none⟩ : Addr).add j) = some u := by
  intro j u hj
  rw [Lib.add_plain, Nat.zero_add]
  have hl : j < (flat es).length := by
    rcases Nat.lt_or_ge j (flat es).length with h1 | h1
    · exact h1
    · rw [List.getElem?_eq_none h1] at hj; cases hj
  rw [flat_len] at hl
  obtain ⟨t, rfl | rfl⟩ : ∃ t, j = t * 2 ∨ j = t * 2 + 1 := ⟨j / 2, by omega⟩
  · have ht : t < es.length := by omega
    rw [(flat_get es t ht).1] at hj
    cases hj; exact (h t ht).1
  · have ht : t < es.length := by omega
    rw [(flat_get es t ht).2] at hj
    cases hj; exact (h t ht).2
theorem flat_cell (es : List Ent) : ∀ u ∈ flat es, u.oneCell' = true := by
  intro u hu
  unfold flat at hu
  obtain ⟨e, _, he⟩ := List.mem_flatMap.1 hu
  simp at he
  rcases he with rfl | rfl <;> rfl
set_option maxRecDepth 100000 in
theorem sclone_nil (w : World) : Calls Try.prog 61 #[.slice none 0 0] w fun e w' => e = .returned (.slice none 0 0) ∧ w' = w := by
  have hnq := fun w => run_eql_slice_nil (P := Try.prog) w 83 70 none 0 0 Try.underlying83
  go_enter Try.func61, Try.ntmps61
  go_wp2
  go_returns
  exact ⟨rfl, rfl⟩
set_option maxHeartbeats 1000000 in
set_option maxRecDepth 100000 in
theorem sclone_any (E c : Nat) (es : List Ent) (hne : es ≠ []) (hl : es.length ≤ 4398046511104) (w : World) (hE : Ents w E es) : Calls Try.prog 61 #[.slice (some ⟨E, 0, none⟩) es.length c] w fun e w' => ∃ E' c', e = .returned (.slice (some ⟨E', 0, none⟩) es.length c') ∧ w.heap.size ≤ E' ∧ Bx w' E' c' es ∧ Below w.heap.size w w' := by
  obtain ⟨i0, hi, hz0, hz1, hz2⟩ := info_parts infoE
  have hpos := List.length_pos_iff.2 hne
  have HE : Hid (Ents w E es) := hE
  have HNE : Hid _ := hne
  have hnq := fun w => run_eql_slice_nil (P := Try.prog) w 83 70 (some ⟨E, 0, none⟩) es.length c Try.underlying83
  clear hE hne
  go_enter Try.func61, Try.ntmps61
  go_upto_region 3 with fail
  have hba : Below w.heap.size w (w.alloc (.cells #[] 70)) := (Below.refl _ _).alloc (Nat.le_refl _) _
  have HCE : Hid _ := ents_cells (HE.out.on hba)
  have HBA : Hid (Below w.heap.size w (w.alloc (.cells #[] 70))) := hba
  clear hba
  go_wp2_with (at_builtin; go_must (refine wpList_append_grows _ rfl _ _ 83 rfl 70 i0 (.agg #[.string ⟨#[]⟩, .int .i64 0]) 2 24 Try.underlying83 hi hz0 hz1 hz2 rfl (by decide) (some ⟨w.heap.size, 0, none⟩) 0 0 [] rfl (fun h => by cases h) rfl ?t0 ⟨E, 0, none⟩ es.length c (flat es) rfl (flat_len es) HCE.out (flat_cell es) (by omega) ?t2 ?t3 ?_))
  case t0 => intro b hb j u hj; simp at hj
  case t2 => unfold maxLen; omega
  case t3 => omega
  intro v' w1 hown hgr
  obtain ⟨E', c', rfl, hE', hBx'⟩ := Bx.of hown rfl HNE.out
  have HB1 : Hid (w.heap.size ≤ E') := by have := HBA.out.size; show _ ≤ _; omega
  have HBX : Hid (Bx w1 E' c' es) := hBx'
  have HBL : Hid (Below w.heap.size w w1) := HBA.out.trans ⟨hgr.os, hgr.tape, hgr.output, hgr.size, fun q hq => hgr.block q (by simp; omega) (by simp)⟩
  clear hown hgr hE' hBx'
  go_wp2
  go_returns
  exact ⟨E', c', rfl, HB1.out, HBX.out, HBL.out⟩
/-- a table half cloned. -/
def halfT (T : List (List Ent)) (i : Nat) : List (List Ent) := T.take i ++ List.replicate (T.length - i) []
theorem halfT_len (T : List (List Ent)) (i : Nat) (h : i ≤ T.length) : (halfT T i).length = T.length := by unfold halfT; simp; omega
theorem halfT_set (T : List (List Ent)) (i : Nat) (h : i < T.length) : (halfT T i).set i T[i] = halfT T (i + 1) := by
  unfold halfT
  rw [List.set_append_right _ _ (by rw [List.length_take]; omega), List.length_take, Nat.min_eq_left (by omega), Nat.sub_self, List.take_succ_eq_append_getElem h, List.append_assoc]
  congr 1
  rw [show T.length - i = (T.length - (i + 1)) + 1 by omega, List.replicate_succ, List.set_cons_zero]
  rfl
theorem halfT_all (T : List (List Ent)) : halfT T T.length = T := by unfold halfT; simp
theorem halfT_zero (T : List (List Ent)) : halfT T 0 = List.replicate T.length [] := by unfold halfT; simp
set_option maxHeartbeats 4000000 in
set_option maxRecDepth 100000 in
theorem tclone_any (g o : Nat) (T : List (List Ent)) (L : List Nat) (v : Value) (k : Nat) (hl : T.length ≤ 4398046511104) (hcl : cnt T ≤ 4398046511000) (w : World) (hc0 : w.cell? ⟨g, o, none⟩ = some v) (hc1 : w.cell? ⟨g, o + 1, none⟩ = some (.int .i64 (k : Int))) (hT : TabAt w v T L) :
    Calls Try.prog 42 #[.pointer (some ⟨g, o, none⟩)] w fun e w' => ∃ v' L', e = .returned (.agg #[v', .int .i64 (k : Int)]) ∧ TabAt w' v' T L' ∧ L'.Nodup ∧ (∀ q ∈ L', w.heap.size ≤ q) ∧ Below w.heap.size w w' := by
  obtain ⟨P, kc, rfl⟩ := hT.form
  have HX0 : Hid _ := one_alloc w (.cells #[.slice none 0 0, .int .i64 0] 54)
  obtain ⟨W0, hW0⟩ : ∃ W0, W0 = w.alloc (.cells #[.slice none 0 0, .int .i64 0] 54) := ⟨_, rfl⟩
  have hb0 : Below w.heap.size w W0 := by rw [hW0]; exact (Below.refl _ _).alloc (Nat.le_refl _) _
  rw [← hW0] at HX0
  have HB0 : Hid (Below w.heap.size w W0) := hb0
  have HC0 : Hid _ := hc0
  have HC1 : Hid _ := hc1
  have HT : Hid (TabAt w (.slice P T.length kc) T L) := hT
  have HSZ : Hid _ := size_any g o P T.length kc W0 (cell_on hc0 hb0)
  have HNT : Hid _ := newTable_any T.length hl W0
  clear hT hc0 hc1 hb0
  go_enter Try.func42, Try.ntmps42
  go_upto_region 1 with fail
  rw [← hW0]
  clear hW0
  go_wp2_with fail
  refine (show Calls _ _ _ _ _ from HSZ.out).mono ?_
  rintro e w1 ⟨rfl, rfl⟩
  go_wp2_with fail
  refine (show Calls _ _ _ _ _ from HNT.out).mono ?_
  rintro e w2 ⟨rfl, hr2, hb2⟩
  obtain ⟨B, hBe⟩ : ∃ B, w1.heap.size + 1 = B := ⟨_, rfl⟩
  rw [hBe] at hr2 ⊢
  have HBG : Hid (w.heap.size < B) := by have := HB0.out.size; show _ < _; omega
  have HR2 : Hid (w2.heap[B]? = some (.cells (madeCells #[.slice none 0 0] T.length) 83)) := hr2
  have HB2 : Hid (Below w1.heap.size w1 w2) := hb2
  have HX2 : Hid _ := keep_row HX0.out hb2
  have HBW2 : Hid (Below w.heap.size w w2) := HB0.out.trans (hb2.mono HB0.out.size)
  clear hr2 hb2 hBe
  obtain ⟨W3, hW3⟩ : ∃ W3, W3 = w2.alloc (.cells #[.slice (some ⟨B, 0, none⟩) T.length T.length, .int .i64 0] 54) := ⟨_, rfl⟩
  have hb3 : Below w2.heap.size w2 W3 := by rw [hW3]; exact (Below.refl _ _).alloc (Nat.le_refl _) _
  have HX3 : Hid (W3.heap[w2.heap.size]? = some (.cells #[.slice (some ⟨B, 0, none⟩) T.length T.length, .int .i64 0] 54)) := by rw [hW3]; exact one_alloc w2 _
  obtain ⟨tb, htb⟩ : ∃ tb, w2.heap.size = tb := ⟨_, rfl⟩
  rw [htb] at HX3
  have HBW3 : Hid (Below w.heap.size w W3) := HBW2.out.trans (hb3.mono HBW2.out.size)
  have HR3 : Hid _ := keep_row HR2.out hb3
  have HXR3 : Hid _ := keep_row HX2.out hb3
  have HTB : Hid (w.heap.size < tb ∧ tb ≠ B ∧ tb < W3.heap.size) := by
    have h1 := row_lt HX2.out
    have h2 := row_lt HR2.out
    have h3 := row_lt HX3.out
    show _ ∧ _
    omega
  clear hb3
  go_upto_region 2 with fail
  rw [← hW3]
  clear hW3 htb
  have hgl : g < w.heap.size := lt_of_cell HC0.out
  have d0 : W3.cell? ⟨g, o, none⟩ = some (.slice P T.length kc) := (HBW3.out.cell (p := ⟨g, o, none⟩) hgl).trans HC0.out
  have d1 : W3.cell? ⟨g, o + 1, none⟩ = some (.int .i64 (k : Int)) := (HBW3.out.cell (p := ⟨g, o + 1, none⟩) hgl).trans HC1.out
  obtain ⟨x0, x1, xf⟩ := row2 HX3.out
  obtain ⟨W4, hW4⟩ : ∃ W4, W4 = W3.setCell ⟨tb, 1, none⟩ (.int .i64 (k : Int)) := ⟨_, rfl⟩
  have HX4 : Hid (W4.heap[tb]? = some (.cells #[.slice (some ⟨B, 0, none⟩) T.length T.length, .int .i64 (k : Int)] 54)) := by
    show _ = _
    rw [hW4, heap_setCell_same _ _ _ _ _ _ HX3.out]; rfl
  have hoth : ∀ q, q ≠ tb → W4.heap[q]? = W3.heap[q]? := fun q hq => by rw [hW4]; exact heap_setCell_other _ _ _ _ hq
  have HBW4 : Hid (Below w.heap.size w W4) := by
    refine HBW3.out.trans ⟨by rw [hW4]; rfl, by rw [hW4]; rfl, by rw [hW4]; rfl, by rw [hW4, World.size_setCell]; exact Nat.le_refl _, fun q hq => hoth q (by have := HTB.out; omega)⟩
  have HTI4 : Hid (TabIs W4 0 B (madeCells #[.slice none 0 0] T.length) (halfT T 0)) := by
    rw [halfT_zero]
    exact TabIs.new (by rw [hoth B (Ne.symm HTB.out.2.1)]; exact HR3.out) (Nat.zero_le _) (size_madeCells _ _) (made_get _ T.length)
  have HXR4 : Hid (W4.heap[w.heap.size]? = some (.cells #[.slice none 0 0, .int .i64 0] 54)) := (hoth _ (by have := HTB.out; omega)).trans HXR3.out
  have HND4 : Hid ((tb :: B :: bblocks (madeCells #[.slice none 0 0] T.length)).Nodup) := by
    show List.Nodup _
    rw [made_blocks]
    have := HTB.out.2.1
    simp [this]
  go_upto_region 3 with fail
  rw [← hW4]
  clear hW4 d0 d1 x0 x1 xf hoth
  have d0 : W4.cell? ⟨g, o, none⟩ = some (.slice P T.length kc) := (HBW4.out.cell (p := ⟨g, o, none⟩) hgl).trans HC0.out
  go_wp2
  go_loopw [18, 4] (fun ci _ wr => ∃ (i : Nat) (bvs : Array Value), i ≤ T.length ∧ ci = .int .i64 (i : Int) ∧ wr.heap[tb]? = some (.cells #[.slice (some ⟨B, 0, none⟩) T.length T.length, .int .i64 (k : Int)] 54) ∧ wr.heap[w.heap.size]? = some (.cells #[.slice none 0 0, .int .i64 0] 54) ∧ TabIs wr 0 B bvs (halfT T i) ∧ (tb :: B :: bblocks bvs).Nodup ∧ (∀ q ∈ bblocks bvs, w.heap.size < q) ∧ Below w.heap.size w wr) (fun ci _ _ => T.length - (intOf ci).toNat)
  case atStart => exact ⟨0, _, Nat.zero_le _, rfl, HX4.out, HXR4.out, HTI4.out, HND4.out, by rw [made_blocks]; simp, HBW4.out⟩
  case round =>
    obtain ⟨i, bvs, hi, rfl, hxt, hxr, hti, hnd, hbb, hbw⟩ := hrel
    have HXT : Hid _ := hxt
    have HXR : Hid _ := hxr
    have HTI : Hid (TabIs wr 0 B bvs (halfT T i)) := hti
    have HND : Hid _ := hnd
    have HBB : Hid _ := hbb
    have HBW : Hid (Below w.heap.size w wr) := hbw
    by_cases hlt : i < T.length
    · obtain ⟨B0, bvs0, hv0, hT0, hI0, hL0⟩ : ∃ B0 bvs0, Value.slice P T.length kc = .slice (some ⟨B0, 0, none⟩) T.length T.length ∧ T ≠ [] ∧ TabIs w 0 B0 bvs0 T ∧ L = B0 :: bblocks bvs0 := by
        rcases HT.out with ⟨_, e, _⟩ | h
        · rw [e] at hlt; simp at hlt
        · exact h
      have hB0 : B0 < w.heap.size := row_lt hI0.row
      have c0 : wr.cell? ⟨g, o, none⟩ = some (.slice (some ⟨B0, 0, none⟩) T.length T.length) := by
        rw [← hv0]; exact (hbw.cell (p := ⟨g, o, none⟩) hgl).trans HC0.out
      have hle := len_le_cnt T i hlt
      obtain ⟨bv0, hb0, hbv0⟩ := hI0.each i hlt
      have hcb : wr.cell? ⟨B0, i, none⟩ = some bv0 := by
        refine (hbw.cell (p := ⟨B0, i, none⟩) hB0).trans ?_
        rw [cell_of_row _ _ _ _ _ _ hI0.row]; exact hb0
      have hbd : Below wr.heap.size wr wr.drew := (Below.refl _ _).drew
      obtain ⟨PI, HBK, HSC⟩ : ∃ PI, Hid (Calls Try.prog 48 #[.pointer (some ⟨g, o, none⟩), .int .i64 (i : Int)] wr.drew fun e w' => e = .returned (.slice PI T[i].length T[i].length) ∧ w' = wr.drew) ∧ Hid (Calls Try.prog 61 #[.slice PI T[i].length T[i].length] wr.drew fun e w' => ∃ P' l' c', e = .returned (.slice P' l' c') ∧ BV w' 0 (.slice P' l' c') T[i] ∧ (∀ E', (Value.slice P' l' c').ownBlock = some E' → wr.heap.size ≤ E') ∧ Below wr.heap.size wr w') := by
        rcases hbv0 with ⟨rfl, e⟩ | ⟨E, c, rfl, ⟨_, hne⟩, hx⟩
        · refine ⟨none, ?_, ?_⟩
          · have q := bucket_any g o B0 T.length i hlt none 0 0 (Nat.le_refl _) wr.drew c0 hcb
            show Calls _ _ _ _ _
            rw [e]; exact q
          · show Calls _ _ _ _ _
            rw [e]
            refine (sclone_nil wr.drew).mono ?_
            rintro e' w' ⟨rfl, rfl⟩
            exact ⟨none, 0, 0, rfl, Or.inl ⟨rfl, rfl⟩, (fun E' h => by cases h), hbd⟩
        · refine ⟨some ⟨E, 0, none⟩, bucket_any g o B0 T.length i hlt _ _ _ hx.le wr.drew c0 hcb, ?_⟩
          have hxw : Bx wr.drew E c T[i] := (hx.same (hbw.block E hx.lt)).on hbd
          refine (sclone_any E T[i].length T[i] hne (by omega) wr.drew hxw.ents).mono ?_
          rintro e' w' ⟨E', c', rfl, h1, h2, h3⟩
          refine ⟨_, _, _, rfl, Or.inr ⟨E', c', rfl, ⟨Nat.zero_le _, hne⟩, h2⟩, fun E2 h => ?_, hbd.trans (show Below wr.heap.size wr.drew w' from h3)⟩
          have : E' = E2 := by simpa [Value.ownBlock] using h
          subst this; exact h1
      have HIL : Hid (i < (halfT T i).length) := by show _ < _; rw [halfT_len T i (by omega)]; exact hlt
      obtain ⟨bvo, hbo, hbvo⟩ := HTI.out.each i HIL.out
      have HBO : Hid _ := hbo
      have hil2 : i < bvs.size := by rw [HTI.out.size]; exact HIL.out
      have HNX : Hid _ := halfT_set T i hlt
      obtain ⟨y0, y1, yf⟩ := row2 hxt
      have hrowB := HTI.out.row
      have bfr : ∀ q, wr.frozen? ⟨B, q, none⟩ = false := fun q => frozen_of_row _ _ _ _ _ hrowB
      have hcbo : wr.cell? ⟨B, i, none⟩ = some bvo := by rw [cell_of_row _ _ _ _ _ _ hrowB]; exact hbo
      have hz3 : (0 : Int) ≤ (i : Int) := by omega
      have hz4 : (i : Int) < (T.length : Int) := by omega
      have hiw : IntKind.i64.wrap ((i : Int) + 1) = (i : Int) + 1 := by rw [IntKind.wrap_i64] <;> omega
      have HRB : Hid _ := hrowB
      obtain ⟨Po, lo, co, rfl⟩ := hbvo.form
      have hnil : T[i].length ≤ 4398046511104 := by omega
      clear hxt hxr hti hnd hbb hbw hv0 hI0 hL0 hb0 hbv0 hcb hbd c0 hbo hbvo hrowB
      generalize hTi : T[i] = es at *
      go_wp2_with fail
      go_region_with (first
        | (go_at_call 48; refine (show Calls _ _ _ _ _ from HBK.out).mono ?_; rintro e w5 ⟨rfl, rfl⟩)
        | (go_at_call 61; refine (show Calls _ _ _ _ _ from HSC.out).mono ?_; rintro e w5 ⟨P5, l5, c5, rfl, hv5, hn5, hb5⟩; have y5 := (row2 (keep_row HXT.out hb5)).1; have z5 : w5.cell? ⟨B, i, none⟩ = some (.slice Po lo co) := cell_on hcbo hb5; have f5 : ∀ q, w5.frozen? ⟨B, q, none⟩ = false := fun q => frozen_of_row _ _ _ _ _ (keep_row HRB.out hb5)))
      all_goals
        obtain ⟨W6, hW6⟩ : ∃ W6, W6 = w5.setCell ⟨B, i, none⟩ (.slice P5 l5 c5) := ⟨_, rfl⟩
        rw [← hW6]
        have hoth : ∀ q, q ≠ B → W6.heap[q]? = w5.heap[q]? := fun q hq => by rw [hW6]; exact heap_setCell_other _ _ _ _ hq
        have hBl : B < wr.heap.size := row_lt HRB.out
        have q2 : W6.heap[B]? = some (.cells (bvs.setIfInBounds i (.slice P5 l5 c5)) 83) := by rw [hW6, heap_setCell_same _ _ _ _ _ _ (keep_row HRB.out hb5)]
        have q3 : BV W6 0 (.slice P5 l5 c5) es := hv5.same (fun E hE => hoth E (by have := hn5 E hE; omega))
        have q5 : Touch wr W6 tb B (.slice Po lo co) := by rw [hW6]; exact (Touch.of_below hb5).set _ _ (Or.inr rfl)
        obtain ⟨t1, t2, t3⟩ := tab_set (row_lt HXT.out) HIL.out HTI.out HBO.out HND.out q2 q3 (fun E hE => Or.inr (hn5 E hE)) q5
        have HT6 : Hid (TabIs W6 0 B (bvs.setIfInBounds i (.slice P5 l5 c5)) (halfT T (i + 1))) := by
          show TabIs _ _ _ _ _
          rw [← HNX.out]; exact t1
        have HN6 : Hid _ := t2
        have HW6 : Hid (w.heap.size < B ∧ w.heap.size < tb ∧ tb ≠ B) := ⟨HBG.out, HTB.out.1, HTB.out.2.1⟩
        have HX6 : Hid (W6.heap[tb]? = some (.cells #[.slice (some ⟨B, 0, none⟩) T.length T.length, .int .i64 (k : Int)] 54)) := (hoth tb HW6.out.2.2).trans (keep_row HXT.out hb5)
        have HXR6 : Hid (W6.heap[w.heap.size]? = some (.cells #[.slice none 0 0, .int .i64 0] 54)) := (hoth _ (by have := HW6.out; omega)).trans (keep_row HXR.out hb5)
        have HBB6 : Hid (∀ q ∈ bblocks (bvs.setIfInBounds i (.slice P5 l5 c5)), w.heap.size < q) := fun q hq => by
          have hws := HBW.out.size
          have hww := HW6.out
          rcases t3.new q (by simp [hq]) with h | h
          · rcases List.mem_cons.1 h with rfl | h
            · omega
            · rcases List.mem_cons.1 h with rfl | h
              · omega
              · exact HBB.out q h
          · have := row_lt HXR.out; omega
        have HBW6 : Hid (Below w.heap.size w W6) := by
          have h5 := HBW.out.trans (hb5.mono HBW.out.size)
          refine h5.trans ⟨by rw [hW6]; rfl, by rw [hW6]; rfl, by rw [hW6]; rfl, by rw [hW6, World.size_setCell]; exact Nat.le_refl _, fun q hq => hoth q (by have := HW6.out; omega)⟩
        clear hW6 hoth q2 q3 q5 t1 t2 t3 hv5 hn5 hb5 y5 z5 f5
        go_wp2
        go_roundw
        case rel => exact ⟨i + 1, _, hlt, by simp, HX6.out, HXR6.out, HT6.out, HN6.out, HBB6.out, HBW6.out⟩
        case measure => simp [intOf]; omega
    · have hie : i = T.length := by omega
      subst hie
      have HFT : Hid (TabIs wr 0 B bvs T) := by have q := HTI.out; rw [halfT_all] at q; exact q
      obtain ⟨y0, y1, yf⟩ := row2 hxt
      obtain ⟨r0, r1, rf⟩ := row2 hxr
      clear hxt hxr hti hnd hbb hbw
      go_wp2
      obtain ⟨W7, hW7⟩ : ∃ W7, W7 = (wr.setCell ⟨w.heap.size, 0, none⟩ (.slice (some ⟨B, 0, none⟩) T.length T.length)).setCell ⟨w.heap.size, 1, none⟩ (.int .i64 (k : Int)) := ⟨_, rfl⟩
      rw [← hW7]
      have hr7 : W7.heap[w.heap.size]? = some (.cells #[.slice (some ⟨B, 0, none⟩) T.length T.length, .int .i64 (k : Int)] 54) := by
        rw [hW7, heap_setCell_same _ _ _ _ _ _ (heap_setCell_same _ _ _ _ _ _ HXR.out)]; rfl
      have hoth : ∀ q, q ≠ w.heap.size → W7.heap[q]? = wr.heap[q]? := fun q hq => by
        rw [hW7, heap_setCell_other _ _ _ _ hq, heap_setCell_other _ _ _ _ hq]
      obtain ⟨c0, c1, _⟩ := row2 hr7
      have hb7 : Below w.heap.size w W7 := HBW.out.trans ⟨by rw [hW7]; rfl, by rw [hW7]; rfl, by rw [hW7]; rfl, by rw [hW7, World.size_setCell, World.size_setCell]; exact Nat.le_refl _, fun q hq => hoth q (by omega)⟩
      have hBn := HBG.out
      refine bodyPost_ret (v := .agg #[.slice (some ⟨B, 0, none⟩) T.length T.length, .int .i64 (k : Int)]) (by simp [results, Try.results42, go_sem, c0, c1]) rfl ?_
      by_cases hT0 : T = []
      · subst hT0
        exact ⟨_, [], rfl, Or.inl ⟨⟨_, _, rfl⟩, rfl, rfl⟩, List.nodup_nil, by simp, hb7⟩
      · refine ⟨_, B :: bblocks bvs, rfl, Or.inr ⟨B, bvs, rfl, hT0, HFT.out.keep (hoth B (by omega)) (fun E hE => hoth E (by have := HBB.out E hE; omega)), rfl⟩, (List.nodup_cons.1 HND.out).2, fun q hq => ?_, hb7⟩
        rcases List.mem_cons.1 hq with rfl | hq
        · omega
        · have := HBB.out q hq; omega
end Go.Proofs.Ytdemodhjlbkbeab
namespace Go.Proofs.Ytdemodhjlbkbeab
open Go.RowKit
set_option linter.unusedVariables false
set_option maxHeartbeats 1000000 in
set_option maxRecDepth 100000 in
/-- Clone: the same dict, in blocks of its own. -/
theorem Clone_any (g : Nat) (F : List Nat) (D : DS) (hD : DInv D) (hcc : cnt D.T1 + cnt D.T2 ≤ 4398046511000) (w : World) (h : DI w g F D) :
    Calls Try.prog 16 #[.pointer (some ⟨g, 0, none⟩)] w fun e w' => ∃ g' F', e = .returned (.pointer (some ⟨g', 0, none⟩)) ∧ DI w' g' F' D ∧ (∀ q ∈ F', w.heap.size ≤ q) ∧ Below w.heap.size w w' := by
  obtain ⟨v1, v2, L1, L2, h1, h2, h3, rfl, h4⟩ := h
  obtain ⟨c0, c1, c2, c3, c4, c5, cf⟩ := row6 h1
  have HROW : Hid _ := h1
  have hbd : Below w.heap.size w w.drew := (Below.refl _ _).drew
  have HC1 : Hid (Calls Try.prog 42 #[.pointer (some ⟨g, 1, none⟩)] w.drew fun e w' => ∃ v' L', e = .returned (.agg #[v', .int .i64 (cnt D.T1 : Nat)]) ∧ TabAt w' v' D.T1 L' ∧ L'.Nodup ∧ (∀ q ∈ L', w.heap.size ≤ q) ∧ Below w.heap.size w.drew w') := tclone_any g 1 D.T1 L1 v1 (cnt D.T1) hD.sz1 (by omega) w.drew c1 c2 (h2.on hbd)
  have HC3 : Hid (∀ W, Below w.heap.size w.drew W → Calls Try.prog 42 #[.pointer (some ⟨g, 3, none⟩)] W fun e w' => ∃ v' L', e = .returned (.agg #[v', .int .i64 (cnt D.T2 : Nat)]) ∧ TabAt w' v' D.T2 L' ∧ L'.Nodup ∧ (∀ q ∈ L', W.heap.size ≤ q) ∧ Below W.heap.size W w') := fun W hW => by
    have hWb : Below w.heap.size w W := hbd.trans hW
    exact tclone_any g 3 D.T2 L2 v2 (cnt D.T2) hD.sz2 (by omega) W (cell_on c3 hWb) (cell_on c4 hWb) (h3.on hWb)
  clear h2 h3 h4
  go_enter Try.func16, Try.ntmps16
  go_wp2_with fail
  go_region_with (first
    | (go_at_call 42; with_reducible refine Calls.mono HC1.out ?_; rintro e w5 ⟨va, La, rfl, ta, na, ga, ba⟩; obtain ⟨Pa, ka, rfl⟩ := ta.form; have e0 := cell_on c0 (hbd.trans ba); have e5 := cell_on c5 (hbd.trans ba))
    | (go_at_call 42; with_reducible refine Calls.mono (HC3.out _ ba) ?_; rintro e w6 ⟨vb, Lb, rfl, tb, nb, gb, bb⟩; obtain ⟨Pb, kb, rfl⟩ := tb.form; have f0 := cell_on e0 bb; have f5 := cell_on e5 bb))
  all_goals
    have HFIN : Hid (DI (w6.alloc (.cells (dca D.seed (.slice Pa D.T1.length ka) (cnt D.T1 : Nat) (.slice Pb D.T2.length kb) (cnt D.T2 : Nat) (D.ix : Nat)) 56)) w6.heap.size (w6.heap.size :: (La ++ Lb)) D ∧ (∀ q ∈ w6.heap.size :: (La ++ Lb), w.heap.size ≤ q) ∧ Below w.heap.size w (w6.alloc (.cells (dca D.seed (.slice Pa D.T1.length ka) (cnt D.T1 : Nat) (.slice Pb D.T2.length kb) (cnt D.T2 : Nat) (D.ix : Nat)) 56))) := by
      have hb7 : Below w6.heap.size w6 (w6.alloc (.cells (dca D.seed (.slice Pa D.T1.length ka) (cnt D.T1 : Nat) (.slice Pb D.T2.length kb) (cnt D.T2 : Nat) (D.ix : Nat)) 56)) := (Below.refl _ _).alloc (Nat.le_refl _) _
      have hla := ta.lt
      have hlb := tb.lt
      have s5 := bb.size
      have s4 : w.heap.size ≤ w5.heap.size := (hbd.trans ba).size
      refine ⟨⟨_, _, La, Lb, one_alloc w6 _, (ta.on bb).on hb7, tb.on hb7, rfl, ?_⟩, fun q hq => ?_, (hbd.trans ba).trans ((bb.mono s4).trans (hb7.mono (Nat.le_trans s4 s5)))⟩
      · refine List.nodup_cons.2 ⟨fun hm => ?_, List.nodup_append.2 ⟨na, nb, fun x hx y hy e => ?_⟩⟩
        · rcases List.mem_append.1 hm with hm | hm
          · have := hla _ hm; omega
          · have := hlb _ hm; omega
        · subst e
          have := hla _ hx
          have := gb _ hy
          omega
      · rcases List.mem_cons.1 hq with rfl | hq
        · omega
        · rcases List.mem_append.1 hq with hq | hq
          · exact ga q hq
          · have := gb q hq; omega
    clear ta na ga ba tb nb gb bb e0 e5 f0 f5
    go_wp2
    go_returns
    exact ⟨_, _, rfl, HFIN.out.1, HFIN.out.2.1, HFIN.out.2.2⟩
end Go.Proofs.Ytdemodhjlbkbeab
