import Derived.Test.YtencjopnbmbhkaaGreatPjI
namespace Go.Proofs.YtencjopnbmbhkaaGreat
open Go.RowKit Go.Maps
set_option linter.unusedVariables false
set_option linter.unusedSimpArgs false
theorem only_drew {w W : World} {b : Nat} (h : Only w W b) : Only w W.drew b := ⟨h.os, h.tape, h.output, h.size, h.other⟩
set_option maxHeartbeats 4000000 in
set_option maxRecDepth 100000 in
theorem layP_any (g : Nat) (a0 a1 a2 a3 a4 a5 qv : Value) (qs : List Pq) (hr : qs.Pairwise ltQ) (hl : qs.length ≤ 2199023255552) (p : Pq) (w : World) (hg : w.heap[g]? = some (.cells #[a0, a1, a2, a3, a4, a5, qv] 60)) (h : PRow w qv qs) :
    Calls Tryz.prog 41 #[ptr (some g), agQ p] w fun e w' => LayP w g a0 a1 a2 a3 a4 a5 qv qs p e w' := by
  obtain ⟨W0, hW0⟩ : ∃ W0, w.alloc (.cells #[.int .i64 (p.s : Int), .bool p.c, meetV p] 81) = W0 := ⟨_, rfl⟩
  obtain ⟨R, hR⟩ : ∃ R, w.heap.size = R := ⟨_, rfl⟩
  have hb0 : Below R w W0 := by rw [← hW0]; exact (Below.refl _ _).alloc (by omega) _
  have hr0 : W0.heap[R]? = some (.cells #[.int .i64 (p.s : Int), .bool p.c, meetV p] 81) := by rw [← hW0, ← hR]; exact one_alloc _ _
  have hgR : g < R := by rw [← hR]; exact row_lt hg
  have hg0 := (hb0.block g hgR).trans hg
  have hp0 : PRow W0 qv qs := h.to (fun k hk => by obtain ⟨cur, hc⟩ := h.type hk; exact hb0.block k (by rw [← hR]; exact row_lt hc))
  have hqR : ∀ k, qv.ownBlock = some k → k < R := fun k hk => by obtain ⟨cur, hc⟩ := h.type hk; rw [← hR]; exact row_lt hc
  have hqg : ∀ k, qv.ownBlock = some k → k ≠ g := fun k hk e => by
    subst e
    obtain ⟨cur, hc⟩ := h.type hk
    have := hc.symm.trans hg
    injection this with this
    injection this with _ h2
    exact absurd h2 (by decide)
  have HBS : Hid (Calls Tryz.prog 83 #[qv, .agg #[.int .i64 (p.s : Int), .bool p.c, meetV p], .func (.func 84) #[] #[]] W0.drew fun e w' => BsP W0.drew qs p e w') := bsP_any qs hr hl p qv W0.drew (show KR plnE W0.drew qv qs from hp0.kr)
  obtain ⟨r0, r1, r2, _⟩ := row3 hr0
  obtain ⟨_, _, _, _, _, _, g6, _⟩ := fsC7 hg0
  have HG : Hid (w.heap[g]? = some (.cells #[a0, a1, a2, a3, a4, a5, qv] 60)) := hg
  have HP : Hid (PRow w qv qs) := h
  have HR0 : Hid (W0.heap[R]? = some (.cells #[.int .i64 (p.s : Int), .bool p.c, meetV p] 81)) := hr0
  have HB0 : Hid (Below R w W0) := hb0
  have HR : Hid (w.heap.size = R) := hR
  have HQ : Hid (g < R ∧ (∀ k, qv.ownBlock = some k → k < R ∧ k ≠ g)) := ⟨hgR, fun k hk => ⟨hqR k hk, hqg k hk⟩⟩
  have d0 : W0.drew.cell? ⟨R, 0, none⟩ = some (.int .i64 (p.s : Int)) := r0
  have d1 : W0.drew.cell? ⟨R, 1, none⟩ = some (.bool p.c) := r1
  have d2 : W0.drew.cell? ⟨R, 2, none⟩ = some (meetV p) := r2
  have d3 : W0.drew.cell? ⟨g, 6, none⟩ = some qv := g6
  have HSZ : Hid (R < W0.heap.size) := row_lt hr0
  obtain ⟨mf, mA, mB, hmv⟩ : ∃ mf mA mB, meetV p = .func mf mA mB := ⟨_, _, _, rfl⟩
  have HMV : Hid (meetV p = .func mf mA mB) := hmv
  rw [hmv] at d2 HBS hW0 HR0 r2
  clear hr hg h hp0 hqR hqg hb0 hr0 hgR hg0 hmv r0 r1 g6 r2
  unfold ptr agQ
  rw [HMV.out]
  go_enter Tryz.func41, Tryz.ntmps41
  go_upto_region 1 with fail
  clear hW0
  go_region_held3 (fun W : World => W.cell? ⟨R, 0, none⟩ = some (.int .i64 (p.s : Int)) ∧ W.cell? ⟨R, 1, none⟩ = some (.bool p.c) ∧ W.cell? ⟨R, 2, none⟩ = some (.func mf mA mB) ∧ W.cell? ⟨g, 6, none⟩ = some qv)
    (first | with_reducible exact ⟨d0, d1, d2, d3⟩ | with_reducible exact ⟨q0, q1, q2, q3⟩)
    (first
      | (go_at_call 83; refine (show Calls _ _ _ _ _ from HBS.out).mono ?_; rintro e w1 ⟨hb1, i, b, hpl, hbt, rfl⟩; have q0 := cell_on d0 hb1; have q1 := cell_on d1 hb1; have q2 := cell_on d2 hb1; have q3 := cell_on d3 hb1))
  have hb1' : Below R w w1 := HB0.out.drew.trans (hb1.mono (by show R ≤ W0.heap.size; have := HSZ.out; omega))
  have hR1 : w1.heap[R]? = some (.cells #[.int .i64 (p.s : Int), .bool p.c, .func mf mA mB] 81) := (hb1.block R HSZ.out).trans HR0.out
  have hg1 := (hb1'.block g HQ.out.1).trans HG.out
  have hp1 : PRow w1 qv qs := HP.out.to (fun k hk => hb1'.block k (HQ.out.2 k hk).1)
  have HB1 : Hid (Below R w w1) := hb1'
  have HR1 : Hid (w1.heap[R]? = some (.cells #[.int .i64 (p.s : Int), .bool p.c, .func mf mA mB] 81)) := hR1
  have HG1 : Hid (w1.heap[g]? = some (.cells #[a0, a1, a2, a3, a4, a5, qv] 60)) := hg1
  have HP1 : Hid (PRow w1 qv qs) := hp1
  have HPL : Hid (Plc qs p i) := hpl
  clear hb1 d0 d1 d2 d3 hb1' hR1 hg1 HBS
  cases b with
  | true =>
    obtain ⟨hil, hk1, hk2⟩ := hbt.1 rfl
    rcases hp1.px with ⟨rfl, rfl⟩ | ⟨E, o, c, rfl, hB⟩
    · simp at hil
    obtain ⟨cur, x1, x2, x3⟩ := hB.row
    have hle := hB.le
    have hmx := hB.max
    have HX1 : Hid (w1.heap[E]? = some (.cells cur 81)) := x1
    have HX3 : Hid (∀ j u, (plnE.fl qs)[j]? = some u → cur[o * 3 + j]? = some u) := x3
    have HLI : Hid (∃ h : i < qs.length, qs[i].s = p.s ∧ qs[i].c = p.c ∧ qs.set i p = qs.set i p) := ⟨hil, hk1, hk2, rfl⟩
    have hz0 : (0 : Int) ≤ (i : Int) := by omega
    have hz1 : (i : Int) < (qs.length : Int) := by omega
    have s0 : w1.drew.cell? ⟨R, 0, none⟩ = some (.int .i64 (p.s : Int)) := q0
    have s1 : w1.drew.cell? ⟨R, 1, none⟩ = some (.bool p.c) := q1
    have s2 : w1.drew.cell? ⟨R, 2, none⟩ = some (.func mf mA mB) := q2
    have s3 : w1.drew.cell? ⟨g, 6, none⟩ = some (.slice (some ⟨E, o * 3, none⟩) qs.length c) := q3
    have hce : ∀ j, j < 3 → ∃ v, w1.cell? ⟨E, o * 3 + i * 3 + j, none⟩ = some v := fun j hj => by
      rw [cell_of_row _ _ _ _ _ _ x1, Array.getElem?_eq_getElem (by omega)]; exact ⟨_, rfl⟩
    obtain ⟨v0, y0⟩ := hce 0 (by omega)
    obtain ⟨v1, y1⟩ := hce 1 (by omega)
    obtain ⟨v2, y2⟩ := hce 2 (by omega)
    rw [Nat.add_zero] at y0
    have f0 : w1.frozen? ⟨E, o * 3 + i * 3, none⟩ = false := frozen_of_row _ _ _ _ _ x1
    have f1 : w1.frozen? ⟨E, o * 3 + i * 3 + 1, none⟩ = false := frozen_of_row _ _ _ _ _ x1
    have f2 : w1.frozen? ⟨E, o * 3 + i * 3 + 2, none⟩ = false := frozen_of_row _ _ _ _ _ x1
    have hst2 : Sem.run Tryz.prog (store ⟨E, o * 3 + i * 3 + 2, none⟩ (.func mf mA mB)) ((w1.setCell ⟨E, o * 3 + i * 3, none⟩ (.int .i64 (p.s : Int))).setCell ⟨E, o * 3 + i * 3 + 1, none⟩ (.bool p.c)).drew = .ok () (((w1.setCell ⟨E, o * 3 + i * 3, none⟩ (.int .i64 (p.s : Int))).setCell ⟨E, o * 3 + i * 3 + 1, none⟩ (.bool p.c)).setCell ⟨E, o * 3 + i * 3 + 2, none⟩ (.func mf mA mB)).drew := by
      have hh := heap_setCell_same _ E (o * 3 + i * 3 + 1) _ _ (.bool p.c) (heap_setCell_same w1 E (o * 3 + i * 3) _ _ (.int .i64 (p.s : Int)) x1)
      have hcx : ((w1.setCell ⟨E, o * 3 + i * 3, none⟩ (.int .i64 (p.s : Int))).setCell ⟨E, o * 3 + i * 3 + 1, none⟩ (.bool p.c)).drew.cell? ⟨E, o * 3 + i * 3 + 2, none⟩ = some _ := (cell_of_row _ _ _ _ _ _ hh).trans (Array.getElem?_eq_getElem (by simp; omega))
      have hfx : ((w1.setCell ⟨E, o * 3 + i * 3, none⟩ (.int .i64 (p.s : Int))).setCell ⟨E, o * 3 + i * 3 + 1, none⟩ (.bool p.c)).drew.frozen? ⟨E, o * 3 + i * 3 + 2, none⟩ = false := frozen_of_row _ _ _ _ _ hh
      rw [run_store _ _ _ _ _ rfl, hcx, hfx]; rfl
    clear hbt hk1 hk2 hpl hp1 hB x1 x3 hce
    go_upto_region 3 with fail
    go_region_law (fail)
    all_goals
      obtain ⟨W5, hW5⟩ : ∃ W5, (((w1.setCell ⟨E, o * 3 + i * 3, none⟩ (.int .i64 (p.s : Int))).setCell ⟨E, o * 3 + i * 3 + 1, none⟩ (.bool p.c)).setCell ⟨E, o * 3 + i * 3 + 2, none⟩ (.func mf mA mB)).drew = W5 := ⟨_, rfl⟩
      have hE5 : W5.heap[E]? = some (.cells (spl cur (o * 3 + i * 3) (plnE.enc p)) 81) := by
        have := heap_cells E 81 [.int .i64 (p.s : Int), .bool p.c, .func mf mA mB] (o * 3 + i * 3) w1 cur HX1.out (by simp; omega)
        rw [← hW5, show plnE.enc p = [.int .i64 (p.s : Int), .bool p.c, .func mf mA mB] by rw [← HMV.out]; rfl]
        exact this
      have hO5 : Only w1 W5 E := by rw [← hW5]; exact only_drew ((((Only.refl w1 E).set _ _).set _ _).set _ _)
      have HFIN : Hid (LayP w g a0 a1 a2 a3 a4 a5 (.slice (some ⟨E, o * 3, none⟩) qs.length c) qs p (.returned (.tuple #[])) W5) := by
        refine ⟨rfl, .slice (some ⟨E, o * 3, none⟩) qs.length c, qs.set i p, ⟨i, HPL.out, Or.inl HLI.out⟩, ?_, (PX.set hil hle hmx x2 HX3.out hE5).prow' (by simp), fun k hk => Or.inl hk, ?_⟩
        · exact (hO5.other g (fun e => (HQ.out.2 E rfl).2 e.symm)).trans HG1.out
        · have m1 : ModP (fun k => k = g ∨ (Value.slice (some ⟨E, o * 3, none⟩) qs.length c).ownBlock = some k) w w1 := ModP.below (by rw [HR.out]; exact HB1.out)
          exact m1.trans (ModP.only hO5 (Or.inr rfl))
      rw [hW5]
      clear hE5 hO5 hW5 hst2 y0 y1 y2 f0 f1 f2 s0 s1 s2 s3 q0 q1 q2 q3
      go_wp2
      first | go_returns | go_end0
      exact HFIN.out
  | false =>
    have hno : ¬ ∃ h : i < qs.length, qs[i].s = p.s ∧ qs[i].c = p.c := fun hh => by have := hbt.2 hh; cases this
    have HNO : Hid _ := hno
    have HSA : Hid (w1.heap.size ≤ (w1.alloc (.cells #[.int .i64 (p.s : Int), .bool p.c, .func mf mA mB] 81)).heap.size) := by show _ ≤ _; simp
    have HBA : Hid (∀ k, k < w1.heap.size → (w1.alloc (.cells #[.int .i64 (p.s : Int), .bool p.c, .func mf mA mB] 81)).heap[k]? = w1.heap[k]?) := fun k hk => heap_alloc_old w1 _ hk
    have HXA : Hid _ := one_alloc w1 (.cells #[.int .i64 (p.s : Int), .bool p.c, .func mf mA mB] 81)
    have HIN : Hid (∀ W, (Below w1.heap.size w1 W ∧ W.heap[w1.heap.size]? = some (.cells #[.int .i64 (p.s : Int), .bool p.c, .func mf mA mB] 81)) → Calls Tryz.prog 85 #[qv, .int .i64 (i : Int), .slice (some ⟨w1.heap.size, 0, none⟩) 1 1] W fun r w' => ∃ v', r = .returned v' ∧ w'.heap[g]? = some (.cells #[a0, a1, a2, a3, a4, a5, qv] 60) ∧ PRow w' v' (qs.take i ++ p :: qs.drop i) ∧ ModP (fun k => k = g ∨ qv.ownBlock = some k) w w' ∧ ∀ k, v'.ownBlock = some k → qv.ownBlock = some k ∨ R ≤ k) := fun W hW => by
      have hpW : PRow W qv qs := HP1.out.to (fun k hk => hW.1.block k (by obtain ⟨cur, hc⟩ := HP1.out.type hk; exact row_lt hc))
      have hsz1 : R ≤ w1.heap.size := by have := HB1.out.size; rw [HR.out] at this; exact this
      refine (insP_any w1.heap.size i 1 p qv qs hl W hpW HPL.out.le (by rw [HMV.out]; exact hW.2) (fun e => by have := (HQ.out.2 _ e).1; omega)).mono ?_
      rintro r w' ⟨v', rfl, hp', hm', hk'⟩
      have hgW := (hW.1.block g (row_lt HG1.out)).trans HG1.out
      refine ⟨v', rfl, (hm'.oth g (row_lt hgW) (fun e => (HQ.out.2 _ e).2 rfl)).trans hgW, hp', ?_, fun k hk => (hk' k hk).imp id (fun q => by have := hW.1.size; omega)⟩
      have m1 : ModP (fun k => k = g ∨ qv.ownBlock = some k) w W := (ModP.below (by rw [HR.out]; exact HB1.out)).trans (ModP.below hW.1)
      exact m1.trans (hm'.weak (fun k _ e => Or.inr e))
    have s0 : w1.drew.cell? ⟨R, 0, none⟩ = some (.int .i64 (p.s : Int)) := q0
    have s1 : w1.drew.cell? ⟨R, 1, none⟩ = some (.bool p.c) := q1
    have s2 : w1.drew.cell? ⟨R, 2, none⟩ = some (.func mf mA mB) := q2
    have s3 : w1.drew.cell? ⟨g, 6, none⟩ = some qv := q3
    have s3a := cell_on q3 ((Below.refl _ w1).alloc (Nat.le_refl _) (.cells #[.int .i64 (p.s : Int), .bool p.c, .func mf mA mB] 81))
    clear hbt hno hpl hp1
    go_upto_region 4 with fail
    go_region_law (first
      | (go_simp; refine (show Calls _ _ _ _ _ from HIN.out ((w1.alloc (.cells #[.int .i64 (p.s : Int), .bool p.c, .func mf mA mB] 81)).drew) ⟨⟨rfl, rfl, rfl, HSA.out, HBA.out⟩, HXA.out⟩).mono ?_; rintro e w5 ⟨v5, rfl, hg5, hp5, hm5, hk5⟩; obtain ⟨P5, c5, hf5⟩ := hp5.form; subst hf5; obtain ⟨_, _, _, _, _, _, t6, tfx⟩ := fsC7 hg5; have tf := tfx 6))
    all_goals
      have hg6 := fs_set hg5 6 (.slice P5 (qs.take i ++ p :: qs.drop i).length c5)
      have HFIN : Hid (LayP w g a0 a1 a2 a3 a4 a5 qv qs p (.returned (.tuple #[])) (w5.setCell ⟨g, 6, none⟩ (.slice P5 (qs.take i ++ p :: qs.drop i).length c5))) := by
        refine ⟨rfl, .slice P5 (qs.take i ++ p :: qs.drop i).length c5, qs.take i ++ p :: qs.drop i, ⟨i, HPL.out, Or.inr ⟨HNO.out, rfl⟩⟩, hg6.1, hp5.to (fun k hk => hg6.2.other k (fun e => ?_)), fun k hk => ?_, hm5.trans (ModP.only hg6.2 (Or.inl rfl))⟩
        · subst e
          obtain ⟨cur, hc⟩ := hp5.type hk
          have := hc.symm.trans hg5
          injection this with this
          injection this with _ h2
          exact absurd h2 (by decide)
        · have := hk5 k hk
          rw [HR.out]; exact this
      first | go_end0 | (go_wp2; go_end0)
      have e9 : (qs.take i ++ p :: qs.drop i).length = min i qs.length + (qs.length - i + 1) := by simp
      have hfin := HFIN.out
      rw [e9] at hfin
      exact hfin
end Go.Proofs.YtencjopnbmbhkaaGreat
