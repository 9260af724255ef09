import Derived.Test.YtdemodhjlbkbeabRX
import Derived.Deep.CutRange
import Derived.Deep.RegionWith
namespace Go.Proofs.Ytdemodhjlbkbeab
open Go.RowKit
set_option linter.unusedVariables false
theorem flat_put {l : List Ent} {j : Nat} (hj : j < l.length) (x : Int) : (flat l).set (j * 2 + 1) (.int .i64 x) = flat (l.set j (l[j].1, x)) := by
  induction l generalizing j with
  | nil => simp at hj
  | cons e l ih =>
    cases j with
    | zero => simp [flat]
    | succ j =>
      have := ih (j := j) (by simpa using hj)
      rw [show (j + 1) * 2 + 1 = j * 2 + 1 + 1 + 1 by omega]
      simp only [List.getElem_cons_succ, List.set_cons_succ, flat_cons]
      rw [this]
theorem Rel.has1 {D : DS} {R : RD} (h : Rel D R) (hD : DInv D) (k : ByteArray) : thas D.seed D.T1 k = true ↔ k ∈ R.l1.map (·.1) := by
  rw [← (h.p1.map (·.1)).mem_iff]
  constructor
  · intro q
    obtain ⟨v, hv⟩ := thas_mem hD.wf1 q
    exact List.mem_map.2 ⟨_, hv, rfl⟩
  · intro q
    obtain ⟨⟨k', v⟩, hv, rfl⟩ := List.mem_map.1 q
    exact thas_yes hD.wf1 hv
theorem Rel.has2 {D : DS} {R : RD} (h : Rel D R) (hD : DInv D) (k : ByteArray) : thas D.seed D.T2 k = true ↔ k ∈ R.l2.map (·.1) := by
  rw [← (h.p2.map (·.1)).mem_iff]
  constructor
  · intro q
    obtain ⟨v, hv⟩ := thas_mem hD.wf2 q
    exact List.mem_map.2 ⟨_, hv, rfl⟩
  · intro q
    obtain ⟨⟨k', v⟩, hv, rfl⟩ := List.mem_map.1 q
    exact thas_yes hD.wf2 hv
theorem no_of {a : Bool} {p : Prop} (h : a = true ↔ p) (hp : ¬ p) : a = false := by
  cases a with
  | true => exact absurd (h.1 rfl) hp
  | false => rfl
set_option maxHeartbeats 6000000 in
set_option maxRecDepth 100000 in
theorem Set_rel (Q : Nat → Prop) (v : Value) (D : DS) (R : RD) (hD : DInv D) (hr : Rel D R) (hc : cnt D.T1 + cnt D.T2 < 4398046511000) (k : ByteArray) (hk : k.size ≤ 281474976710656) (x : Int) (w : World) (hQ : ∀ q, w.heap.size ≤ q → Q q) (h : RV Q w v R) : Calls Try.prog 7 #[v, .string k, .int .i64 x] w fun e w' => ∃ v', e = .returned (.tuple #[v', .bool (! (stepD D).has k)]) ∧ ∃ R', RV Q w' v' R' ∧ Rel (setD D k x) R' ∧ Below w.heap.size w w' := by
  obtain ⟨v1, v2, rfl, h1, h2⟩ := h
  obtain ⟨P1, c1, rfl⟩ := h1.form
  obtain ⟨P2, c2, rfl⟩ := h2.form
  have HST : Hid _ := step_rel (Qx Q w) _ D R hD hr (by omega) _ ((At6.start h1 h2).up hQ) (At6.start h1 h2).rv
  have HA : Hid _ := At6.start h1 h2
  have HQ : Hid (∀ q, w.heap.size ≤ q → Q q) := hQ
  clear h1 h2 hr hQ
  go_enter Try.func7, Try.ntmps7
  go_wp2_with fail
  refine (show Calls _ _ _ _ _ from HST.out).mono ?_
  rintro e w2 ⟨v', rfl, T, hv', hrT, hb2⟩
  have hA2 := HA.out.on hb2
  obtain ⟨u1, u2, rfl, r1, r2⟩ := hv'
  obtain ⟨U1, d1, rfl⟩ := r1.form
  obtain ⟨U2, d2, rfl⟩ := r2.form
  obtain ⟨a0, a1, a2, a3, a4, a5, af⟩ := row6 hA2.row
  obtain ⟨W3, hW3⟩ : ∃ W3, W3 = st6 w2 w.heap.size (.int .i64 T.seed) (.int .i64 (T.s1 : Int)) (.slice U1 T.l1.length d1) (.int .i64 (T.s2 : Int)) (.slice U2 T.l2.length d2) (.int .i64 (T.ix : Int)) := ⟨_, rfl⟩
  have HA3 : Hid (At6 Q w W3 T U1 d1 U2 d2) := by rw [hW3]; exact hA2.store r1 r2
  have HRT : Hid (Rel (stepD D) T) := hrT
  obtain ⟨q1, q2, q3⟩ := stepD_ok hD
  have hcS := cnt_perm q2
  have HDS : Hid (DInv (stepD D)) := q1
  have HRM : Hid _ := stepD_room hD
  clear hA2 r1 r2 hb2 hrT q1 q2 q3
  go_upto_region 2 with fail
  change Code.wp _ _ _ _ (st6 w2 _ _ _ _ _ _ _)
  rw [← hW3]
  clear hW3 a0 a1 a2 a3 a4 a5 af
  obtain ⟨a0, a1, a2, a3, a4, a5, af⟩ := row6 HA3.out.row
  have hTn : T.l1.length + T.l2.length < 4398046511000 := by rw [← HRT.out.c1, ← HRT.out.c2]; omega
  have HAT1 : Hid _ := at_any (Qx Q w) T.s1 _ T.l1 (by omega) k W3 HA3.out.i1
  go_wp2_with fail
  refine (show Calls _ _ _ _ _ from HAT1.out).mono ?_
  rintro e w4 ⟨hb4, hcase⟩
  have HA4 : Hid (At6 Q w w4 T U1 d1 U2 d2) := HA3.out.on hb4
  clear hb4 a0 a1 a2 a3 a4 a5 af HST
  have h1i := HRT.out.has1 HDS.out k
  have h2i := HRT.out.has2 HDS.out k
  rcases hcase with ⟨rfl, hno⟩ | ⟨j, hj, rfl, hjk⟩
  · have hf1 := no_of h1i hno
    have HAT2 : Hid _ := at_any (Qx Q w) T.s2 _ T.l2 (by omega) k w4 HA4.out.i2
    obtain ⟨a0, a1, a2, a3, a4, a5, af⟩ := row6 HA4.out.row
    clear h1i hno
    go_wp2_with fail
    refine (show Calls _ _ _ _ _ from HAT2.out).mono ?_
    rintro e w14 ⟨hb14, hcase⟩
    have HA14 : Hid (At6 Q w w14 T U1 d1 U2 d2) := HA4.out.on hb14
    clear hb14 a0 a1 a2 a3 a4 a5 af
    rcases hcase with ⟨rfl, hno⟩ | ⟨j, hj, rfl, hjk⟩
    · have hf2 := no_of h2i hno
      have hhas : (stepD D).has k = false := by unfold DS.has; rw [hf1, hf2]; rfl
      have HHAS : Hid _ := hhas
      have hsn := setD_new (v := x) hhas
      obtain ⟨rm1, rm2, rm3⟩ := roomD_ok HDS.out (by omega) HRM.out
      have HR5 : Hid (Rel (roomD (stepD D)) (rroom T)) := HRT.out.room
      have HN5 : Hid ((rroom T).l1.length + (rroom T).l2.length < 4398046511000) := by
        have := cnt_perm rm2
        show _ < _
        rw [← HR5.out.c1, ← HR5.out.c2]; omega
      have hnok : k ∉ (stepD D).all.map (·.1) := fun hm => by
        have := (all_keys HDS.out k).2 hm
        rw [hhas] at this; cases this
      obtain ⟨k1, k2⟩ := key_no rm1 (fun hm => hnok ((rm2.map _).mem_iff.1 hm))
      have HREL : Hid (Rel (setD D k x) (rjoin (rroom T) (k, x))) := by
        show Rel _ _
        rw [hsn]; exact HR5.out.fresh rm1 rm3 x k1 k2
      have hs1b := HDS.out.sz1
      rw [← HRT.out.s1] at hs1b
      clear h2i hno hf1 hf2 hhas hsn rm1 rm2 rm3 hnok k1 k2
      obtain ⟨a0, a1, a2, a3, a4, a5, af⟩ := row6 HA14.out.row
      by_cases hz : T.s1 = 0
      · have hzz : ((T.s1 : Int) == 0) = true := by simp [hz]
        have e5 : rroom T = ⟨T.seed, 4, T.l1, T.s2, T.l2, T.ix⟩ := by unfold rroom; rw [if_pos hz]
        have HB5 : Hid (At6 Q w (w14.setCell ⟨w.heap.size, 1, none⟩ (.int .i64 4)) (rroom T) U1 d1 U2 d2) := by
          show At6 _ _ _ _ _ _ _ _
          rw [e5]; exact HA14.out.putS
        clear e5 hz
        go_upto_region 20 with fail
        obtain ⟨W5, hW5⟩ : ∃ W5, W5 = w14.setCell ⟨w.heap.size, 1, none⟩ (.int .i64 4) := ⟨_, rfl⟩
        rw [← hW5] at HB5 ⊢
        clear hW5 a0 a1 a2 a3 a4 a5 af
        generalize rroom T = T5 at *
        obtain ⟨E1, hE1⟩ : ∃ E1, E1 = U1 := ⟨_, rfl⟩
        obtain ⟨E2, hE2⟩ : ∃ E2, E2 = U2 := ⟨_, rfl⟩
        obtain ⟨f1, hf1⟩ : ∃ f1, f1 = d1 := ⟨_, rfl⟩
        obtain ⟨f2, hf2⟩ : ∃ f2, f2 = d2 := ⟨_, rfl⟩
        rw [← hE1, ← hE2, ← hf1, ← hf2] at HB5
        clear hE1 hE2 hf1 hf2
        have hmn : T5.l1.length + T5.l2.length < 4398046511000 := HN5.out
        have HMV : Hid (∀ W : World, _) := fun W => moving_any T5.seed T5.s1 (.slice E1 T5.l1.length f1) T5.s2 (.slice E2 T5.l2.length f2) T5.ix W
        obtain ⟨a0, a1, a2, a3, a4, a5, af⟩ := row6 HB5.out.row
        go_wp2_with fail
        refine (show Calls _ _ _ _ _ from HMV.out _).mono ?_
        rintro e w8 ⟨rfl, hb8⟩
        have HB8 : Hid (At6 Q w w8 T5 E1 f1 E2 f2) := HB5.out.on hb8
        clear hb8 a0 a1 a2 a3 a4 a5 af
        obtain ⟨a0, a1, a2, a3, a4, a5, af⟩ := row6 HB8.out.row
        by_cases hmv : 0 < T5.s2
        · have hmd : decide (0 < T5.s2) = true := by simpa using hmv
          rw [hmd]
          have HJ : Hid (rjoin T5 (k, x) = ⟨T5.seed, T5.s1, T5.l1, T5.s2, T5.l2 ++ [(k, x)], T5.ix⟩) := by show _ = _; unfold rjoin; rw [if_pos hmv]
          have HWT := with_any (Qx Q w) _ T5.l2 (by omega) k x w8 HB8.out.i2
          rw [List.length_append] at HWT
          have HWH : Hid _ := HWT
          clear HWT hmv
          go_wp2_with fail
          refine (show Calls _ _ _ _ _ from HWH.out).mono ?_
          rintro e w9 ⟨v9, rfl, ho9, hb9⟩
          obtain ⟨P9, k9, hkf⟩ := own_form ho9
          subst hkf
          have HA9 := HB8.out.on hb9
          have HI9 : IRow (Qx Q w) w9 _ (T5.l2 ++ [(k, x)]) := IRow.own_of ho9 (by rw [List.length_append]) (HB8.out.up HQ.out)
          have HA7 : Hid _ := HA9.put2 (by rw [List.length_append]) HI9
          clear a0 a1 a2 a3 a4 a5 af
          obtain ⟨a0, a1, a2, a3, a4, a5, af⟩ := row6 HA9.row
          clear HA9 HI9 ho9 hb9
          go_upto_region 23 with fail
          obtain ⟨W7, hW7⟩ : ∃ W7, W7 = w9.setCell ⟨w.heap.size, 4, none⟩ (.slice P9 (T5.l2.length + 1) k9) := ⟨_, rfl⟩
          have HA8 : Hid (At6 Q w W7 ⟨T5.seed, T5.s1, T5.l1, T5.s2, T5.l2 ++ [(k, x)], T5.ix⟩ E1 f1 P9 k9) := by rw [hW7]; exact HA7.out
          rw [← hW7]
          rw [← HJ.out] at HA8
          clear hW7 a0 a1 a2 a3 a4 a5 af HA7
          have HRF : Hid (Rel (setD D k x) (rjoin T5 (k, x))) := HREL.out
          generalize rjoin T5 (k, x) = T7 at *
          obtain ⟨a0, a1, a2, a3, a4, a5, af⟩ := row6 HA8.out.row
          obtain ⟨z0, z1, z2, z3, z4, z5, zf⟩ := row6 HA8.out.zero
          go_wp2
          obtain ⟨W', hW', hrw, hrv, hbw⟩ := HA8.out.fin
          change bodyPost _ _ _ _ _ (st6 W7 _ _ _ _ _ _ _)
          rw [← hW']
          have HRV : Hid _ := hrv
          have HBW : Hid _ := hbw
          obtain ⟨e0, e1, e2, e3, e4, e5, ef⟩ := row6 hrw
          clear hW' hrw hrv hbw
          refine bodyPost_ret (v := .tuple #[dval T7.seed T7.s1 (.slice E1 T7.l1.length f1) T7.s2 (.slice P9 T7.l2.length k9) T7.ix, .bool true]) (by simp [results, Try.results7, go_sem, e0, e1, e2, e3, e4, e5]) rfl ?_
          exact ⟨_, by rw [HHAS.out]; rfl, T7, HRV.out, HRF.out, HBW.out⟩
        · have hmd : decide (0 < T5.s2) = false := by simpa using hmv
          rw [hmd]
          have HJ : Hid (rjoin T5 (k, x) = ⟨T5.seed, T5.s1, T5.l1 ++ [(k, x)], T5.s2, T5.l2, T5.ix⟩) := by show _ = _; unfold rjoin; rw [if_neg hmv]
          have HWT := with_any (Qx Q w) _ T5.l1 (by omega) k x w8 HB8.out.i1
          rw [List.length_append] at HWT
          have HWH : Hid _ := HWT
          clear HWT hmv
          go_wp2_with fail
          refine (show Calls _ _ _ _ _ from HWH.out).mono ?_
          rintro e w9 ⟨v9, rfl, ho9, hb9⟩
          obtain ⟨P9, k9, hkf⟩ := own_form ho9
          subst hkf
          have HA9 := HB8.out.on hb9
          have HI9 : IRow (Qx Q w) w9 _ (T5.l1 ++ [(k, x)]) := IRow.own_of ho9 (by rw [List.length_append]) (HB8.out.up HQ.out)
          have HA7 : Hid _ := HA9.put1 (by rw [List.length_append]) HI9
          clear a0 a1 a2 a3 a4 a5 af
          obtain ⟨a0, a1, a2, a3, a4, a5, af⟩ := row6 HA9.row
          clear HA9 HI9 ho9 hb9
          go_upto_region 23 with fail
          obtain ⟨W7, hW7⟩ : ∃ W7, W7 = w9.setCell ⟨w.heap.size, 2, none⟩ (.slice P9 (T5.l1.length + 1) k9) := ⟨_, rfl⟩
          have HA8 : Hid (At6 Q w W7 ⟨T5.seed, T5.s1, T5.l1 ++ [(k, x)], T5.s2, T5.l2, T5.ix⟩ P9 k9 E2 f2) := by rw [hW7]; exact HA7.out
          rw [← hW7]
          rw [← HJ.out] at HA8
          clear hW7 a0 a1 a2 a3 a4 a5 af HA7
          have HRF : Hid (Rel (setD D k x) (rjoin T5 (k, x))) := HREL.out
          generalize rjoin T5 (k, x) = T7 at *
          obtain ⟨a0, a1, a2, a3, a4, a5, af⟩ := row6 HA8.out.row
          obtain ⟨z0, z1, z2, z3, z4, z5, zf⟩ := row6 HA8.out.zero
          go_wp2
          obtain ⟨W', hW', hrw, hrv, hbw⟩ := HA8.out.fin
          change bodyPost _ _ _ _ _ (st6 W7 _ _ _ _ _ _ _)
          rw [← hW']
          have HRV : Hid _ := hrv
          have HBW : Hid _ := hbw
          obtain ⟨e0, e1, e2, e3, e4, e5, ef⟩ := row6 hrw
          clear hW' hrw hrv hbw
          refine bodyPost_ret (v := .tuple #[dval T7.seed T7.s1 (.slice P9 T7.l1.length k9) T7.s2 (.slice E2 T7.l2.length f2) T7.ix, .bool true]) (by simp [results, Try.results7, go_sem, e0, e1, e2, e3, e4, e5]) rfl ?_
          exact ⟨_, by rw [HHAS.out]; rfl, T7, HRV.out, HRF.out, HBW.out⟩
      · have hzz : ((T.s1 : Int) == 0) = false := by simpa using hz
        have HMV0 : Hid (∀ W : World, _) := fun W => moving_any T.seed T.s1 (.slice U1 T.l1.length d1) T.s2 (.slice U2 T.l2.length d2) T.ix W
        go_wp2_with fail
        refine (show Calls _ _ _ _ _ from HMV0.out _).mono ?_
        rintro e w15 ⟨rfl, hb15⟩
        have HA15 : Hid (At6 Q w w15 T U1 d1 U2 d2) := HA14.out.on hb15
        clear hb15 a0 a1 a2 a3 a4 a5 af
        obtain ⟨a0, a1, a2, a3, a4, a5, af⟩ := row6 HA15.out.row
        by_cases hgrow : T.s2 = 0 ∧ T.s1 ≤ T.l1.length
        · have hmd : decide (0 < T.s2) = false := by simp [hgrow.1]
          rw [hmd]
          have hge : (T.s1 : Int) ≤ (T.l1.length : Int) := by have := hgrow.2; omega
          have e5 : rroom T = rbegin T (2 * T.s1) := by unfold rroom; rw [if_neg hz, if_pos hgrow]
          have hw2 : IntKind.i64.wrap (2 * (T.s1 : Int)) = 2 * (T.s1 : Int) := by rw [IntKind.wrap_i64] <;> omega
          have HBG' := Begin_any (Qx Q w) _ T (2 * T.s1) w15 HA15.out.rv
          rw [← e5, show ((2 * T.s1 : Nat) : Int) = 2 * (T.s1 : Int) by omega] at HBG'
          have HBG : Hid _ := HBG'
          clear e5 hz hgrow hmd HBG'
          go_wp2_with fail
          refine (show Calls _ _ _ _ _ from HBG.out).mono ?_
          rintro e w16 ⟨v16, rfl, hv16, hb16⟩
          have hA16 := HA15.out.on hb16
          obtain ⟨u1, u2, rfl, r1, r2⟩ := hv16
          obtain ⟨E1, f1, rfl⟩ := r1.form
          obtain ⟨E2, f2, rfl⟩ := r2.form
          clear a0 a1 a2 a3 a4 a5 af
          obtain ⟨a0, a1, a2, a3, a4, a5, af⟩ := row6 hA16.row
          have HB5' : Hid _ := hA16.store r1 r2
          clear hA16 r1 r2 hb16
          generalize rroom T = T5 at *
          go_upto_region 20 with fail
          obtain ⟨W5, hW5⟩ : ∃ W5, W5 = st6 w16 w.heap.size (.int .i64 T5.seed) (.int .i64 (T5.s1 : Int)) (.slice E1 T5.l1.length f1) (.int .i64 (T5.s2 : Int)) (.slice E2 T5.l2.length f2) (.int .i64 (T5.ix : Int)) := ⟨_, rfl⟩
          change Code.wp _ _ _ _ (st6 w16 _ _ _ _ _ _ _)
          rw [← hW5] at HB5' ⊢
          have HB5 : Hid (At6 Q w W5 T5 E1 f1 E2 f2) := HB5'.out
          clear hW5 a0 a1 a2 a3 a4 a5 af HB5'
          have hmn : T5.l1.length + T5.l2.length < 4398046511000 := HN5.out
          have HMV : Hid (∀ W : World, _) := fun W => moving_any T5.seed T5.s1 (.slice E1 T5.l1.length f1) T5.s2 (.slice E2 T5.l2.length f2) T5.ix W
          obtain ⟨a0, a1, a2, a3, a4, a5, af⟩ := row6 HB5.out.row
          go_wp2_with fail
          refine (show Calls _ _ _ _ _ from HMV.out _).mono ?_
          rintro e w8 ⟨rfl, hb8⟩
          have HB8 : Hid (At6 Q w w8 T5 E1 f1 E2 f2) := HB5.out.on hb8
          clear hb8 a0 a1 a2 a3 a4 a5 af
          obtain ⟨a0, a1, a2, a3, a4, a5, af⟩ := row6 HB8.out.row
          by_cases hmv : 0 < T5.s2
          · have hmd : decide (0 < T5.s2) = true := by simpa using hmv
            rw [hmd]
            have HJ : Hid (rjoin T5 (k, x) = ⟨T5.seed, T5.s1, T5.l1, T5.s2, T5.l2 ++ [(k, x)], T5.ix⟩) := by show _ = _; unfold rjoin; rw [if_pos hmv]
            have HWT := with_any (Qx Q w) _ T5.l2 (by omega) k x w8 HB8.out.i2
            rw [List.length_append] at HWT
            have HWH : Hid _ := HWT
            clear HWT hmv
            go_wp2_with fail
            refine (show Calls _ _ _ _ _ from HWH.out).mono ?_
            rintro e w9 ⟨v9, rfl, ho9, hb9⟩
            obtain ⟨P9, k9, hkf⟩ := own_form ho9
            subst hkf
            have HA9 := HB8.out.on hb9
            have HI9 : IRow (Qx Q w) w9 _ (T5.l2 ++ [(k, x)]) := IRow.own_of ho9 (by rw [List.length_append]) (HB8.out.up HQ.out)
            have HA7 : Hid _ := HA9.put2 (by rw [List.length_append]) HI9
            clear a0 a1 a2 a3 a4 a5 af
            obtain ⟨a0, a1, a2, a3, a4, a5, af⟩ := row6 HA9.row
            clear HA9 HI9 ho9 hb9
            go_upto_region 23 with fail
            obtain ⟨W7, hW7⟩ : ∃ W7, W7 = w9.setCell ⟨w.heap.size, 4, none⟩ (.slice P9 (T5.l2.length + 1) k9) := ⟨_, rfl⟩
            have HA8 : Hid (At6 Q w W7 ⟨T5.seed, T5.s1, T5.l1, T5.s2, T5.l2 ++ [(k, x)], T5.ix⟩ E1 f1 P9 k9) := by rw [hW7]; exact HA7.out
            rw [← hW7]
            rw [← HJ.out] at HA8
            clear hW7 a0 a1 a2 a3 a4 a5 af HA7
            have HRF : Hid (Rel (setD D k x) (rjoin T5 (k, x))) := HREL.out
            generalize rjoin T5 (k, x) = T7 at *
            obtain ⟨a0, a1, a2, a3, a4, a5, af⟩ := row6 HA8.out.row
            obtain ⟨z0, z1, z2, z3, z4, z5, zf⟩ := row6 HA8.out.zero
            go_wp2
            obtain ⟨W', hW', hrw, hrv, hbw⟩ := HA8.out.fin
            change bodyPost _ _ _ _ _ (st6 W7 _ _ _ _ _ _ _)
            rw [← hW']
            have HRV : Hid _ := hrv
            have HBW : Hid _ := hbw
            obtain ⟨e0, e1, e2, e3, e4, e5, ef⟩ := row6 hrw
            clear hW' hrw hrv hbw
            refine bodyPost_ret (v := .tuple #[dval T7.seed T7.s1 (.slice E1 T7.l1.length f1) T7.s2 (.slice P9 T7.l2.length k9) T7.ix, .bool true]) (by simp [results, Try.results7, go_sem, e0, e1, e2, e3, e4, e5]) rfl ?_
            exact ⟨_, by rw [HHAS.out]; rfl, T7, HRV.out, HRF.out, HBW.out⟩
          · have hmd : decide (0 < T5.s2) = false := by simpa using hmv
            rw [hmd]
            have HJ : Hid (rjoin T5 (k, x) = ⟨T5.seed, T5.s1, T5.l1 ++ [(k, x)], T5.s2, T5.l2, T5.ix⟩) := by show _ = _; unfold rjoin; rw [if_neg hmv]
            have HWT := with_any (Qx Q w) _ T5.l1 (by omega) k x w8 HB8.out.i1
            rw [List.length_append] at HWT
            have HWH : Hid _ := HWT
            clear HWT hmv
            go_wp2_with fail
            refine (show Calls _ _ _ _ _ from HWH.out).mono ?_
            rintro e w9 ⟨v9, rfl, ho9, hb9⟩
            obtain ⟨P9, k9, hkf⟩ := own_form ho9
            subst hkf
            have HA9 := HB8.out.on hb9
            have HI9 : IRow (Qx Q w) w9 _ (T5.l1 ++ [(k, x)]) := IRow.own_of ho9 (by rw [List.length_append]) (HB8.out.up HQ.out)
            have HA7 : Hid _ := HA9.put1 (by rw [List.length_append]) HI9
            clear a0 a1 a2 a3 a4 a5 af
            obtain ⟨a0, a1, a2, a3, a4, a5, af⟩ := row6 HA9.row
            clear HA9 HI9 ho9 hb9
            go_upto_region 23 with fail
            obtain ⟨W7, hW7⟩ : ∃ W7, W7 = w9.setCell ⟨w.heap.size, 2, none⟩ (.slice P9 (T5.l1.length + 1) k9) := ⟨_, rfl⟩
            have HA8 : Hid (At6 Q w W7 ⟨T5.seed, T5.s1, T5.l1 ++ [(k, x)], T5.s2, T5.l2, T5.ix⟩ P9 k9 E2 f2) := by rw [hW7]; exact HA7.out
            rw [← hW7]
            rw [← HJ.out] at HA8
            clear hW7 a0 a1 a2 a3 a4 a5 af HA7
            have HRF : Hid (Rel (setD D k x) (rjoin T5 (k, x))) := HREL.out
            generalize rjoin T5 (k, x) = T7 at *
            obtain ⟨a0, a1, a2, a3, a4, a5, af⟩ := row6 HA8.out.row
            obtain ⟨z0, z1, z2, z3, z4, z5, zf⟩ := row6 HA8.out.zero
            go_wp2
            obtain ⟨W', hW', hrw, hrv, hbw⟩ := HA8.out.fin
            change bodyPost _ _ _ _ _ (st6 W7 _ _ _ _ _ _ _)
            rw [← hW']
            have HRV : Hid _ := hrv
            have HBW : Hid _ := hbw
            obtain ⟨e0, e1, e2, e3, e4, e5, ef⟩ := row6 hrw
            clear hW' hrw hrv hbw
            refine bodyPost_ret (v := .tuple #[dval T7.seed T7.s1 (.slice P9 T7.l1.length k9) T7.s2 (.slice E2 T7.l2.length f2) T7.ix, .bool true]) (by simp [results, Try.results7, go_sem, e0, e1, e2, e3, e4, e5]) rfl ?_
            exact ⟨_, by rw [HHAS.out]; rfl, T7, HRV.out, HRF.out, HBW.out⟩
        · have e5 : rroom T = T := by unfold rroom; rw [if_neg hz, if_neg hgrow]
          rw [e5] at HR5 HN5 HREL
          have HB5 : Hid (At6 Q w w15 T U1 d1 U2 d2) := HA15.out
          by_cases hm0 : T.s2 = 0
          · have hmd : decide (0 < T.s2) = false := by simp [hm0]
            rw [hmd]
            have hge : ¬ (T.s1 : Int) ≤ (T.l1.length : Int) := fun q => hgrow ⟨hm0, by omega⟩
            clear e5 hz hgrow hmd hm0
            go_upto_region 20 with fail
            clear a0 a1 a2 a3 a4 a5 af
            have hmn : T.l1.length + T.l2.length < 4398046511000 := HN5.out
            have HMV : Hid (∀ W : World, _) := fun W => moving_any T.seed T.s1 (.slice U1 T.l1.length d1) T.s2 (.slice U2 T.l2.length d2) T.ix W
            obtain ⟨a0, a1, a2, a3, a4, a5, af⟩ := row6 HB5.out.row
            go_wp2_with fail
            refine (show Calls _ _ _ _ _ from HMV.out _).mono ?_
            rintro e w8 ⟨rfl, hb8⟩
            have HB8 : Hid (At6 Q w w8 T U1 d1 U2 d2) := HB5.out.on hb8
            clear hb8 a0 a1 a2 a3 a4 a5 af
            obtain ⟨a0, a1, a2, a3, a4, a5, af⟩ := row6 HB8.out.row
            by_cases hmv : 0 < T.s2
            · have hmd : decide (0 < T.s2) = true := by simpa using hmv
              rw [hmd]
              have HJ : Hid (rjoin T (k, x) = ⟨T.seed, T.s1, T.l1, T.s2, T.l2 ++ [(k, x)], T.ix⟩) := by show _ = _; unfold rjoin; rw [if_pos hmv]
              have HWT := with_any (Qx Q w) _ T.l2 (by omega) k x w8 HB8.out.i2
              rw [List.length_append] at HWT
              have HWH : Hid _ := HWT
              clear HWT hmv
              go_wp2_with fail
              refine (show Calls _ _ _ _ _ from HWH.out).mono ?_
              rintro e w9 ⟨v9, rfl, ho9, hb9⟩
              obtain ⟨P9, k9, hkf⟩ := own_form ho9
              subst hkf
              have HA9 := HB8.out.on hb9
              have HI9 : IRow (Qx Q w) w9 _ (T.l2 ++ [(k, x)]) := IRow.own_of ho9 (by rw [List.length_append]) (HB8.out.up HQ.out)
              have HA7 : Hid _ := HA9.put2 (by rw [List.length_append]) HI9
              clear a0 a1 a2 a3 a4 a5 af
              obtain ⟨a0, a1, a2, a3, a4, a5, af⟩ := row6 HA9.row
              clear HA9 HI9 ho9 hb9
              go_upto_region 23 with fail
              obtain ⟨W7, hW7⟩ : ∃ W7, W7 = w9.setCell ⟨w.heap.size, 4, none⟩ (.slice P9 (T.l2.length + 1) k9) := ⟨_, rfl⟩
              have HA8 : Hid (At6 Q w W7 ⟨T.seed, T.s1, T.l1, T.s2, T.l2 ++ [(k, x)], T.ix⟩ U1 d1 P9 k9) := by rw [hW7]; exact HA7.out
              rw [← hW7]
              rw [← HJ.out] at HA8
              clear hW7 a0 a1 a2 a3 a4 a5 af HA7
              have HRF : Hid (Rel (setD D k x) (rjoin T (k, x))) := HREL.out
              generalize rjoin T (k, x) = T7 at *
              obtain ⟨a0, a1, a2, a3, a4, a5, af⟩ := row6 HA8.out.row
              obtain ⟨z0, z1, z2, z3, z4, z5, zf⟩ := row6 HA8.out.zero
              go_wp2
              obtain ⟨W', hW', hrw, hrv, hbw⟩ := HA8.out.fin
              change bodyPost _ _ _ _ _ (st6 W7 _ _ _ _ _ _ _)
              rw [← hW']
              have HRV : Hid _ := hrv
              have HBW : Hid _ := hbw
              obtain ⟨e0, e1, e2, e3, e4, e5, ef⟩ := row6 hrw
              clear hW' hrw hrv hbw
              refine bodyPost_ret (v := .tuple #[dval T7.seed T7.s1 (.slice U1 T7.l1.length d1) T7.s2 (.slice P9 T7.l2.length k9) T7.ix, .bool true]) (by simp [results, Try.results7, go_sem, e0, e1, e2, e3, e4, e5]) rfl ?_
              exact ⟨_, by rw [HHAS.out]; rfl, T7, HRV.out, HRF.out, HBW.out⟩
            · have hmd : decide (0 < T.s2) = false := by simpa using hmv
              rw [hmd]
              have HJ : Hid (rjoin T (k, x) = ⟨T.seed, T.s1, T.l1 ++ [(k, x)], T.s2, T.l2, T.ix⟩) := by show _ = _; unfold rjoin; rw [if_neg hmv]
              have HWT := with_any (Qx Q w) _ T.l1 (by omega) k x w8 HB8.out.i1
              rw [List.length_append] at HWT
              have HWH : Hid _ := HWT
              clear HWT hmv
              go_wp2_with fail
              refine (show Calls _ _ _ _ _ from HWH.out).mono ?_
              rintro e w9 ⟨v9, rfl, ho9, hb9⟩
              obtain ⟨P9, k9, hkf⟩ := own_form ho9
              subst hkf
              have HA9 := HB8.out.on hb9
              have HI9 : IRow (Qx Q w) w9 _ (T.l1 ++ [(k, x)]) := IRow.own_of ho9 (by rw [List.length_append]) (HB8.out.up HQ.out)
              have HA7 : Hid _ := HA9.put1 (by rw [List.length_append]) HI9
              clear a0 a1 a2 a3 a4 a5 af
              obtain ⟨a0, a1, a2, a3, a4, a5, af⟩ := row6 HA9.row
              clear HA9 HI9 ho9 hb9
              go_upto_region 23 with fail
              obtain ⟨W7, hW7⟩ : ∃ W7, W7 = w9.setCell ⟨w.heap.size, 2, none⟩ (.slice P9 (T.l1.length + 1) k9) := ⟨_, rfl⟩
              have HA8 : Hid (At6 Q w W7 ⟨T.seed, T.s1, T.l1 ++ [(k, x)], T.s2, T.l2, T.ix⟩ P9 k9 U2 d2) := by rw [hW7]; exact HA7.out
              rw [← hW7]
              rw [← HJ.out] at HA8
              clear hW7 a0 a1 a2 a3 a4 a5 af HA7
              have HRF : Hid (Rel (setD D k x) (rjoin T (k, x))) := HREL.out
              generalize rjoin T (k, x) = T7 at *
              obtain ⟨a0, a1, a2, a3, a4, a5, af⟩ := row6 HA8.out.row
              obtain ⟨z0, z1, z2, z3, z4, z5, zf⟩ := row6 HA8.out.zero
              go_wp2
              obtain ⟨W', hW', hrw, hrv, hbw⟩ := HA8.out.fin
              change bodyPost _ _ _ _ _ (st6 W7 _ _ _ _ _ _ _)
              rw [← hW']
              have HRV : Hid _ := hrv
              have HBW : Hid _ := hbw
              obtain ⟨e0, e1, e2, e3, e4, e5, ef⟩ := row6 hrw
              clear hW' hrw hrv hbw
              refine bodyPost_ret (v := .tuple #[dval T7.seed T7.s1 (.slice P9 T7.l1.length k9) T7.s2 (.slice U2 T7.l2.length d2) T7.ix, .bool true]) (by simp [results, Try.results7, go_sem, e0, e1, e2, e3, e4, e5]) rfl ?_
              exact ⟨_, by rw [HHAS.out]; rfl, T7, HRV.out, HRF.out, HBW.out⟩
          · have hmd : decide (0 < T.s2) = true := by simp; omega
            rw [hmd]
            clear e5 hz hgrow hmd hm0
            go_upto_region 20 with fail
            clear a0 a1 a2 a3 a4 a5 af
            have hmn : T.l1.length + T.l2.length < 4398046511000 := HN5.out
            have HMV : Hid (∀ W : World, _) := fun W => moving_any T.seed T.s1 (.slice U1 T.l1.length d1) T.s2 (.slice U2 T.l2.length d2) T.ix W
            obtain ⟨a0, a1, a2, a3, a4, a5, af⟩ := row6 HB5.out.row
            go_wp2_with fail
            refine (show Calls _ _ _ _ _ from HMV.out _).mono ?_
            rintro e w8 ⟨rfl, hb8⟩
            have HB8 : Hid (At6 Q w w8 T U1 d1 U2 d2) := HB5.out.on hb8
            clear hb8 a0 a1 a2 a3 a4 a5 af
            obtain ⟨a0, a1, a2, a3, a4, a5, af⟩ := row6 HB8.out.row
            by_cases hmv : 0 < T.s2
            · have hmd : decide (0 < T.s2) = true := by simpa using hmv
              rw [hmd]
              have HJ : Hid (rjoin T (k, x) = ⟨T.seed, T.s1, T.l1, T.s2, T.l2 ++ [(k, x)], T.ix⟩) := by show _ = _; unfold rjoin; rw [if_pos hmv]
              have HWT := with_any (Qx Q w) _ T.l2 (by omega) k x w8 HB8.out.i2
              rw [List.length_append] at HWT
              have HWH : Hid _ := HWT
              clear HWT hmv
              go_wp2_with fail
              refine (show Calls _ _ _ _ _ from HWH.out).mono ?_
              rintro e w9 ⟨v9, rfl, ho9, hb9⟩
              obtain ⟨P9, k9, hkf⟩ := own_form ho9
              subst hkf
              have HA9 := HB8.out.on hb9
              have HI9 : IRow (Qx Q w) w9 _ (T.l2 ++ [(k, x)]) := IRow.own_of ho9 (by rw [List.length_append]) (HB8.out.up HQ.out)
              have HA7 : Hid _ := HA9.put2 (by rw [List.length_append]) HI9
              clear a0 a1 a2 a3 a4 a5 af
              obtain ⟨a0, a1, a2, a3, a4, a5, af⟩ := row6 HA9.row
              clear HA9 HI9 ho9 hb9
              go_upto_region 23 with fail
              obtain ⟨W7, hW7⟩ : ∃ W7, W7 = w9.setCell ⟨w.heap.size, 4, none⟩ (.slice P9 (T.l2.length + 1) k9) := ⟨_, rfl⟩
              have HA8 : Hid (At6 Q w W7 ⟨T.seed, T.s1, T.l1, T.s2, T.l2 ++ [(k, x)], T.ix⟩ U1 d1 P9 k9) := by rw [hW7]; exact HA7.out
              rw [← hW7]
              rw [← HJ.out] at HA8
              clear hW7 a0 a1 a2 a3 a4 a5 af HA7
              have HRF : Hid (Rel (setD D k x) (rjoin T (k, x))) := HREL.out
              generalize rjoin T (k, x) = T7 at *
              obtain ⟨a0, a1, a2, a3, a4, a5, af⟩ := row6 HA8.out.row
              obtain ⟨z0, z1, z2, z3, z4, z5, zf⟩ := row6 HA8.out.zero
              go_wp2
              obtain ⟨W', hW', hrw, hrv, hbw⟩ := HA8.out.fin
              change bodyPost _ _ _ _ _ (st6 W7 _ _ _ _ _ _ _)
              rw [← hW']
              have HRV : Hid _ := hrv
              have HBW : Hid _ := hbw
              obtain ⟨e0, e1, e2, e3, e4, e5, ef⟩ := row6 hrw
              clear hW' hrw hrv hbw
              refine bodyPost_ret (v := .tuple #[dval T7.seed T7.s1 (.slice U1 T7.l1.length d1) T7.s2 (.slice P9 T7.l2.length k9) T7.ix, .bool true]) (by simp [results, Try.results7, go_sem, e0, e1, e2, e3, e4, e5]) rfl ?_
              exact ⟨_, by rw [HHAS.out]; rfl, T7, HRV.out, HRF.out, HBW.out⟩
            · have hmd : decide (0 < T.s2) = false := by simpa using hmv
              rw [hmd]
              have HJ : Hid (rjoin T (k, x) = ⟨T.seed, T.s1, T.l1 ++ [(k, x)], T.s2, T.l2, T.ix⟩) := by show _ = _; unfold rjoin; rw [if_neg hmv]
              have HWT := with_any (Qx Q w) _ T.l1 (by omega) k x w8 HB8.out.i1
              rw [List.length_append] at HWT
              have HWH : Hid _ := HWT
              clear HWT hmv
              go_wp2_with fail
              refine (show Calls _ _ _ _ _ from HWH.out).mono ?_
              rintro e w9 ⟨v9, rfl, ho9, hb9⟩
              obtain ⟨P9, k9, hkf⟩ := own_form ho9
              subst hkf
              have HA9 := HB8.out.on hb9
              have HI9 : IRow (Qx Q w) w9 _ (T.l1 ++ [(k, x)]) := IRow.own_of ho9 (by rw [List.length_append]) (HB8.out.up HQ.out)
              have HA7 : Hid _ := HA9.put1 (by rw [List.length_append]) HI9
              clear a0 a1 a2 a3 a4 a5 af
              obtain ⟨a0, a1, a2, a3, a4, a5, af⟩ := row6 HA9.row
              clear HA9 HI9 ho9 hb9
              go_upto_region 23 with fail
              obtain ⟨W7, hW7⟩ : ∃ W7, W7 = w9.setCell ⟨w.heap.size, 2, none⟩ (.slice P9 (T.l1.length + 1) k9) := ⟨_, rfl⟩
              have HA8 : Hid (At6 Q w W7 ⟨T.seed, T.s1, T.l1 ++ [(k, x)], T.s2, T.l2, T.ix⟩ P9 k9 U2 d2) := by rw [hW7]; exact HA7.out
              rw [← hW7]
              rw [← HJ.out] at HA8
              clear hW7 a0 a1 a2 a3 a4 a5 af HA7
              have HRF : Hid (Rel (setD D k x) (rjoin T (k, x))) := HREL.out
              generalize rjoin T (k, x) = T7 at *
              obtain ⟨a0, a1, a2, a3, a4, a5, af⟩ := row6 HA8.out.row
              obtain ⟨z0, z1, z2, z3, z4, z5, zf⟩ := row6 HA8.out.zero
              go_wp2
              obtain ⟨W', hW', hrw, hrv, hbw⟩ := HA8.out.fin
              change bodyPost _ _ _ _ _ (st6 W7 _ _ _ _ _ _ _)
              rw [← hW']
              have HRV : Hid _ := hrv
              have HBW : Hid _ := hbw
              obtain ⟨e0, e1, e2, e3, e4, e5, ef⟩ := row6 hrw
              clear hW' hrw hrv hbw
              refine bodyPost_ret (v := .tuple #[dval T7.seed T7.s1 (.slice P9 T7.l1.length k9) T7.s2 (.slice U2 T7.l2.length d2) T7.ix, .bool true]) (by simp [results, Try.results7, go_sem, e0, e1, e2, e3, e4, e5]) rfl ?_
              exact ⟨_, by rw [HHAS.out]; rfl, T7, HRV.out, HRF.out, HBW.out⟩
    · have hk2 : thas (stepD D).seed (stepD D).T2 k = true := h2i.2 (List.mem_map.2 ⟨_, List.getElem_mem hj, hjk⟩)
      have hhas : (stepD D).has k = true := by unfold DS.has; rw [hk2, Bool.or_true]
      have HREL : Hid (∀ j (hj : j < T.l2.length), T.l2[j].1 = k → Rel (setD D k x) ⟨T.seed, T.s1, T.l1, T.s2, T.l2.set j (k, x), T.ix⟩) := fun j hj hjk => by
        have := HRT.out.put2 HDS.out x hk2 hj hjk
        unfold setD; rw [if_neg (by rw [hf1]; exact Bool.false_ne_true), if_pos hk2]; exact this
      have HHAS : Hid _ := hhas
      clear h2i hk2 hhas hf1
      have hz0 : (0 : Int) ≤ (j : Int) := by omega
      have hz1 : (j : Int) < (T.l2.length : Int) := by omega
      have HO : Hid (w14.ownsRow w14.heap.size 63 2 (.slice none 0 0) 0 (flat [])) := ⟨rfl, Or.inl ⟨rfl, rfl⟩⟩
      obtain ⟨a0, a1, a2, a3, a4, a5, af⟩ := row6 HA14.out.row
      go_upto_region 12 with fail
      go_wp2_with (at_builtin; go_must (refine wpList_append_items rfl _ _ rfl w14.heap.size _ [] 0 rfl rfl HO.out (Qx Q w) _ T.l2 rfl HA14.out.i2 T.l2.length (by simp) ?o2 (Nat.le_refl _) ?_))
      case o2 => simp; omega
      intro v5 w5 ho5 hg5
      have hb5 : Below w14.heap.size w14 w5 := (Below.refl _ _).grown hg5 (Nat.le_refl _) (fun q hq => by cases hq)
      have HA5 : Hid _ := HA14.out.on hb5
      obtain ⟨L, kL, rfl⟩ : ∃ L kL, v5 = .slice (some ⟨L, 0, none⟩) T.l2.length kL := by
        rcases ho5.2 with ⟨_, q⟩ | ⟨L, kL, cur, e, _⟩
        · exact absurd q (by omega)
        · exact ⟨L, kL, e⟩
      obtain ⟨s1, s2⟩ := ho5.stored (j * 2 + 1) (.int .i64 x)
      rw [flat_put hj x, hjk] at s1
      have hb6 : Below w14.heap.size w14 (w5.setCell ⟨L, j * 2 + 1, none⟩ (.int .i64 x)) := hb5.grown s2 hb5.size (fun q hq => (World.ownsRow.lt ho5 q hq).1)
      have HA6 : Hid (At6 Q w (w5.setCell ⟨L, j * 2 + 1, none⟩ (.int .i64 x)) T U1 d1 U2 d2) := HA14.out.on hb6
      have HI6 : Hid (IRow (Qx Q w) (w5.setCell ⟨L, j * 2 + 1, none⟩ (.int .i64 x)) (.slice (some ⟨L, 0, none⟩) T.l2.length kL) (T.l2.set j (k, x))) := IRow.own_of s1 (by rw [List.length_set]) (HA14.out.up HQ.out)
      have p1 := ho5.cellAt (j * 2 + 1) (by omega)
      rw [(flat_get T.l2 j hj).2] at p1
      have p2 := ho5.frozenAt (j * 2 + 1)
      clear a0 a1 a2 a3 a4 a5 af
      obtain ⟨a0, a1, a2, a3, a4, a5, af⟩ := row6 HA5.out.row
      clear ho5 hg5 hb5 hb6 s1 s2
      go_upto_region 14 with fail
      obtain ⟨W6, hW6⟩ : ∃ W6, W6 = w5.setCell ⟨L, j * 2 + 1, none⟩ (.int .i64 x) := ⟨_, rfl⟩
      rw [← hW6] at HA6 HI6 ⊢
      clear hW6 p1 p2 a0 a1 a2 a3 a4 a5 af
      obtain ⟨a0, a1, a2, a3, a4, a5, af⟩ := row6 HA6.out.row
      have HA7 : Hid _ := HA6.out.put2 (by rw [List.length_set]) HI6.out
      go_upto_region 15 with fail
      obtain ⟨W7, hW7⟩ : ∃ W7, W7 = W6.setCell ⟨w.heap.size, 4, none⟩ (.slice (some ⟨L, 0, none⟩) T.l2.length kL) := ⟨_, rfl⟩
      rw [← hW7] at HA7 ⊢
      clear hW7 a0 a1 a2 a3 a4 a5 af
      obtain ⟨T7, hT7⟩ : ∃ T7 : RD, T7 = (⟨T.seed, T.s1, T.l1, T.s2, T.l2.set j (k, x), T.ix⟩ : RD) := ⟨_, rfl⟩
      rw [← hT7] at HA7
      have HRF : Hid (Rel (setD D k x) T7) := by
        show Rel _ _
        rw [hT7]
        exact HREL.out j hj hjk
      clear hT7
      obtain ⟨a0, a1, a2, a3, a4, a5, af⟩ := row6 HA7.out.row
      obtain ⟨z0, z1, z2, z3, z4, z5, zf⟩ := row6 HA7.out.zero
      go_wp2
      obtain ⟨W', hW', hrw, hrv, hbw⟩ := HA7.out.fin
      change bodyPost _ _ _ _ _ (st6 W7 _ _ _ _ _ _ _)
      rw [← hW']
      have HRV : Hid _ := hrv
      have HBW : Hid _ := hbw
      obtain ⟨e0, e1, e2, e3, e4, e5, ef⟩ := row6 hrw
      clear hW' hrw hrv hbw
      refine bodyPost_ret (v := .tuple #[dval T7.seed T7.s1 (.slice U1 T7.l1.length d1) T7.s2 (.slice (some ⟨L, 0, none⟩) T7.l2.length kL) T7.ix, .bool false]) (by simp [results, Try.results7, go_sem, e0, e1, e2, e3, e4, e5]) rfl ?_
      exact ⟨_, by rw [HHAS.out]; rfl, T7, HRV.out, HRF.out, HBW.out⟩
  · have hk1 : thas (stepD D).seed (stepD D).T1 k = true := h1i.2 (List.mem_map.2 ⟨_, List.getElem_mem hj, hjk⟩)
    have hhas : (stepD D).has k = true := by unfold DS.has; rw [hk1]; rfl
    have HREL : Hid (∀ j (hj : j < T.l1.length), T.l1[j].1 = k → Rel (setD D k x) ⟨T.seed, T.s1, T.l1.set j (k, x), T.s2, T.l2, T.ix⟩) := fun j hj hjk => by
      have := HRT.out.put1 HDS.out x hk1 hj hjk
      unfold setD; rw [if_pos hk1]; exact this
    have HHAS : Hid _ := hhas
    clear h1i h2i hk1 hhas
    have hz0 : (0 : Int) ≤ (j : Int) := by omega
    have hz1 : (j : Int) < (T.l1.length : Int) := by omega
    have HO : Hid (w4.ownsRow w4.heap.size 63 2 (.slice none 0 0) 0 (flat [])) := ⟨rfl, Or.inl ⟨rfl, rfl⟩⟩
    obtain ⟨a0, a1, a2, a3, a4, a5, af⟩ := row6 HA4.out.row
    go_upto_region 5 with fail
    go_wp2_with (at_builtin; go_must (refine wpList_append_items rfl _ _ rfl w4.heap.size _ [] 0 rfl rfl HO.out (Qx Q w) _ T.l1 rfl HA4.out.i1 T.l1.length (by simp) ?o1 (Nat.le_refl _) ?_))
    case o1 => simp; omega
    intro v5 w5 ho5 hg5
    have hb5 : Below w4.heap.size w4 w5 := (Below.refl _ _).grown hg5 (Nat.le_refl _) (fun q hq => by cases hq)
    have HA5 : Hid _ := HA4.out.on hb5
    obtain ⟨L, kL, rfl⟩ : ∃ L kL, v5 = .slice (some ⟨L, 0, none⟩) T.l1.length kL := by
      rcases ho5.2 with ⟨_, q⟩ | ⟨L, kL, cur, e, _⟩
      · exact absurd q (by omega)
      · exact ⟨L, kL, e⟩
    obtain ⟨s1, s2⟩ := ho5.stored (j * 2 + 1) (.int .i64 x)
    rw [flat_put hj x, hjk] at s1
    have hb6 : Below w4.heap.size w4 (w5.setCell ⟨L, j * 2 + 1, none⟩ (.int .i64 x)) := hb5.grown s2 hb5.size (fun q hq => (World.ownsRow.lt ho5 q hq).1)
    have HA6 : Hid (At6 Q w (w5.setCell ⟨L, j * 2 + 1, none⟩ (.int .i64 x)) T U1 d1 U2 d2) := HA4.out.on hb6
    have HI6 : Hid (IRow (Qx Q w) (w5.setCell ⟨L, j * 2 + 1, none⟩ (.int .i64 x)) (.slice (some ⟨L, 0, none⟩) T.l1.length kL) (T.l1.set j (k, x))) := IRow.own_of s1 (by rw [List.length_set]) (HA4.out.up HQ.out)
    have p1 := ho5.cellAt (j * 2 + 1) (by omega)
    rw [(flat_get T.l1 j hj).2] at p1
    have p2 := ho5.frozenAt (j * 2 + 1)
    clear a0 a1 a2 a3 a4 a5 af
    obtain ⟨a0, a1, a2, a3, a4, a5, af⟩ := row6 HA5.out.row
    clear ho5 hg5 hb5 hb6 s1 s2
    go_upto_region 7 with fail
    obtain ⟨W6, hW6⟩ : ∃ W6, W6 = w5.setCell ⟨L, j * 2 + 1, none⟩ (.int .i64 x) := ⟨_, rfl⟩
    rw [← hW6] at HA6 HI6 ⊢
    clear hW6 p1 p2 a0 a1 a2 a3 a4 a5 af
    obtain ⟨a0, a1, a2, a3, a4, a5, af⟩ := row6 HA6.out.row
    have HA7 : Hid _ := HA6.out.put1 (by rw [List.length_set]) HI6.out
    go_upto_region 8 with fail
    obtain ⟨W7, hW7⟩ : ∃ W7, W7 = W6.setCell ⟨w.heap.size, 2, none⟩ (.slice (some ⟨L, 0, none⟩) T.l1.length kL) := ⟨_, rfl⟩
    rw [← hW7] at HA7 ⊢
    clear hW7 a0 a1 a2 a3 a4 a5 af
    obtain ⟨T7, hT7⟩ : ∃ T7 : RD, T7 = (⟨T.seed, T.s1, T.l1.set j (k, x), T.s2, T.l2, T.ix⟩ : RD) := ⟨_, rfl⟩
    rw [← hT7] at HA7
    have HRF : Hid (Rel (setD D k x) T7) := by
      show Rel _ _
      rw [hT7]
      exact HREL.out j hj hjk
    clear hT7
    obtain ⟨a0, a1, a2, a3, a4, a5, af⟩ := row6 HA7.out.row
    obtain ⟨z0, z1, z2, z3, z4, z5, zf⟩ := row6 HA7.out.zero
    go_wp2
    obtain ⟨W', hW', hrw, hrv, hbw⟩ := HA7.out.fin
    change bodyPost _ _ _ _ _ (st6 W7 _ _ _ _ _ _ _)
    rw [← hW']
    have HRV : Hid _ := hrv
    have HBW : Hid _ := hbw
    obtain ⟨e0, e1, e2, e3, e4, e5, ef⟩ := row6 hrw
    clear hW' hrw hrv hbw
    refine bodyPost_ret (v := .tuple #[dval T7.seed T7.s1 (.slice (some ⟨L, 0, none⟩) T7.l1.length kL) T7.s2 (.slice U2 T7.l2.length d2) T7.ix, .bool false]) (by simp [results, Try.results7, go_sem, e0, e1, e2, e3, e4, e5]) rfl ?_
    exact ⟨_, by rw [HHAS.out]; rfl, T7, HRV.out, HRF.out, HBW.out⟩
end Go.Proofs.Ytdemodhjlbkbeab
