import Derived.Test.YtdemodhjlbkbeabSA
namespace Go.Proofs.Ytdemodhjlbkbeab
open Go.RowKit
set_option linter.unusedVariables false
theorem cut_bound {S : DS} (h : DInv S) {k : ByteArray} (hk : S.has k = true) (hc : cnt S.T1 + cnt S.T2 ≤ 4398046511000) : cnt (endD (cutD S k)).T1 ≤ 4398046511000 ∧ (endD (cutD S k)).T1.length ≤ 4398046511104 := by
  have hs1 := h.sz1
  have hs2 := h.sz2
  have key : cnt (cutD S k).T1 + cnt (cutD S k).T2 ≤ 4398046511000 ∧ (cutD S k).T1.length ≤ 4398046511104 ∧ (cutD S k).T2.length ≤ 4398046511104 := by
    unfold cutD
    by_cases h1 : thas S.seed S.T1 k = true
    · rw [if_pos h1]
      obtain ⟨v, _, hp⟩ := tdrop_wf h.wf1 h1
      have := hp.length_eq
      refine ⟨?_, by rw [tdrop_len]; exact hs1, hs2⟩
      show cnt (tdrop S.seed S.T1 k) + cnt S.T2 ≤ _
      unfold cnt at *
      simp only [List.length_cons] at this
      omega
    · rw [if_neg h1]
      have h2 : thas S.seed S.T2 k = true := by
        unfold DS.has at hk
        rcases Bool.or_eq_true .. ▸ hk with q | q
        · exact absurd q h1
        · exact q
      obtain ⟨v, _, hp⟩ := tdrop_wf h.wf2 h2
      have := hp.length_eq
      refine ⟨?_, hs1, by rw [tdrop_len]; exact hs2⟩
      show cnt S.T1 + cnt (tdrop S.seed S.T2 k) ≤ _
      unfold cnt at *
      simp only [List.length_cons] at this
      omega
  unfold endD
  split
  · exact ⟨by show cnt (cutD S k).T2 ≤ _; omega, key.2.2⟩
  · exact ⟨by omega, key.2.1⟩
set_option maxHeartbeats 6000000 in
set_option maxRecDepth 100000 in
theorem Delete_rel (Q : Nat → Prop) (v : Value) (D : DS) (R : RD) (hD : DInv D) (hr : Rel D R) (hc : cnt D.T1 + cnt D.T2 < 4398046511000) (k : ByteArray) (hk : k.size ≤ 281474976710656) (w : World) (hQ : ∀ q, w.heap.size ≤ q → Q q) (h : RV Q w v R) : Calls Try.prog 9 #[v, .string k] w fun e w' => ∃ v', e = .returned (.tuple #[v', .bool ((stepD D).has k)]) ∧ ∃ R', RV Q w' v' R' ∧ Rel (deleteD D k) R' ∧ Below w.heap.size w w' := by
  obtain ⟨v1, v2, rfl, h1, h2⟩ := h
  obtain ⟨P1, c1, rfl⟩ := h1.form
  obtain ⟨P2, c2, rfl⟩ := h2.form
  have HST : Hid _ := step_rel (Qx Q w) _ D R hD hr (by omega) _ ((At6.start h1 h2).up hQ) (At6.start h1 h2).rv
  have HA : Hid _ := At6.start h1 h2
  have HQ : Hid (∀ q, w.heap.size ≤ q → Q q) := hQ
  clear h1 h2 hr hQ
  go_enter Try.func9, Try.ntmps9
  go_wp2_with fail
  refine (show Calls _ _ _ _ _ from HST.out).mono ?_
  rintro e w2 ⟨v', rfl, T, hv', hrT, hb2⟩
  have hA2 := HA.out.on hb2
  obtain ⟨u1, u2, rfl, r1, r2⟩ := hv'
  obtain ⟨U1, d1, rfl⟩ := r1.form
  obtain ⟨U2, d2, rfl⟩ := r2.form
  obtain ⟨a0, a1, a2, a3, a4, a5, af⟩ := row6 hA2.row
  obtain ⟨W3, hW3⟩ : ∃ W3, W3 = st6 w2 w.heap.size (.int .i64 T.seed) (.int .i64 (T.s1 : Int)) (.slice U1 T.l1.length d1) (.int .i64 (T.s2 : Int)) (.slice U2 T.l2.length d2) (.int .i64 (T.ix : Int)) := ⟨_, rfl⟩
  have HA3 : Hid (At6 Q w W3 T U1 d1 U2 d2) := by rw [hW3]; exact hA2.store r1 r2
  have HRT : Hid (Rel (stepD D) T) := hrT
  obtain ⟨q1, q2, q3⟩ := stepD_ok hD
  have hcS := cnt_perm q2
  have HDS : Hid (DInv (stepD D)) := q1
  have HRM : Hid _ := stepD_room hD
  clear hA2 r1 r2 hb2 hrT q1 q2 q3
  go_upto_region 2 with fail
  change Code.wp _ _ _ _ (st6 w2 _ _ _ _ _ _ _)
  rw [← hW3]
  clear hW3 a0 a1 a2 a3 a4 a5 af
  obtain ⟨a0, a1, a2, a3, a4, a5, af⟩ := row6 HA3.out.row
  have hTn : T.l1.length + T.l2.length < 4398046511000 := by rw [← HRT.out.c1, ← HRT.out.c2]; omega
  have HAT1 : Hid _ := at_any (Qx Q w) T.s1 _ T.l1 (by omega) k W3 HA3.out.i1
  go_wp2_with fail
  refine (show Calls _ _ _ _ _ from HAT1.out).mono ?_
  rintro e w4 ⟨hb4, hcase1⟩
  have HA4 : Hid (At6 Q w w4 T U1 d1 U2 d2) := HA3.out.on hb4
  clear hb4 a0 a1 a2 a3 a4 a5 af HST
  have h1i := HRT.out.has1 HDS.out k
  have h2i := HRT.out.has2 HDS.out k
  have HCB' : (stepD D).has k = true → cnt (endD (cutD (stepD D) k)).T1 ≤ 4398046511000 ∧ (endD (cutD (stepD D) k)).T1.length ≤ 4398046511104 := fun hh => cut_bound HDS.out hh (by omega)
  have HAT2 : Hid _ := at_any (Qx Q w) T.s2 _ T.l2 (by omega) k w4 HA4.out.i2
  obtain ⟨a0, a1, a2, a3, a4, a5, af⟩ := row6 HA4.out.row
  rcases hcase1 with ⟨rfl, hno1⟩ | ⟨j, hj, rfl, hjk⟩
  · have hf1 := no_of h1i hno1
    go_wp2_with fail
    refine (show Calls _ _ _ _ _ from HAT2.out).mono ?_
    rintro e w14 ⟨hb14, hcase⟩
    have HA14 : Hid (At6 Q w w14 T U1 d1 U2 d2) := HA4.out.on hb14
    clear hb14 a0 a1 a2 a3 a4 a5 af
    rcases hcase with ⟨rfl, hno⟩ | ⟨j, hj, rfl, hjk⟩
    · have hf2 := no_of h2i hno
      have hhas : (stepD D).has k = false := by unfold DS.has; rw [hf1, hf2]; rfl
      have HHAS : Hid _ := hhas
      have HRF : Hid (Rel (deleteD D k) T) := by
        show Rel _ _
        unfold deleteD; rw [if_neg (by rw [hhas]; exact Bool.false_ne_true)]; exact HRT.out
      clear h1i h2i hno hno1 hf1 hf2 hhas HCB'
      obtain ⟨a0, a1, a2, a3, a4, a5, af⟩ := row6 HA14.out.row
      obtain ⟨z0, z1, z2, z3, z4, z5, zf⟩ := row6 HA14.out.zero
      go_wp2
      obtain ⟨W', hW', hrw, hrv, hbw⟩ := HA14.out.fin
      change bodyPost _ _ _ _ _ (st6 w14 _ _ _ _ _ _ _)
      rw [← hW']
      have HRV : Hid _ := hrv
      have HBW : Hid _ := hbw
      obtain ⟨e0, e1, e2, e3, e4, e5, ef⟩ := row6 hrw
      clear hW' hrw hrv hbw
      refine bodyPost_ret (v := .tuple #[dval T.seed T.s1 (.slice U1 T.l1.length d1) T.s2 (.slice U2 T.l2.length d2) T.ix, .bool false]) (by simp [results, Try.results9, go_sem, e0, e1, e2, e3, e4, e5]) rfl ?_
      exact ⟨_, by rw [HHAS.out], T, HRV.out, HRF.out, HBW.out⟩
    · have hk2 : thas (stepD D).seed (stepD D).T2 k = true := h2i.2 (List.mem_map.2 ⟨_, List.getElem_mem hj, hjk⟩)
      have hhas : (stepD D).has k = true := by unfold DS.has; rw [hk2, Bool.or_true]
      have HREL : Hid (∀ j (hj : j < T.l2.length), T.l2[j].1 = k → Rel (cutD (stepD D) k) ⟨T.seed, T.s1, T.l1, T.s2, T.l2.take j ++ T.l2.drop (j + 1), T.ix⟩) := fun j hj hjk => HRT.out.drop2 HDS.out hf1 hk2 hj hjk
      have HHAS : Hid _ := hhas
      have HCB : Hid _ := HCB' hhas
      have hz0 : (0 : Int) ≤ (j : Int) := by omega
      clear h1i h2i hk2 hhas hf1 hno1 HCB'
      have HWO' := without_any (Qx Q w) _ T.l2 (by omega) j hj w14 HA14.out.i2
      have HCUT : Hid (Rel (cutD (stepD D) k) ⟨T.seed, T.s1, T.l1, T.s2, T.l2.take j ++ T.l2.drop (j + 1), T.ix⟩) := HREL.out j hj hjk
      obtain ⟨M1, hM1⟩ : ∃ M1, (T.l2.take j ++ T.l2.drop (j + 1)).length = M1 := ⟨_, rfl⟩
      rw [hM1] at HWO'
      have HWO : Hid _ := HWO'
      have HM1 : Hid _ := hM1
      have hM1b : M1 ≤ T.l2.length := by rw [← hM1, List.length_append, List.length_take, List.length_drop]; omega
      clear HWO' hM1
      obtain ⟨a0, a1, a2, a3, a4, a5, af⟩ := row6 HA14.out.row
      go_wp2_with fail
      refine (show Calls _ _ _ _ _ from HWO.out).mono ?_
      rintro e w9 ⟨v9, rfl, ho9, hb9⟩
      obtain ⟨P9, k9, hkf⟩ := own_form ho9
      subst hkf
      have HA9 := HA14.out.on hb9
      have HI9 : IRow (Qx Q w) w9 _ (T.l2.take j ++ T.l2.drop (j + 1)) := IRow.own_of ho9 HM1.out.symm (HA14.out.up HQ.out)
      have HA7 : Hid _ := HA9.put2 HM1.out.symm HI9
      clear a0 a1 a2 a3 a4 a5 af
      obtain ⟨a0, a1, a2, a3, a4, a5, af⟩ := row6 HA9.row
      clear HA9 HI9 ho9 hb9
      go_upto_region 9 with fail
      obtain ⟨W7, hW7⟩ : ∃ W7, W7 = w9.setCell ⟨w.heap.size, 4, none⟩ (.slice P9 M1 k9) := ⟨_, rfl⟩
      have HA8 : Hid (At6 Q w W7 ⟨T.seed, T.s1, T.l1, T.s2, T.l2.take j ++ T.l2.drop (j + 1), T.ix⟩ U1 d1 P9 k9) := by rw [hW7]; exact HA7.out
      rw [← hW7]
      clear hW7 a0 a1 a2 a3 a4 a5 af HA7
      obtain ⟨T7, hT7⟩ : ∃ T7 : RD, T7 = ⟨T.seed, T.s1, T.l1, T.s2, T.l2.take j ++ T.l2.drop (j + 1), T.ix⟩ := ⟨_, rfl⟩
      rw [← hT7] at HA8 HCUT
      clear hT7
      have HRG : Hid (Rel (deleteD D k) (rgive (rover T7))) := by
        show Rel _ _
        unfold deleteD; rw [if_pos HHAS.out]; exact HCUT.out.over.give
      have HOV : Hid _ := Over_any (Qx Q w) _ T7 W7 HA8.out.rv
      have HNB : Hid ((rover T7).l1.length ≤ 4398046511000 ∧ (rover T7).s1 ≤ 4398046511104) := by
        have q1 := HCUT.out.over
        refine ⟨?_, ?_⟩
        · rw [← q1.c1]; exact HCB.out.1
        · rw [q1.s1]; exact HCB.out.2
      obtain ⟨a0, a1, a2, a3, a4, a5, af⟩ := row6 HA8.out.row
      go_wp2_with fail
      refine (show Calls _ _ _ _ _ from HOV.out).mono ?_
      rintro e w10 ⟨v10, rfl, hv10, hb10⟩
      have hA10 := HA8.out.on hb10
      obtain ⟨u1, u2, rfl, r1, r2⟩ := hv10
      obtain ⟨E1, f1, rfl⟩ := r1.form
      obtain ⟨E2, f2, rfl⟩ := r2.form
      clear a0 a1 a2 a3 a4 a5 af
      obtain ⟨a0, a1, a2, a3, a4, a5, af⟩ := row6 hA10.row
      have HB' : Hid _ := hA10.store r1 r2
      clear hA10 r1 r2 hb10
      generalize rover T7 = T8 at *
      go_upto_region 10 with fail
      obtain ⟨W8, hW8⟩ : ∃ W8, W8 = st6 w10 w.heap.size (.int .i64 T8.seed) (.int .i64 (T8.s1 : Int)) (.slice E1 T8.l1.length f1) (.int .i64 (T8.s2 : Int)) (.slice E2 T8.l2.length f2) (.int .i64 (T8.ix : Int)) := ⟨_, rfl⟩
      change Code.wp _ _ _ _ (st6 w10 _ _ _ _ _ _ _)
      rw [← hW8] at HB' ⊢
      have HB8 : Hid (At6 Q w W8 T8 E1 f1 E2 f2) := HB'.out
      clear hW8 a0 a1 a2 a3 a4 a5 af HB'
      obtain ⟨a0, a1, a2, a3, a4, a5, af⟩ := row6 HB8.out.row
      have HMV : Hid (∀ W : World, _) := fun W => moving_any T8.seed T8.s1 (.slice E1 T8.l1.length f1) T8.s2 (.slice E2 T8.l2.length f2) T8.ix W
      have hnb := HNB.out.1
      have hsb := HNB.out.2
      have hw8 : IntKind.i64.wrap (8 * (T8.l1.length : Int)) = 8 * (T8.l1.length : Int) := by rw [IntKind.wrap_i64] <;> omega
      go_wp2_with fail
      refine (show Calls _ _ _ _ _ from HMV.out _).mono ?_
      rintro e w11 ⟨rfl, hb11⟩
      have HA11 : Hid (At6 Q w w11 T8 E1 f1 E2 f2) := HB8.out.on hb11
      clear hb11 a0 a1 a2 a3 a4 a5 af
      obtain ⟨a0, a1, a2, a3, a4, a5, af⟩ := row6 HA11.out.row
      obtain ⟨z0, z1, z2, z3, z4, z5, zf⟩ := row6 HA11.out.zero
      by_cases hg : T8.s2 = 0 ∧ 4 < T8.s1 ∧ 8 * T8.l1.length ≤ T8.s1
      · have hmd : decide (0 < T8.s2) = false := by simp [hg.1]
        rw [hmd]
        have hg1 : (4 : Int) < (T8.s1 : Int) := by have := hg.2.1; omega
        have hg2 : 8 * (T8.l1.length : Int) ≤ (T8.s1 : Int) := by have := hg.2.2; omega
        have HRQ : Hid (Rel (deleteD D k) (rbegin T8 (upS T8.l1.length))) := by
          have q := HRG.out
          unfold rgive at q; rw [if_pos hg] at q; exact q
        have HBG : Hid (∀ W, Below w11.heap.size w11 W → _) := fun W hW => Begin_any (Qx Q w) _ T8 (upS T8.l1.length) W (HA11.out.on hW).rv
        clear hmd hg
        go_wp2
        clear a0 a1 a2 a3 a4 a5 af z0 z1 z2 z3 z4 z5 zf
        go_loopw [9] (fun cs wr => wr = w11 ∧ ∃ s f : Nat, cs = .int .i64 (s : Int) ∧ 4 ≤ s ∧ s ≤ 8796093022208 ∧ T8.l1.length ≤ s * 2 ^ f ∧ upF f s T8.l1.length = upS T8.l1.length) (fun cs _ => T8.l1.length - (intOf cs).toNat)
        case atStart => exact ⟨rfl, 4, T8.l1.length, rfl, Nat.le_refl _, by omega, by have := Nat.lt_two_pow_self (n := T8.l1.length); omega, rfl⟩
        case round =>
          obtain ⟨rfl, s, f, rfl, hs4, hsb', hf, hup⟩ := hrel
          by_cases hlt : s < T8.l1.length
          · have hz4 : (s : Int) < (T8.l1.length : Int) := by omega
            have hsw : IntKind.i64.wrap (2 * (s : Int)) = 2 * (s : Int) := by rw [IntKind.wrap_i64] <;> omega
            have HNX : Hid (∃ f', T8.l1.length ≤ 2 * s * 2 ^ f' ∧ upF f' (2 * s) T8.l1.length = upS T8.l1.length) := by
              cases f with
              | zero => simp at hf; omega
              | succ f =>
                refine ⟨f, ?_, ?_⟩
                · rw [Nat.pow_succ] at hf
                  calc T8.l1.length ≤ s * (2 ^ f * 2) := hf
                    _ = 2 * s * 2 ^ f := by rw [Nat.mul_comm (2 ^ f) 2, ← Nat.mul_assoc, Nat.mul_comm s 2]
                · have e : upF (f + 1) s T8.l1.length = if T8.l1.length ≤ s then s else upF f (2 * s) T8.l1.length := rfl
                  rw [← hup, e, if_neg (by omega)]
            clear hf hup
            go_wp2
            go_roundw
            case rel =>
              obtain ⟨f', q1, q2⟩ := HNX.out
              exact ⟨by trivial, 2 * s, f', by simp, by omega, by omega, q1, q2⟩
            case measure => simp [intOf]; omega
          · have hz4 : ¬ (s : Int) < (T8.l1.length : Int) := by omega
            have hse : s = upS T8.l1.length := by
              rw [← hup]
              cases f with
              | zero => rfl
              | succ f =>
                have e : upF (f + 1) s T8.l1.length = if T8.l1.length ≤ s then s else upF f (2 * s) T8.l1.length := rfl
                rw [e, if_pos (by omega)]
            rw [← hse] at HBG HRQ
            clear hse hf hup
            obtain ⟨a0, a1, a2, a3, a4, a5, af⟩ := row6 HA11.out.row
            go_wp2_with fail
            refine (show Calls _ _ _ _ _ from HBG.out _ (Below.refl _ _)).mono ?_
            rintro e w12 ⟨v12, rfl, hv12, hb12⟩
            have hA12 := HA11.out.on hb12
            obtain ⟨u1, u2, rfl, r1, r2⟩ := hv12
            obtain ⟨G1, g1, rfl⟩ := r1.form
            obtain ⟨G2, g2, rfl⟩ := r2.form
            clear a0 a1 a2 a3 a4 a5 af
            obtain ⟨a0, a1, a2, a3, a4, a5, af⟩ := row6 hA12.row
            have HC' : Hid _ := hA12.store r1 r2
            clear hA12 r1 r2 hb12
            generalize rbegin T8 s = T9 at *
            go_upto_region 16 with fail
            obtain ⟨W9, hW9⟩ : ∃ W9, W9 = st6 w12 w.heap.size (.int .i64 T9.seed) (.int .i64 (T9.s1 : Int)) (.slice G1 T9.l1.length g1) (.int .i64 (T9.s2 : Int)) (.slice G2 T9.l2.length g2) (.int .i64 (T9.ix : Int)) := ⟨_, rfl⟩
            change Code.wp _ _ _ _ (st6 w12 _ _ _ _ _ _ _)
            rw [← hW9] at HC' ⊢
            have HB9 : Hid (At6 Q w W9 T9 G1 g1 G2 g2) := HC'.out
            have HRF : Hid (Rel (deleteD D k) T9) := HRQ.out
            clear hW9 a0 a1 a2 a3 a4 a5 af HC'
            obtain ⟨a0, a1, a2, a3, a4, a5, af⟩ := row6 HB9.out.row
            obtain ⟨z0, z1, z2, z3, z4, z5, zf⟩ := row6 HB9.out.zero
            go_wp2
            obtain ⟨W', hW', hrw, hrv, hbw⟩ := HB9.out.fin
            change bodyPost _ _ _ _ _ (st6 W9 _ _ _ _ _ _ _)
            rw [← hW']
            have HRV : Hid _ := hrv
            have HBW : Hid _ := hbw
            obtain ⟨e0, e1, e2, e3, e4, e5, ef⟩ := row6 hrw
            clear hW' hrw hrv hbw
            refine bodyPost_ret (v := .tuple #[dval T9.seed T9.s1 (.slice G1 T9.l1.length g1) T9.s2 (.slice G2 T9.l2.length g2) T9.ix, .bool true]) (by simp [results, Try.results9, go_sem, e0, e1, e2, e3, e4, e5]) rfl ?_
            exact ⟨_, by rw [HHAS.out], T9, HRV.out, HRF.out, HBW.out⟩
      · have HRF : Hid (Rel (deleteD D k) T8) := by
          have q := HRG.out
          unfold rgive at q; rw [if_neg hg] at q; exact q
        by_cases h0 : T8.s2 = 0
        · have hmd : decide (0 < T8.s2) = false := by simp [h0]
          rw [hmd]
          by_cases h4 : (4 : Int) < (T8.s1 : Int)
          · have h5 : ¬ 8 * (T8.l1.length : Int) ≤ (T8.s1 : Int) := fun q => hg ⟨h0, by omega, by omega⟩
            clear hg hmd h0
            go_wp2
            obtain ⟨W', hW', hrw, hrv, hbw⟩ := HA11.out.fin
            change bodyPost _ _ _ _ _ (st6 w11 _ _ _ _ _ _ _)
            rw [← hW']
            have HRV : Hid _ := hrv
            have HBW : Hid _ := hbw
            obtain ⟨e0, e1, e2, e3, e4, e5, ef⟩ := row6 hrw
            clear hW' hrw hrv hbw
            refine bodyPost_ret (v := .tuple #[dval T8.seed T8.s1 (.slice E1 T8.l1.length f1) T8.s2 (.slice E2 T8.l2.length f2) T8.ix, .bool true]) (by simp [results, Try.results9, go_sem, e0, e1, e2, e3, e4, e5]) rfl ?_
            exact ⟨_, by rw [HHAS.out], T8, HRV.out, HRF.out, HBW.out⟩
          · clear hg hmd h0
            go_wp2
            obtain ⟨W', hW', hrw, hrv, hbw⟩ := HA11.out.fin
            change bodyPost _ _ _ _ _ (st6 w11 _ _ _ _ _ _ _)
            rw [← hW']
            have HRV : Hid _ := hrv
            have HBW : Hid _ := hbw
            obtain ⟨e0, e1, e2, e3, e4, e5, ef⟩ := row6 hrw
            clear hW' hrw hrv hbw
            refine bodyPost_ret (v := .tuple #[dval T8.seed T8.s1 (.slice E1 T8.l1.length f1) T8.s2 (.slice E2 T8.l2.length f2) T8.ix, .bool true]) (by simp [results, Try.results9, go_sem, e0, e1, e2, e3, e4, e5]) rfl ?_
            exact ⟨_, by rw [HHAS.out], T8, HRV.out, HRF.out, HBW.out⟩
        · have hmd : decide (0 < T8.s2) = true := by simp; omega
          rw [hmd]
          clear hg hmd h0
          go_wp2
          obtain ⟨W', hW', hrw, hrv, hbw⟩ := HA11.out.fin
          change bodyPost _ _ _ _ _ (st6 w11 _ _ _ _ _ _ _)
          rw [← hW']
          have HRV : Hid _ := hrv
          have HBW : Hid _ := hbw
          obtain ⟨e0, e1, e2, e3, e4, e5, ef⟩ := row6 hrw
          clear hW' hrw hrv hbw
          refine bodyPost_ret (v := .tuple #[dval T8.seed T8.s1 (.slice E1 T8.l1.length f1) T8.s2 (.slice E2 T8.l2.length f2) T8.ix, .bool true]) (by simp [results, Try.results9, go_sem, e0, e1, e2, e3, e4, e5]) rfl ?_
          exact ⟨_, by rw [HHAS.out], T8, HRV.out, HRF.out, HBW.out⟩
  · have hk1 : thas (stepD D).seed (stepD D).T1 k = true := h1i.2 (List.mem_map.2 ⟨_, List.getElem_mem hj, hjk⟩)
    have hhas : (stepD D).has k = true := by unfold DS.has; rw [hk1]; rfl
    have HREL : Hid (∀ j (hj : j < T.l1.length), T.l1[j].1 = k → Rel (cutD (stepD D) k) ⟨T.seed, T.s1, T.l1.take j ++ T.l1.drop (j + 1), T.s2, T.l2, T.ix⟩) := fun j hj hjk => HRT.out.drop1 HDS.out hk1 hj hjk
    have HHAS : Hid _ := hhas
    have HCB : Hid _ := HCB' hhas
    have hz0 : (0 : Int) ≤ (j : Int) := by omega
    clear h1i h2i hk1 hhas HCB'
    go_wp2_with fail
    refine (show Calls _ _ _ _ _ from HAT2.out).mono ?_
    rintro e w14 ⟨hb14, hcase⟩
    have HA14 : Hid (At6 Q w w14 T U1 d1 U2 d2) := HA4.out.on hb14
    clear hb14 a0 a1 a2 a3 a4 a5 af
    obtain ⟨i2, rfl⟩ : ∃ i2 : Int, e = .returned (.int .i64 i2) := by
      rcases hcase with ⟨rfl, _⟩ | ⟨j, _, rfl, _⟩
      · exact ⟨_, rfl⟩
      · exact ⟨_, rfl⟩
    clear hcase
    have HWO' := without_any (Qx Q w) _ T.l1 (by omega) j hj w14 HA14.out.i1
    have HCUT : Hid (Rel (cutD (stepD D) k) ⟨T.seed, T.s1, T.l1.take j ++ T.l1.drop (j + 1), T.s2, T.l2, T.ix⟩) := HREL.out j hj hjk
    obtain ⟨M1, hM1⟩ : ∃ M1, (T.l1.take j ++ T.l1.drop (j + 1)).length = M1 := ⟨_, rfl⟩
    rw [hM1] at HWO'
    have HWO : Hid _ := HWO'
    have HM1 : Hid _ := hM1
    have hM1b : M1 ≤ T.l1.length := by rw [← hM1, List.length_append, List.length_take, List.length_drop]; omega
    clear HWO' hM1
    obtain ⟨a0, a1, a2, a3, a4, a5, af⟩ := row6 HA14.out.row
    go_wp2_with fail
    refine (show Calls _ _ _ _ _ from HWO.out).mono ?_
    rintro e w9 ⟨v9, rfl, ho9, hb9⟩
    obtain ⟨P9, k9, hkf⟩ := own_form ho9
    subst hkf
    have HA9 := HA14.out.on hb9
    have HI9 : IRow (Qx Q w) w9 _ (T.l1.take j ++ T.l1.drop (j + 1)) := IRow.own_of ho9 HM1.out.symm (HA14.out.up HQ.out)
    have HA7 : Hid _ := HA9.put1 HM1.out.symm HI9
    clear a0 a1 a2 a3 a4 a5 af
    obtain ⟨a0, a1, a2, a3, a4, a5, af⟩ := row6 HA9.row
    clear HA9 HI9 ho9 hb9
    go_upto_region 9 with fail
    obtain ⟨W7, hW7⟩ : ∃ W7, W7 = w9.setCell ⟨w.heap.size, 2, none⟩ (.slice P9 M1 k9) := ⟨_, rfl⟩
    have HA8 : Hid (At6 Q w W7 ⟨T.seed, T.s1, T.l1.take j ++ T.l1.drop (j + 1), T.s2, T.l2, T.ix⟩ P9 k9 U2 d2) := by rw [hW7]; exact HA7.out
    rw [← hW7]
    clear hW7 a0 a1 a2 a3 a4 a5 af HA7
    obtain ⟨T7, hT7⟩ : ∃ T7 : RD, T7 = ⟨T.seed, T.s1, T.l1.take j ++ T.l1.drop (j + 1), T.s2, T.l2, T.ix⟩ := ⟨_, rfl⟩
    rw [← hT7] at HA8 HCUT
    clear hT7
    have HRG : Hid (Rel (deleteD D k) (rgive (rover T7))) := by
      show Rel _ _
      unfold deleteD; rw [if_pos HHAS.out]; exact HCUT.out.over.give
    have HOV : Hid _ := Over_any (Qx Q w) _ T7 W7 HA8.out.rv
    have HNB : Hid ((rover T7).l1.length ≤ 4398046511000 ∧ (rover T7).s1 ≤ 4398046511104) := by
      have q1 := HCUT.out.over
      refine ⟨?_, ?_⟩
      · rw [← q1.c1]; exact HCB.out.1
      · rw [q1.s1]; exact HCB.out.2
    obtain ⟨a0, a1, a2, a3, a4, a5, af⟩ := row6 HA8.out.row
    go_wp2_with fail
    refine (show Calls _ _ _ _ _ from HOV.out).mono ?_
    rintro e w10 ⟨v10, rfl, hv10, hb10⟩
    have hA10 := HA8.out.on hb10
    obtain ⟨u1, u2, rfl, r1, r2⟩ := hv10
    obtain ⟨E1, f1, rfl⟩ := r1.form
    obtain ⟨E2, f2, rfl⟩ := r2.form
    clear a0 a1 a2 a3 a4 a5 af
    obtain ⟨a0, a1, a2, a3, a4, a5, af⟩ := row6 hA10.row
    have HB' : Hid _ := hA10.store r1 r2
    clear hA10 r1 r2 hb10
    generalize rover T7 = T8 at *
    go_upto_region 10 with fail
    obtain ⟨W8, hW8⟩ : ∃ W8, W8 = st6 w10 w.heap.size (.int .i64 T8.seed) (.int .i64 (T8.s1 : Int)) (.slice E1 T8.l1.length f1) (.int .i64 (T8.s2 : Int)) (.slice E2 T8.l2.length f2) (.int .i64 (T8.ix : Int)) := ⟨_, rfl⟩
    change Code.wp _ _ _ _ (st6 w10 _ _ _ _ _ _ _)
    rw [← hW8] at HB' ⊢
    have HB8 : Hid (At6 Q w W8 T8 E1 f1 E2 f2) := HB'.out
    clear hW8 a0 a1 a2 a3 a4 a5 af HB'
    obtain ⟨a0, a1, a2, a3, a4, a5, af⟩ := row6 HB8.out.row
    have HMV : Hid (∀ W : World, _) := fun W => moving_any T8.seed T8.s1 (.slice E1 T8.l1.length f1) T8.s2 (.slice E2 T8.l2.length f2) T8.ix W
    have hnb := HNB.out.1
    have hsb := HNB.out.2
    have hw8 : IntKind.i64.wrap (8 * (T8.l1.length : Int)) = 8 * (T8.l1.length : Int) := by rw [IntKind.wrap_i64] <;> omega
    go_wp2_with fail
    refine (show Calls _ _ _ _ _ from HMV.out _).mono ?_
    rintro e w11 ⟨rfl, hb11⟩
    have HA11 : Hid (At6 Q w w11 T8 E1 f1 E2 f2) := HB8.out.on hb11
    clear hb11 a0 a1 a2 a3 a4 a5 af
    obtain ⟨a0, a1, a2, a3, a4, a5, af⟩ := row6 HA11.out.row
    obtain ⟨z0, z1, z2, z3, z4, z5, zf⟩ := row6 HA11.out.zero
    by_cases hg : T8.s2 = 0 ∧ 4 < T8.s1 ∧ 8 * T8.l1.length ≤ T8.s1
    · have hmd : decide (0 < T8.s2) = false := by simp [hg.1]
      rw [hmd]
      have hg1 : (4 : Int) < (T8.s1 : Int) := by have := hg.2.1; omega
      have hg2 : 8 * (T8.l1.length : Int) ≤ (T8.s1 : Int) := by have := hg.2.2; omega
      have HRQ : Hid (Rel (deleteD D k) (rbegin T8 (upS T8.l1.length))) := by
        have q := HRG.out
        unfold rgive at q; rw [if_pos hg] at q; exact q
      have HBG : Hid (∀ W, Below w11.heap.size w11 W → _) := fun W hW => Begin_any (Qx Q w) _ T8 (upS T8.l1.length) W (HA11.out.on hW).rv
      clear hmd hg
      go_wp2
      clear a0 a1 a2 a3 a4 a5 af z0 z1 z2 z3 z4 z5 zf
      go_loopw [9] (fun cs wr => wr = w11 ∧ ∃ s f : Nat, cs = .int .i64 (s : Int) ∧ 4 ≤ s ∧ s ≤ 8796093022208 ∧ T8.l1.length ≤ s * 2 ^ f ∧ upF f s T8.l1.length = upS T8.l1.length) (fun cs _ => T8.l1.length - (intOf cs).toNat)
      case atStart => exact ⟨rfl, 4, T8.l1.length, rfl, Nat.le_refl _, by omega, by have := Nat.lt_two_pow_self (n := T8.l1.length); omega, rfl⟩
      case round =>
        obtain ⟨rfl, s, f, rfl, hs4, hsb', hf, hup⟩ := hrel
        by_cases hlt : s < T8.l1.length
        · have hz4 : (s : Int) < (T8.l1.length : Int) := by omega
          have hsw : IntKind.i64.wrap (2 * (s : Int)) = 2 * (s : Int) := by rw [IntKind.wrap_i64] <;> omega
          have HNX : Hid (∃ f', T8.l1.length ≤ 2 * s * 2 ^ f' ∧ upF f' (2 * s) T8.l1.length = upS T8.l1.length) := by
            cases f with
            | zero => simp at hf; omega
            | succ f =>
              refine ⟨f, ?_, ?_⟩
              · rw [Nat.pow_succ] at hf
                calc T8.l1.length ≤ s * (2 ^ f * 2) := hf
                  _ = 2 * s * 2 ^ f := by rw [Nat.mul_comm (2 ^ f) 2, ← Nat.mul_assoc, Nat.mul_comm s 2]
              · have e : upF (f + 1) s T8.l1.length = if T8.l1.length ≤ s then s else upF f (2 * s) T8.l1.length := rfl
                rw [← hup, e, if_neg (by omega)]
          clear hf hup
          go_wp2
          go_roundw
          case rel =>
            obtain ⟨f', q1, q2⟩ := HNX.out
            exact ⟨by trivial, 2 * s, f', by simp, by omega, by omega, q1, q2⟩
          case measure => simp [intOf]; omega
        · have hz4 : ¬ (s : Int) < (T8.l1.length : Int) := by omega
          have hse : s = upS T8.l1.length := by
            rw [← hup]
            cases f with
            | zero => rfl
            | succ f =>
              have e : upF (f + 1) s T8.l1.length = if T8.l1.length ≤ s then s else upF f (2 * s) T8.l1.length := rfl
              rw [e, if_pos (by omega)]
          rw [← hse] at HBG HRQ
          clear hse hf hup
          obtain ⟨a0, a1, a2, a3, a4, a5, af⟩ := row6 HA11.out.row
          go_wp2_with fail
          refine (show Calls _ _ _ _ _ from HBG.out _ (Below.refl _ _)).mono ?_
          rintro e w12 ⟨v12, rfl, hv12, hb12⟩
          have hA12 := HA11.out.on hb12
          obtain ⟨u1, u2, rfl, r1, r2⟩ := hv12
          obtain ⟨G1, g1, rfl⟩ := r1.form
          obtain ⟨G2, g2, rfl⟩ := r2.form
          clear a0 a1 a2 a3 a4 a5 af
          obtain ⟨a0, a1, a2, a3, a4, a5, af⟩ := row6 hA12.row
          have HC' : Hid _ := hA12.store r1 r2
          clear hA12 r1 r2 hb12
          generalize rbegin T8 s = T9 at *
          go_upto_region 16 with fail
          obtain ⟨W9, hW9⟩ : ∃ W9, W9 = st6 w12 w.heap.size (.int .i64 T9.seed) (.int .i64 (T9.s1 : Int)) (.slice G1 T9.l1.length g1) (.int .i64 (T9.s2 : Int)) (.slice G2 T9.l2.length g2) (.int .i64 (T9.ix : Int)) := ⟨_, rfl⟩
          change Code.wp _ _ _ _ (st6 w12 _ _ _ _ _ _ _)
          rw [← hW9] at HC' ⊢
          have HB9 : Hid (At6 Q w W9 T9 G1 g1 G2 g2) := HC'.out
          have HRF : Hid (Rel (deleteD D k) T9) := HRQ.out
          clear hW9 a0 a1 a2 a3 a4 a5 af HC'
          obtain ⟨a0, a1, a2, a3, a4, a5, af⟩ := row6 HB9.out.row
          obtain ⟨z0, z1, z2, z3, z4, z5, zf⟩ := row6 HB9.out.zero
          go_wp2
          obtain ⟨W', hW', hrw, hrv, hbw⟩ := HB9.out.fin
          change bodyPost _ _ _ _ _ (st6 W9 _ _ _ _ _ _ _)
          rw [← hW']
          have HRV : Hid _ := hrv
          have HBW : Hid _ := hbw
          obtain ⟨e0, e1, e2, e3, e4, e5, ef⟩ := row6 hrw
          clear hW' hrw hrv hbw
          refine bodyPost_ret (v := .tuple #[dval T9.seed T9.s1 (.slice G1 T9.l1.length g1) T9.s2 (.slice G2 T9.l2.length g2) T9.ix, .bool true]) (by simp [results, Try.results9, go_sem, e0, e1, e2, e3, e4, e5]) rfl ?_
          exact ⟨_, by rw [HHAS.out], T9, HRV.out, HRF.out, HBW.out⟩
    · have HRF : Hid (Rel (deleteD D k) T8) := by
        have q := HRG.out
        unfold rgive at q; rw [if_neg hg] at q; exact q
      by_cases h0 : T8.s2 = 0
      · have hmd : decide (0 < T8.s2) = false := by simp [h0]
        rw [hmd]
        by_cases h4 : (4 : Int) < (T8.s1 : Int)
        · have h5 : ¬ 8 * (T8.l1.length : Int) ≤ (T8.s1 : Int) := fun q => hg ⟨h0, by omega, by omega⟩
          clear hg hmd h0
          go_wp2
          obtain ⟨W', hW', hrw, hrv, hbw⟩ := HA11.out.fin
          change bodyPost _ _ _ _ _ (st6 w11 _ _ _ _ _ _ _)
          rw [← hW']
          have HRV : Hid _ := hrv
          have HBW : Hid _ := hbw
          obtain ⟨e0, e1, e2, e3, e4, e5, ef⟩ := row6 hrw
          clear hW' hrw hrv hbw
          refine bodyPost_ret (v := .tuple #[dval T8.seed T8.s1 (.slice E1 T8.l1.length f1) T8.s2 (.slice E2 T8.l2.length f2) T8.ix, .bool true]) (by simp [results, Try.results9, go_sem, e0, e1, e2, e3, e4, e5]) rfl ?_
          exact ⟨_, by rw [HHAS.out], T8, HRV.out, HRF.out, HBW.out⟩
        · clear hg hmd h0
          go_wp2
          obtain ⟨W', hW', hrw, hrv, hbw⟩ := HA11.out.fin
          change bodyPost _ _ _ _ _ (st6 w11 _ _ _ _ _ _ _)
          rw [← hW']
          have HRV : Hid _ := hrv
          have HBW : Hid _ := hbw
          obtain ⟨e0, e1, e2, e3, e4, e5, ef⟩ := row6 hrw
          clear hW' hrw hrv hbw
          refine bodyPost_ret (v := .tuple #[dval T8.seed T8.s1 (.slice E1 T8.l1.length f1) T8.s2 (.slice E2 T8.l2.length f2) T8.ix, .bool true]) (by simp [results, Try.results9, go_sem, e0, e1, e2, e3, e4, e5]) rfl ?_
          exact ⟨_, by rw [HHAS.out], T8, HRV.out, HRF.out, HBW.out⟩
      · have hmd : decide (0 < T8.s2) = true := by simp; omega
        rw [hmd]
        clear hg hmd h0
        go_wp2
        obtain ⟨W', hW', hrw, hrv, hbw⟩ := HA11.out.fin
        change bodyPost _ _ _ _ _ (st6 w11 _ _ _ _ _ _ _)
        rw [← hW']
        have HRV : Hid _ := hrv
        have HBW : Hid _ := hbw
        obtain ⟨e0, e1, e2, e3, e4, e5, ef⟩ := row6 hrw
        clear hW' hrw hrv hbw
        refine bodyPost_ret (v := .tuple #[dval T8.seed T8.s1 (.slice E1 T8.l1.length f1) T8.s2 (.slice E2 T8.l2.length f2) T8.ix, .bool true]) (by simp [results, Try.results9, go_sem, e0, e1, e2, e3, e4, e5]) rfl ?_
        exact ⟨_, by rw [HHAS.out], T8, HRV.out, HRF.out, HBW.out⟩
end Go.Proofs.Ytdemodhjlbkbeab
