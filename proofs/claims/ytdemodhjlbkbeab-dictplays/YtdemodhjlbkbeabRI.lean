import Derived.Test.YtdemodhjlbkbeabRH
import Derived.Test.YtdemodhjlbkbeabRG
namespace Go.Proofs.Ytdemodhjlbkbeab
open Go.RowKit
set_option linter.unusedVariables false
theorem Only.moved {w w' : World} {E : Nat} {F : List Nat} (h : Only w w' E) (hE : E ∈ F) : Moved w w' F F := ⟨h.os, h.tape, h.output, Nat.le_of_eq h.size.symm, fun q hq hn => h.other q (fun e => hn (e ▸ hE)), fun q hq => Or.inl hq⟩
/-- the value of a key that is there, written over. -/
theorem di_put {w : World} {g : Nat} {F L1 L2 : List Nat} {v1 v2 : Value} {D : DS} {k : ByteArray} {E q : Nat} (x : Int) (hg : w.heap[g]? = some (.cells (dca D.seed v1 (cnt D.T1 : Nat) v2 (cnt D.T2 : Nat) (D.ix : Nat)) 56)) (t1 : TabAt w v1 D.T1 L1) (t2 : TabAt w v2 D.T2 L2) (hF : F = g :: (L1 ++ L2)) (hnd : F.Nodup) (hw1 : TWf D.seed D.T1) (hw2 : TWf D.seed D.T2) (hl : LiesD w D k E q L1 L2) :
    DI (w.setCell ⟨E, q + 1, none⟩ (.int .i64 x)) g F (if thas D.seed D.T1 k then ⟨D.seed, tput D.seed D.T1 k x, D.T2, D.ix⟩ else ⟨D.seed, D.T1, tput D.seed D.T2 k x, D.ix⟩) ∧ Moved w (w.setCell ⟨E, q + 1, none⟩ (.int .i64 x)) F F ∧ w.frozen? ⟨E, q + 1, none⟩ = false ∧ ∃ y, w.cell? ⟨E, q + 1, none⟩ = some (.int .i64 y) ∧ (k, y) ∈ D.all := by
  subst hF
  have hon : Only w (w.setCell ⟨E, q + 1, none⟩ (.int .i64 x)) E := (Only.refl w E).set (q + 1) _
  obtain ⟨n1, n2⟩ := List.nodup_cons.1 hnd
  have hL1 := (List.nodup_append.1 n2).1
  have hL2 := (List.nodup_append.1 n2).2.1
  have hap := (List.nodup_append.1 n2).2.2
  rcases hl with ⟨ha, hl⟩ | ⟨ha, hb, hl⟩
  · obtain ⟨p1, p2, p3, y, p4, p5⟩ := put_tab x hl t1 hL1 ha
    obtain ⟨v0, R, _, r1, r2⟩ := tput_wf hw1 ha x
    have hcn : cnt (tput D.seed D.T1 k x) = cnt D.T1 := by unfold cnt; rw [r1.length_eq, r2.length_eq]; rfl
    rw [if_pos ha]
    refine ⟨⟨v1, v2, L1, L2, ?_, p1, t2.keep (fun q hq => hon.other q (fun e => ?_)), rfl, hnd⟩, hon.moved (by simp [p2]), p3, y, p4, List.mem_append_left _ p5⟩
    · rw [hon.other g (fun e => n1 (by rw [e]; simp [p2]))]
      show w.heap[g]? = some (.cells (dca D.seed v1 (cnt (tput D.seed D.T1 k x) : Nat) v2 (cnt D.T2 : Nat) (D.ix : Nat)) _)
      rw [hcn]; exact hg
    · exact hap E p2 q hq e.symm
  · obtain ⟨p1, p2, p3, y, p4, p5⟩ := put_tab x hl t2 hL2 hb
    obtain ⟨v0, R, _, r1, r2⟩ := tput_wf hw2 hb x
    have hcn : cnt (tput D.seed D.T2 k x) = cnt D.T2 := by unfold cnt; rw [r1.length_eq, r2.length_eq]; rfl
    rw [if_neg (by rw [ha]; simp)]
    refine ⟨⟨v1, v2, L1, L2, ?_, t1.keep (fun q hq => hon.other q (fun e => ?_)), p1, rfl, hnd⟩, hon.moved (by simp [p2]), p3, y, p4, List.mem_append_right _ p5⟩
    · rw [hon.other g (fun e => n1 (by rw [e]; simp [p2]))]
      show w.heap[g]? = some (.cells (dca D.seed v1 (cnt D.T1 : Nat) v2 (cnt (tput D.seed D.T2 k x) : Nat) (D.ix : Nat)) _)
      rw [hcn]; exact hg
    · exact hap q hq E p2 e
theorem DI.row {w : World} {g : Nat} {F : List Nat} {D : DS} (h : DI w g F D) : ∃ v1 v2, w.heap[g]? = some (.cells (dca D.seed v1 (cnt D.T1 : Nat) v2 (cnt D.T2 : Nat) (D.ix : Nat)) 56) := by
  obtain ⟨v1, v2, _, _, h1, _⟩ := h
  exact ⟨v1, v2, h1⟩
theorem setD_old {D : DS} {k : ByteArray} {v : Int} (hk : (stepD D).has k = true) : setD D k v = if thas (stepD D).seed (stepD D).T1 k then ⟨(stepD D).seed, tput (stepD D).seed (stepD D).T1 k v, (stepD D).T2, (stepD D).ix⟩ else ⟨(stepD D).seed, (stepD D).T1, tput (stepD D).seed (stepD D).T2 k v, (stepD D).ix⟩ := by
  unfold setD
  by_cases ha : thas (stepD D).seed (stepD D).T1 k = true
  · rw [if_pos ha, if_pos ha]
  · rw [if_neg ha, if_neg ha]
    have hb : thas (stepD D).seed (stepD D).T2 k = true := by
      unfold DS.has at hk
      have ha' : thas (stepD D).seed (stepD D).T1 k = false := by simpa using ha
      rw [ha', Bool.false_or] at hk; exact hk
    rw [if_pos hb]
theorem setD_new {D : DS} {k : ByteArray} {v : Int} (hk : (stepD D).has k = false) : setD D k v = if (roomD (stepD D)).T2 ≠ [] then ⟨(roomD (stepD D)).seed, (roomD (stepD D)).T1, tadd (roomD (stepD D)).seed (roomD (stepD D)).T2 k v, (roomD (stepD D)).ix⟩ else ⟨(roomD (stepD D)).seed, tadd (roomD (stepD D)).seed (roomD (stepD D)).T1 k v, (roomD (stepD D)).T2, (roomD (stepD D)).ix⟩ := by
  unfold DS.has at hk
  rw [Bool.or_eq_false_iff] at hk
  unfold setD
  rw [if_neg (by rw [hk.1]; simp), if_neg (by rw [hk.2]; simp), roomD_seed]
set_option maxHeartbeats 2000000 in
set_option maxRecDepth 100000 in
theorem Set_any (g : Nat) (F : List Nat) (D : DS) (hD : DInv D) (k : ByteArray) (hk : k.size ≤ 281474976710656) (v : Int) (hc : cnt D.T1 + cnt D.T2 < 4398046511000) (w : World) (h : DI w g F D) :
    Calls Try.prog 8 #[.pointer (some ⟨g, 0, none⟩), .string k, .int .i64 v] w fun e w' => e = .returned (.bool (! (stepD D).has k)) ∧ ∃ F', DI w' g F' (setD D k v) ∧ Moved w w' F F' := by
  obtain ⟨s1, s2, s3⟩ := stepD_ok hD
  have HRM : Hid _ := stepD_room hD
  have hcs : cnt (stepD D).T1 + cnt (stepD D).T2 < 4398046511000 := by
    have := s2.length_eq
    rw [DS.all_len, DS.all_len] at this; omega
  have HST : Hid _ := step_any g F D hD (by omega) w h
  have HSI : Hid (DInv (stepD D)) := s1
  have HHS : Hid _ := Hash_any (stepD D).seed k hk
  have HCL : Hid _ := clone_any k hk
  rcases hhas : (stepD D).has k with _ | _
  · have HEQ : Hid _ := setD_new (v := v) hhas
    have HHK : Hid _ := hhas
    generalize setD D k v = R at *
    generalize stepD D = S at *
    clear h hD s1 s2 s3 hhas
    obtain ⟨r1, r2, r3⟩ := roomD_ok HSI.out (by omega) HRM.out
    have HRI : Hid (DInv (roomD S)) := r1
    have HRR : Hid (Room (roomD S)) := r3
    have HRC : Hid (cnt (roomD S).T1 + cnt (roomD S).T2 < 4398046511000) := by
      have := r2.length_eq
      rw [DS.all_len, DS.all_len] at this
      show _ < _; omega
    have HRN : Hid (thas (roomD S).seed (roomD S).T1 k = false ∧ thas (roomD S).seed (roomD S).T2 k = false) := by
      refine key_no r1 (fun hm => ?_)
      have := (all_keys HSI.out k).2 ((r2.map _).mem_iff.1 hm)
      rw [HHK.out] at this; cases this
    have HRS : Hid (S.seed = (roomD S).seed) := (roomD_seed S).symm
    clear r1 r2 r3
    go_enter Try.func8, Try.ntmps8
    go_wp2_with fail
    refine (show Calls _ _ _ _ _ from HST.out).mono ?_
    rintro e w1 ⟨rfl, F1, hd1, hm1⟩
    have HM1 : Hid (Moved w w1 F F1) := hm1
    obtain ⟨u1, u2, hr1⟩ := hd1.row
    obtain ⟨c0, c1, c2, c3, c4, c5, cf⟩ := row6 hr1
    have HFN : Hid _ := di_find_no g F1 S k w1 HSI.out (by omega) HHK.out hd1
    have HD1 : Hid (DI w1 g F1 S) := hd1
    clear hd1 hm1 hr1
    go_wp2_with fail
    refine (show Calls _ _ _ _ _ from HHS.out _).mono ?_
    rintro e w1' ⟨rfl, rfl⟩
    clear c0 c1 c2 c3 c4 c5 cf
    go_wp2_with fail
    refine (show Calls _ _ _ _ _ from HFN.out).mono ?_
    rintro e w2 ⟨rfl, hb2⟩
    have HRO : Hid _ := di_room g F1 S HSI.out hcs w2 (HD1.out.on hb2)
    have HM2 : Hid (Moved w w2 F F1) := HM1.out.trans (Moved.of_below hb2)
    clear hb2
    go_wp2_with fail
    refine (show Calls _ _ _ _ _ from HRO.out).mono ?_
    rintro e w3 ⟨rfl, F3, hd3, hm3⟩
    have HM3 : Hid (Moved w w3 F F3) := HM2.out.trans hm3
    have HD3 : Hid (DI w3 g F3 (roomD S)) := hd3
    clear hd3 hm3
    generalize roomD S = Q at *
    go_wp2_with fail
    refine (show Calls _ _ _ _ _ from HCL.out _).mono ?_
    rintro e w4 ⟨rfl, hb4⟩
    have HX : Hid _ := one_alloc w4 (.cells #[.string k, .int .i64 v] 70)
    obtain ⟨W0, hW0⟩ : ∃ W0, W0 = w4.alloc (.cells #[.string k, .int .i64 v] 70) := ⟨_, rfl⟩
    have hbw : Below w4.heap.size w4 W0 := by rw [hW0]; exact (Below.refl _ _).alloc (Nat.le_refl _) _
    rw [← hW0] at HX
    have HD0 : Hid (DI W0 g F3 Q) := (HD3.out.on hb4).on hbw
    have HM0 : Hid (Moved w W0 F F3) := HM3.out.trans ((Moved.of_below hb4).trans (Moved.of_below hbw))
    clear hb4 hbw
    go_upto_region 9 with fail
    rw [← hW0]
    clear hW0
    have HMV : Hid _ := di_moves g F3 Q W0 HD0.out
    go_wp2_with fail
    refine (show Calls _ _ _ _ _ from HMV.out).mono ?_
    rintro e w5 ⟨rfl, rfl⟩
    obtain ⟨x0, x1, xf⟩ := row2 HX.out
    by_cases hq : Q.T2 = []
    · have hqd : decide (Q.T2 ≠ []) = false := by simp [hq]
      have HAD : Hid _ := di_add1 g F3 Q k v w5.drew HRI.out.wf1 (HRR.out.a hq).1 HRI.out.sz1 HRN.out.1 (by have := HRC.out; omega) (HD0.out.on (Below.refl _ _).drew)
      rw [← HRS.out] at HAD
      rw [hqd]
      go_wp2_with fail
      go_region_with (go_at_call 33; refine (show Calls _ _ _ _ _ from HAD.out).mono ?_; rintro e w6 ⟨rfl, F6, hd6, hm6⟩)
      all_goals
        have HD6 : Hid (DI w6 g F6 R) := by
          show DI w6 g F6 R
          rw [HEQ.out, if_neg (fun hx => hx hq), ← HRS.out]; exact hd6
        have HM6 : Hid (Moved w w6 F F6) := HM0.out.trans ((Moved.of_below (Below.refl w5.heap.size w5).drew).trans hm6)
        clear hd6 hm6
        go_wp2
        go_returns
        exact ⟨rfl, F6, HD6.out, HM6.out⟩
    · have hqd : decide (Q.T2 ≠ []) = true := by simp [hq]
      have HAD : Hid _ := di_add2 g F3 Q k v w5.drew HRI.out.wf2 hq HRI.out.sz2 HRN.out.2 (by have := HRC.out; omega) (HD0.out.on (Below.refl _ _).drew)
      rw [← HRS.out] at HAD
      rw [hqd]
      go_wp2_with fail
      go_region_with (go_at_call 33; refine (show Calls _ _ _ _ _ from HAD.out).mono ?_; rintro e w6 ⟨rfl, F6, hd6, hm6⟩)
      all_goals
        have HD6 : Hid (DI w6 g F6 R) := by
          show DI w6 g F6 R
          rw [HEQ.out, if_pos hq, ← HRS.out]; exact hd6
        have HM6 : Hid (Moved w w6 F F6) := HM0.out.trans ((Moved.of_below (Below.refl w5.heap.size w5).drew).trans hm6)
        clear hd6 hm6
        go_wp2
        go_returns
        exact ⟨rfl, F6, HD6.out, HM6.out⟩
  · have HEQ : Hid _ := setD_old (v := v) hhas
    have HHK : Hid _ := hhas
    generalize setD D k v = R at *
    generalize stepD D = S at *
    clear h hD s1 s2 s3 hhas
    go_enter Try.func8, Try.ntmps8
    go_wp2_with fail
    refine (show Calls _ _ _ _ _ from HST.out).mono ?_
    rintro e w1 ⟨rfl, F1, hd1, hm1⟩
    have HM1 : Hid (Moved w w1 F F1) := hm1
    obtain ⟨u1, u2, hr1⟩ := hd1.row
    obtain ⟨c0, c1, c2, c3, c4, c5, cf⟩ := row6 hr1
    obtain ⟨E, q, hf⟩ := di_find_yes g F1 S k w1 HSI.out (by omega) HHK.out hd1
    have HFN : Hid _ := hf
    clear hd1 hm1 hr1 hf
    go_wp2_with fail
    refine (show Calls _ _ _ _ _ from HHS.out _).mono ?_
    rintro e w1' ⟨rfl, rfl⟩
    clear c0 c1 c2 c3 c4 c5 cf
    go_wp2_with fail
    refine (show Calls _ _ _ _ _ from HFN.out).mono ?_
    rintro e w2 ⟨rfl, hb2, v1, v2, L1, L2, hg2, t1, t2, hF2, hn2, hl2⟩
    obtain ⟨p1, p2, p3, y, p4, p5⟩ := di_put v hg2 t1 t2 hF2 hn2 HSI.out.wf1 HSI.out.wf2 hl2
    have HDP : Hid (DI (w2.setCell ⟨E, q + 1, none⟩ (.int .i64 v)) g F1 R) := by show DI _ g F1 R; rw [HEQ.out]; exact p1
    have HMP : Hid (Moved w (w2.setCell ⟨E, q + 1, none⟩ (.int .i64 v)) F F1) := HM1.out.trans ((Moved.of_below hb2).trans p2)
    clear hb2 hg2 t1 t2 hF2 hn2 hl2 p1 p2 p5
    go_wp2
    go_returns
    exact ⟨rfl, F1, HDP.out, HMP.out⟩
end Go.Proofs.Ytdemodhjlbkbeab
namespace Go.Proofs.Ytdemodhjlbkbeab
open Go.RowKit
set_option linter.unusedVariables false
theorem has_ne {D : DS} (h : DInv D) {k : ByteArray} (hk : D.has k = true) : D.T1 ≠ [] := fun e => by
  have h2 : D.T2 = [] := Decidable.byContradiction fun hm => by
    have := h.mv hm
    rw [e] at this
    simp [cnt] at this
  unfold DS.has at hk
  rw [e, h2] at hk; cases hk
theorem cut_ne {D : DS} (h : DInv D) {k : ByteArray} (hk : D.has k = true) : (endD (cutD D k)).T1 ≠ [] := by
  have h1 := has_ne h hk
  have h2 : (cutD D k).T1 ≠ [] := by
    unfold cutD; split
    · exact ne_of_len (tdrop_len ..) h1
    · exact h1
  unfold endD; split
  · next hx => exact hx.1
  · exact h2
set_option maxHeartbeats 2000000 in
set_option maxRecDepth 100000 in
theorem Delete_any (g : Nat) (F : List Nat) (D : DS) (hD : DInv D) (k : ByteArray) (hk : k.size ≤ 281474976710656) (hc : cnt D.T1 + cnt D.T2 < 4398046511000) (w : World) (h : DI w g F D) :
    Calls Try.prog 10 #[.pointer (some ⟨g, 0, none⟩), .string k] w fun e w' => e = .returned (.bool ((stepD D).has k)) ∧ ∃ F', DI w' g F' (deleteD D k) ∧ Moved w w' F F' := by
  obtain ⟨s1, s2, s3⟩ := stepD_ok hD
  have hcs : cnt (stepD D).T1 + cnt (stepD D).T2 < 4398046511000 := by
    have := s2.length_eq
    rw [DS.all_len, DS.all_len] at this; omega
  have HST : Hid _ := step_any g F D hD (by omega) w h
  have HSI : Hid (DInv (stepD D)) := s1
  have HHS : Hid _ := Hash_any (stepD D).seed k hk
  unfold deleteD
  generalize stepD D = S at *
  clear h hD s1 s2 s3
  rcases hhas : S.has k with _ | _
  · obtain ⟨a1, a2⟩ : thas S.seed S.T1 k = false ∧ thas S.seed S.T2 k = false := by
      have hh := hhas
      unfold DS.has at hh
      exact Bool.or_eq_false_iff.1 hh
    have HA : Hid (thas S.seed S.T1 k = false ∧ thas S.seed S.T2 k = false) := ⟨a1, a2⟩
    rw [if_neg (by simp)]
    clear a1 a2 hhas
    go_enter Try.func10, Try.ntmps10
    go_wp2_with fail
    refine (show Calls _ _ _ _ _ from HST.out).mono ?_
    rintro e w1 ⟨rfl, F1, hd1, hm1⟩
    have HM1 : Hid (Moved w w1 F F1) := hm1
    have HD1 : Hid (DI w1 g F1 S) := hd1
    obtain ⟨v1, v2, L1, L2, h1, h2, h3, hF, h4⟩ := hd1
    obtain ⟨c0, c1, c2, c3, c4, c5, cf⟩ := row6 h1
    have HN1 : Hid _ := drop_no S.seed g 1 k S.T1 L1 v1 w1 HSI.out.wf1 HSI.out.sz1 HA.out.1 (by omega) c1 h2
    have HN2 : Hid (∀ W, Below w1.heap.size w1 W → Calls Try.prog 36 #[.pointer (some ⟨g, 3, none⟩), .int .i64 (hashT S.seed k), .string k] W fun e w' => e = .returned (.bool false) ∧ Below W.heap.size W w') := fun W hW => drop_no S.seed g 3 k S.T2 L2 v2 W HSI.out.wf2 HSI.out.sz2 HA.out.2 (by omega) (cell_on c3 hW) (h3.on hW)
    clear hm1 h1 h2 h3 hF h4
    go_wp2_with fail
    refine (show Calls _ _ _ _ _ from HHS.out _).mono ?_
    rintro e w1' ⟨rfl, rfl⟩
    clear c0 c1 c2 c3 c4 c5 cf
    go_wp2_with fail
    refine (show Calls _ _ _ _ _ from HN1.out).mono ?_
    rintro e w2 ⟨rfl, hb2⟩
    have HB2 : Hid _ := hb2
    clear hb2
    go_wp2_with fail
    refine (show Calls _ _ _ _ _ from HN2.out _ HB2.out).mono ?_
    rintro e w3 ⟨rfl, hb3⟩
    have HB3 : Hid (Below w1'.heap.size w1' w3) := bel_to HB2.out hb3 (Nat.le_refl _)
    clear hb3
    go_wp2
    go_returns
    exact ⟨rfl, F1, HD1.out.on HB3.out, HM1.out.trans (Moved.of_below HB3.out)⟩
  · have HHK : Hid (S.has k = true) := hhas
    rw [if_pos rfl]
    obtain ⟨p1, v0, p2⟩ := cutD_ok HSI.out hhas
    have hcc : cnt (endD (cutD S k)).T1 + cnt (endD (cutD S k)).T2 < 4398046511000 := by
      have e1 := (endD_all (cutD S k)).length_eq
      have e2 := p2.length_eq
      rw [List.length_cons] at e2
      rw [DS.all_len, DS.all_len] at e1
      rw [DS.all_len, DS.all_len] at e2
      omega
    have HCI : Hid (DInv (endD (cutD S k))) := p1.fin
    have HCN : Hid ((endD (cutD S k)).T1 ≠ []) := cut_ne HSI.out hhas
    clear p1 p2 hhas
    rcases ha : thas S.seed S.T1 k with _ | _
    · have hb : thas S.seed S.T2 k = true := by
        have hh := HHK.out
        unfold DS.has at hh
        rw [ha, Bool.false_or] at hh; exact hh
      have HA : Hid (thas S.seed S.T1 k = false ∧ thas S.seed S.T2 k = true) := ⟨ha, hb⟩
      have HCT : Hid (cutD S k = ⟨S.seed, S.T1, tdrop S.seed S.T2 k, S.ix⟩) := by show _ = _; unfold cutD; rw [if_neg (by rw [ha]; simp)]
      clear ha hb
      go_enter Try.func10, Try.ntmps10
      go_wp2_with fail
      refine (show Calls _ _ _ _ _ from HST.out).mono ?_
      rintro e w1 ⟨rfl, F1, hd1, hm1⟩
      have HM1 : Hid (Moved w w1 F F1) := hm1
      have HD1 : Hid (DI w1 g F1 S) := hd1
      obtain ⟨v1, v2, L1, L2, h1, h2, h3, hF, h4⟩ := hd1
      obtain ⟨c0, c1, c2, c3, c4, c5, cf⟩ := row6 h1
      have HN1 : Hid _ := drop_no S.seed g 1 k S.T1 L1 v1 w1 HSI.out.wf1 HSI.out.sz1 HA.out.1 (by omega) c1 h2
      clear hm1 h1 h2 h3 hF h4
      go_wp2_with fail
      refine (show Calls _ _ _ _ _ from HHS.out _).mono ?_
      rintro e w1' ⟨rfl, rfl⟩
      clear c0 c1 c2 c3 c4 c5 cf
      go_wp2_with fail
      refine (show Calls _ _ _ _ _ from HN1.out).mono ?_
      rintro e w2 ⟨rfl, hb2⟩
      have HN2 : Hid _ := di_drop2 g F1 S k w2 HSI.out.wf2 HSI.out.sz2 HA.out.2 (by omega) (HD1.out.on hb2)
      have HM2 : Hid (Moved w w2 F F1) := HM1.out.trans (Moved.of_below hb2)
      clear hb2
      go_wp2_with fail
      refine (show Calls _ _ _ _ _ from HN2.out).mono ?_
      rintro e w3 ⟨rfl, F3, hd3, hm3⟩
      rw [← HCT.out] at hd3
      have HEN : Hid _ := di_end g F3 (cutD S k) w3 hd3
      have HM3 : Hid (Moved w w3 F F3) := HM2.out.trans hm3
      clear hd3 hm3
      go_wp2_with fail
      refine (show Calls _ _ _ _ _ from HEN.out).mono ?_
      rintro e w4 ⟨rfl, F4, hd4, hm4⟩
      have HGV : Hid _ := di_give g F4 (endD (cutD S k)) HCI.out HCN.out hcc w4 hd4
      have HM4 : Hid (Moved w w4 F F4) := HM3.out.trans hm4
      clear hd4 hm4
      go_wp2_with fail
      refine (show Calls _ _ _ _ _ from HGV.out).mono ?_
      rintro e w5 ⟨rfl, F5, hd5, hm5⟩
      have HD5 : Hid (DI w5 g F5 (giveD (endD (cutD S k)))) := hd5
      have HM5 : Hid (Moved w w5 F F5) := HM4.out.trans hm5
      clear hd5 hm5
      go_wp2
      go_returns
      exact ⟨rfl, F5, HD5.out, HM5.out⟩
    · have HA : Hid (thas S.seed S.T1 k = true) := ha
      have HCT : Hid (cutD S k = ⟨S.seed, tdrop S.seed S.T1 k, S.T2, S.ix⟩) := by show _ = _; unfold cutD; rw [if_pos ha]
      clear ha
      go_enter Try.func10, Try.ntmps10
      go_wp2_with fail
      refine (show Calls _ _ _ _ _ from HST.out).mono ?_
      rintro e w1 ⟨rfl, F1, hd1, hm1⟩
      have HM1 : Hid (Moved w w1 F F1) := hm1
      obtain ⟨u1, u2, hr1⟩ := hd1.row
      obtain ⟨c0, c1, c2, c3, c4, c5, cf⟩ := row6 hr1
      have HN1 : Hid _ := di_drop1 g F1 S k w1 HSI.out.wf1 HSI.out.sz1 HA.out (by omega) hd1
      clear hm1 hd1 hr1
      go_wp2_with fail
      refine (show Calls _ _ _ _ _ from HHS.out _).mono ?_
      rintro e w1' ⟨rfl, rfl⟩
      clear c0 c1 c2 c3 c4 c5 cf
      go_wp2_with fail
      refine (show Calls _ _ _ _ _ from HN1.out).mono ?_
      rintro e w3 ⟨rfl, F3, hd3, hm3⟩
      rw [← HCT.out] at hd3
      have HEN : Hid _ := di_end g F3 (cutD S k) w3 hd3
      have HM3 : Hid (Moved w w3 F F3) := HM1.out.trans hm3
      clear hd3 hm3
      go_wp2_with fail
      refine (show Calls _ _ _ _ _ from HEN.out).mono ?_
      rintro e w4 ⟨rfl, F4, hd4, hm4⟩
      have HGV : Hid _ := di_give g F4 (endD (cutD S k)) HCI.out HCN.out hcc w4 hd4
      have HM4 : Hid (Moved w w4 F F4) := HM3.out.trans hm4
      clear hd4 hm4
      go_wp2_with fail
      refine (show Calls _ _ _ _ _ from HGV.out).mono ?_
      rintro e w5 ⟨rfl, F5, hd5, hm5⟩
      have HD5 : Hid (DI w5 g F5 (giveD (endD (cutD S k)))) := hd5
      have HM5 : Hid (Moved w w5 F F5) := HM4.out.trans hm5
      clear hd5 hm5
      go_wp2
      go_returns
      exact ⟨rfl, F5, HD5.out, HM5.out⟩
end Go.Proofs.Ytdemodhjlbkbeab
