import Derived.Test.YtafphabeihoijaaDoorLstM
namespace Go.Proofs.YtafphabeihoijaaDoor
open Go.RowKit
set_option linter.unusedVariables false
open Classical in
set_option maxHeartbeats 60000000 in
set_option maxRecDepth 100000 in
theorem Lists_walk (A : Option Addr) (G O M C : Nat) (w : World) (hw : Lay w) (hA : M ≠ 0 → A = some ⟨G, O, none⟩) (hM : M ≤ 70368744177664) (hops : ∀ j, j < M → ∃ kd I N tv ts, OpIs w G O j kd I N tv ts) :
    Calls Tryd.prog 6 #[.slice A M C] w fun e w' => e = .returned (.bool true) ∧ Below w.heap.size w w' := by
  have HW : Hid (Lay w) := hw
  have HOP : Hid _ := hops
  have HAA : Hid _ := hA
  have hf0 : fitI [] 0 0 [] := by rw [fI_nil]; simp [LM.bsum]
  have hpk0 : LM.Pk (strB (LM.build [])).data.toList [] := by
    have := fit_pk hf0
    rw [nI_nil] at this
    rw [strB_list]; exact this
  have HNW : Hid (∀ W, Lay W → Calls Tryd.prog 10 #[.slice none 0 0] W fun e w' => e = .returned (.tuple #[.string (strB (LM.build [])), .int .i64 0]) ∧ Below W.heap.size W w') := fun W hW =>
    New_pk (strB (LM.build [])) [] hpk0 (.slice none 0 0) W (Or.inl ⟨rfl, none, 0, rfl⟩) hW
  have HPK0 : Hid _ := hpk0
  have HWK : Hid (∀ W, Lay W → Calls Tryd.prog 11 #[] W fun e w' => e = .returned (.bool true) ∧ Below W.heap.size W w') := works_any
  clear hw hops hA hf0 hpk0
  generalize strB (LM.build []) = Z0 at *
  go_enter Tryd.func6, Tryd.ntmps6
  go_wp2_with fail
  refine (show Calls _ _ _ _ _ from HNW.out _ HW.out).mono ?_
  rintro e w1 ⟨rfl, hb1⟩
  have HB1 : Hid (Below w.heap.size w w1) := hb1
  clear hb1
  go_wp2_with fail
  refine (show Calls _ _ _ _ _ from HWK.out _ (HW.out.on HB1.out)).mono ?_
  rintro e w2 ⟨rfl, hb2⟩
  have HB2 : Hid (Below w.heap.size w w2) := bel_to HB1.out hb2 (Nat.le_refl _)
  clear hb2
  go_wp2
  go_loopw [3, 4, 5, 6] (fun pv ev lv ci wr => ∃ (i : Nat) (P : ByteArray) (its : List LM.Item) (E : Int) (LP : Option Addr) (LC n : Nat), n = its.length ∧ ci = .int .i64 (i : Int) ∧ i ≤ M ∧ i ≤ 100 ∧ pv = .string P ∧ ev = .int .i64 E ∧ lv = .slice LP n LC ∧ LM.Pk P.data.toList its ∧ Own w.heap.size wr (.slice LP n LC) its ∧ Below w.heap.size w wr) (fun _ _ _ ci _ => 100 - (intOf ci).toNat)
  case atStart => exact ⟨0, Z0, [], 0, none, 0, 0, rfl, rfl, by omega, by omega, rfl, rfl, rfl, HPK0.out, ⟨rfl, Or.inl ⟨rfl, rfl⟩⟩, HB2.out⟩
  case round =>
    obtain ⟨i, P, its, E, LP, LC, n, hnn, rfl, hiM, hi100, rfl, rfl, rfl, hpk, hown, hbr⟩ := hrel
    have HBR : Hid (Below w.heap.size w wr) := hbr
    have HNN : Hid (n = its.length) := hnn
    have HPK : Hid _ := hpk
    have HOW : Hid (Own w.heap.size wr (.slice LP n LC) its) := hown
    clear hpk hown hbr hnn
    by_cases hlt : i < M ∧ i < 100
    · obtain ⟨hl1, hl2⟩ := hlt
      obtain ⟨kd, I, N, tv, ts, hop⟩ := HOP.out i hl1
      have hop := hop.on HBR.out
      obtain ⟨TP, TC, rfl⟩ := hop.row.form
      have HOI : Hid (OpIs wr G O i kd I N (.slice TP ts.length TC) ts) := hop
      have hAe := HAA.out (by omega)
      subst hAe
      obtain ⟨c0, c1, c2, c3, _, _, _, _, _⟩ := hop
      have hz0 : (0 : Int) ≤ (i : Int) := by omega
      have hz1 : (i : Int) < (M : Int) := by omega
      have hz2 : decide ((i : Int) < 100) = true := by simp; omega
      go_upto_block 2 with fail
      obtain ⟨ko, hko⟩ : ∃ ko, wr.heap.size = ko := ⟨_, rfl⟩
      obtain ⟨W3, hW3⟩ : ∃ W3, W3 = wr.alloc (.cells #[.int .i64 kd, .int .i64 I, .int .i64 N, .slice TP ts.length TC] 39) := ⟨_, rfl⟩
      rw [← hW3, hko]
      have hbw : Below wr.heap.size wr W3 := by rw [hW3]; exact (Below.refl _ _).alloc (Nat.le_refl _) _
      have HK3 : Hid (W3.heap[ko]? = some (.cells #[.int .i64 kd, .int .i64 I, .int .i64 N, .slice TP ts.length TC] 39)) := by rw [hW3, ← hko]; exact one_alloc wr _
      have HB3 : Hid (Below w.heap.size w W3) := bel_to HBR.out hbw (Nat.le_refl _)
      have HOW3 : Hid (Own w.heap.size W3 (.slice LP n LC) its) := HOW.out.keep hbw
      have HOI3 : Hid (OpIs W3 G O i kd I N (.slice TP ts.length TC) ts) := HOI.out.on hbw
      clear hW3 hko hbw c0 c1 c2 c3
      go_cut [4, 8, 9, 10, 11] from 24 to 197 (fun ev qv nv av bv wc => AfterSw w (.slice LP n LC) its ev qv nv wc)
      case first =>
        obtain ⟨d0, d1, d2, d3, df⟩ := row4 HK3.out
        have HLY : Hid (Lay W3) := HW.out.on HB3.out
        obtain ⟨hI0, hI1, hN0, hN1⟩ := HOI3.out.i64
        by_cases hkd : kd = 0
        · as_aux_lemma =>
            subst hkd
            have hn := HNN.out
            by_cases hr : 0 ≤ I ∧ I ≤ (n : Int)
            · obtain ⟨k, rfl⟩ : ∃ k : Nat, I = (k : Int) := ⟨I.toNat, by omega⟩
              have hk : k ≤ its.length := by omega
              have hkn : k ≤ n := by omega
              have hLm : its.length ≤ 1048576 := HPK.out.len
              clear hn
              have hC := Insert_in P its HPK.out k hk (.slice TP ts.length TC) ts (by have := HOI3.out.len; omega) HOI3.out.each W3 HOI3.out.row HLY.out
              by_cases hf : fitI its k 0 ts
              · unfold outS at hC
                rw [if_pos hf] at hC
                have hpn : LM.Pk (strB (LM.build (newI its k 0 ts))).data.toList (newI its k 0 ts) := by rw [strB_list]; exact pk_new HPK.out (by omega) hf
                have HNL : Hid ((newI its k 0 ts).length = k + (ts.length + (its.length - k))) := by have := new_len its k 0 ts (by omega); exact this
                have HNV : Hid (valsOf (newI its k 0 ts) = (valsOf its).take k ++ (ts ++ (valsOf its).drop k)) := vals_new its k 0 ts
                have HBD : Hid ((newI its k 0 ts).length ≤ 1048576) := hpn.len
                generalize strB (LM.build (newI its k 0 ts)) = QB at hC hpn
                generalize newI its k 0 ts = its' at hpn HNL HNV HBD
                have HPN : Hid _ := hpn
                have HC : Hid _ := hC
                clear hC hf hpn
                go_wp2_with fail
                refine (show Calls _ _ _ _ _ from HC.out).mono ?_
                rintro e w4 ⟨rfl, hb4⟩
                have HB4 : Hid (Below W3.heap.size W3 w4) := hb4
                have HK4 : Hid _ := keep_row HK3.out hb4
                have HTS : Hid (SRow w4 (.slice TP ts.length TC) ts ∧ ∀ c, Value.slice TP ts.length TC = .slice none 0 c → c = 0) := ⟨HOI3.out.row.on hb4, HOI3.out.nil⟩
                have HBW4 : Hid (Below w.heap.size w w4) := bel_to HB3.out hb4 (Nat.le_refl _)
                have hform := (HOW3.out.keep hb4).form
                clear hb4 d0 d1 d2 d3 df
                obtain ⟨d0, d1, d2, d3, df⟩ := row4 HK4.out
                have HON : Hid (w4.ownsRow w4.heap.size 9 1 (.slice none 0 0) 0 []) := ⟨rfl, Or.inl ⟨rfl, rfl⟩⟩
                have hkL : (k : Int) ≤ (n : Int) := by omega
                have hk0 : (0 : Int) ≤ (k : Int) := by omega
                rcases hform with ⟨hlv, hlz⟩ | ⟨g, c, hlv, hrow, hnc, hgb, hcm⟩
                · injection hlv with e1 e2 e3
                  subst e1; subst e3
                  have hnz : n = 0 := by have := HNN.out; omega
                  subst hnz
                  obtain rfl : k = 0 := by omega
                  have HZV : Hid (valsOf its = []) := List.eq_nil_of_length_eq_zero (by rw [vals_len]; exact hlz)
                  have HLZ : Hid (its.length = 0) := hlz
                  clear hlz e2
                  go_upto_region 20 with fail
                  go_wp2_with (at_builtin; go_must (refine wpList_append_srow rfl _ _ rfl w4.heap.size (.slice none 0 0) 0 [] rfl HON.out (.slice none 0 0) [] rfl (Or.inl ⟨rfl, none, 0, rfl⟩) (fun c h => nil_cap h) (by simp) (Nat.le_refl _) ?_))
                  intro v1 w5 ho1 hg1
                  have HO1 : Hid (w5.ownsRow w4.heap.size 9 1 v1 0 []) := by show World.ownsRow _ _ _ _ _ _ _; simpa using ho1
                  have HB5 : Hid (Below w4.heap.size w4 w5) := (Below.refl _ w4).grown hg1 (Nat.le_refl _) (fun k hk => by cases hk)
                  clear ho1 hg1 d0 d1 d2 d3 df
                  have HK5 : Hid _ := keep_row HK4.out HB5.out
                  obtain ⟨d0, d1, d2, d3, df⟩ := row4 HK5.out
                  go_wp2_with (at_builtin; go_must (refine wpList_append_srow rfl _ _ rfl w4.heap.size v1 _ _ rfl HO1.out (.slice TP ts.length TC) ts rfl (HTS.out.1.on HB5.out) HTS.out.2 ?z3 HB5.out.size ?_))
                  case z3 => have h1 := HNL.out; have h2 := HBD.out; omega
                  intro v2 w6 ho2 hg2
                  have HO2 : Hid (w6.ownsRow w4.heap.size 9 1 v2 ts.length (ts.map Value.string)) := by show World.ownsRow _ _ _ _ _ _ _; simpa using ho2
                  have HB6 : Hid (Below w4.heap.size w4 w6) := HB5.out.grown hg2 HB5.out.size (fun k hk => (World.ownsRow.lt HO1.out k hk).1)
                  clear ho2 hg2 d0 d1 d2 d3 df
                  have HK6 : Hid _ := keep_row HK4.out HB6.out
                  obtain ⟨d0, d1, d2, d3, df⟩ := row4 HK6.out
                  go_wp2_with (at_builtin; go_must (refine wpList_append_srow rfl _ _ rfl w4.heap.size v2 _ _ rfl HO2.out (.slice none 0 0) [] rfl (Or.inl ⟨rfl, none, 0, rfl⟩) (fun c h => nil_cap h) ?z6 HB6.out.size ?_))
                  case z6 => have h1 := HNL.out; have h2 := HBD.out; simp; omega
                  intro v3 w7 ho3 hg3
                  have HO3 : Hid (Own w.heap.size w7 v3 its') := by
                    have h1 := HNL.out
                    show World.ownsRow _ _ _ _ _ _ _
                    rw [HNV.out, HZV.out]
                    have h2 := HLZ.out
                    have e1 : its'.length = ts.length := by omega
                    rw [e1]
                    simpa using own_base ho3 HBW4.out.size
                  have HB7 : Hid (Below w4.heap.size w4 w7) := HB6.out.grown hg3 HB6.out.size (fun k hk => (World.ownsRow.lt HO2.out k hk).1)
                  clear ho3 hg3
                  go_wp2_with fail
                  go_meet
                  exact Or.inl ⟨rfl, its', QB, rfl, HPN.out, HO3.out, bel_to HBW4.out HB7.out (Nat.le_refl _)⟩
                · injection hlv with e1 e2 e3
                  subst e1; subst e3
                  have HRW : Hid (RowAt w4 g LC ((valsOf its).map Value.string)) := hrow
                  have hkC : (k : Int) ≤ (LC : Int) := by omega
                  have hnC : n ≤ LC := by omega
                  clear hrow e2 hnc
                  by_cases hcap : LC = k
                  · have hcap := hcap.symm
                    subst hcap
                    have hkn2 : k = n := by omega
                    subst hkn2
                    go_upto_region 20 with fail
                    have HVL : Hid ((valsOf its).length = its.length) := vals_len its
                    go_wp2_with (at_builtin; go_must (refine wpList_append_srow rfl _ _ rfl w4.heap.size (.slice none 0 0) 0 [] rfl HON.out (.slice (some ⟨g, 0, none⟩) k k) ((valsOf its).take k) rfl (RowAt.take HRW.out k k ?p1) (fun c h => by cases h) ?p2 (Nat.le_refl _) ?_))
                    case p1 => rw [HVL.out]; exact hk
                    case p2 => have h1 := HNL.out; have h2 := HBD.out; have h3 := HVL.out; rw [List.length_take]; omega
                    intro v1 w5 ho1 hg1
                    have HO1 : Hid (w5.ownsRow w4.heap.size 9 1 v1 (0 + ((valsOf its).take k).length) ([] ++ ((valsOf its).take k).map Value.string)) := by show World.ownsRow _ _ _ _ _ _ _; simpa using ho1
                    have HB5 : Hid (Below w4.heap.size w4 w5) := (Below.refl _ w4).grown hg1 (Nat.le_refl _) (fun k hk => by cases hk)
                    clear ho1 hg1 d0 d1 d2 d3 df
                    have HK5 : Hid _ := keep_row HK4.out HB5.out
                    obtain ⟨d0, d1, d2, d3, df⟩ := row4 HK5.out
                    go_wp2_with (at_builtin; go_must (refine wpList_append_srow rfl _ _ rfl w4.heap.size v1 _ _ rfl HO1.out (.slice TP ts.length TC) ts rfl (HTS.out.1.on HB5.out) HTS.out.2 ?p3 HB5.out.size ?_))
                    case p3 => have h1 := HNL.out; have h2 := HBD.out; have h3 := HVL.out; rw [List.length_take]; omega
                    intro v2 w6 ho2 hg2
                    have HO2 : Hid (w6.ownsRow w4.heap.size 9 1 v2 (0 + ((valsOf its).take k).length + ts.length) ([] ++ ((valsOf its).take k).map Value.string ++ ts.map Value.string)) := by show World.ownsRow _ _ _ _ _ _ _; simpa using ho2
                    have HB6 : Hid (Below w4.heap.size w4 w6) := HB5.out.grown hg2 HB5.out.size (fun k hk => (World.ownsRow.lt HO1.out k hk).1)
                    clear ho2 hg2 d0 d1 d2 d3 df
                    have HK6 : Hid _ := keep_row HK4.out HB6.out
                    obtain ⟨d0, d1, d2, d3, df⟩ := row4 HK6.out
                    go_wp2_with (at_builtin; go_must (refine wpList_append_srow rfl _ _ rfl w4.heap.size v2 _ _ rfl HO2.out _ ((valsOf its).drop k) rfl ?p4 ?p5 ?p6 HB6.out.size ?_))
                    all_goals first
                      | exact Or.inl ⟨List.drop_eq_nil_of_le (by rw [HVL.out, ← HNN.out]; exact Nat.le_refl _), _, _, rfl⟩
                      | exact (RowAt.on HRW.out HB6.out).tail k _ _ (by rw [HVL.out]; exact hk) (by rw [HVL.out, ← HNN.out])
                      | (intro c h; cases h; done)
                      | (have h1 := HNL.out; have h2 := HBD.out; have h3 := HVL.out; rw [List.length_take, List.length_drop]; omega)
                      | (intro v3 w7 ho3 hg3
                         have HO3 : Hid (Own w.heap.size w7 v3 its') := by
                           have h1 := HNL.out
                           have h3 := HVL.out
                           show World.ownsRow _ _ _ _ _ _ _
                           rw [HNV.out, List.map_append, List.map_append, List.map_take, List.map_drop]
                           have e1 : min k (valsOf its).length + ts.length + ((valsOf its).length - k) = its'.length := by omega
                           rw [e1] at ho3
                           exact own_base ho3 HBW4.out.size
                         have HB7 : Hid (Below w4.heap.size w4 w7) := HB6.out.grown hg3 HB6.out.size (fun k hk => (World.ownsRow.lt HO2.out k hk).1)
                         clear ho3 hg3
                         go_wp2_with fail
                         go_meet
                         exact Or.inl ⟨rfl, its', QB, rfl, HPN.out, HO3.out, bel_to HBW4.out HB7.out (Nat.le_refl _)⟩)
                  · have hcne : ¬ k = LC := fun h => hcap h.symm
                    go_upto_region 20 with fail
                    have HVL : Hid ((valsOf its).length = its.length) := vals_len its
                    go_wp2_with (at_builtin; go_must (refine wpList_append_srow rfl _ _ rfl w4.heap.size (.slice none 0 0) 0 [] rfl HON.out (.slice (some ⟨g, 0, none⟩) k LC) ((valsOf its).take k) rfl (RowAt.take HRW.out k LC ?r1) (fun c h => by cases h) ?r2 (Nat.le_refl _) ?_))
                    case r1 => rw [HVL.out]; exact hk
                    case r2 => have h1 := HNL.out; have h2 := HBD.out; have h3 := HVL.out; rw [List.length_take]; omega
                    intro v1 w5 ho1 hg1
                    have HO1 : Hid (w5.ownsRow w4.heap.size 9 1 v1 (0 + ((valsOf its).take k).length) ([] ++ ((valsOf its).take k).map Value.string)) := by show World.ownsRow _ _ _ _ _ _ _; simpa using ho1
                    have HB5 : Hid (Below w4.heap.size w4 w5) := (Below.refl _ w4).grown hg1 (Nat.le_refl _) (fun k hk => by cases hk)
                    clear ho1 hg1 d0 d1 d2 d3 df
                    have HK5 : Hid _ := keep_row HK4.out HB5.out
                    obtain ⟨d0, d1, d2, d3, df⟩ := row4 HK5.out
                    go_wp2_with (at_builtin; go_must (refine wpList_append_srow rfl _ _ rfl w4.heap.size v1 _ _ rfl HO1.out (.slice TP ts.length TC) ts rfl (HTS.out.1.on HB5.out) HTS.out.2 ?r3 HB5.out.size ?_))
                    case r3 => have h1 := HNL.out; have h2 := HBD.out; have h3 := HVL.out; rw [List.length_take]; omega
                    intro v2 w6 ho2 hg2
                    have HO2 : Hid (w6.ownsRow w4.heap.size 9 1 v2 (0 + ((valsOf its).take k).length + ts.length) ([] ++ ((valsOf its).take k).map Value.string ++ ts.map Value.string)) := by show World.ownsRow _ _ _ _ _ _ _; simpa using ho2
                    have HB6 : Hid (Below w4.heap.size w4 w6) := HB5.out.grown hg2 HB5.out.size (fun k hk => (World.ownsRow.lt HO1.out k hk).1)
                    clear ho2 hg2 d0 d1 d2 d3 df
                    have HK6 : Hid _ := keep_row HK4.out HB6.out
                    obtain ⟨d0, d1, d2, d3, df⟩ := row4 HK6.out
                    go_wp2_with (at_builtin; go_must (refine wpList_append_srow rfl _ _ rfl w4.heap.size v2 _ _ rfl HO2.out (.slice (some ⟨g, k, none⟩) (n - k) (LC - k)) ((valsOf its).drop k) rfl ?r4 ?r5 ?r6 HB6.out.size ?_))
                    all_goals first
                      | exact srow_zero (by omega) (List.drop_eq_nil_of_le (by rw [HVL.out]; omega))
                      | exact (RowAt.on HRW.out HB6.out).tail k _ _ (by rw [HVL.out]; exact hk) (by rw [HVL.out, ← HNN.out])
                      | (intro c h; cases h; done)
                      | (have h1 := HNL.out; have h2 := HBD.out; have h3 := HVL.out; rw [List.length_take, List.length_drop]; omega)
                      | (intro v3 w7 ho3 hg3
                         have HO3 : Hid (Own w.heap.size w7 v3 its') := by
                           have h1 := HNL.out
                           have h3 := HVL.out
                           show World.ownsRow _ _ _ _ _ _ _
                           rw [HNV.out, List.map_append, List.map_append, List.map_take, List.map_drop]
                           have e1 : min k (valsOf its).length + ts.length + ((valsOf its).length - k) = its'.length := by omega
                           rw [e1] at ho3
                           exact own_base ho3 HBW4.out.size
                         have HB7 : Hid (Below w4.heap.size w4 w7) := HB6.out.grown hg3 HB6.out.size (fun k hk => (World.ownsRow.lt HO2.out k hk).1)
                         clear ho3 hg3
                         go_wp2_with fail
                         go_meet
                         exact Or.inl ⟨rfl, its', QB, rfl, HPN.out, HO3.out, bel_to HBW4.out HB7.out (Nat.le_refl _)⟩)
              · unfold outS at hC
                rw [if_neg hf] at hC
                have HC : Hid _ := hC
                clear hC hf
                go_wp2_with fail
                refine (show Calls _ _ _ _ _ from HC.out).mono ?_
                rintro e w4 ⟨rfl, hb4⟩
                have HB4 : Hid (Below W3.heap.size W3 w4) := hb4
                have HK4 : Hid _ := keep_row HK3.out hb4
                clear hb4 d0 d1 d2 d3 df
                obtain ⟨d0, d1, d2, d3, df⟩ := row4 HK4.out
                go_wp2_with fail
                go_meet
                exact Or.inr ⟨2, Or.inr (Or.inl rfl), rfl, rfl, HOW3.out.keep HB4.out, bel_to HB3.out HB4.out (Nat.le_refl _)⟩
            · have HC : Hid _ := Insert_out P its HPK.out I (by rw [← hn]; exact hr) (.slice TP ts.length TC) ts W3 HOI3.out.row HLY.out
              clear hr hn
              go_wp2_with fail
              refine (show Calls _ _ _ _ _ from HC.out).mono ?_
              rintro e w4 ⟨rfl, hb4⟩
              have HB4 : Hid (Below W3.heap.size W3 w4) := hb4
              have HK4 : Hid _ := keep_row HK3.out hb4
              clear hb4 d0 d1 d2 d3 df
              obtain ⟨d0, d1, d2, d3, df⟩ := row4 HK4.out
              go_wp2_with fail
              go_meet
              exact Or.inr ⟨1, Or.inl rfl, rfl, rfl, HOW3.out.keep HB4.out, bel_to HB3.out HB4.out (Nat.le_refl _)⟩
        · have hkz : (kd == 0) = false := by simpa using hkd
          by_cases hB : kd = 1 ∧ 0 < ts.length
          · as_aux_lemma =>
              obtain ⟨hk1, hts⟩ := hB
              subst hk1
              obtain ⟨tg, to_, hTP, hx0⟩ := HOI3.out.row.cell 0 hts
              subst hTP
              have hX := HOI3.out.each ts[0] (List.getElem_mem hts)
              generalize ts[0] = X at hx0 hX
              rw [Nat.add_zero] at hx0
              have htd : decide ((0 : Int) < (ts.length : Int)) = true := by simp; omega
              have htl : (0 : Int) < (ts.length : Int) := by omega
              have hn := HNN.out
              have hLm : its.length ≤ 1048576 := HPK.out.len
              by_cases hr : 0 ≤ I ∧ I < (n : Int)
              · obtain ⟨k, rfl⟩ : ∃ k : Nat, I = (k : Int) := ⟨I.toNat, by omega⟩
                have hk : k < its.length := by omega
                have hC := fun W hW => Set_in P its HPK.out k hk X hX W hW
                by_cases hf : fitI its k 1 [X]
                · unfold outS at hC
                  rw [if_pos hf] at hC
                  have hpn : LM.Pk (strB (LM.build (newI its k 1 [X]))).data.toList (newI its k 1 [X]) := by rw [strB_list]; exact pk_new HPK.out (by omega) hf
                  have HNL : Hid ((newI its k 1 [X]).length = its.length) := by have := new_len its k 1 [X] (by omega); show _ = _; rw [this]; simp; omega
                  have HNV : Hid (valsOf (newI its k 1 [X]) = (valsOf its).set k X) := by
                    have := vals_new its k 1 [X]
                    rw [take_set (valsOf its) k X (by rw [vals_len]; exact hk)] at this; exact this
                  generalize strB (LM.build (newI its k 1 [X])) = QB at hC hpn
                  generalize newI its k 1 [X] = its' at hpn HNL HNV
                  have HPN : Hid _ := hpn
                  have HC : Hid _ := hC
                  have hk0 : (0 : Int) ≤ (k : Int) := by omega
                  have hkL : (k : Int) < (n : Int) := by omega
                  have HKN : Hid (k < n) := by show _ < _; omega
                  clear hC hf hpn hn hkd hkz
                  go_upto_region 24 with fail
                  go_cut [4, 8] from 137 to 147 (fun ev qv wx => ev = .int .i64 0 ∧ qv = .string QB ∧ Below W3.heap.size W3 wx)
                  case first =>
                    refine wp_act (fun a0 ha0 => ?_)
                    refine set_region a0 W3 P X QB (k : Int) 0 ko tg to_ ts.length TC (by rw [ha0]; rfl) (by rw [ha0]; rfl) (by rw [ha0]; rfl) d1 d3 htl hx0 (HC.out _ (HLY.out.on (below_dn (Below.refl _ W3) 1))) (fun _ _ _ _ _ h => h) (fun w4 hb4 => ?_)
                    rw [ha0]
                    simp only [Act.put, List.setIfInBounds_toArray, List.set_cons_zero, List.set_cons_succ]
                    clear ha0
                    go_wp2_with fail
                    go_meet
                    exact ⟨rfl, rfl, hb4⟩
                  case rest =>
                  obtain ⟨rfl, rfl, hb4⟩ := hcut
                  obtain ⟨w4, rfl⟩ : ∃ w4, w4 = wc := ⟨_, rfl⟩
                  have HB4 : Hid (Below W3.heap.size W3 w4) := hb4
                  have HK4 : Hid _ := keep_row HK3.out hb4
                  clear d0 d1 d2 d3 df
                  obtain ⟨d0, d1, d2, d3, df⟩ := row4 HK4.out
                  have HBW4 : Hid (Below w.heap.size w w4) := bel_to HB3.out hb4 (Nat.le_refl _)
                  have hown4 := HOW3.out.keep hb4
                  have hcx := cell_on hx0 hb4
                  have HTW : Hid (Calls Tryd.prog 18 #[.slice LP n LC] w4 fun e w' => ∃ v', e = .returned v' ∧ w'.ownsRow w4.heap.size 9 1 v' (valsOf its).length ((valsOf its).map Value.string) ∧ Below w4.heap.size w4 w') := twin_own _ (valsOf its) (by rw [vals_len]; omega) w4 hown4.srow.1 hown4.srow.2
                  clear hown4 hb4
                  go_wp2_with fail
                  refine (show Calls _ _ _ _ _ from HTW.out).mono ?_
                  rintro e w5 ⟨v', rfl, ho5, hb5⟩
                  have HB5 : Hid (Below w4.heap.size w4 w5) := hb5
                  rw [vals_len, ← HNN.out] at ho5
                  obtain ⟨g', c', rfl, hrow5, hgb, hcm⟩ := own_some ho5 (by have := HKN.out; omega)
                  have HRW5 : Hid (RowAt w5 g' c' ((valsOf its).map Value.string)) := hrow5
                  have HGB : Hid (w4.heap.size ≤ g' ∧ c' ≤ maxLen) := ⟨hgb, hcm⟩
                  have hkv : k < ((valsOf its).map Value.string).length := by rw [List.length_map, vals_len]; exact hk
                  have hc5 := hrow5.cell k _ (List.getElem?_eq_getElem hkv)
                  have hf5 := hrow5.frozen k
                  generalize ((valsOf its).map Value.string)[k] = old at hc5
                  have hcx5 := cell_on hcx hb5
                  clear hb5 ho5 hrow5 hgb hcm d0 d1 d2 d3 df hcx hx0
                  have HK5 : Hid _ := keep_row HK4.out HB5.out
                  obtain ⟨d0, d1, d2, d3, df⟩ := row4 HK5.out
                  have HFIN : Hid (Own w.heap.size (w5.setCell ⟨g', k, none⟩ (.string X)) (.slice (some ⟨g', 0, none⟩) n c') its' ∧ Below w.heap.size w (w5.setCell ⟨g', k, none⟩ (.string X))) := by
                    have hgw : w.heap.size ≤ g' := Nat.le_trans HBW4.out.size HGB.out.1
                    refine ⟨?_, (bel_to HBW4.out HB5.out (Nat.le_refl _)).setCell (p := ⟨g', k, none⟩) hgw _⟩
                    have h1 := RowAt.set HRW5.out k (.string X) hkv
                    rw [← List.map_set, ← HNV.out] at h1
                    have h2 := own_base (RowAt.own h1 HGB.out.2) hgw
                    rw [List.length_map, vals_len, HNL.out, ← HNN.out] at h2
                    show World.ownsRow _ _ _ _ _ _ _
                    rw [HNL.out, ← HNN.out]; exact h2
                  clear hkv
                  go_upto_region 27 with fail
                  go_region
                  all_goals (go_wp2_with fail; go_meet; exact Or.inl ⟨rfl, its', QB, rfl, HPN.out, HFIN.out.1, below_dn HFIN.out.2 1⟩)
                · unfold outS at hC
                  rw [if_neg hf] at hC
                  have HC : Hid _ := hC
                  clear hC hf hn hkd hkz
                  go_upto_region 24 with fail
                  go_cut [4, 8] from 137 to 147 (fun ev qv wx => ev = .int .i64 2 ∧ qv = .string ⟨#[]⟩ ∧ Below W3.heap.size W3 wx)
                  case first =>
                    refine wp_act (fun a0 ha0 => ?_)
                    refine set_region a0 W3 P X ⟨#[]⟩ (k : Int) 2 ko tg to_ ts.length TC (by rw [ha0]; rfl) (by rw [ha0]; rfl) (by rw [ha0]; rfl) d1 d3 htl hx0 (HC.out _ (HLY.out.on (below_dn (Below.refl _ W3) 1))) (fun _ _ _ _ _ h => h) (fun w4 hb4 => ?_)
                    rw [ha0]
                    simp only [Act.put, List.setIfInBounds_toArray, List.set_cons_zero, List.set_cons_succ]
                    clear ha0
                    go_wp2_with fail
                    go_meet
                    exact ⟨rfl, rfl, hb4⟩
                  case rest =>
                  obtain ⟨rfl, rfl, hb4⟩ := hcut
                  obtain ⟨w4, rfl⟩ : ∃ w4, w4 = wc := ⟨_, rfl⟩
                  have HB4 : Hid (Below W3.heap.size W3 w4) := hb4
                  have HK4 : Hid _ := keep_row HK3.out hb4
                  clear d0 d1 d2 d3 df
                  obtain ⟨d0, d1, d2, d3, df⟩ := row4 HK4.out
                  clear hb4
                  go_wp2_with fail
                  go_meet
                  exact Or.inr ⟨2, Or.inr (Or.inl rfl), rfl, rfl, HOW3.out.keep HB4.out, bel_to HB3.out HB4.out (Nat.le_refl _)⟩
              · have HC : Hid (∀ W, Lay W → Calls Tryd.prog 17 #[.string P, .int .i64 I, .string X] W fun e w' => e = .returned (.tuple #[.string ⟨#[]⟩, .int .i64 6]) ∧ Below W.heap.size W w') := fun W hW => Set_out P its HPK.out I (by rw [← hn]; exact hr) X W hW
                clear hr hn hkd hkz
                go_upto_region 24 with fail
                go_cut [4, 8] from 137 to 147 (fun ev qv wx => ev = .int .i64 6 ∧ qv = .string ⟨#[]⟩ ∧ Below W3.heap.size W3 wx)
                case first =>
                  refine wp_act (fun a0 ha0 => ?_)
                  refine set_region a0 W3 P X ⟨#[]⟩ I 6 ko tg to_ ts.length TC (by rw [ha0]; rfl) (by rw [ha0]; rfl) (by rw [ha0]; rfl) d1 d3 htl hx0 (HC.out _ (HLY.out.on (below_dn (Below.refl _ W3) 1))) (fun _ _ _ _ _ h => h) (fun w4 hb4 => ?_)
                  rw [ha0]
                  simp only [Act.put, List.setIfInBounds_toArray, List.set_cons_zero, List.set_cons_succ]
                  clear ha0
                  go_wp2_with fail
                  go_meet
                  exact ⟨rfl, rfl, hb4⟩
                case rest =>
                obtain ⟨rfl, rfl, hb4⟩ := hcut
                obtain ⟨w4, rfl⟩ : ∃ w4, w4 = wc := ⟨_, rfl⟩
                have HB4 : Hid (Below W3.heap.size W3 w4) := hb4
                have HK4 : Hid _ := keep_row HK3.out hb4
                clear d0 d1 d2 d3 df
                obtain ⟨d0, d1, d2, d3, df⟩ := row4 HK4.out
                clear hb4
                go_wp2_with fail
                go_meet
                exact Or.inr ⟨6, Or.inr (Or.inr rfl), rfl, rfl, HOW3.out.keep HB4.out, bel_to HB3.out HB4.out (Nat.le_refl _)⟩
          · as_aux_lemma =>
              have hn := HNN.out
              by_cases hr : 0 ≤ I ∧ 0 ≤ N
              · obtain ⟨k, rfl⟩ : ∃ k : Nat, I = (k : Int) := ⟨I.toNat, by omega⟩
                obtain ⟨m, rfl⟩ : ∃ m : Nat, N = (m : Int) := ⟨N.toNat, by omega⟩
                have hC := Delete_in P its HPK.out k m (by omega) (by omega) W3 HLY.out
                obtain ⟨a, ha⟩ : ∃ a, min k its.length = a := ⟨_, rfl⟩
                obtain ⟨d, hd⟩ : ∃ d, min m (its.length - a) = d := ⟨_, rfl⟩
                obtain ⟨b, hb⟩ : ∃ b, a + d = b := ⟨_, rfl⟩
                rw [ha, hd] at hC
                have hadl : a + d ≤ its.length := by omega
                have hf := fit_del HPK.out hadl
                unfold outS at hC
                rw [if_pos hf] at hC
                have hpn : LM.Pk (strB (LM.build (newI its a d []))).data.toList (newI its a d []) := by rw [strB_list]; exact pk_new HPK.out hadl hf
                have HNL : Hid ((newI its a d []).length = a + (0 + (its.length - b))) := by have := new_len its a d [] hadl; rw [hb] at this; exact this
                have HNV : Hid (valsOf (newI its a d []) = (valsOf its).take a ++ ([] ++ (valsOf its).drop b)) := by rw [← hb]; exact vals_new its a d []
                have HBD : Hid ((newI its a d []).length ≤ 1048576) := hpn.len
                have HAD : Hid (a ≤ its.length ∧ b ≤ its.length ∧ a ≤ b) := ⟨by omega, by omega, by omega⟩
                have hm1 : min (k : Int) (n : Int) = (a : Int) := by omega
                have hm2 : min (m : Int) ((n : Int) - (a : Int)) = (d : Int) := by omega
                have hm3 : (a : Int) + (d : Int) = (b : Int) := by omega
                have hLm : its.length ≤ 1048576 := HPK.out.len
                have han : (a : Int) ≤ (n : Int) := by omega
                have hbn : (b : Int) ≤ (n : Int) := by omega
                have hnm : (n : Int) ≤ 1048576 := by omega
                have hka : (0 : Int) ≤ (k : Int) := by omega
                have hma : (0 : Int) ≤ (m : Int) := by omega
                generalize strB (LM.build (newI its a d [])) = QB at hC hpn
                generalize newI its a d [] = its' at hpn HNL HNV HBD
                have HPN : Hid _ := hpn
                have HC : Hid _ := hC
                clear hC hf hpn hadl ha hd hb hn
                by_cases hk1 : kd = 1
                · subst hk1
                  have htz : ts.length = 0 := by omega
                  have htd : decide ((0 : Int) < (ts.length : Int)) = false := by rw [htz]; rfl
                  clear hkd hkz htz
                  go_wp2_with fail
                  refine (show Calls _ _ _ _ _ from HC.out).mono ?_
                  rintro e w4 ⟨rfl, hb4⟩
                  have HB4 : Hid (Below W3.heap.size W3 w4) := hb4
                  have HK4 : Hid _ := keep_row HK3.out hb4
                  have HBW4 : Hid (Below w.heap.size w w4) := bel_to HB3.out hb4 (Nat.le_refl _)
                  have hform := (HOW3.out.keep hb4).form
                  clear hb4 d0 d1 d2 d3 df
                  obtain ⟨d0, d1, d2, d3, df⟩ := row4 HK4.out
                  have HON : Hid (w4.ownsRow w4.heap.size 9 1 (.slice none 0 0) 0 []) := ⟨rfl, Or.inl ⟨rfl, rfl⟩⟩
                  rcases hform with ⟨hlv, hlz⟩ | ⟨g, c, hlv, hrow, hnc, hgb, hcm⟩
                  · injection hlv with e1 e2 e3
                    subst e1; subst e3
                    have hnz : n = 0 := by have := HNN.out; omega
                    subst hnz
                    obtain rfl : a = 0 := by omega
                    obtain rfl : b = 0 := by omega
                    obtain rfl : d = 0 := by omega
                    have hq1 : min (k : Int) 0 = 0 := by omega
                    have hq2 : min (m : Int) 0 = 0 := by omega
                    have HZV : Hid (valsOf its = []) := List.eq_nil_of_length_eq_zero (by rw [vals_len]; exact hlz)
                    have HLZ : Hid (its.length = 0) := hlz
                    clear hlz e2
                    go_upto_region 15 with fail
                    go_wp2_with (at_builtin; go_must (refine wpList_append_srow rfl _ _ rfl w4.heap.size (.slice none 0 0) 0 [] rfl HON.out (.slice none 0 0) [] rfl (Or.inl ⟨rfl, none, 0, rfl⟩) (fun c h => nil_cap h) (by simp) (Nat.le_refl _) ?_))
                    intro v1 w5 ho1 hg1
                    have HO1 : Hid (w5.ownsRow w4.heap.size 9 1 v1 0 []) := by show World.ownsRow _ _ _ _ _ _ _; simpa using ho1
                    have HB5 : Hid (Below w4.heap.size w4 w5) := (Below.refl _ w4).grown hg1 (Nat.le_refl _) (fun k hk => by cases hk)
                    clear ho1 hg1 d0 d1 d2 d3 df
                    have HK5 : Hid _ := keep_row HK4.out HB5.out
                    obtain ⟨d0, d1, d2, d3, df⟩ := row4 HK5.out
                    go_wp2_with (at_builtin; go_must (refine wpList_append_srow rfl _ _ rfl w4.heap.size v1 _ _ rfl HO1.out (.slice none 0 0) [] rfl (Or.inl ⟨rfl, none, 0, rfl⟩) (fun c h => nil_cap h) (by simp) HB5.out.size ?_))
                    intro v3 w7 ho3 hg3
                    have HO3 : Hid (Own w.heap.size w7 v3 its') := by
                      have h1 := HNL.out
                      have h2 := HLZ.out
                      show World.ownsRow _ _ _ _ _ _ _
                      rw [HNV.out, HZV.out]
                      have e1 : its'.length = 0 := by omega
                      rw [e1]
                      simpa using own_base ho3 HBW4.out.size
                    have HB7 : Hid (Below w4.heap.size w4 w7) := HB5.out.grown hg3 HB5.out.size (fun k hk => (World.ownsRow.lt HO1.out k hk).1)
                    clear ho3 hg3
                    go_wp2_with fail
                    go_meet
                    exact Or.inl ⟨rfl, its', QB, rfl, HPN.out, HO3.out, bel_to HBW4.out HB7.out (Nat.le_refl _)⟩
                  · injection hlv with e1 e2 e3
                    subst e1; subst e3
                    have HRW : Hid (RowAt w4 g LC ((valsOf its).map Value.string)) := hrow
                    have haC : (a : Int) ≤ (LC : Int) := by omega
                    have hnC : n ≤ LC := by omega
                    clear hrow e2 hnc
                    by_cases hcap : b = LC
                    · have hbn2 : b = n := by omega
                      subst hbn2
                      subst hcap
                      go_upto_region 15 with fail
                      have HVL : Hid ((valsOf its).length = its.length) := vals_len its
                      go_wp2_with (at_builtin; go_must (refine wpList_append_srow rfl _ _ rfl w4.heap.size (.slice none 0 0) 0 [] rfl HON.out (.slice (some ⟨g, 0, none⟩) a b) ((valsOf its).take a) rfl (RowAt.take HRW.out a b ?wu1) (fun c h => by cases h) ?wu2 (Nat.le_refl _) ?_))
                      case wu1 => rw [HVL.out]; have := HAD.out; omega
                      case wu2 => have h1 := HNL.out; have h2 := HBD.out; have h3 := HVL.out; rw [List.length_take]; omega
                      intro v1 w5 ho1 hg1
                      have HO1 : Hid (w5.ownsRow w4.heap.size 9 1 v1 (0 + ((valsOf its).take a).length) ([] ++ ((valsOf its).take a).map Value.string)) := by show World.ownsRow _ _ _ _ _ _ _; simpa using ho1
                      have HB5 : Hid (Below w4.heap.size w4 w5) := (Below.refl _ w4).grown hg1 (Nat.le_refl _) (fun k hk => by cases hk)
                      clear ho1 hg1 d0 d1 d2 d3 df
                      have HK5 : Hid _ := keep_row HK4.out HB5.out
                      obtain ⟨d0, d1, d2, d3, df⟩ := row4 HK5.out
                      go_wp2_with (at_builtin; go_must (refine wpList_append_srow rfl _ _ rfl w4.heap.size v1 _ _ rfl HO1.out _ ((valsOf its).drop b) rfl ?wu4 ?wu5 ?wu6 HB5.out.size ?_))
                      all_goals first
                        | exact Or.inl ⟨List.drop_eq_nil_of_le (by rw [HVL.out, ← HNN.out]; exact Nat.le_refl _), _, _, rfl⟩
                        | exact (RowAt.on HRW.out HB5.out).tail b _ _ (by rw [HVL.out]; have := HAD.out; omega) (by rw [HVL.out, ← HNN.out])
                        | (intro c h; cases h; done)
                        | (have h1 := HNL.out; have h2 := HBD.out; have h3 := HVL.out; rw [List.length_take, List.length_drop]; omega)
                        | (intro v3 w7 ho3 hg3
                           have HO3 : Hid (Own w.heap.size w7 v3 its') := by
                             have h1 := HNL.out
                             have h3 := HVL.out
                             have h4 := HAD.out
                             show World.ownsRow _ _ _ _ _ _ _
                             rw [HNV.out, List.nil_append, List.map_append, List.map_take, List.map_drop]
                             have e1 : min a (valsOf its).length + ((valsOf its).length - b) = its'.length := by omega
                             rw [e1] at ho3
                             exact own_base ho3 HBW4.out.size
                           have HB7 : Hid (Below w4.heap.size w4 w7) := HB5.out.grown hg3 HB5.out.size (fun k hk => (World.ownsRow.lt HO1.out k hk).1)
                           clear ho3 hg3
                           go_wp2_with fail
                           go_meet
                           exact Or.inl ⟨rfl, its', QB, rfl, HPN.out, HO3.out, bel_to HBW4.out HB7.out (Nat.le_refl _)⟩)
                    · have hcne : ¬ b = LC := hcap
                      go_upto_region 15 with fail
                      have HVL : Hid ((valsOf its).length = its.length) := vals_len its
                      go_wp2_with (at_builtin; go_must (refine wpList_append_srow rfl _ _ rfl w4.heap.size (.slice none 0 0) 0 [] rfl HON.out (.slice (some ⟨g, 0, none⟩) a LC) ((valsOf its).take a) rfl (RowAt.take HRW.out a LC ?wv1) (fun c h => by cases h) ?wv2 (Nat.le_refl _) ?_))
                      case wv1 => rw [HVL.out]; have := HAD.out; omega
                      case wv2 => have h1 := HNL.out; have h2 := HBD.out; have h3 := HVL.out; rw [List.length_take]; omega
                      intro v1 w5 ho1 hg1
                      have HO1 : Hid (w5.ownsRow w4.heap.size 9 1 v1 (0 + ((valsOf its).take a).length) ([] ++ ((valsOf its).take a).map Value.string)) := by show World.ownsRow _ _ _ _ _ _ _; simpa using ho1
                      have HB5 : Hid (Below w4.heap.size w4 w5) := (Below.refl _ w4).grown hg1 (Nat.le_refl _) (fun k hk => by cases hk)
                      clear ho1 hg1 d0 d1 d2 d3 df
                      have HK5 : Hid _ := keep_row HK4.out HB5.out
                      obtain ⟨d0, d1, d2, d3, df⟩ := row4 HK5.out
                      go_wp2_with (at_builtin; go_must (refine wpList_append_srow rfl _ _ rfl w4.heap.size v1 _ _ rfl HO1.out (.slice (some ⟨g, b, none⟩) (n - b) (LC - b)) ((valsOf its).drop b) rfl ?wv4 ?wv5 ?wv6 HB5.out.size ?_))
                      all_goals first
                        | exact srow_zero (by omega) (List.drop_eq_nil_of_le (by rw [HVL.out]; omega))
                        | exact (RowAt.on HRW.out HB5.out).tail b _ _ (by rw [HVL.out]; have := HAD.out; omega) (by rw [HVL.out, ← HNN.out])
                        | (intro c h; cases h; done)
                        | (have h1 := HNL.out; have h2 := HBD.out; have h3 := HVL.out; rw [List.length_take, List.length_drop]; omega)
                        | (intro v3 w7 ho3 hg3
                           have HO3 : Hid (Own w.heap.size w7 v3 its') := by
                             have h1 := HNL.out
                             have h3 := HVL.out
                             have h4 := HAD.out
                             show World.ownsRow _ _ _ _ _ _ _
                             rw [HNV.out, List.nil_append, List.map_append, List.map_take, List.map_drop]
                             have e1 : min a (valsOf its).length + ((valsOf its).length - b) = its'.length := by omega
                             rw [e1] at ho3
                             exact own_base ho3 HBW4.out.size
                           have HB7 : Hid (Below w4.heap.size w4 w7) := HB5.out.grown hg3 HB5.out.size (fun k hk => (World.ownsRow.lt HO1.out k hk).1)
                           clear ho3 hg3
                           go_wp2_with fail
                           go_meet
                           exact Or.inl ⟨rfl, its', QB, rfl, HPN.out, HO3.out, bel_to HBW4.out HB7.out (Nat.le_refl _)⟩)
                · have hk1b : (kd == 1) = false := by simpa using hk1
                  go_wp2_with fail
                  refine (show Calls _ _ _ _ _ from HC.out).mono ?_
                  rintro e w4 ⟨rfl, hb4⟩
                  have HB4 : Hid (Below W3.heap.size W3 w4) := hb4
                  have HK4 : Hid _ := keep_row HK3.out hb4
                  have HBW4 : Hid (Below w.heap.size w w4) := bel_to HB3.out hb4 (Nat.le_refl _)
                  have hform := (HOW3.out.keep hb4).form
                  clear hb4 d0 d1 d2 d3 df
                  obtain ⟨d0, d1, d2, d3, df⟩ := row4 HK4.out
                  have HON : Hid (w4.ownsRow w4.heap.size 9 1 (.slice none 0 0) 0 []) := ⟨rfl, Or.inl ⟨rfl, rfl⟩⟩
                  rcases hform with ⟨hlv, hlz⟩ | ⟨g, c, hlv, hrow, hnc, hgb, hcm⟩
                  · injection hlv with e1 e2 e3
                    subst e1; subst e3
                    have hnz : n = 0 := by have := HNN.out; omega
                    subst hnz
                    obtain rfl : a = 0 := by omega
                    obtain rfl : b = 0 := by omega
                    obtain rfl : d = 0 := by omega
                    have hq1 : min (k : Int) 0 = 0 := by omega
                    have hq2 : min (m : Int) 0 = 0 := by omega
                    have HZV : Hid (valsOf its = []) := List.eq_nil_of_length_eq_zero (by rw [vals_len]; exact hlz)
                    have HLZ : Hid (its.length = 0) := hlz
                    clear hlz e2
                    go_upto_region 15 with fail
                    go_wp2_with (at_builtin; go_must (refine wpList_append_srow rfl _ _ rfl w4.heap.size (.slice none 0 0) 0 [] rfl HON.out (.slice none 0 0) [] rfl (Or.inl ⟨rfl, none, 0, rfl⟩) (fun c h => nil_cap h) (by simp) (Nat.le_refl _) ?_))
                    intro v1 w5 ho1 hg1
                    have HO1 : Hid (w5.ownsRow w4.heap.size 9 1 v1 0 []) := by show World.ownsRow _ _ _ _ _ _ _; simpa using ho1
                    have HB5 : Hid (Below w4.heap.size w4 w5) := (Below.refl _ w4).grown hg1 (Nat.le_refl _) (fun k hk => by cases hk)
                    clear ho1 hg1 d0 d1 d2 d3 df
                    have HK5 : Hid _ := keep_row HK4.out HB5.out
                    obtain ⟨d0, d1, d2, d3, df⟩ := row4 HK5.out
                    go_wp2_with (at_builtin; go_must (refine wpList_append_srow rfl _ _ rfl w4.heap.size v1 _ _ rfl HO1.out (.slice none 0 0) [] rfl (Or.inl ⟨rfl, none, 0, rfl⟩) (fun c h => nil_cap h) (by simp) HB5.out.size ?_))
                    intro v3 w7 ho3 hg3
                    have HO3 : Hid (Own w.heap.size w7 v3 its') := by
                      have h1 := HNL.out
                      have h2 := HLZ.out
                      show World.ownsRow _ _ _ _ _ _ _
                      rw [HNV.out, HZV.out]
                      have e1 : its'.length = 0 := by omega
                      rw [e1]
                      simpa using own_base ho3 HBW4.out.size
                    have HB7 : Hid (Below w4.heap.size w4 w7) := HB5.out.grown hg3 HB5.out.size (fun k hk => (World.ownsRow.lt HO1.out k hk).1)
                    clear ho3 hg3
                    go_wp2_with fail
                    go_meet
                    exact Or.inl ⟨rfl, its', QB, rfl, HPN.out, HO3.out, bel_to HBW4.out HB7.out (Nat.le_refl _)⟩
                  · injection hlv with e1 e2 e3
                    subst e1; subst e3
                    have HRW : Hid (RowAt w4 g LC ((valsOf its).map Value.string)) := hrow
                    have haC : (a : Int) ≤ (LC : Int) := by omega
                    have hnC : n ≤ LC := by omega
                    clear hrow e2 hnc
                    by_cases hcap : b = LC
                    · have hbn2 : b = n := by omega
                      subst hbn2
                      subst hcap
                      go_upto_region 15 with fail
                      have HVL : Hid ((valsOf its).length = its.length) := vals_len its
                      go_wp2_with (at_builtin; go_must (refine wpList_append_srow rfl _ _ rfl w4.heap.size (.slice none 0 0) 0 [] rfl HON.out (.slice (some ⟨g, 0, none⟩) a b) ((valsOf its).take a) rfl (RowAt.take HRW.out a b ?u1) (fun c h => by cases h) ?u2 (Nat.le_refl _) ?_))
                      case u1 => rw [HVL.out]; have := HAD.out; omega
                      case u2 => have h1 := HNL.out; have h2 := HBD.out; have h3 := HVL.out; rw [List.length_take]; omega
                      intro v1 w5 ho1 hg1
                      have HO1 : Hid (w5.ownsRow w4.heap.size 9 1 v1 (0 + ((valsOf its).take a).length) ([] ++ ((valsOf its).take a).map Value.string)) := by show World.ownsRow _ _ _ _ _ _ _; simpa using ho1
                      have HB5 : Hid (Below w4.heap.size w4 w5) := (Below.refl _ w4).grown hg1 (Nat.le_refl _) (fun k hk => by cases hk)
                      clear ho1 hg1 d0 d1 d2 d3 df
                      have HK5 : Hid _ := keep_row HK4.out HB5.out
                      obtain ⟨d0, d1, d2, d3, df⟩ := row4 HK5.out
                      go_wp2_with (at_builtin; go_must (refine wpList_append_srow rfl _ _ rfl w4.heap.size v1 _ _ rfl HO1.out _ ((valsOf its).drop b) rfl ?u4 ?u5 ?u6 HB5.out.size ?_))
                      all_goals first
                        | exact Or.inl ⟨List.drop_eq_nil_of_le (by rw [HVL.out, ← HNN.out]; exact Nat.le_refl _), _, _, rfl⟩
                        | exact (RowAt.on HRW.out HB5.out).tail b _ _ (by rw [HVL.out]; have := HAD.out; omega) (by rw [HVL.out, ← HNN.out])
                        | (intro c h; cases h; done)
                        | (have h1 := HNL.out; have h2 := HBD.out; have h3 := HVL.out; rw [List.length_take, List.length_drop]; omega)
                        | (intro v3 w7 ho3 hg3
                           have HO3 : Hid (Own w.heap.size w7 v3 its') := by
                             have h1 := HNL.out
                             have h3 := HVL.out
                             have h4 := HAD.out
                             show World.ownsRow _ _ _ _ _ _ _
                             rw [HNV.out, List.nil_append, List.map_append, List.map_take, List.map_drop]
                             have e1 : min a (valsOf its).length + ((valsOf its).length - b) = its'.length := by omega
                             rw [e1] at ho3
                             exact own_base ho3 HBW4.out.size
                           have HB7 : Hid (Below w4.heap.size w4 w7) := HB5.out.grown hg3 HB5.out.size (fun k hk => (World.ownsRow.lt HO1.out k hk).1)
                           clear ho3 hg3
                           go_wp2_with fail
                           go_meet
                           exact Or.inl ⟨rfl, its', QB, rfl, HPN.out, HO3.out, bel_to HBW4.out HB7.out (Nat.le_refl _)⟩)
                    · have hcne : ¬ b = LC := hcap
                      go_upto_region 15 with fail
                      have HVL : Hid ((valsOf its).length = its.length) := vals_len its
                      go_wp2_with (at_builtin; go_must (refine wpList_append_srow rfl _ _ rfl w4.heap.size (.slice none 0 0) 0 [] rfl HON.out (.slice (some ⟨g, 0, none⟩) a LC) ((valsOf its).take a) rfl (RowAt.take HRW.out a LC ?v1) (fun c h => by cases h) ?v2 (Nat.le_refl _) ?_))
                      case v1 => rw [HVL.out]; have := HAD.out; omega
                      case v2 => have h1 := HNL.out; have h2 := HBD.out; have h3 := HVL.out; rw [List.length_take]; omega
                      intro v1 w5 ho1 hg1
                      have HO1 : Hid (w5.ownsRow w4.heap.size 9 1 v1 (0 + ((valsOf its).take a).length) ([] ++ ((valsOf its).take a).map Value.string)) := by show World.ownsRow _ _ _ _ _ _ _; simpa using ho1
                      have HB5 : Hid (Below w4.heap.size w4 w5) := (Below.refl _ w4).grown hg1 (Nat.le_refl _) (fun k hk => by cases hk)
                      clear ho1 hg1 d0 d1 d2 d3 df
                      have HK5 : Hid _ := keep_row HK4.out HB5.out
                      obtain ⟨d0, d1, d2, d3, df⟩ := row4 HK5.out
                      go_wp2_with (at_builtin; go_must (refine wpList_append_srow rfl _ _ rfl w4.heap.size v1 _ _ rfl HO1.out (.slice (some ⟨g, b, none⟩) (n - b) (LC - b)) ((valsOf its).drop b) rfl ?v4 ?v5 ?v6 HB5.out.size ?_))
                      all_goals first
                        | exact srow_zero (by omega) (List.drop_eq_nil_of_le (by rw [HVL.out]; omega))
                        | exact (RowAt.on HRW.out HB5.out).tail b _ _ (by rw [HVL.out]; have := HAD.out; omega) (by rw [HVL.out, ← HNN.out])
                        | (intro c h; cases h; done)
                        | (have h1 := HNL.out; have h2 := HBD.out; have h3 := HVL.out; rw [List.length_take, List.length_drop]; omega)
                        | (intro v3 w7 ho3 hg3
                           have HO3 : Hid (Own w.heap.size w7 v3 its') := by
                             have h1 := HNL.out
                             have h3 := HVL.out
                             have h4 := HAD.out
                             show World.ownsRow _ _ _ _ _ _ _
                             rw [HNV.out, List.nil_append, List.map_append, List.map_take, List.map_drop]
                             have e1 : min a (valsOf its).length + ((valsOf its).length - b) = its'.length := by omega
                             rw [e1] at ho3
                             exact own_base ho3 HBW4.out.size
                           have HB7 : Hid (Below w4.heap.size w4 w7) := HB5.out.grown hg3 HB5.out.size (fun k hk => (World.ownsRow.lt HO1.out k hk).1)
                           clear ho3 hg3
                           go_wp2_with fail
                           go_meet
                           exact Or.inl ⟨rfl, its', QB, rfl, HPN.out, HO3.out, bel_to HBW4.out HB7.out (Nat.le_refl _)⟩)
              · have HC : Hid _ := Delete_out P its HPK.out I N (by omega) W3 HLY.out
                clear hn
                by_cases hk1 : kd = 1
                · subst hk1
                  have htz : ts.length = 0 := by omega
                  have htd : decide ((0 : Int) < (ts.length : Int)) = false := by rw [htz]; rfl
                  clear hkd hkz htz hr
                  go_wp2_with fail
                  refine (show Calls _ _ _ _ _ from HC.out).mono ?_
                  rintro e w4 ⟨rfl, hb4⟩
                  have HB4 : Hid (Below W3.heap.size W3 w4) := hb4
                  have HK4 : Hid _ := keep_row HK3.out hb4
                  clear hb4 d0 d1 d2 d3 df
                  obtain ⟨d0, d1, d2, d3, df⟩ := row4 HK4.out
                  go_wp2_with fail
                  go_meet
                  exact Or.inr ⟨1, Or.inl rfl, rfl, rfl, HOW3.out.keep HB4.out, bel_to HB3.out HB4.out (Nat.le_refl _)⟩
                · have hk1b : (kd == 1) = false := by simpa using hk1
                  clear hr
                  go_wp2_with fail
                  refine (show Calls _ _ _ _ _ from HC.out).mono ?_
                  rintro e w4 ⟨rfl, hb4⟩
                  have HB4 : Hid (Below W3.heap.size W3 w4) := hb4
                  have HK4 : Hid _ := keep_row HK3.out hb4
                  clear hb4 d0 d1 d2 d3 df
                  obtain ⟨d0, d1, d2, d3, df⟩ := row4 HK4.out
                  go_wp2_with fail
                  go_meet
                  exact Or.inr ⟨1, Or.inl rfl, rfl, rfl, HOW3.out.keep HB4.out, bel_to HB3.out HB4.out (Nat.le_refl _)⟩
      case rest =>
        rcases hcut with ⟨rfl, its', QB, rfl, hpk', hown', hb'⟩ | ⟨E', hE', rfl, rfl, hown', hb'⟩
        · as_aux_lemma =>
            obtain ⟨NP, NC, hnf⟩ := hown'.srow.1.form
            rw [vals_len] at hnf
            subst hnf
            have HPK' : Hid _ := hpk'
            have HOWN' : Hid (Own w.heap.size wc (.slice NP its'.length NC) its') := hown'
            have HB' : Hid (Below w.heap.size w wc) := hb'
            obtain ⟨hq1, hq2, hq3⟩ := pk_sumV hpk'
            have HWF : Hid (∀ W, Lay W → Calls Tryd.prog 8 #[.string QB, .bool false] W fun e w' => (∃ g, e = .returned (.tuple #[.slice (some ⟨g, 0, none⟩) its'.length its'.length, .int .i64 0]) ∧ SRow w' (.slice (some ⟨g, 0, none⟩) its'.length its'.length) (valsOf its')) ∧ Below W.heap.size W w') := fun W hW => by
              refine (Walk_f QB its' hpk' W hW).mono ?_
              rintro e w' ⟨⟨g, rfl, ho⟩, hb⟩
              exact ⟨⟨g, rfl, walk_row ho rfl⟩, hb⟩
            have HSM : Hid (∀ g W, SRow W (.slice (some ⟨g, 0, none⟩) its'.length its'.length) (valsOf its') → SRow W (.slice NP its'.length NC) (valsOf its') → Calls Tryd.prog 12 #[.slice (some ⟨g, 0, none⟩) its'.length its'.length, .slice NP its'.length NC] W fun e w' => e = .returned (.bool true) ∧ Below W.heap.size W w') := fun g W hr hV => by
              obtain ⟨b, hb, hs⟩ := same_form (.slice (some ⟨g, 0, none⟩) its'.length its'.length) (.slice NP its'.length NC) (valsOf its') (valsOf its') (by omega) (by omega)
              have := hs W hr hV
              rwa [hb.2 rfl] at this
            have HSZ : Hid (∀ W, SRow W (.slice NP its'.length NC) (valsOf its') → Lay W → Calls Tryd.prog 20 #[.slice NP its'.length NC] W fun e w' => e = .returned (.int .i64 (QB.size : Int)) ∧ Below W.heap.size W w') := fun W hV hW => by
              rw [hq1]; exact lsize_any _ (valsOf its') hq3 hq2 W hV hW
            have HSR : Hid (SRow wc (.slice NP its'.length NC) (valsOf its')) := hown'.srow.1
            clear hpk' hown' hb' hq1 hq2 hq3
            go_wp2_with fail
            refine (show Calls _ _ _ _ _ from HWF.out _ (HW.out.on HB'.out)).mono ?_
            rintro e w5 ⟨⟨g5, rfl, hr5⟩, hb5⟩
            have HB5 : Hid (Below wc.heap.size wc w5) := hb5
            have HR5 : Hid (SRow w5 (.slice (some ⟨g5, 0, none⟩) its'.length its'.length) (valsOf its')) := hr5
            clear hb5 hr5
            go_wp2_with fail
            refine (show Calls _ _ _ _ _ from HSM.out _ _ HR5.out (HSR.out.on HB5.out)).mono ?_
            rintro e w6 ⟨rfl, hb6⟩
            have HB6 : Hid (Below wc.heap.size wc w6) := bel_to HB5.out hb6 (Nat.le_refl _)
            clear hb6
            go_wp2_with fail
            refine (show Calls _ _ _ _ _ from HSZ.out _ (HSR.out.on HB6.out) (HW.out.on (bel_to HB'.out HB6.out (Nat.le_refl _)))).mono ?_
            rintro e w7 ⟨rfl, hb7⟩
            have HB7 : Hid (Below wc.heap.size wc w7) := bel_to HB6.out hb7 (Nat.le_refl _)
            clear hb7
            go_wp2
            refine ⟨⟨i + 1, QB, its', 0, NP, NC, its'.length, rfl, rfl, hl1, hl2, rfl, rfl, rfl, HPK'.out, HOWN'.out.keep HB7.out, bel_to HB'.out HB7.out (Nat.le_refl _)⟩, by simp [intOf]; omega⟩
        · have HOWN' : Hid (Own w.heap.size wc (.slice LP n LC) its) := hown'
          have HB' : Hid (Below w.heap.size w wc) := hb'
          have hEn : (E' == 0) = false := by rcases hE' with rfl | rfl | rfl <;> rfl
          have hEz : ¬ E' = 0 := by rcases hE' with rfl | rfl | rfl <;> decide
          clear hown' hb' hE'
          go_wp2
          refine ⟨⟨i + 1, P, its, E', LP, LC, n, HNN.out, rfl, hl1, hl2, rfl, rfl, rfl, HPK.out, HOWN'.out, HB'.out⟩, by simp [intOf]; omega⟩
    · have hor : ((i : Int) < (M : Int)) → ¬ (i : Int) < 100 := by omega
      by_cases h1 : i < M
      · have hd1 : decide ((i : Int) < (M : Int)) = true := by simp; omega
        have hd2 : decide ((i : Int) < 100) = false := by simp; omega
        clear hor
        go_wp2
        go_ret
        exact ⟨rfl, HBR.out⟩
      · have hd1 : decide ((i : Int) < (M : Int)) = false := by simp; omega
        clear hor
        go_wp2
        go_ret
        exact ⟨rfl, HBR.out⟩
end Go.Proofs.YtafphabeihoijaaDoor
