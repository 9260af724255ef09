import Derived.Test.YtpckadpnedfkkaaDoorRMatch
namespace Go.Proofs.YtpckadpnedfkkaaDoor
open Go.RowKit Gb
set_option linter.unusedVariables false
set_option maxHeartbeats 1000000 in
set_option maxRecDepth 20000 in
theorem rmatch_yes (p0 t0 p t : ByteArray) (hf1 : ∀ w, Calls Tryd.prog 17 #[.string p0] w fun e w' => e = .returned (.string p) ∧ Below w.heap.size w w') (hf2 : ∀ w, Calls Tryd.prog 17 #[.string t0] w fun e w' => e = .returned (.string t) ∧ Below w.heap.size w w') (P : List St) (hP : parse p.data.toList = P) (hp : p.size ≤ 3000000) (ht : t.size ≤ 50000000) (hPl : P.length ≤ 3000000) (hst : ∀ w, Calls Tryd.prog 20 #[.string p] w fun e w' => ∃ v, e = .returned v ∧ w'.ownsRow w.heap.size 51 259 v P.length (rcells P) ∧ Below w.heap.size w w') (w0 : World) :
    Calls Tryd.prog 7 #[.string p0, .string t0, .bool true] w0 fun e w' => e = .returned (.bool (mt P t.data.toList)) ∧ Below w0.heap.size w0 w' := by
  have htlen : t.data.toList.length = t.size := list_len t
  generalize htl : t.data.toList = tl at *
  have HST : Hid _ := hst
  have HF1 : Hid _ := hf1
  have HF2 : Hid _ := hf2
  clear hf1 hf2
  clear hst hP
  have hmk := run_make_row' (P := Tryd.prog) 48 4 (.bool false) 1 Tryd.underlying48 info4b rfl .i64 .i64 (t.size + 1) (by omega) (by omega)
  have hmz : ((t.size + 1 : Nat) : Int) = (t.size : Int) + 1 := by omega
  rw [hmz] at hmk
  go_enter Tryd.func7, Tryd.ntmps7
  go_wp2_with fail
  refine (HF1.out _).mono ?_
  rintro e wa ⟨rfl, hba⟩
  go_wp2_with fail
  refine (HF2.out _).mono ?_
  rintro e w ⟨rfl, hbb⟩
  have HB00 : Hid (Below w0.heap.size w0 w) := hba.trans (hbb.mono hba.size)
  clear hba hbb
  go_wp2_with fail
  refine (HST.out _).mono ?_
  rintro e w1 ⟨v, rfl, hown, hb1⟩
  have HO : Hid (w1.ownsRow w.heap.size 51 259 v P.length (rcells P)) := hown
  have HB1 : Hid (Below w.heap.size w w1) := hb1
  have hz1 := hb1.size
  clear hown hb1
  obtain ⟨q, c, rfl⟩ := own_form HO.out
  have h0c : (w1.alloc (.cells (madeCells #[.bool false] (t.size + 1)) 4)).cell? ⟨w1.heap.size, 0, none⟩ = some (.bool false) := (RowB.made w1 t.size).cell 0 (by omega)
  have h0f : (w1.alloc (.cells (madeCells #[.bool false] (t.size + 1)) 4)).frozen? ⟨w1.heap.size, 0, none⟩ = false := (RowB.made w1 t.size).frozen 0
  have htz : (0 : Int) < (t.size : Int) + 1 := by omega
  go_wp2
  go_loopw [8, 9, 10, 11] (fun rr kk _ _ wr => ∃ k gr : Nat, k ≤ P.length ∧ kk = .int .i64 k ∧ rr = .slice (some ⟨gr, 0, none⟩) (t.size + 1) (t.size + 1) ∧ RowB wr gr t.size (R P tl k) ∧ w1.heap.size ≤ gr ∧ Below w1.heap.size w1 wr) (fun _ kk _ _ _ => P.length - (intOf kk).toNat)
  case atStart =>
    refine ⟨0, w1.heap.size, by omega, rfl, rfl, ?_, Nat.le_refl _, (Below.refl _ w1).alloc (Nat.le_refl _) _⟩
    refine (RowB.made0 w1 t.size).ext (fun i hi => ?_)
    rw [R_zero P tl i (by omega)]
    by_cases e : i = 0
    · rw [if_pos e, decide_eq_true e]
    · rw [if_neg e, decide_eq_false e]
  case round =>
    obtain ⟨k, gr, hk, rfl, rfl, hrow, hgr, hbel⟩ := hrel
    have HR0 : Hid (RowB wr gr t.size (R P tl k)) := hrow
    have HBL : Hid (Below w1.heap.size w1 wr) := hbel
    have hgrl := hrow.lt
    have hzr := hbel.size
    clear hrow hbel
    by_cases hlt : k < P.length
    · obtain ⟨st, hst⟩ : ∃ st, P[k]? = some st := ⟨P[k], List.getElem?_eq_getElem hlt⟩
      obtain ⟨gl, capl, ev, hgl0, hgl, hsa⟩ := steps_at HO.out (by intro e; rw [e] at hlt; simp at hlt)
      injection ev with ev1 ev2 ev3
      subst ev1 ev3
      have HSAW : Hid (StepsAt w1 gl P) := hsa
      have hkz : (k : Int) < (P.length : Int) := by omega
      clear hsa ev2
      generalize hgn : wr.heap.size = gn at *
      have HNW : Hid (RowB (wr.alloc (.cells (madeCells #[.bool false] (t.size + 1)) 4)) gn t.size (fun _ => false)) := by rw [← hgn]; exact RowB.made wr t.size
      go_wp2
      go_loopw [11] (fun ii wx => ∃ i : Nat, i ≤ t.size + 1 ∧ ii = .int .i64 i ∧ RowB wx gn t.size (fun j => if j < i then R P tl (k + 1) j else false) ∧ RowB wx gr t.size (R P tl k) ∧ Below w1.heap.size w1 wx) (fun ii _ => t.size + 1 - (intOf ii).toNat)
      case atStart => exact ⟨0, by omega, rfl, HNW.out.ext (fun j hj => by rw [if_neg (by omega)]), HR0.out.keep (heap_alloc_old wr _ (by omega)), HBL.out.alloc (by omega) _⟩
      case round =>
        obtain ⟨i, hi1, rfl, hn, hr, hbx⟩ := hrel
        have HN : Hid (RowB wr gn t.size (fun j => if j < i then R P tl (k + 1) j else false)) := hn
        have HR : Hid (RowB wr gr t.size (R P tl k)) := hr
        have HBX : Hid (Below w1.heap.size w1 wr) := hbx
        clear hn hr hbx
        by_cases hi : i ≤ t.size
        · have hiz : (i : Int) ≤ (t.size : Int) := by omega
          have hizz : (i : Int) < (t.size : Int) + 1 := by omega
          have HSA : Hid (StepsAt wr gl P) := HSAW.out.keep (HBX.out.block gl hgl)
          have ca : wr.cell? ⟨gl, k * 259, none⟩ = some (.bool st.any) := by
            have := HSA.out k st hst 0 (.bool st.any) (by unfold scS; exact sc_0 _ _ _ _) (by omega)
            simpa using this
          have cn0 : ∃ x, wr.cell? ⟨gn, i, none⟩ = some x := ⟨_, HN.out.cell i hi⟩
          have cnf := HN.out.frozen i
          obtain ⟨xx, cn0⟩ := cn0
          cases hany : st.any
          · rw [hany] at ca
            rcases Nat.eq_zero_or_pos i with e0 | e0
            · subst e0
              have HRV : Hid (R P tl (k + 1) 0 = false) := R_one0 P tl k st hst hany
              rw [show ((0 : Nat) : Int) = 0 from rfl]
              go_wp2
              go_roundw
              case rel =>
                refine ⟨0 + 1, by omega, by go_num, ?_, HR.out, HBX.out⟩
                refine HN.out.ext (fun j hj => ?_)
                by_cases e : j = 0
                · subst e; rw [if_neg (by omega), if_pos (by omega)]; exact HRV.out.symm
                · rw [if_neg (by omega), if_neg (by omega)]
              case measure => simp [intOf] <;> omega
            · obtain ⟨i', rfl⟩ : ∃ i', i = i' + 1 := ⟨i - 1, by omega⟩
              have hit : i' < t.size := by omega
              have cr1 : wr.cell? ⟨gr, i', none⟩ = some (.bool (R P tl k i')) := HR.out.cell i' (by omega)
              have hx8 := t[i'].toNat_lt
              have cx : wr.cell? ⟨gl, k * 259 + 3 + t[i'].toNat, none⟩ = some (.bool (st.f t[i'])) := by
                have hsc : (scS st)[3 + t[i'].toNat]? = some (.bool (st.f t[i'])) := by
                  unfold scS; rw [sc_3 _ _ _ _ _ hx8, hany]; simp
                rw [Nat.add_assoc]
                exact HSA.out k st hst (3 + t[i'].toNat) _ hsc (by omega)
              have HRV : Hid (R P tl (k + 1) (i' + 1) = (R P tl k i' && st.f t[i'])) := R_one P tl k i' st hst hany t[i'] (by rw [← htl, at_list t i' hit])
              generalize st.f t[i'] = fx at cx HRV
              generalize hXX : t[i'].toNat = X at *
              have hXz : (X : Int) < 256 := by omega
              have hi1 : IntKind.i64.wrap (((i' + 1 : Nat) : Int) - 1) = (i' : Int) := by rw [IntKind.wrap_i64]; omega
              have hi2 : ((i' + 1 : Nat) : Int) - 1 = (i' : Int) := by omega
              have hip : (0 : Int) < ((i' + 1 : Nat) : Int) := by omega
              have hiz1 : (i' : Int) < (t.size : Int) + 1 := by omega
              have hitz : (i' : Int) < (t.size : Int) := by omega
              generalize R P tl k i' = rv at cr1 HRV
              cases rv
              · go_wp2_with fail
                go_region
                all_goals go_wp2
                all_goals go_roundw
                case rel =>
                  refine ⟨i' + 1 + 1, by omega, by go_num, ?_, ?_, ?_⟩
                  · refine (((HN.out.set (i' + 1) hi false).ext (fun j hj => ?_)).keep (w' := (wr.setCell ⟨gn, i' + 1, none⟩ (.bool false)).drew) rfl)
                    by_cases e : j = i' + 1
                    · subst e; rw [if_pos rfl, if_pos (by omega)]; rw [HRV.out]; rfl
                    · rw [if_neg e]
                      by_cases h : j < i' + 1
                      · rw [if_pos h, if_pos (by omega)]
                      · rw [if_neg h, if_neg (by omega)]
                  · exact (HR.out.keep (w' := (wr.setCell ⟨gn, i' + 1, none⟩ (.bool false)).drew) (heap_setCell_other _ _ _ _ (by show gr ≠ gn; omega)))
                  · exact (HBX.out.setCell (p := ⟨gn, i' + 1, none⟩) (show w1.heap.size ≤ gn by omega) _).drew
                case measure => simp [intOf] <;> omega
              · go_wp2_with fail
                go_region
                all_goals go_wp2
                all_goals go_roundw
                case rel =>
                  refine ⟨i' + 1 + 1, by omega, by go_num, ?_, ?_, ?_⟩
                  · refine (((HN.out.set (i' + 1) hi fx).ext (fun j hj => ?_)).keep (w' := (wr.setCell ⟨gn, i' + 1, none⟩ (.bool fx)).drew) rfl)
                    by_cases e : j = i' + 1
                    · subst e; rw [if_pos rfl, if_pos (by omega)]; rw [HRV.out]; rfl
                    · rw [if_neg e]
                      by_cases h : j < i' + 1
                      · rw [if_pos h, if_pos (by omega)]
                      · rw [if_neg h, if_neg (by omega)]
                  · exact (HR.out.keep (w' := (wr.setCell ⟨gn, i' + 1, none⟩ (.bool fx)).drew) (heap_setCell_other _ _ _ _ (by show gr ≠ gn; omega)))
                  · exact (HBX.out.setCell (p := ⟨gn, i' + 1, none⟩) (show w1.heap.size ≤ gn by omega) _).drew
                case measure => simp [intOf] <;> omega
          · rw [hany] at ca
            have cr : wr.cell? ⟨gr, i, none⟩ = some (.bool (R P tl k i)) := HR.out.cell i hi
            cases hri : R P tl k i
            · rcases Nat.eq_zero_or_pos i with e0 | e0
              · subst e0
                have HRV : Hid (R P tl (k + 1) 0 = false) := by rw [R_any0 P tl k st hst hany]; exact hri
                rw [hri] at cr
                rw [show ((0 : Nat) : Int) = 0 from rfl]
                go_wp2
                go_roundw
                case rel =>
                  refine ⟨0 + 1, by omega, by go_num, ?_, ?_, ?_⟩
                  · refine ((HN.out.set 0 hi false).ext (fun j hj => ?_))
                    by_cases e : j = 0
                    · subst e; rw [if_pos rfl, if_pos (by omega)]; exact HRV.out.symm
                    · rw [if_neg e]
                      by_cases h : j < 0
                      · rw [if_pos h, if_pos (by omega)]
                      · rw [if_neg h, if_neg (by omega)]
                  · exact HR.out.keep (heap_setCell_other _ _ _ _ (by show gr ≠ gn; omega))
                  · exact HBX.out.setCell (p := ⟨gn, 0, none⟩) (show w1.heap.size ≤ gn by omega) _
                case measure => simp [intOf] <;> omega
              · obtain ⟨i', rfl⟩ : ∃ i', i = i' + 1 := ⟨i - 1, by omega⟩
                have cn : wr.cell? ⟨gn, i', none⟩ = some (.bool (R P tl (k + 1) i')) := by
                  have := HN.out.cell i' (by omega)
                  rw [if_pos (by omega)] at this
                  exact this
                have HRV : Hid (R P tl (k + 1) (i' + 1) = R P tl (k + 1) i') := by rw [R_any P tl k i' st hst hany (by omega), hri]; rfl
                rw [hri] at cr
                have hi1 : IntKind.i64.wrap (((i' + 1 : Nat) : Int) - 1) = (i' : Int) := by rw [IntKind.wrap_i64]; omega
                have hi2 : ((i' + 1 : Nat) : Int) - 1 = (i' : Int) := by omega
                have hip : (0 : Int) < ((i' + 1 : Nat) : Int) := by omega
                have hiz1 : (i' : Int) < (t.size : Int) + 1 := by omega
                generalize hrv : R P tl (k + 1) i' = rv at cn HRV
                go_wp2
                go_roundw
                case rel =>
                  refine ⟨i' + 1 + 1, by omega, by go_num, ?_, ?_, ?_⟩
                  · refine ((HN.out.set (i' + 1) hi rv).ext (fun j hj => ?_))
                    by_cases e : j = i' + 1
                    · subst e; rw [if_pos rfl, if_pos (by omega)]; exact HRV.out.symm
                    · rw [if_neg e]
                      by_cases h : j < i' + 1
                      · rw [if_pos h, if_pos (by omega)]
                      · rw [if_neg h, if_neg (by omega)]
                  · exact HR.out.keep (heap_setCell_other _ _ _ _ (by show gr ≠ gn; omega))
                  · exact HBX.out.setCell (p := ⟨gn, i' + 1, none⟩) (show w1.heap.size ≤ gn by omega) _
                case measure => simp [intOf] <;> omega
            · have HRV : Hid (R P tl (k + 1) i = true) := by
                rcases Nat.eq_zero_or_pos i with e | e
                · subst e; rw [R_any0 P tl k st hst hany]; exact hri
                · obtain ⟨i', rfl⟩ : ∃ i', i = i' + 1 := ⟨i - 1, by omega⟩
                  rw [R_any P tl k i' st hst hany (by omega), hri]; rfl
              rw [hri] at cr
              go_wp2
              go_roundw
              case rel =>
                refine ⟨i + 1, by omega, by go_num, ?_, ?_, ?_⟩
                · refine ((HN.out.set i hi true).ext (fun j hj => ?_))
                  by_cases e : j = i
                  · subst e; rw [if_pos rfl, if_pos (by omega)]; exact HRV.out.symm
                  · rw [if_neg e]
                    by_cases h : j < i
                    · rw [if_pos h, if_pos (by omega)]
                    · rw [if_neg h, if_neg (by omega)]
                · exact HR.out.keep (heap_setCell_other _ _ _ _ (by show gr ≠ gn; omega))
                · exact HBX.out.setCell (p := ⟨gn, i, none⟩) (show w1.heap.size ≤ gn by omega) _
              case measure => simp [intOf] <;> omega
        · have hie : i = t.size + 1 := by omega
          subst hie
          go_wp2
          go_roundw
          case rel =>
            refine ⟨k + 1, gn, by omega, by go_num, rfl, HN.out.ext (fun j hj => by rw [if_pos (by omega)]), by omega, HBX.out⟩
          case measure => simp [intOf] <;> omega
    · have hke : k = P.length := by omega
      have cfin := HR0.out.cell t.size (Nat.le_refl _)
      subst hke
      have HRE : Hid (R P tl P.length t.size = mt P tl) := by rw [← htlen]; exact R_end P tl
      generalize R P tl P.length t.size = rz at cfin HRE
      have HBF : Hid (Below w.heap.size w wr) := HB1.out.trans (HBL.out.mono hz1)
      go_wp2
      go_ret
      exact ⟨by rw [← HRE.out]; rfl, HB00.out.trans (HBF.out.mono HB00.out.size)⟩
end Go.Proofs.YtpckadpnedfkkaaDoor
