import Derived.Test.YtlheilkofibogaaGreatQBL
import Derived.Deep.RegionHeld3
namespace Go.Proofs.YtlheilkofibogaaGreat
open Go.RowKit Go.Maps
set_option linter.unusedVariables false
set_option linter.unusedSimpArgs false
set_option maxHeartbeats 16000000 in
set_option maxRecDepth 100000 in
theorem Plays_walk (ad : Option Addr) (G off len cap : Nat) (w : World) (hA : len ≠ 0 → ad = some ⟨G, off, none⟩) (hL : len ≤ 1466015503700) (hO : ∀ i, i < len → ∃ o pv, OpA w.heap.size w G (off + i * 7) o pv) :
    Calls Tryz.prog 3 #[.slice ad len cap] w fun e w' => e = .returned (.bool true) ∧ Below w.heap.size w w' := by
  have HNW : Hid _ := NewW_any w
  have HWK : Hid (∀ W, Calls Tryz.prog 7 #[] W fun e w' => e = .returned (.bool true) ∧ Below W.heap.size W w') := works_any
  have HO : Hid _ := hO
  have HA : Hid _ := hA
  have HL : Hid (len ≤ 1466015503700) := hL
  obtain ⟨Z, hZ⟩ : ∃ Z, Z = zF := ⟨_, rfl⟩
  have HZZ : Hid (Z = zF) := hZ
  have HZS : Hid (Z.size = 9) := by show _ = _; rw [hZ]; rfl
  clear hO hA hZ
  go_enter Tryz.func3, Tryz.ntmps3
  go_wp2_with fail
  refine (show Calls _ _ _ _ _ from HNW.out).mono ?_
  rintro e w1 ⟨g, X, rfl, hk⟩
  have H1 : Hid (St w w1 g X newM 0) := St.new hk
  clear hk HNW
  have HRN : Hid (Calls Tryz.prog 6 #[] w1 fun e w' => e = .returned (.agg (fsC newM nilV)) ∧ Below w1.heap.size w1 w') := new_any w1
  go_wp2_with fail
  refine (show Calls _ _ _ _ _ from HRN.out).mono ?_
  rintro e w2 ⟨rfl, hb2⟩
  have H2 : Hid (St w w2 g X newM 0) := H1.out.on hb2
  clear hb2 H1 HRN
  obtain ⟨r, hr⟩ : ∃ r, w2.heap.size = r := ⟨_, rfl⟩
  have HR : Hid (w2.heap.size = r) := hr
  go_upto_region 3 with (first
    | (refine alF rfl rfl Z HZZ.out ?_)
    | (refine stF rfl _ _ rfl w2.heap.size (fsC newM nilV) Z rfl rfl rfl (fsC_one (newAt w2)) HZS.out (one_alloc _ _) ?_; intro w3 hr3 hm3))
  have hb3 : Below w2.heap.size w2 w3 := ((Below.refl _ w2).alloc (Nat.le_refl _) _).trans (hm3.below (Nat.le_refl _) (by simp [World.size_alloc]))
  have H3 : Hid (Pl w w3 g X newM 0 newM nilV r) := Pl.new (H2.out.on hb3) (by rw [← HR.out]; exact hr3) (by rw [← HR.out]; exact H2.out.bel.size)
  rw [hr]
  clear hb3 H2 hr3 hm3 hr HR
  go_wp2_with fail
  refine (show Calls _ _ _ _ _ from HWK.out _).mono ?_
  rintro e w4 ⟨rfl, hb4⟩
  have H4 : Hid (Pl w w4 g X newM 0 newM nilV r) := H3.out.on hb4
  clear hb4 H3 HWK
  obtain ⟨y0, y1, y2, y3, y4, y5, y6, y7, y8, _⟩ := row9 (v0 := .bool false) (v1 := .int .i64 0) (v2 := .slice none 0 0) (v3 := .slice none 0 0) (v4 := .slice none 0 0) (v5 := .slice none 0 0) (v6 := .slice none 0 0) (v7 := .int .i64 0) (v8 := .slice none 0 0) H4.out.ro
  have HAS : Hid (Calls Tryz.prog 8 #[.pointer (some ⟨g, 0, none⟩), .agg #[.bool false, .int .i64 0, .slice none 0 0, .slice none 0 0, .slice none 0 0, .slice none 0 0, .slice none 0 0, .int .i64 0, .slice none 0 0], .string { data := #[97] }] w4 fun e w' => e = .returned (.bool true) ∧ Below w4.heap.size w4 w') := as_any g X newM 0 nilV _ w w4 H4.out.dv H4.out.iv (by omega) (by decide)
  go_wp2_with fail
  refine (show Calls _ _ _ _ _ from HAS.out).mono ?_
  rintro e w5 ⟨rfl, hb5⟩
  have H5 : Hid (Pl w w5 g X newM 0 newM nilV r) := H4.out.on hb5
  clear hb5 H4 HAS y0 y1 y2 y3 y4 y5 y6 y7 y8
  go_wp2
  go_loopw [5, 3] (fun ci fv wr => ∃ (i g : Nat) (F : Fs) (X : Gh) (V : FV), i ≤ len ∧ ci = .int .i64 (i : Int) ∧ fv = .pointer (some ⟨g, 0, none⟩) ∧ Pl w wr g X F i F V r) (fun ci _ _ => len - (intOf ci).toNat)
  case atStart => exact ⟨0, g, newM, X, nilV, Nat.zero_le _, rfl, rfl, H5.out⟩
  case round =>
    obtain ⟨i, g, F, X, V, hi, rfl, rfl, hpl⟩ := hrel
    have HPL : Hid (Pl w wr g X F i F V r) := hpl
    clear hpl
    by_cases hlt : i < len
    · have had := HA.out (by omega)
      subst had
      obtain ⟨o, pv, hop⟩ := HO.out i hlt
      obtain ⟨PP, pc, hpv⟩ := hop.kr.form
      subst hpv
      have HOP0 : Hid (OpA w.heap.size w G (off + i * 7) o (.slice PP o.p.length pc)) := hop
      have HOP : Hid (OpA w.heap.size wr G (off + i * 7) o (.slice PP o.p.length pc)) := hop.on HPL.out.dv.st.bel
      obtain ⟨C, hC⟩ : ∃ C, C = opArr o (.slice PP o.p.length pc) := ⟨_, rfl⟩
      have HC : Hid (C = opArr o (.slice PP o.p.length pc)) := hC
      have HCS : Hid (C.size = 7) := by show _ = _; rw [hC]; rfl
      have HC1 : Hid (C.all (·.oneCell') = true) := by
        show _ = true
        rw [hC]
        simp only [opArr, List.all_toArray, List.all_cons, List.all_nil, Bool.and_true]
        rfl
      obtain ⟨Y, hY⟩ : ∃ Y, Y = zO := ⟨_, rfl⟩
      have HY : Hid (Y = zO) := hY
      have HYS : Hid (Y.size = 7) := by show _ = _; rw [hY]; rfl
      have hz3 : (0 : Int) ≤ (i : Int) := by omega
      have hz4 : (i : Int) < (len : Int) := by omega
      have HLT : Hid (i < len) := hlt
      have HOK : Hid (PoOk o) := hop.ok
      have HIW : Hid (IntKind.i64.wrap ((i : Int) + 1) = (i : Int) + 1) := by have := HL.out; show _ = _; rw [IntKind.wrap_i64] <;> omega
      obtain ⟨R, hR⟩ : ∃ R, wr.heap.size = R := ⟨_, rfl⟩
      have HRR : Hid (wr.heap.size = R) := hR
      clear hop hC hY hR hlt
      go_upto_region 9 with (first
        | (refine ldO C w.heap.size G (off + i * 7) o (.slice PP o.p.length pc) _ rfl rfl rfl HOP.out HC.out ?_)
        | (refine alO rfl rfl Y HY.out ?_)
        | (refine stO rfl _ _ rfl wr.heap.size C Y rfl rfl HCS.out HC1.out HYS.out (one_alloc _ _) ?_; intro Wo hro hoo))
      have hbo : Below wr.heap.size wr Wo := ((Below.refl _ wr).alloc (Nat.le_refl _) _).trans (hoo.below (Nat.le_refl _))
      have HSo : Hid (Pl w Wo g X F i F V r) := HPL.out.on hbo
      have HRo : Hid (Wo.heap[R]? = some (.cells C 36)) := by show _ = _; rw [← HRR.out]; exact hro
      have HOPo : Hid (OpA w.heap.size Wo G (off + i * 7) o (.slice PP o.p.length pc)) := HOP.out.on (hbo.mono HPL.out.dv.st.bel.size)
      rw [HRR.out]
      have hr0 := HRo.out
      rw [HC.out] at hr0
      have x0 := (row7 hr0).1
      clear hbo hoo hro HOP HPL hr0 hz3 hz4 hi HRR
      obtain ⟨ok, hok⟩ : ∃ ok, o.k = ok := ⟨_, rfl⟩
      rw [hok] at x0
      clear hok
      by_cases e9 : ok = 9
      case' pos =>
        subst e9
        have HQ : Hid (Calls Tryz.prog 9 #[.pointer (some ⟨g, 0, none⟩)] Wo fun e w' => ∃ gl Xg, e = .returned (.pointer (some ⟨gl, 0, none⟩)) ∧ Dv w w' gl Xg F i F V ∧ Below Wo.heap.size Wo w') := clone_dv HSo.out.dv (by have := HLT.out; have := HL.out; omega)
        go_wp2_with fail
        refine (show Calls _ _ _ _ _ from HQ.out).mono ?_
        rintro e Wo ⟨g, X, rfl, hdc, hbc⟩
        have HSc : Hid (Pl w Wo g X F i F V r) := HSo.out.clone hdc hbc
        have HRc : Hid (Wo.heap[R]? = some (.cells C 36)) := keep_row HRo.out hbc
        have HOPc : Hid (OpA w.heap.size Wo G (off + i * 7) o (.slice PP o.p.length pc)) := HOPo.out.on (hbc.mono HSo.out.dv.st.bel.size)
        clear hdc hbc HQ HSo HRo HOPo x0
        go_upto_region 13 with fail
      case' neg =>
        have n9 : (ok == 9) = false := by simpa using e9
        go_upto_region 13 with fail
        have HSc : Hid (Pl w Wo g X F i F V r) := HSo.out
        have HRc : Hid _ := HRo.out
        have HOPc : Hid (OpA w.heap.size Wo G (off + i * 7) o (.slice PP o.p.length pc)) := HOPo.out
        clear HSo HRo HOPo x0 n9 e9
      all_goals
        have HKR : Hid (KR pinE Wo (.slice PP o.p.length pc) o.p) := HOPc.out.kr
        have hrc := HRc.out
        rw [HC.out] at hrc
        have x6 := (row7 hrc).2.2.2.2.2.2
        have HA1 : Hid (o.p.length = ([] : List Int).length + o.p.length) := (Nat.zero_add _).symm
        have HA2 : Hid (([] : List Int).length + o.p.length ≤ maxLen) := by
          show _ ≤ _
          rw [List.length_nil, Nat.zero_add]
          exact Nat.le_trans HOK.out.p (by decide)
        have HA3 : Hid ((([] : List Int).length + o.p.length) * pinE.by_ ≤ 140737488355328) := by
          show _ * 8 ≤ _
          rw [List.length_nil, Nat.zero_add]
          have := HOK.out.p
          omega
        clear hrc
        go_upto_region 15 with (first
          | (at_builtin; refine wpList_app pinOk rfl (.tmp 44) (.tmp 46) rfl Wo.heap.size (.slice none 0 0) [] 0 rfl rfl ⟨rfl, Or.inl ⟨rfl, rfl⟩⟩ (.slice PP o.p.length pc) o.p rfl HKR.out o.p.length HA1.out HA2.out HA3.out (Nat.le_refl _) ?_; intro v3 wp ho3 hg3; obtain ⟨P3, k3, hkf⟩ := own_form ho3; subst hkf))
        have hbp : Below Wo.heap.size Wo wp := (Below.refl _ _).grown hg3 (Nat.le_refl _) (fun q hq => by cases hq)
        have HOW3 : Hid (∀ q, (Value.slice P3 o.p.length k3).ownBlock = some q → Wo.heap.size ≤ q) := fun q hq => (World.ownsRow.lt ho3 q hq).1
        have HLO3 : Hid (∀ q, (Value.slice P3 o.p.length k3).ownBlock = some q → w.heap.size ≤ q) := fun q hq => Nat.le_trans HSc.out.dv.st.bel.size (HOW3.out q hq)
        have HAV3 : Hid (Av (fun q => (Value.slice P3 o.p.length k3).ownBlock = some q) F V) := HSc.out.dv.dc.av.weak HOW3.out
        have HHAp : Hid (Fre wp X (fun q => (Value.slice P3 o.p.length k3).ownBlock = some q)) := (Fre.first HSc.out.dv.st.fs HOW3.out).on hbp
        have HSp : Hid (Pl w wp g X F i F V r) := HSc.out.on hbp
        have HRp : Hid (wp.heap[R]? = some (.cells C 36)) := keep_row HRc.out hbp
        have HOPp : Hid (OpA w.heap.size wp G (off + i * 7) o (.slice PP o.p.length pc)) := HOPc.out.on (hbp.mono HSc.out.dv.st.bel.size)
        have HPp : Hid (wp.ownsRow 0 3 1 (.slice P3 o.p.length k3) o.p.length (pinE.fl o.p)) := own_zero' ho3
        clear ho3 hg3 hbp HSc HRc HOPc HKR HA1 HA2 HA3 x6
        obtain ⟨M, hM⟩ : ∃ M, wp.heap.size = M := ⟨_, rfl⟩
        have HMM : Hid (wp.heap.size = M) := hM
        clear hM
        go_upto_region 16 with (first
          | (refine ldR C R _ rfl rfl rfl HRp.out HCS.out ?_)
          | (refine alO rfl rfl Y HY.out ?_)
          | (refine stO rfl _ _ rfl wp.heap.size C Y rfl rfl HCS.out HC1.out HYS.out (one_alloc _ _) ?_; intro wq hrq hoq))
        have hbq : Below wp.heap.size wp wq := ((Below.refl _ wp).alloc (Nat.le_refl _) _).trans (hoq.below (Nat.le_refl _))
        rw [HMM.out] at hrq
        rw [HMM.out]
        have hrq' := hrq
        rw [HC.out] at hrq'
        have z6 := (row7 hrq').2.2.2.2.2.2
        have zf : wq.frozen? ⟨M, 6, none⟩ = false := frozen_of_row _ _ _ _ _ hrq'
        have hn6 := heap_setCell_same wq M 6 _ _ (.slice P3 o.p.length k3) hrq'
        obtain ⟨ws, hws⟩ : ∃ ws, wq.setCell ⟨M, 6, none⟩ (.slice P3 o.p.length k3) = ws := ⟨_, rfl⟩
        rw [hws] at hn6
        have hos : Only wq ws M := by rw [← hws]; exact (Only.refl _ _).set _ _
        have hbs : Below wp.heap.size wp ws := hbq.trans (hos.below (by rw [HMM.out]; exact Nat.le_refl _))
        have HHAs : Hid (Fre ws X (fun q => (Value.slice P3 o.p.length k3).ownBlock = some q)) := HHAp.out.on hbs
        have HSs : Hid (Pl w ws g X F i F V r) := HSp.out.on hbs
        have HRs : Hid (ws.heap[R]? = some (.cells C 36)) := keep_row HRp.out hbs
        have HOPs : Hid (OpA w.heap.size ws G (off + i * 7) o (.slice PP o.p.length pc)) := HOPp.out.on (hbs.mono HSp.out.dv.st.bel.size)
        have HPs : Hid (ws.ownsRow 0 3 1 (.slice P3 o.p.length k3) o.p.length (pinE.fl o.p)) := own_bel HPp.out hbs
        obtain ⟨D, hD⟩ : ∃ D, D = opArr o (.slice P3 o.p.length k3) := ⟨_, rfl⟩
        have HD : Hid (D = opArr o (.slice P3 o.p.length k3)) := hD
        have HDS : Hid (D.size = 7) := by show _ = _; rw [hD]; rfl
        have HNs : Hid (ws.heap[M]? = some (.cells D 36)) := by show _ = _; rw [hD]; exact hn6
        clear hbq hrq hrq' hn6 hos hbs hoq hD HSp HRp HOPp HPp HHAp
        go_upto_region 17 with fail
        clear z6 zf hws
        obtain ⟨F', rr, hdm⟩ : ∃ F' rr, doneM F o = (F', rr) := ⟨_, _, rfl⟩
        have HIV : Hid (Iv F' (i + 1)) := by
          have := iv_done HSs.out.iv o
          rw [hdm] at this
          exact this
        have HBD : Hid (Bd F) := bd_of HSs.out.dv.st HSs.out.iv (by have := HLT.out; have := HL.out; omega)
        have HFD : Hid (∀ n, findM F.dir n < (F.files.length : Int)) := fun n => find_lt HSs.out.dv.st n
        have HFA : Hid (F.fails.length ≤ 8796093022000) := by have := HSs.out.iv.fl; have := HLT.out; have := HL.out; show _ ≤ _; omega
        have HDM : Hid (doneM F o = (F', rr)) := hdm
        have HQ : Hid (Calls Tryz.prog 10 #[.pointer (some ⟨g, 0, none⟩), .agg D] ws fun e w' => e = .returned (.int .i64 rr) ∧ ∃ X', Dv w w' g X' F' (i + 1) F V ∧ Bec ws g X F w' X' F') := by
          have := done_dv HSs.out.dv (by have := HLT.out; have := HL.out; omega) HD.out HOK.out (Pks.own HSs.out.dv.st.fs.toFsC HPs.out)
          rw [hdm] at this
          exact this
        clear hdm
        go_wp2_with (refine ldR D M _ rfl rfl rfl HNs.out HDS.out ?_)
        refine (show Calls _ _ _ _ _ from HQ.out).mono ?_
        rintro e wt ⟨rfl, X2, hdv, hbec⟩
        have hbt : Below w.heap.size ws wt := hbec.md.bel (fun k hk ho => by have := HSs.out.dv.st.own k ho; omega) HSs.out.dv.st.bel.size
        have HHAt : Hid (Fre wt X2 (fun q => (Value.slice P3 o.p.length k3).ownBlock = some q)) := HHAs.out.bec HSs.out.dv.st.fs.toFsC hbec (fun q hq => own_lt HPs.out hq)
        have HAV : Hid (Av (fun q => (Value.slice P3 o.p.length k3).ownBlock = some q) F V ∧ ∀ q, (Value.slice P3 o.p.length k3).ownBlock = some q → q < wt.heap.size) := ⟨HAV3.out, fun q hq => Nat.lt_of_lt_of_le (own_lt HPs.out hq) hbec.md.size⟩
        have HSt : Hid (Pl w wt g X2 F' (i + 1) F V r) := HSs.out.bec hdv hbec HIV.out
        have HRt : Hid (wt.heap[R]? = some (.cells C 36)) := op_mod HRs.out HSs.out.dv.st.fs.toFsC hbec.md
        have HOPt : Hid (OpA w.heap.size wt G (off + i * 7) o (.slice PP o.p.length pc)) := HOPs.out.on hbt
        have HPt : Hid (wt.ownsRow 0 3 1 (.slice P3 o.p.length k3) o.p.length (pinE.fl o.p)) := own_to HPs.out (fun q hq => by
          obtain ⟨cu, hc⟩ := own_type HPs.out hq
          refine hbec.md.oth q (row_lt hc) (fun ho => ?_)
          have := HSs.out.dv.st.fs.own_ty ho hc
          exact absurd this (by unfold tyOwn; decide))
        clear hbt hdv hbec HQ HSs HRs HOPs HPs HNs HD HDS
        have HQ : Hid (Calls Tryz.prog 11 #[.agg (fsC F V), .agg C] wt fun e w' => ∃ V', e = .returned (.tuple #[.agg (fsC F' V'), .int .i64 rr]) ∧ Made F V wt F' V' w') := by
          have := meant_any F V o HOK.out (.slice PP o.p.length pc) HBD.out HFD.out HFA.out wt HSt.out.dv.dc HOPt.out.kr
          rw [HDM.out] at this
          have e9 : opV o (.slice PP o.p.length pc) = .agg C := by rw [HC.out]; rfl
          rw [e9] at this
          exact this
        go_upto_region 18 with fail
        go_wp2_with (first
          | (refine ldF (fsC F V) r _ rfl rfl rfl HSt.out.ro rfl ?_)
          | (refine ldR C R _ rfl rfl rfl HRt.out HCS.out ?_))
        refine (show Calls _ _ _ _ _ from HQ.out).mono ?_
        rintro e wu ⟨V', rfl, hM⟩
        have HM : Hid (Made F V wt F' V' wu) := hM
        clear hM HQ
        obtain ⟨N, hN⟩ : ∃ N, wu.heap.size = N := ⟨_, rfl⟩
        have HN : Hid (wu.heap.size = N) := hN
        clear hN
        go_upto_region 19 with (first
          | (refine alF rfl rfl Z HZZ.out ?_)
          | (refine stF rfl _ _ rfl wu.heap.size (fsC F' V') Z rfl rfl rfl (fsC_one HM.out.at_) HZS.out (one_alloc _ _) ?_; intro wv hrv hmv))
        have hbv : Below wu.heap.size wu wv := ((Below.refl _ wu).alloc (Nat.le_refl _) _).trans (hmv.below (Nat.le_refl _) (by simp [World.size_alloc]))
        rw [HN.out] at hrv
        rw [HN.out]
        have HMv : Hid (Made F V wt F' V' wv) := HM.out.after hbv
        have HRV : Hid (wv.heap[N]? = some (.cells (fsC F' V') 31)) := hrv
        have HRR : Hid (wv.heap[r]? = some (.cells (fsC F V) 31)) := keep_row HSt.out.ro HMv.out.bel
        clear hbv hrv hmv HM HN
        go_upto_region 20 with (first
          | (refine ldF (fsC F' V') N _ rfl rfl rfl HRV.out rfl ?_)
          | (refine stF rfl _ _ rfl r (fsC F' V') (fsC F V) rfl rfl rfl (fsC_one HMv.out.at_) rfl HRR.out ?_; intro wx hrx hmx))
        have HSx : Hid (Pl w wx g X2 F' (i + 1) F' V' r) := HSt.out.put HMv.out hmx.modP hrx
        have HRRx : Hid (wx.heap[R]? = some (.cells C 36)) := hmx.modP.row (keep_row HRt.out HMv.out.bel) (fun e => by
          have h5 := HRR.out
          rw [← e, keep_row HRt.out HMv.out.bel] at h5
          injection h5 with h5
          injection h5 with _ h6 _
          exact absurd h6 (by decide))
        have HPx : wx.ownsRow 0 3 1 (.slice P3 o.p.length k3) o.p.length (pinE.fl o.p) := own_to (own_bel HPt.out HMv.out.bel) (fun q hq => by
          obtain ⟨cu, h4⟩ := own_type (own_bel HPt.out HMv.out.bel) hq
          refine hmx.modP.oth q (row_lt h4) (fun e => ?_)
          have h5 := HRR.out
          rw [← e, h4] at h5
          injection h5 with h5
          injection h5 with _ h6 _
          exact absurd h6 (by decide))
        have HSQ : Hid (Sq w wx g X2 F' (i + 1) V' r G (off + i * 7) R o (.slice PP o.p.length pc) C P3 k3 0) := ⟨HSx.out, (HHAt.out.on HMv.out.bel).mod hmx.modP (fun q cs h4 e => by
          have h5 := HRR.out
          rw [← e, h4] at h5
          injection h5 with h5
          injection h5 with _ h6 _
          exact absurd h6 (by decide)), HOP0.out.on HSx.out.dv.st.bel, HRRx.out, ⟨_, own_up HPx HLO3.out, fun j _ hj => by
          rw [pin_fl, List.getElem?_map, List.getElem?_eq_getElem hj, List.getD_eq_getElem?_getD, List.getElem?_eq_getElem hj]
          rfl⟩, HMv.out.av _ HAV.out.2 HAV.out.1⟩
        clear hrx hmx HRRx HPx HSx HRR HRV HMv HPt HRt HOPt HSt HHAt HHAs HAV HAV3 HOW3 HLO3 HOP0 HDM
        go_wp2
        go_loopw [12] (fun ci wr => ∃ m : Nat, m ≤ o.p.length ∧ ci = .int .i64 (m : Int) ∧ Sq w wr g X2 F' (i + 1) V' r G (off + i * 7) R o (.slice PP o.p.length pc) C P3 k3 m) (fun ci _ => o.p.length - (intOf ci).toNat)
        case atStart => exact ⟨0, Nat.zero_le _, rfl, HSQ.out⟩
        case round =>
          obtain ⟨m, hm, rfl, hsq⟩ := hrel
          by_cases hml : m < o.p.length
          · have hsd := hsq.on (Below.refl _ _).drew
            obtain ⟨gb, oo, hPP, c2⟩ := pin_at hsd.op.kr hml
            subst hPP
            obtain ⟨gP, o0, h0, hP3, c0, cf, hnx⟩ := hsd.at_ hml
            subst hP3
            have c1 : wr.drew.cell? ⟨R, 6, none⟩ = some (.slice (some ⟨gb, oo, none⟩) o.p.length pc) := by
              have h1 := hsd.ro
              rw [HC.out] at h1
              exact (row7 h1).2.2.2.2.2.2
            obtain ⟨vv, hvv⟩ : ∃ vv, o.p.getD m 0 = vv := ⟨_, rfl⟩
            rw [hvv] at c0 c2
            have hz3 : (0 : Int) ≤ (m : Int) := by omega
            have hz4 : (m : Int) < (o.p.length : Int) := by omega
            have HOK2 : Hid (m < o.p.length) := hml
            have hiw : IntKind.i64.wrap ((m : Int) + 1) = (m : Int) + 1 := by have := HOK.out.p; rw [IntKind.wrap_i64] <;> omega
            obtain ⟨ws, hws⟩ : ∃ ws, wr.drew.setCell ⟨gP, o0 + m, none⟩ (.int .i64 (-7)) = ws := ⟨_, rfl⟩
            rw [hws] at hnx
            have HNX : Hid (Sq w ws g X2 F' (i + 1) V' r G (off + i * 7) R o (.slice (some ⟨gb, oo, none⟩) o.p.length pc) C (some ⟨gP, o0, none⟩) k3 (m + 1)) := hnx
            clear hsq hsd hnx hvv h0 hm hml HSQ
            go_wp2_with fail
            go_region_held3 (fun W : World => W.cell? ⟨gP, o0 + m, none⟩ = some (.int .i64 vv) ∧ W.cell? ⟨R, 6, none⟩ = some (.slice (some ⟨gb, oo, none⟩) o.p.length pc) ∧ W.cell? ⟨gb, oo + m, none⟩ = some (.int .i64 vv))
              (first | with_reducible exact ⟨c0, c1, c2⟩ | exact ⟨c0, c1, c2⟩)
              (fail)
            go_upto_region 22 with fail
            clear c0 c1 c2 cf hws
            go_wp2
            go_roundw
            case rel => exact ⟨m + 1, HOK2.out, rfl, HNX.out⟩
            case measure => simp [intOf]; omega
          · have hme : m = o.p.length := by omega
            subst hme
            have HPf : Hid (Pl w wr g X2 F' (i + 1) F' V' r) := hsq.p
            have HRf : Hid (wr.heap[R]? = some (.cells C 36)) := hsq.ro
            clear hsq hm hml HSQ
            obtain ⟨q0, q1, q2, q3, q4, q5, q6, q7, q8, _⟩ := row9 (v0 := .bool F'.down) (v1 := .int .i64 (F'.steps : Int)) (v2 := V'.f) (v3 := V'.d) (v4 := V'.s) (v5 := V'.c) (v6 := V'.p) (v7 := .int .i64 F'.crash) (v8 := V'.k) HPf.out.ro
            have x1 : wr.cell? ⟨R, 1, none⟩ = some (.string o.n) := by
              have h1 := HRf.out
              rw [HC.out] at h1
              exact (row7 h1).2.1
            obtain ⟨on, hon⟩ : ∃ on, o.n = on := ⟨_, rfl⟩
            rw [hon] at x1
            have HQ : Hid (Calls Tryz.prog 8 #[.pointer (some ⟨g, 0, none⟩), .agg #[.bool F'.down, .int .i64 (F'.steps : Int), V'.f, V'.d, V'.s, V'.c, V'.p, .int .i64 F'.crash, V'.k], .string on] wr fun e w' => e = .returned (.bool true) ∧ Below wr.heap.size wr w') := as_any g X2 F' (i + 1) V' _ w wr HPf.out.dv HPf.out.iv (by have := HLT.out; have := HL.out; omega) (by rw [← hon]; exact HOK.out.n)
            clear hon
            go_wp2_with fail
            refine (show Calls _ _ _ _ _ from HQ.out).mono ?_
            rintro e wz ⟨rfl, hbz⟩
            have HPz : Hid (Pl w wz g X2 F' (i + 1) F' V' r) := HPf.out.on hbz
            clear hbz HQ HPf HRf q0 q1 q2 q3 q4 q5 q6 q7 q8 x1
            have hiw := HIW.out
            go_wp2
            go_roundw
            case rel => exact ⟨i + 1, g, F', X2, V', HLT.out, rfl, rfl, HPz.out⟩
            case measure => simp [intOf]; have := HLT.out; omega
    · have hil : i = len := by omega
      subst hil
      clear hlt
      go_wp2
      go_returns
      exact ⟨rfl, HPL.out.dv.st.bel⟩
end Go.Proofs.YtlheilkofibogaaGreat
