import Derived.Test.YtencjopnbmbhkaaMJ
import Derived.BigQuiet
namespace Go.Proofs.Ytencjopnbmbhkaa
open Go.RowKit Go.Maps
set_option linter.unusedVariables false
set_option linter.unusedSimpArgs false
/-- The names of one pair, and what a failed call lays behind it: what the law asks. -/
structure PairQ (A B V : ByteArray) (o : Po) (bs vs m : Nat) : Prop where
  b : B.size = bs
  v : V.size = vs
  sum : bs + m = vs
  big : vs ≤ 2147483648
  pre : V.extract 0 bs = B
  md : m ≤ o.d.size
  more : m ≠ 0 → o.k = 1 ∧ o.n = A ∧ V.extract bs vs = o.d.extract 0 m
theorem pairQ {A B : ByteArray} {o : Po} {m : Nat} (hm : m ≤ o.d.size) (hb : B.size ≤ 1073741824) (hv : (B ++ o.d.extract 0 m).size ≤ 1073741824) (h : m ≠ 0 → o.k = 1 ∧ o.n = A) : PairQ A B (B ++ o.d.extract 0 m) o B.size (B ++ o.d.extract 0 m).size m := by
  have he : (o.d.extract 0 m).size = m := by
    have h1 : (o.d.extract 0 m).data.toList.length = m := by
      rw [ext_any, List.length_take, List.drop_zero]
      have : o.d.data.toList.length = o.d.size := by simp
      omega
    simpa using h1
  refine ⟨rfl, rfl, by rw [ByteArray.size_append, he], by omega, app_pre_all _ _, hm, fun hne => ⟨(h hne).1, (h hne).2, app_suf _ _⟩⟩
set_option maxHeartbeats 8000000 in
set_option maxRecDepth 100000 in
theorem Refuses_walk (ad : Option Addr) (G off len cap : Nat) (w : World) (hA : len ≠ 0 → ad = some ⟨G, off, none⟩) (hL : len ≤ 1466015503700) (hO : ∀ i, i < len → ∃ o pv, OpA w.heap.size w G (off + i * 7) o pv) :
    Calls Try.prog 4 #[.slice ad len cap] w fun e w' => e = .returned (.bool true) ∧ Below w.heap.size w w' := by
  have HNW : Hid _ := NewW_any w
  have HWK : Hid (∀ W, Calls Try.prog 6 #[] W fun e w' => e = .returned (.bool true) ∧ Below W.heap.size W w') := works_any
  have HO : Hid _ := hO
  have HA : Hid _ := hA
  have HL : Hid (len ≤ 1466015503700) := hL
  clear hO hA
  go_enter Try.func4, Try.ntmps4
  go_wp2_with fail
  refine (show Calls _ _ _ _ _ from HNW.out).mono ?_
  rintro e w1 ⟨g, X, rfl, hk⟩
  have H1 : Hid (St w w1 g X newM 0) := St.new hk
  clear hk HNW
  go_wp2_with fail
  refine (show Calls _ _ _ _ _ from HWK.out _).mono ?_
  rintro e w2 ⟨rfl, hb2⟩
  have H2 : Hid (St w w2 g X newM 0) := H1.out.on hb2
  clear hb2 H1 HWK
  go_wp2
  go_loopw [4] (fun ci wr => ∃ (i : Nat) (F : Fs) (X : Gh), i ≤ len ∧ ci = .int .i64 (i : Int) ∧ St w wr g X F i) (fun ci _ => len - (intOf ci).toNat)
  case atStart => exact ⟨0, newM, X, Nat.zero_le _, rfl, H2.out⟩
  case round =>
    obtain ⟨i, F, X, hi, rfl, hst⟩ := hrel
    have HST : Hid (St w wr g X F i) := hst
    clear hst
    by_cases hlt : i < len
    · have had := HA.out (by omega)
      subst had
      obtain ⟨o, pv, hop⟩ := HO.out i hlt
      have HOP : Hid (OpA w.heap.size wr G (off + i * 7) o pv) := hop.on HST.out.bel
      obtain ⟨C, hC⟩ : ∃ C, C = opArr o pv := ⟨_, rfl⟩
      have HC : Hid (C = opArr o pv) := hC
      have HCS : Hid (C.size = 7) := by show _ = _; rw [hC]; rfl
      have HC1 : Hid (C.all (·.oneCell') = true) := by
        show _ = true
        obtain ⟨P, c, e⟩ := hop.kr.form
        rw [hC, e]
        simp only [opArr, List.all_toArray, List.all_cons, List.all_nil, Bool.and_true]
        rfl
      obtain ⟨Z, hZ⟩ : ∃ Z, Z = zO := ⟨_, rfl⟩
      have HZ : Hid (Z = zO) := hZ
      have HZS : Hid (Z.size = 7) := by show _ = _; rw [hZ]; rfl
      have hz3 : (0 : Int) ≤ (i : Int) := by omega
      have hz4 : (i : Int) < (len : Int) := by omega
      have HLT : Hid (i < len) := hlt
      have HOK : Hid (PoOk o) := hop.ok
      obtain ⟨R, hR⟩ : ∃ R, wr.heap.size = R := ⟨_, rfl⟩
      have HRR : Hid (wr.heap.size = R) := hR
      clear hop hC hZ hR hlt
      go_upto_region 8 with (first
        | (refine ldO C w.heap.size G (off + i * 7) o pv _ rfl rfl rfl HOP.out HC.out ?_)
        | (refine alO rfl rfl Z HZ.out ?_)
        | (refine stO rfl _ _ rfl wr.heap.size C Z rfl rfl HCS.out HC1.out HZS.out (one_alloc _ _) ?_; intro Wo hro hoo))
      have hbo : Below wr.heap.size wr Wo := ((Below.refl _ wr).alloc (Nat.le_refl _) _).trans (hoo.below (Nat.le_refl _))
      have HSo : Hid (St w Wo g X F i) := HST.out.on hbo
      have HRo : Hid (Wo.heap[R]? = some (.cells C 29)) := by show _ = _; rw [← HRR.out]; exact hro
      have HOPo : Hid (OpA w.heap.size Wo G (off + i * 7) o pv) := HOP.out.on (hbo.mono HST.out.bel.size)
      rw [HRR.out]
      clear hbo hoo hro HOP HST
      obtain ⟨nn, hnn⟩ : ∃ nn, F.dir.length = nn := ⟨_, rfl⟩
      obtain ⟨sn, hsn⟩ : ∃ sn, F.sure.length = sn := ⟨_, rfl⟩
      obtain ⟨s, hs⟩ : ∃ s, F.steps = s := ⟨_, rfl⟩
      have HNN : Hid (F.dir.length = nn) := hnn
      have HSN : Hid (F.sure.length = sn) := hsn
      have HS : Hid (F.steps = s) := hs
      have HFW : Hid (nn ≤ 64 ∧ sn ≤ 64 ∧ s ≤ 1466015503700) := by
        have h1 := HSo.out.few
        have h2 := HSo.out.st
        have h3 := HLT.out
        show _ ∧ _ ∧ _
        omega
      clear hnn hsn hs
      have HQ : Hid (Calls Try.prog 8 #[.pointer (some ⟨g, 0, none⟩)] Wo fun e w' => NowP Wo (nowM F) nn e w') := now_st HSo.out HNN.out
      go_wp2_with fail
      refine (show Calls _ _ _ _ _ from HQ.out).mono ?_
      rintro e w3 ⟨P1, c1, rfl, hp1, hb3⟩
      have HP1 : Hid (PR w3 (.slice P1 nn c1) (nowM F)) := hp1
      have HS3 : Hid (St w w3 g X F i) := HSo.out.on hb3
      have HR3 : Hid (w3.heap[R]? = some (.cells C 29)) := keep_row HRo.out hb3
      have HO3 : Hid (OpA w.heap.size w3 G (off + i * 7) o pv) := HOPo.out.on (hb3.mono HSo.out.bel.size)
      clear hp1 hb3 HQ HSo HRo HOPo
      have HQ : Hid (Calls Try.prog 9 #[.pointer (some ⟨g, 0, none⟩)] w3 fun e w' => NowP w3 (safeM F) sn e w') := safe_st HS3.out HSN.out
      go_wp2_with fail
      refine (show Calls _ _ _ _ _ from HQ.out).mono ?_
      rintro e w4 ⟨P2, c2, rfl, hp2, hb4⟩
      have HP2 : Hid (PR w4 (.slice P2 sn c2) (safeM F)) := hp2
      have HP1' : Hid (PR w4 (.slice P1 nn c1) (nowM F)) := HP1.out.on hb4
      have HS4 : Hid (St w w4 g X F i) := HS3.out.on hb4
      have HR4 : Hid (w4.heap[R]? = some (.cells C 29)) := keep_row HR3.out hb4
      have HO4 : Hid (OpA w.heap.size w4 G (off + i * 7) o pv) := HO3.out.on (hb4.mono HS3.out.bel.size)
      clear hp2 hb4 HQ HP1 HS3 HR3 HO3
      have HQ : Hid (Calls Try.prog 12 #[.pointer (some ⟨g, 0, none⟩)] w4 fun e w' => e = .returned (.int .i64 (s : Int)) ∧ w' = w4) := steps_st HS4.out HS.out
      go_wp2_with fail
      refine (show Calls _ _ _ _ _ from HQ.out).mono ?_
      rintro e w5 ⟨rfl, rfl⟩
      clear HQ
      obtain ⟨F', r, hdm⟩ : ∃ F' r, doneM F o = (F', r) := ⟨_, _, rfl⟩
      have HOUT : Hid (OutD F o (F', r)) := by show OutD _ _ _; rw [← hdm]; exact done_out F o
      have HQ : Hid (Calls Try.prog 7 #[.pointer (some ⟨g, 0, none⟩), .agg C] w5 fun e w' => DoneP w w5 g X F F' r i e w') := done_st HS4.out (by have := HLT.out; have := HL.out; omega) HC.out HOK.out (HO4.out.pks HS4.out.own) hdm
      clear hdm
      go_wp2_with (first
        | (refine ldR C R _ rfl rfl rfl HR4.out HCS.out ?_))
      refine (show Calls _ _ _ _ _ from HQ.out).mono ?_
      rintro e w6 ⟨rfl, ⟨X6, hst6⟩, hmd⟩
      have HS6 : Hid (St w w6 g X6 F' (i + 1)) := hst6
      have HPA : Hid (PR w6 (.slice P1 nn c1) (nowM F)) := HP1'.out.mod HS4.out.fs.toFsC hmd
      have HPB : Hid (PR w6 (.slice P2 sn c2) (safeM F)) := HP2.out.mod HS4.out.fs.toFsC hmd
      have HR6 : Hid (w6.heap[R]? = some (.cells C 29)) := op_mod HR4.out HS4.out.fs.toFsC hmd
      have HLG : Hid (IoD F o F' → Longer F F' o) := fun h => HS4.out.longer h
      have HIN : Hid (i + 1 ≤ len) := HLT.out
      have HIW : Hid (IntKind.i64.wrap ((i : Int) + 1) = (i : Int) + 1) := by have := HL.out; show _ = _; rw [IntKind.wrap_i64] <;> omega
      clear hst6 hmd HQ HP1' HP2 HR4 HS4 HO4 HOK hz3 hz4 hi
      by_cases e0 : r = 0
      · subst e0
        clear HOUT HLG HPA HPB HR6
        have hiw := HIW.out
        go_wp2
        go_roundw
        case rel => exact ⟨i + 1, F', X6, HIN.out, rfl, HS6.out⟩
        case measure => have := HIN.out; simp [intOf]; omega
      by_cases e1 : r = 203
      · subst e1
        clear HOUT HLG HPA HPB HR6
        have hiw := HIW.out
        go_wp2
        go_roundw
        case rel => exact ⟨i + 1, F', X6, HIN.out, rfl, HS6.out⟩
        case measure => have := HIN.out; simp [intOf]; omega
      by_cases e2 : r = 200
      · subst e2
        have hio : IoD F o F' := by
          rcases HOUT.out with h | h | ⟨_, h⟩ | ⟨h, _⟩
          · simp at h
          · simp at h
          · exact h
          · exact absurd rfl h
        have HLN : Hid (Longer F F' o) := HLG.out hio
        have HNN' : Hid (F'.dir.length = nn) := by show _ = _; rw [HLN.out.dir]; exact HNN.out
        have HSN' : Hid (F'.sure.length = sn) := by show _ = _; rw [← safe_len, HLN.out.safe, safe_len]; exact HSN.out
        obtain ⟨s1, hs1⟩ : ∃ s1, s + 1 = s1 := ⟨_, rfl⟩
        have HS' : Hid (F'.steps = s1) := by show _ = _; rw [HLN.out.st, HS.out, hs1]
        have hsw : IntKind.i64.wrap ((s : Int) + 1) = (s1 : Int) := by have := HFW.out; rw [IntKind.wrap_i64] <;> omega
        clear HOUT HLG hio hs1 e0 e1
        have HQ : Hid (Calls Try.prog 8 #[.pointer (some ⟨g, 0, none⟩)] w6 fun e w' => NowP w6 (nowM F') nn e w') := now_st HS6.out HNN'.out
        go_wp2_with fail
        refine (show Calls _ _ _ _ _ from HQ.out).mono ?_
        rintro e w7 ⟨P3, c3, rfl, hp3, hb7⟩
        have HS7 : Hid (St w w7 g X6 F' (i + 1)) := HS6.out.on hb7
        have HPC : Hid (PR w7 (.slice P3 nn c3) (nowM F')) := hp3
        have HPA7 : Hid (PR w7 (.slice P1 nn c1) (nowM F)) := HPA.out.on hb7
        have HPB7 : Hid (PR w7 (.slice P2 sn c2) (safeM F)) := HPB.out.on hb7
        have HR7 : Hid (w7.heap[R]? = some (.cells C 29)) := keep_row HR6.out hb7
        clear HQ hp3 hb7 HPA HPB HR6 HS6
        have HQ : Hid (Calls Try.prog 12 #[.pointer (some ⟨g, 0, none⟩)] w7 fun e w' => e = .returned (.int .i64 (s1 : Int)) ∧ w' = w7) := steps_st HS7.out HS'.out
        go_wp2_with fail
        refine (show Calls _ _ _ _ _ from HQ.out).mono ?_
        rintro e w8 ⟨rfl, rfl⟩
        clear HQ
        have HQ : Hid (Calls Try.prog 9 #[.pointer (some ⟨g, 0, none⟩)] w8 fun e w' => NowP w8 (safeM F') sn e w') := safe_st HS7.out HSN'.out
        go_wp2_with fail
        refine (show Calls _ _ _ _ _ from HQ.out).mono ?_
        rintro e w9 ⟨P4, c4, rfl, hp4, hb9⟩
        rw [HLN.out.safe] at hp4
        have HS9 : Hid (St w w9 g X6 F' (i + 1)) := HS7.out.on hb9
        have HPC9 : Hid (PR w9 (.slice P3 nn c3) (nowM F')) := HPC.out.on hb9
        have HPA9 : Hid (PR w9 (.slice P1 nn c1) (nowM F)) := HPA7.out.on hb9
        have HR9 : Hid (w9.heap[R]? = some (.cells C 29)) := keep_row HR7.out hb9
        have hq := same_st (by rw [safe_len, HSN.out]; have := HFW.out; omega) hp4 (HPB7.out.on hb9)
        clear HQ hp4 hb9 HPA7 HPB7 HR7 HPC HS7
        have HQ : Hid (Calls Try.prog 13 #[.slice P4 sn c4, .slice P2 sn c2] w9 fun e w' => e = .returned (.bool true) ∧ Below w9.heap.size w9 w') := hq
        clear hq
        go_wp2_with fail
        refine (show Calls _ _ _ _ _ from HQ.out).mono ?_
        rintro e w10 ⟨rfl, hb10⟩
        have HS10 : Hid (St w w10 g X6 F' (i + 1)) := HS9.out.on hb10
        have HPC10 : Hid (PR w10 (.slice P3 nn c3) (nowM F')) := HPC9.out.on hb10
        have HPA10 : Hid (PR w10 (.slice P1 nn c1) (nowM F)) := HPA9.out.on hb10
        have HR10 : Hid (w10.heap[R]? = some (.cells C 29)) := keep_row HR9.out hb10
        clear HQ hb10 HPA9 HR9 HPC9 HS9
        obtain ⟨wz, hwz⟩ : ∃ wz : World, wz = wr := ⟨_, rfl⟩
        subst hwz
        go_wp2
        go_loopw [11] (fun ck wk => ∃ k : Nat, k ≤ nn ∧ ck = .int .i64 (k : Int) ∧ Below w10.heap.size w10 wk) (fun ck _ => nn - (intOf ck).toNat)
        case atStart => exact ⟨0, Nat.zero_le _, rfl, Below.refl _ _⟩
        case round =>
          obtain ⟨k, hk, rfl, hbk⟩ := hrel
          have HBK : Hid (Below w10.heap.size w10 wr) := hbk
          by_cases hlt : k < nn
          · have hkl : k < (nowM F).length := by rw [now_len, HNN.out]; exact hlt
            have hkl' : k < (nowM F').length := by rw [now_len, HNN'.out]; exact hlt
            obtain ⟨m, hm, hat, hmo⟩ := HLN.out.at_ k _ (List.getElem?_eq_getElem hkl)
            have hbig := HS10.out.big hat
            obtain ⟨G1, o1, k1, he1, hc1⟩ := (HPA10.out.on hbk).kr.cell pprOk hkl
            injection he1 with h1 hq1 h2
            subst h1
            obtain ⟨G2, o2, k2, he2, hc2⟩ := (HPC10.out.on hbk).kr.cell pprOk hkl'
            injection he2 with h3 hq2 h4
            subst h3
            have hel : (nowM F')[k] = ((nowM F)[k].1, (nowM F)[k].2 ++ o.d.extract 0 m) := by
              rw [List.getElem?_eq_getElem hkl'] at hat
              injection hat
            rw [hel] at hc2
            obtain ⟨⟨A, B⟩, hAB⟩ : ∃ x, (nowM F)[k] = x := ⟨_, rfl⟩
            rw [hAB] at hc1 hc2 hbig hmo
            simp only at hc2 hbig hmo
            have hPQ := pairQ (A := A) (B := B) (o := o) hm (by rw [ByteArray.size_append] at hbig; omega) hbig hmo
            obtain ⟨V, hV⟩ : ∃ V, B ++ o.d.extract 0 m = V := ⟨_, rfl⟩
            rw [hV] at hPQ hc2
            obtain ⟨bs, hbs⟩ : ∃ bs, B.size = bs := ⟨_, rfl⟩
            obtain ⟨vs, hvs⟩ : ∃ vs, V.size = vs := ⟨_, rfl⟩
            rw [hbs, hvs] at hPQ
            obtain ⟨hqa, hqb, hsum, hvb, hpre, hmd, hmr⟩ := hPQ
            clear hqa hqb
            have d0 : wr.cell? ⟨G1, o1 + k * 2, none⟩ = some (.string A) := hc1 0 _ rfl
            have d1 : wr.cell? ⟨G1, o1 + k * 2 + 1, none⟩ = some (.string B) := hc1 1 _ rfl
            have d2 : wr.cell? ⟨G2, o2 + k * 2, none⟩ = some (.string A) := hc2 0 _ rfl
            have d3 : wr.cell? ⟨G2, o2 + k * 2 + 1, none⟩ = some (.string V) := hc2 1 _ rfl
            have hrow := keep_row HR10.out hbk
            rw [HC.out] at hrow
            obtain ⟨p0, p1, p2, p3, p4, p5, p6⟩ := row7 hrow
            clear p4 p5 p6
            have hz0 : (0 : Int) ≤ (k : Int) := by omega
            have hz1 : (k : Int) < (nn : Int) := by omega
            have g0 : (A.toList == A.toList) = true := str_same rfl
            have q1 : ((V.extract 0 bs).toList == B.toList) = true := str_same (by rw [hpre])
            have hkw : IntKind.i64.wrap ((k : Int) + 1) = (k : Int) + 1 := by have := HFW.out; rw [IntKind.wrap_i64] <;> omega
            have HKL : Hid (k + 1 ≤ nn) := hlt
            have HVS : Hid (V.size = vs) := hvs
            have HBS : Hid (B.size = bs) := hbs
            clear hk hbk hlt hkl hkl' hat hbig hc1 hc2 hel hAB hm hmo hV hpre hrow p2 h2 h4 hq1 hq2
            by_cases hm0 : m = 0
            · subst hm0
              have hvb' : vs = bs := by omega
              subst hvb'
              have hw1 : IntKind.i64.wrap ((vs : Int) - (vs : Int)) = 0 := by rw [IntKind.wrap_i64] <;> omega
              have hw2 : IntKind.i64.wrap (vs : Int) = (vs : Int) := by rw [IntKind.wrap_i64] <;> omega
              have hw3 : IntKind.i64.wrap ((vs : Int) - 0) = (vs : Int) := by rw [IntKind.wrap_i64] <;> omega
              have hw0 : IntKind.i64.wrap 0 = 0 := by rw [IntKind.wrap_i64] <;> omega
              clear hmr hsum hmd p0 p1 p3
              go_upto_region 22 with fail
              refine wp_region_quiet_lit (by kernel_rfl) (by kernel_rfl) ?_
              simp only [List.append]
              repeat (go_big_quiet_step (fail))
              refine wpQuiet_nil ?_
              intro _ hw'
              obtain ⟨nq, hw''⟩ := hw'
              subst hw''
              have HBQ : Hid (Below w10.heap.size w10 (wr.drewN nq)) := below_dn HBK.out nq
              clear d0 d1 d2 d3 hw1 hw2 hw3 hw0
              generalize wr.drewN nq = Wq at *
              go_wp2
              go_roundw
              case rel => exact ⟨k + 1, HKL.out, rfl, HBQ.out⟩
              case measure => have := HKL.out; simp [intOf]; omega
            · obtain ⟨hk1, hn1, hx2⟩ := hmr hm0
              rw [hk1] at p0
              rw [hn1] at p1
              obtain ⟨D, hD⟩ : ∃ D, o.d = D := ⟨_, rfl⟩
              rw [hD] at p3 hmd hx2
              obtain ⟨ds, hds⟩ : ∃ ds, D.size = ds := ⟨_, rfl⟩
              rw [hds] at hmd
              have q2 : ((V.extract bs vs).toList == (D.extract 0 m).toList) = true := str_same (by rw [hx2])
              have hw1 : IntKind.i64.wrap ((vs : Int) - (bs : Int)) = (m : Int) := by rw [IntKind.wrap_i64] <;> omega
              have hw2 : IntKind.i64.wrap ((vs : Int) - (m : Int)) = (bs : Int) := by rw [IntKind.wrap_i64] <;> omega
              have cm0 : decide ((m : Int) < 0) = false := decide_eq_false (by omega)
              have cm1 : decide ((0 : Int) < (m : Int)) = true := decide_eq_true (by omega)
              have cm2 : decide ((ds : Int) < (m : Int)) = false := decide_eq_false (by omega)
              have hmp : 0 < m := by omega
              have cm3 : decide (0 < m) = true := decide_eq_true hmp
              have cm4 : decide (ds < m) = false := decide_eq_false (by omega)
              have hbv : (bs : Int) ≤ (vs : Int) := by omega
              have hb0 : (0 : Int) ≤ (bs : Int) := by omega
              have hm1 : (0 : Int) ≤ (m : Int) := by omega
              have hm2 : (m : Int) ≤ (ds : Int) := by omega
              clear hmr hsum hx2 hD hk1 hn1 hm0 hmd
              go_upto_region 22 with fail
              refine wp_region_quiet_lit (by kernel_rfl) (by kernel_rfl) ?_
              simp only [List.append]
              repeat (go_big_quiet_step (fail))
              refine wpQuiet_nil ?_
              intro _ hw'
              obtain ⟨nq, hw''⟩ := hw'
              subst hw''
              have HBQ : Hid (Below w10.heap.size w10 (wr.drewN nq)) := below_dn HBK.out nq
              clear d0 d1 d2 d3 hw1 hw2 p0 p1 p3
              generalize wr.drewN nq = Wq at *
              go_wp2
              go_roundw
              case rel => exact ⟨k + 1, HKL.out, rfl, HBQ.out⟩
              case measure => have := HKL.out; simp [intOf]; omega
          · have hq : k = nn := by omega
            subst hq
            have HS11 : Hid (St w wr g X6 F' (i + 1)) := HS10.out.on hbk
            have hiw := HIW.out
            clear hlt hbk hk
            go_wp2
            go_roundw
            case rel => exact ⟨i + 1, F', X6, HIN.out, rfl, HS11.out⟩
            case measure => have := HIN.out; simp [intOf]; omega
      · have hFF : F' = F := by
          rcases HOUT.out with h | h | ⟨h, _⟩ | ⟨_, h⟩
          · exact absurd h e0
          · exact absurd h e1
          · exact absurd h e2
          · exact h
        subst hFF
        have n0 : (r == 0) = false := by simpa using e0
        have n1 : (r == 203) = false := by simpa using e1
        have n2 : (r == 200) = false := by simpa using e2
        clear HOUT HLG HR6
        have HQ : Hid (Calls Try.prog 12 #[.pointer (some ⟨g, 0, none⟩)] w6 fun e w' => e = .returned (.int .i64 (s : Int)) ∧ w' = w6) := steps_st HS6.out HS.out
        go_wp2_with fail
        refine (show Calls _ _ _ _ _ from HQ.out).mono ?_
        rintro e w7 ⟨rfl, rfl⟩
        clear HQ
        have HQ : Hid (Calls Try.prog 8 #[.pointer (some ⟨g, 0, none⟩)] w7 fun e w' => NowP w7 (nowM F') nn e w') := now_st HS6.out HNN.out
        go_wp2_with fail
        refine (show Calls _ _ _ _ _ from HQ.out).mono ?_
        rintro e w8 ⟨P3, c3, rfl, hp3, hb8⟩
        have HS8 : Hid (St w w8 g X6 F' (i + 1)) := HS6.out.on hb8
        have HPB8 : Hid (PR w8 (.slice P2 sn c2) (safeM F')) := HPB.out.on hb8
        have hq := same_st (by rw [now_len, HNN.out]; have := HFW.out; omega) hp3 (HPA.out.on hb8)
        clear HQ hp3 hb8 HPA HPB HS6
        have HQ : Hid (Calls Try.prog 13 #[.slice P3 nn c3, .slice P1 nn c1] w8 fun e w' => e = .returned (.bool true) ∧ Below w8.heap.size w8 w') := hq
        clear hq
        go_wp2_with fail
        refine (show Calls _ _ _ _ _ from HQ.out).mono ?_
        rintro e w9 ⟨rfl, hb9⟩
        have HS9 : Hid (St w w9 g X6 F' (i + 1)) := HS8.out.on hb9
        have HPB9 : Hid (PR w9 (.slice P2 sn c2) (safeM F')) := HPB8.out.on hb9
        clear HQ hb9 HS8 HPB8
        have HQ : Hid (Calls Try.prog 9 #[.pointer (some ⟨g, 0, none⟩)] w9 fun e w' => NowP w9 (safeM F') sn e w') := safe_st HS9.out HSN.out
        go_wp2_with fail
        refine (show Calls _ _ _ _ _ from HQ.out).mono ?_
        rintro e w10 ⟨P4, c4, rfl, hp4, hb10⟩
        have HS10 : Hid (St w w10 g X6 F' (i + 1)) := HS9.out.on hb10
        have hq := same_st (by rw [safe_len, HSN.out]; have := HFW.out; omega) hp4 (HPB9.out.on hb10)
        clear HQ hp4 hb10 HPB9 HS9
        have HQ : Hid (Calls Try.prog 13 #[.slice P4 sn c4, .slice P2 sn c2] w10 fun e w' => e = .returned (.bool true) ∧ Below w10.heap.size w10 w') := hq
        clear hq
        go_wp2_with fail
        refine (show Calls _ _ _ _ _ from HQ.out).mono ?_
        rintro e w11 ⟨rfl, hb11⟩
        have HS11 : Hid (St w w11 g X6 F' (i + 1)) := HS10.out.on hb11
        clear HQ hb11 HS10
        have hiw := HIW.out
        go_wp2
        go_roundw
        case rel => exact ⟨i + 1, F', X6, HIN.out, rfl, HS11.out⟩
        case measure => have := HIN.out; simp [intOf]; omega
    · have hq : i = len := by omega
      subst hq
      have HB := HST.out.bel
      clear HST
      go_wp2
      go_returns
      exact ⟨rfl, HB⟩
end Go.Proofs.Ytencjopnbmbhkaa
