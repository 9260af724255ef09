import Derived.Test.YtdemodhjlbkbeaaRP
namespace Go.Proofs.Ytdemodhjlbkbeaa
open Go.RowKit
set_option linter.unusedVariables false
theorem revN_zero : revN 0 = 0 := by
  apply Nat.eq_of_testBit_eq
  intro i
  rw [revN_bit]; simp
theorem Scan_covS (g : Nat) (F : List Nat) (D : DS) (hD : DInv D) (hcc : cnt D.T1 + cnt D.T2 ≤ 4398046511000) (stay mets : List ByteArray) (c : Nat) (hcb : c ≤ 9223372036854775807) (hcov : CovS D.seed c stay mets) (hsk : ∀ x ∈ stay, x ∈ keysOf D) (n : Int) (hn : -9223372036854775808 ≤ n ∧ n ≤ 9223372036854775807) (w : World) (h : DI w g F D) :
    Calls Try.prog 19 #[.pointer (some ⟨g, 0, none⟩), .int .i64 (c : Int), .int .i64 n] w fun e w' => ∃ (M : List Ent) (r : Value) (c' : Nat), e = .returned (.tuple #[r, .int .i64 (c' : Int)]) ∧ w'.ownsRow w.heap.size 9 1 r M.length (keyV M) ∧ Below w.heap.size w w' ∧ M.length ≤ cnt D.T1 + cnt D.T2 ∧ c' ≤ 9223372036854775807 ∧ (∀ e ∈ M, e ∈ D.all) ∧ ((c' = 0 ∧ ∀ x ∈ stay, x ∈ mets ++ M.map (·.1)) ∨ (c' ≠ 0 ∧ CovS D.seed c' stay (mets ++ M.map (·.1)) ∧ Rj (aD D) c < Rj (aD D) c' ∧ lowN D c + M.length ≤ lowN D c')) := by
  by_cases hne : D.T1 = []
  · have hall : D.all = [] := by
      have h2 : D.T2 = [] := Decidable.byContradiction fun hm => T1_ne hD hm hne
      unfold DS.all; rw [hne, h2]; rfl
    refine (Scan_none g F D hne (c : Int) n w h).mono ?_
    rintro e w' ⟨rfl, rfl⟩
    refine ⟨[], .slice none 0 0, 0, rfl, ⟨rfl, Or.inl ⟨rfl, rfl⟩⟩, Below.refl _ _, by simp, by omega, by simp, Or.inl ⟨rfl, fun x hx => ?_⟩⟩
    have := hsk x hx
    unfold keysOf at this
    rw [hall] at this; simp at this
  · have ha := (shape hD hne).a42
    refine (Scan_any g F D hD hne hcc c hcb n hn w h).mono ?_
    rintro e w' ⟨t, r, hs, rfl, ho, hb⟩
    obtain ⟨s1, s2⟩ := hcov.step hD hne hsk hs
    refine ⟨visN D c t, r, itN (aD D) t c, rfl, ho, hb, visN_cnt hD hne c t hs.le, itN_le _ ha c t hcb, (visN_ok hD hne c t hs.le).2.1, ?_⟩
    by_cases h0 : itN (aD D) t c = 0
    · exact Or.inl ⟨h0, s1 h0⟩
    · obtain ⟨q1, q2⟩ := s2 h0
      exact Or.inr ⟨h0, q1, by rw [q2]; have := hs.pos; omega, lowN_step hD hne hs h0 q2⟩
set_option maxHeartbeats 8000000 in
set_option maxRecDepth 100000 in
theorem Scans_walk (seed nn : Int) (hnn : -9223372036854775808 ≤ nn ∧ nn ≤ 9223372036854775807) (ad1 : Option Addr) (g1 o1 n1 c1 : Nat) (ad2 : Option Addr) (g2 o2 n2 c2 : Nat) (w : World) (hA1 : n1 ≠ 0 → ad1 = some ⟨g1, o1, none⟩) (hA2 : n2 ≠ 0 → ad2 = some ⟨g2, o2, none⟩) (hL : n1 + n2 ≤ 1048576) (hO1 : ∀ i, i < n1 → ∃ kd k n, OpAt w g1 o1 i kd k n) (hO2 : ∀ i, i < n2 → ∃ kd k n, OpAt w g2 o2 i kd k n) :
    Calls Try.prog 5 #[.agg #[.int .i64 seed, .slice ad1 n1 c1, .slice ad2 n2 c2, .int .i64 nn]] w fun e w' => e = .returned (.bool true) ∧ Below w.heap.size w w' := by
  obtain ⟨i9, hi9, hy0, hy1, hy2⟩ := info_parts info9
  have HX : Hid _ := one_alloc w (.cells #[.int .i64 seed, .slice ad1 n1 c1, .slice ad2 n2 c2, .int .i64 nn] 40)
  obtain ⟨W0, hW0⟩ : ∃ W0, W0 = w.alloc (.cells #[.int .i64 seed, .slice ad1 n1 c1, .slice ad2 n2 c2, .int .i64 nn] 40) := ⟨_, rfl⟩
  have hbw : Below w.heap.size w W0 := by rw [hW0]; exact (Below.refl _ _).alloc (Nat.le_refl _) _
  rw [← hW0] at HX
  have HB0 : Hid (Below w.heap.size w W0) := hbw
  have x0 : W0.cell? ⟨w.heap.size, 0, none⟩ = some (.int .i64 seed) := by rw [cell_of_row _ _ _ _ _ _ HX.out]; rfl
  have HWK : Hid _ := works_any
  have HNW : Hid _ := New_any seed W0
  have HO1 : Hid _ := hO1
  have HA1 : Hid _ := hA1
  have HO2 : Hid _ := hO2
  have HA2 : Hid _ := hA2
  have HBL : Hid _ := row_lt HX.out
  clear hO1 hA1 hO2 hA2 hbw
  go_enter Try.func5, Try.ntmps5
  go_upto_region 1 with fail
  rw [← hW0]
  clear hW0
  go_wp2_with fail
  refine (show Calls _ _ _ _ _ from HNW.out).mono ?_
  rintro e w1 ⟨rfl, hd1, hb1⟩
  have y0 : w1.cell? ⟨w.heap.size, 0, none⟩ = some (.int .i64 seed) := cell_on x0 hb1
  have hrx := keep_row HX.out hb1
  have y1 : w1.cell? ⟨w.heap.size, 1, none⟩ = some (.slice ad1 n1 c1) := by rw [cell_of_row _ _ _ _ _ _ hrx]; rfl
  have y2 : w1.cell? ⟨w.heap.size, 2, none⟩ = some (.slice ad2 n2 c2) := by rw [cell_of_row _ _ _ _ _ _ hrx]; rfl
  have y3 : w1.cell? ⟨w.heap.size, 3, none⟩ = some (.int .i64 nn) := by rw [cell_of_row _ _ _ _ _ _ hrx]; rfl
  obtain ⟨d, hd⟩ : ∃ d, W0.heap.size = d := ⟨_, rfl⟩
  have HDG : Hid (w.heap.size ≤ d) := by rw [← hd]; exact HB0.out.size
  rw [hd] at hd1 ⊢
  have HD1 : Hid (DI w1 d [d] ⟨seed, [], [], 0⟩) := hd1
  have HB1 : Hid (Below w.heap.size w w1) := HB0.out.trans (hb1.mono HB0.out.size)
  clear hd1 hb1 hrx x0 hd HNW
  go_wp2_with fail
  go_quiet (fail)
  have hbq : Below w1.heap.size w1 (w1.drewN nq) := below_dn (Below.refl _ _) nq
  have HD1q : Hid (DI (w1.drewN nq) d [d] ⟨seed, [], [], 0⟩) := HD1.out.on hbq
  have HB1q : Hid (Below w.heap.size w (w1.drewN nq)) := HB1.out.trans (hbq.mono HB1.out.size)
  generalize w1.drewN nq = w1q at *
  clear hbq y0 y1 y2 y3
  go_wp2_with fail
  refine (show Calls _ _ _ _ _ from HWK.out _).mono ?_
  rintro e w2 ⟨rfl, hb2⟩
  have HD2 : Hid (DI w2 d [d] ⟨seed, [], [], 0⟩) := HD1q.out.on hb2
  have HB2 : Hid (Below w.heap.size w w2) := HB1q.out.trans (hb2.mono HB1q.out.size)
  clear hb2
  go_wp2
  go_loopw [7] (fun ci wr => ∃ (i : Nat) (D : DS) (F : List Nat), i ≤ n1 ∧ ci = .int .i64 (i : Int) ∧ DInv D ∧ DI wr d F D ∧ cnt D.T1 + cnt D.T2 ≤ i ∧ (∀ q ∈ F, w.heap.size ≤ q) ∧ Below w.heap.size w wr) (fun ci _ => n1 - (intOf ci).toNat)
  case atStart => exact ⟨0, _, [d], Nat.zero_le _, rfl, newD_ok seed, HD2.out, by simp [cnt], by simpa using HDG.out, HB2.out⟩
  case round =>
    obtain ⟨i, D, F, hi, rfl, hI, hdi, hcn, hF, hbr⟩ := hrel
    have HI : Hid (DInv D) := hI
    have HDI : Hid (DI wr d F D) := hdi
    have HF : Hid (∀ q ∈ F, w.heap.size ≤ q) := hF
    have HBR : Hid (Below w.heap.size w wr) := hbr
    clear hI hdi hF hbr
    by_cases hlt : i < n1
    · have had := HA1.out (by omega)
      subst had
      obtain ⟨kd, k, n, hop⟩ := HO1.out i hlt
      have hop2 := hop.under HBR.out hop.lt
      have e0 := hop2.a
      have e1 := hop2.b
      have e2 := hop2.c
      have hks := hop2.k
      have HCH : Hid _ := changed_any d F D HI.out (.slice none 0 0) [] (by simp) kd k (by omega) n (by omega) wr (StrRow.nil wr) (fun W _ => StrRow.nil W) HDI.out
      have HCK : Hid _ := chgD_ok HI.out [] kd k (by omega) n (by omega)
      have hz3 : (0 : Int) ≤ (i : Int) := by omega
      have hz4 : (i : Int) < (n1 : Int) := by omega
      clear hop hop2
      go_wp2_with fail
      refine (show Calls _ _ _ _ _ from HCH.out).mono ?_
      rintro e w3 ⟨rfl, F3, hd3, hm3⟩
      obtain ⟨k1, k2⟩ := HCK.out
      have HF3 : Hid (∀ q ∈ F3, w.heap.size ≤ q) := hm3.ge HF.out HBR.out.size
      have HB3 : Hid (Below w.heap.size w w3) := HBR.out.trans (hm3.below HF.out HBR.out.size)
      have HI3 : Hid _ := k1
      clear e0 e1 e2 hm3 k1 HCH HCK
      generalize chgD D [] kd k n = S at *
      have HD3 : Hid (DI w3 d F3 S) := hd3
      clear hd3
      go_wp2
      go_roundw
      case rel => exact ⟨i + 1, S, F3, hlt, by simp, HI3.out, HD3.out, by omega, HF3.out, HB3.out⟩
      case measure => simp [intOf]; omega
    · have hie : i = n1 := by omega
      subst hie
      have HKY : Hid _ := Keys_any d F D HI.out (by omega) wr HDI.out
      have hlk : (keysS D).length ≤ 1048576 := by rw [keysS_len]; omega
      clear hlt hi
      go_wp2_with fail
      refine (show Calls _ _ _ _ _ from HKY.out).mono ?_
      rintro e w3 ⟨vs, rfl, hsn, hso, hb3⟩
      have HKY2 : Hid _ := Keys_any d F D HI.out (by omega) w3 (HDI.out.on hb3)
      obtain ⟨PS, kS, hkf⟩ := own_form hso
      subst hkf
      go_wp2_with fail
      refine (show Calls _ _ _ _ _ from HKY2.out).mono ?_
      rintro e w4 ⟨ve, rfl, hen, heo, hb4⟩
      have HS4 : Hid (SS w w4 d F D ((keysS D).map strB) ((keysS D).map strB) [] (.slice PS (keysS D).length kS) ve (.slice none 0 0)) := by
        have hbb : Below w.heap.size w w4 := HBR.out.trans ((hb3.trans (hb4.mono hb3.size)).mono HBR.out.size)
        have l1 : w.heap.size ≤ wr.heap.size := HBR.out.size
        refine ⟨HI.out, (HDI.out.on hb3).on hb4, HF.out, ?_, ?_, ⟨rfl, Or.inl ⟨rfl, rfl⟩⟩, fun q hq e => ?_, fun q hq e => (by cases e), fun q hq e => (by cases e), hbb, fun x hx => (keysS_str D x).1 hx, fun x hx => (keysS_str D x).2 hx, fun x hx => by cases hx⟩
        · rw [← enc_str, List.length_map]
          have q := own_keep hso (fun k _ hk => hb4.block k hk)
          refine ⟨q.1, ?_⟩
          rcases q.2 with q | ⟨a1, a2, a3, a4, a5, a6⟩
          · exact Or.inl q
          · exact Or.inr ⟨a1, a2, a3, a4, by omega, a6⟩
        · rw [← enc_str, List.length_map]
          refine ⟨heo.1, ?_⟩
          rcases heo.2 with q | ⟨a1, a2, a3, a4, a5, a6⟩
          · exact Or.inl q
          · exact Or.inr ⟨a1, a2, a3, a4, by have := hb3.size; omega, a6⟩
        · have h1 := (World.ownsRow.lt hso q hq).2
          have h2 := (World.ownsRow.lt heo q e).1
          omega
      obtain ⟨PE, kE, hkf⟩ := own_form heo
      subst hkf
      have HSD : Hid (∃ S0, S0 = D.seed) := ⟨_, rfl⟩
      clear hsn hso hb3 hen heo hb4
      obtain ⟨stay, hstay⟩ : ∃ stay, stay = (keysS D).map strB := ⟨_, rfl⟩
      have hls : stay.length = (keysS D).length := by rw [hstay, List.length_map]
      rw [← hstay] at HS4
      rw [← hls] at HS4 hlk ⊢
      have HLS : Hid _ := hls
      clear hls hstay
      go_wp2
      go_loopw [12, 11, 10, 9] (fun ci cz cm ce wx => ∃ (j cu : Nat) (S : DS) (FS : List Nat) (ever mets : List ByteArray), ci = .int .i64 (j : Int) ∧ cz = .int .i64 (cu : Int) ∧ cu ≤ 9223372036854775807 ∧ SS w wx d FS S stay ever mets (.slice PS stay.length kS) ce cm ∧ CovS S.seed cu stay mets ∧ j ≤ n2 + Rj (aD S) cu ∧ cnt S.T1 + cnt S.T2 ≤ i + min (3 * j) n2 ∧ ever.length ≤ 1048576 + min (3 * j) n2 ∧ mets.length ≤ min j n2 * 2097152 + lowN S cu) (fun ci _ _ _ _ => 8796093023000 + n2 - (intOf ci).toNat)
      case atStart => exact ⟨0, 0, D, F, _, [], rfl, rfl, by omega, HS4.out, fun x hx hr => (by rw [revN_zero] at hr; omega), by omega, by omega, by omega, by simp⟩
      case round =>
        obtain ⟨j, cu, S, FS, ever, mets, rfl, rfl, hcu, hSS, hcov, hj, hcn2, hev, hme⟩ := hrel
        have HSS : Hid (SS w wr d FS S stay ever mets (.slice PS stay.length kS) _ _) := hSS
        have HSC : Hid _ := Scan_covS d FS S hSS.inv (by omega) stay mets cu hcu hcov hSS.sk nn hnn wr hSS.di
        have hlow := lowN_le S cu
        have hRs := Rj_small hSS.inv cu
        have hz1 := hSS.inv.sz1
        have hz2 := hSS.inv.sz2
        have hjb : j < 8796093023000 + n2 := by omega
        obtain ⟨PE2, kE2, hkf⟩ := own_form hSS.oe
        subst hkf
        obtain ⟨PM2, kM2, hkf⟩ := own_form hSS.om
        subst hkf
        have HNUM : Hid (j ≤ n2 + Rj (aD S) cu ∧ cnt S.T1 + cnt S.T2 ≤ i + min (3 * j) n2 ∧ ever.length ≤ 1048576 + min (3 * j) n2 ∧ mets.length ≤ min j n2 * 2097152 + lowN S cu ∧ lowN S cu ≤ cnt S.T1 + cnt S.T2) := ⟨hj, hcn2, hev, hme, hlow⟩
        clear hSS hcov hj hcn2 hev hme hlow hRs hz1 hz2
        go_wp2_with fail
        refine (show Calls _ _ _ _ _ from HSC.out).mono ?_
        rintro e w5 ⟨M, r5, c5, rfl, ho5, hb5, hM5, hc5, hMs, hcase⟩
        have HO5 : Hid (w5.ownsRow wr.heap.size 9 1 r5 M.length (keyV M)) := ho5
        have HS5 : Hid (SS w w5 d FS S stay ever mets (.slice PS stay.length kS) (.slice PE2 ever.length kE2) (.slice PM2 mets.length kM2)) := HSS.out.on hb5
        obtain ⟨P9, k9, hkf9⟩ := own_form ho5
        subst hkf9
        have HCS : Hid _ := hcase
        have HM5 : Hid _ := hM5
        have HMs : Hid _ := hMs
        clear ho5 hb5 hcase hM5 hMs
        go_upto_region 16 with fail
        go_wp2_with (at_builtin; go_must (refine wpList_append_two rfl _ _ rfl w.heap.size wr.heap.size _ _ _ rfl HS5.out.om _ M.length M rfl HO5.out ?p1 ?p2 ?_))
        case p1 => have := HNUM.out; have := HM5.out; omega
        case p2 => exact HS5.out.below.size
        intro v6 w6 ho6 hg6
        have HS6 : Hid (SS w w6 d FS S stay ever (mets ++ M.map (·.1)) (.slice PS stay.length kS) (.slice PE2 ever.length kE2) v6) := by
          have hlt : ∀ {v n xs}, w5.ownsRow w.heap.size 9 1 v n xs → ∀ q, v.ownBlock = some q → q < w5.heap.size := fun ho q hq => (World.ownsRow.lt ho q hq).2
          refine ⟨HS5.out.inv, hg6.di HS5.out.di (fun q hq e => HS5.out.di.apart HS5.out.om (Or.inl rfl) q e hq), HS5.out.fs, own_block HS5.out.os (fun q hq => hg6.fr.block q (hlt HS5.out.os q hq) (fun e => HS5.out.sm q hq e.symm)), own_block HS5.out.oe (fun q hq => hg6.fr.block q (hlt HS5.out.oe q hq) (fun e => HS5.out.em q hq e.symm)), ?_, HS5.out.se, fun q hq => hg6.ne_own (hlt HS5.out.os q hq) (HS5.out.sm q hq), fun q hq => hg6.ne_own (hlt HS5.out.oe q hq) (HS5.out.em q hq), HS5.out.below.trans (hg6.below HS5.out.below.size (fun q hq => (World.ownsRow.lt HS5.out.om q hq).1)), HS5.out.sk, HS5.out.ke, fun x hx => ?_⟩
          · rw [List.length_append, List.length_map, show strV (mets ++ M.map (·.1)) = strV mets ++ keyV M by rw [keyV_str]; unfold strV; rw [List.map_append]]
            exact ho6
          · rcases List.mem_append.1 hx with hx | hx
            · exact HS5.out.me x hx
            · obtain ⟨e, he, rfl⟩ := List.mem_map.1 hx
              exact HS5.out.ke _ (List.mem_map.2 ⟨e, HMs.out e he, rfl⟩)
        obtain ⟨P6, k6, hkf6⟩ := own_form ho6
        subst hkf6
        have HLM : Hid ((mets ++ M.map (·.1)).length = mets.length + M.length) := by show _ = _; simp
        clear ho6 hg6
        generalize hMT : mets ++ M.map (·.1) = MT at *
        clear hMT
        obtain ⟨NM, hNM⟩ : ∃ NM, mets.length + M.length = NM := ⟨_, rfl⟩
        rw [hNM] at HS6 HLM ⊢
        have HNM : Hid _ := hNM
        clear hNM
        by_cases hc0 : c5 = 0
        · subst hc0
          have HALL : Hid (∀ x ∈ stay, x ∈ MT) := by
            rcases HCS.out with ⟨_, h⟩ | ⟨h, _⟩
            · exact h
            · exact absurd rfl h
          have HR1 : Hid (StrRow w6 (.slice PS stay.length kS) stay) := StrRow.of_vals HS6.out.os rfl
          have HR2 : Hid (StrRow w6 (.slice P6 NM k6) MT) := StrRow.of_vals HS6.out.om rfl
          have HR3 : Hid (StrRow w6 (.slice PE2 ever.length kE2) ever) := StrRow.of_vals HS6.out.oe rfl
          have HME : Hid _ := HS6.out.me
          have HBW6 : Hid _ := HS6.out.below
          have hst : stay.length ≤ 1048576 := hlk
          have hnm : NM ≤ 8796093022208 := by have := HNUM.out; have := HM5.out; have := HNM.out; omega
          have HLM2 : Hid _ := HLM.out
          have hevl : ever.length ≤ 4194304 := by have := HNUM.out; omega
          go_wp2
          go_loopw [19] (fun ci wx => wx = w6 ∧ ∃ u : Nat, u ≤ stay.length ∧ ci = .int .i64 (u : Int)) (fun ci _ => stay.length - (intOf ci).toNat)
          case atStart => exact ⟨rfl, 0, Nat.zero_le _, rfl⟩
          case round =>
            obtain ⟨hwe, u, hu, rfl⟩ := hrel
            subst hwe
            by_cases hul : u < stay.length
            · obtain ⟨a1, a2, a3, a4⟩ := HR1.out
              obtain ⟨b1, b2, b3, b4⟩ := a4 (fun e => by rw [e] at hul; simp at hul)
              injection a3 with e1 e2 e3
              rw [b3] at e1
              subst e1
              have q1 := b4 u hul
              have HIN : Hid (inB MT stay[u] = true) := (inB_iff _ _).2 (HALL.out _ (List.getElem_mem hul))
              have HHA := has_any (.slice P6 NM k6) MT (by rw [HLM2.out]; omega) stay[u] wr HR2.out
              rw [HIN.out] at HHA
              have HHAH : Hid _ := HHA
              have hz5 : (0 : Int) ≤ (u : Int) := by omega
              have hz6 : (u : Int) < (stay.length : Int) := by omega
              have huw : IntKind.i64.wrap ((u : Int) + 1) = (u : Int) + 1 := by rw [IntKind.wrap_i64] <;> omega
              clear a4 b4 HHA e2 e3 b3 HIN
              generalize stay[u] = X at *
              go_wp2_with fail
              refine (show Calls _ _ _ _ _ from HHAH.out).mono ?_
              rintro e w8 ⟨rfl, rfl⟩
              go_wp2
              go_roundw
              case rel => exact ⟨by trivial, u + 1, hul, by simp⟩
              case measure => simp [intOf]; omega
            · go_wp2
              go_loopw [20] (fun ci wx => wx = wr ∧ ∃ u : Nat, u ≤ NM ∧ ci = .int .i64 (u : Int)) (fun ci _ => NM - (intOf ci).toNat)
              case atStart => exact ⟨rfl, 0, Nat.zero_le _, rfl⟩
              case round =>
                obtain ⟨hwe, v, hv, rfl⟩ := hrel
                subst hwe
                by_cases hvl : v < NM
                · obtain ⟨a1, a2, a3, a4⟩ := HR2.out
                  have hvm : v < MT.length := by rw [HLM2.out]; exact hvl
                  obtain ⟨b1, b2, b3, b4⟩ := a4 (fun e => by rw [e] at hvm; simp at hvm)
                  injection a3 with e1 e2 e3
                  rw [b3] at e1
                  subst e1
                  have q1 := b4 v hvm
                  have HIN : Hid (inB ever MT[v] = true) := (inB_iff _ _).2 (HME.out _ (List.getElem_mem hvm))
                  have HHA := has_any (.slice PE2 ever.length kE2) ever (by omega) MT[v] wr HR3.out
                  rw [HIN.out] at HHA
                  have HHAH : Hid _ := HHA
                  have hz5 : (0 : Int) ≤ (v : Int) := by omega
                  have hz6 : (v : Int) < (NM : Int) := by omega
                  have huw : IntKind.i64.wrap ((v : Int) + 1) = (v : Int) + 1 := by rw [IntKind.wrap_i64] <;> omega
                  clear a4 b4 HHA e2 e3 b3 HIN
                  generalize MT[v] = X at *
                  clear hvm
                  go_wp2_with fail
                  refine (show Calls _ _ _ _ _ from HHAH.out).mono ?_
                  rintro e w8 ⟨rfl, rfl⟩
                  go_wp2
                  go_roundw
                  case rel => exact ⟨by trivial, v + 1, hvl, by simp⟩
                  case measure => simp [intOf]; omega
                · go_wp2
                  go_returns
                  exact ⟨rfl, HBW6.out⟩
        · have hc0e : ((c5 : Int) == 0) = false := by simpa using hc0
          obtain ⟨HCV, HRR, HLO⟩ : Hid (CovS S.seed c5 stay MT) ∧ Hid (Rj (aD S) cu < Rj (aD S) c5) ∧ Hid (lowN S cu + M.length ≤ lowN S c5) := by
            rcases HCS.out with ⟨h, _⟩ | ⟨_, h1, h2, h3⟩
            · exact absurd h hc0
            · exact ⟨h1, h2, h3⟩
          have h3w : IntKind.i64.wrap (3 * (j : Int)) = 3 * (j : Int) := by rw [IntKind.wrap_i64] <;> omega
          have h3w2 : IntKind.i64.wrap (3 * (j : Int) + 3) = 3 * (j : Int) + 3 := by rw [IntKind.wrap_i64] <;> omega
          go_wp2
          go_loopw [15, 9] (fun ck ce wx => ∃ (k : Nat) (T : DS) (FT : List Nat) (ev : List ByteArray), ck = .int .i64 (k : Int) ∧ 3 * j ≤ k ∧ k ≤ 3 * j + 3 ∧ SS w wx d FT T stay ev MT (.slice PS stay.length kS) ce (.slice P6 NM k6) ∧ T.seed = S.seed ∧ cnt T.T1 + cnt T.T2 ≤ i + min k n2 ∧ ev.length ≤ 1048576 + min k n2 ∧ (k = 3 * j → T = S) ∧ (k = 3 * j ∨ k ≤ n2)) (fun ck _ _ => 3 * j + 3 - (intOf ck).toNat)
          case atStart => exact ⟨3 * j, S, FS, ever, by simp, Nat.le_refl _, by omega, HS6.out, rfl, HNUM.out.2.1, HNUM.out.2.2.1, fun _ => rfl, Or.inl rfl⟩
          case round =>
            obtain ⟨k, T, FT, ev, rfl, hk1, hk2, hST, hsd, hct, hevt, hTS, hkn⟩ := hrel
            have HST : Hid (SS w wr d FT T stay ev MT (.slice PS stay.length kS) _ (.slice P6 NM k6)) := hST
            have HSDE : Hid _ := hsd
            have HTS : Hid _ := hTS
            obtain ⟨PV, kV, hkf⟩ := own_form hST.oe
            subst hkf
            have hkw : IntKind.i64.wrap ((k : Int) + 1) = (k : Int) + 1 := by rw [IntKind.wrap_i64] <;> omega
            by_cases hgo : k < 3 * j + 3 ∧ k < n2
            · obtain ⟨hg1, hg2⟩ := hgo
              have hg1i : (k : Int) < 3 * (j : Int) + 3 := by omega
              have hg2i : (k : Int) < (n2 : Int) := by omega
              have had := HA2.out (by omega)
              subst had
              obtain ⟨kd, ky, n, hop⟩ := HO2.out k hg2
              have hop2 := hop.under hST.below hop.lt
              have e0 := hop2.a
              have e1 := hop2.b
              have e2 := hop2.c
              have hks := hop2.k
              have HR1 := StrRow.of_vals hST.os rfl
              have HCH : Hid _ := changed_any d FT T hST.inv (.slice PS stay.length kS) stay (by omega) kd ky (by omega) n (by omega) wr HR1 (fun W hW => StrRow.of_vals (hST.on hW).os rfl) hST.di
              have HCK : Hid _ := chgD_ok hST.inv stay kd ky (by omega) n (by omega)
              have HKK : Hid _ := chg_keys hST.inv stay kd ky (by omega) n (by omega)
              have hz3 : (0 : Int) ≤ (k : Int) := by omega
              have HOPW : Hid (OpAt w g2 o2 k kd ky n) := hop
              clear hop hop2 hST HR1 hsd hTS
              go_wp2_with fail
              refine (show Calls _ _ _ _ _ from HCH.out).mono ?_
              rintro e w7 ⟨rfl, F7, hd7, hm7⟩
              obtain ⟨k1, k2⟩ := HCK.out
              obtain ⟨s1, s2, s3⟩ := HKK.out
              have HB7 : Hid (Below w.heap.size w w7) := HST.out.below.trans (hm7.below HST.out.fs HST.out.below.size)
              have HF7 : Hid (∀ q ∈ F7, w.heap.size ≤ q) := hm7.ge HST.out.fs HST.out.below.size
              have HOS7 : Hid (w7.ownsRow w.heap.size 9 1 (.slice PS stay.length kS) stay.length (strV stay)) := own_moved HST.out.di hm7 HST.out.os (Or.inl rfl)
              have HOE7 : Hid (w7.ownsRow w.heap.size 9 1 (.slice PV ev.length kV) ev.length (strV ev)) := own_moved HST.out.di hm7 HST.out.oe (Or.inl rfl)
              have HOM7 : Hid (w7.ownsRow w.heap.size 9 1 (.slice P6 NM k6) MT.length (strV MT)) := own_moved HST.out.di hm7 HST.out.om (Or.inl rfl)
              have HI7 : Hid _ := k1
              have HSD7 : Hid ((chgD T stay kd ky n).seed = S.seed) := s1.trans HSDE.out
              have HSK7 : Hid (∀ x ∈ stay, x ∈ keysOf (chgD T stay kd ky n)) := fun x hx => s2 x (HST.out.sk x hx) (Or.inl hx)
              have HKE7 : Hid _ := s3
              have HNE7 : Hid (k + 1 = 3 * j → chgD T stay kd ky n = S) := fun e => by omega
              have hop7 := HOPW.out.under HB7.out HOPW.out.lt
              have f0 := hop7.a
              have f1 := hop7.b
              have f2 := hop7.c
              have HD7 : Hid (DI w7 d F7 (chgD T stay kd ky n)) := hd7
              clear e0 e1 e2 hm7 k1 HCH HCK HKK hd7 s1 s2 s3 hop7
              generalize chgD T stay kd ky n = T7 at *
              by_cases hk0 : kd = 0
              · subst hk0
                have HKE8 : Hid (∀ x ∈ keysOf T7, x ∈ ev ++ [ky]) := fun x hx => by
                  rcases HKE7.out x hx with h | ⟨_, h⟩
                  · exact List.mem_append_left _ (HST.out.ke x h)
                  · rw [h]; simp
                have hlb := lt_of_cell f1
                go_upto_region 24 with fail
                have HSZ8 : Hid (w.heap.size ≤ (w7.alloc (.cells #[.string ky] 9)).heap.size) := Nat.le_trans HB7.out.size (by simp)
                have HC8 : Hid ((w7.alloc (.cells #[.string ky] 9)).cell? ⟨w7.heap.size, 0, none⟩ = some (.string ky)) := (row1 (one_alloc w7 _)).1
                have hba : Below w7.heap.size w7 (w7.alloc (.cells #[.string ky] 9)) := (Below.refl _ _).alloc (Nat.le_refl _) _
                have HOS8 : Hid ((w7.alloc (.cells #[.string ky] 9)).ownsRow w.heap.size 9 1 (.slice PS stay.length kS) stay.length (strV stay)) := own_keep HOS7.out (fun q _ hq => hba.block q hq)
                have HOE8 : Hid ((w7.alloc (.cells #[.string ky] 9)).ownsRow w.heap.size 9 1 (.slice PV ev.length kV) ev.length (strV ev)) := own_keep HOE7.out (fun q _ hq => hba.block q hq)
                have HOM8 : Hid ((w7.alloc (.cells #[.string ky] 9)).ownsRow w.heap.size 9 1 (.slice P6 NM k6) MT.length (strV MT)) := own_keep HOM7.out (fun q _ hq => hba.block q hq)
                have HD8 : Hid (DI (w7.alloc (.cells #[.string ky] 9)) d F7 T7) := HD7.out.on hba
                have HB8 : Hid (Below w.heap.size w (w7.alloc (.cells #[.string ky] 9))) := HB7.out.trans (hba.mono HB7.out.size)
                clear hba
                have hevb : ev.length ≤ 4194304 := by omega
                go_wp2_with (at_builtin; go_must (refine wpList_append_own_at _ rfl _ _ 28 rfl w.heap.size 9 i9 (.string ⟨#[]⟩) 1 16 Try.underlying28 hi9 hy0 hy1 hy2 rfl (by decide) _ _ _ rfl HOE8.out ⟨w7.heap.size, 0, none⟩ 1 1 [.string ky] rfl rfl ?t0 ?t1 ?t2 ?t3 HSZ8.out ?_))
                case t0 =>
                  intro q u hq
                  match q, hq with
                  | 0, hq => simp at hq; subst hq; exact HC8.out
                case t1 => first | rfl | (intro u hu; simp at hu; subst hu; rfl)
                case t2 => unfold maxLen; omega
                case t3 => omega
                intro v8 w8 ho8 hg8 hn8 ha8
                have hG8 : Grew (w7.alloc (.cells #[.string ky] 9)) w8 (.slice PV ev.length kV) v8 := ⟨hg8, by rcases ha8 with h | h; exact Or.inl h; exact Or.inr ⟨_, h, by simp⟩, fun _ => by first | exact hn8 | (intro e; have := hn8.1 e; simp at this)⟩
                have HS9 : Hid (SS w w8 d F7 T7 stay (ev ++ [ky]) MT (.slice PS stay.length kS) v8 (.slice P6 NM k6)) := by
                  have hlt : ∀ {v n xs}, (w7.alloc (.cells #[.string ky] 9)).ownsRow w.heap.size 9 1 v n xs → ∀ q, v.ownBlock = some q → q < (w7.alloc (.cells #[.string ky] 9)).heap.size := fun ho q hq => (World.ownsRow.lt ho q hq).2
                  refine ⟨HI7.out, hG8.di HD8.out (fun q hq e => HD8.out.apart HOE8.out (Or.inl rfl) q e hq), HF7.out, own_block HOS8.out (fun q hq => hG8.fr.block q (hlt HOS8.out q hq) (fun e => HST.out.se q hq e.symm)), ?_, own_block HOM8.out (fun q hq => hG8.fr.block q (hlt HOM8.out q hq) (fun e => HST.out.em q e.symm hq)), fun q hq => hG8.ne_own (hlt HOS8.out q hq) (HST.out.se q hq), HST.out.sm, fun q hq e => ?_, HB8.out.trans (hG8.below HB8.out.size (fun q hq => (World.ownsRow.lt HOE8.out q hq).1)), HSK7.out, HKE8.out, fun x hx => List.mem_append_left _ (HST.out.me x hx)⟩
                  · rw [List.length_append, show strV (ev ++ [ky]) = strV ev ++ [.string ky] by unfold strV; rw [List.map_append]; rfl]
                    exact ho8
                  · exact hG8.ne_own (hlt HOM8.out q e) (fun e2 => HST.out.em q e2 e) hq
                obtain ⟨PV8, kV8, hkf8⟩ := own_form ho8
                subst hkf8
                clear ho8 hg8 hn8 ha8 hG8 f0 f1 f2
                go_wp2
                go_roundw
                case rel => exact ⟨k + 1, T7, F7, ev ++ [ky], by simp, by omega, by omega, HS9.out, HSD7.out, by omega, by simp; omega, HNE7.out, Or.inr hg2⟩
                case measure => simp [intOf]; omega
              · have hk0e : (kd == 0) = false := by simpa using hk0
                have HS9 : Hid (SS w w7 d F7 T7 stay ev MT (.slice PS stay.length kS) (.slice PV ev.length kV) (.slice P6 NM k6)) :=
                  ⟨HI7.out, HD7.out, HF7.out, HOS7.out, HOE7.out, HOM7.out, HST.out.se, HST.out.sm, HST.out.em, HB7.out, HSK7.out, fun x hx => by
                    rcases HKE7.out x hx with h | ⟨h, _⟩
                    · exact HST.out.ke x h
                    · exact absurd h hk0, HST.out.me⟩
                go_wp2
                go_roundw
                case rel => exact ⟨k + 1, T7, F7, ev, by simp, by omega, by omega, HS9.out, HSD7.out, by omega, by omega, HNE7.out, Or.inr hg2⟩
                case measure => simp [intOf]; omega
            · have HTB := Tables_all d FT T wr hST.di
              have hRsm := Rj_small hST.inv c5
              obtain ⟨ta, tb, tc, htab, hta, hsz⟩ : ∃ (ta tb : Nat) (tc : Int), tabT T = .tuple #[.int .i64 (ta : Int), .int .i64 (tb : Int), .int .i64 tc] ∧ Rj (aD T) c5 ≤ ta + tb ∧ ta ≤ 4398046511104 ∧ tb ≤ 4398046511104 := by
                by_cases hm : T.T2 = []
                · refine ⟨T.T1.length, 0, -1, tabT_still hm, ?_, hST.inv.sz1, by omega⟩
                  rw [hm] at hRsm; simpa using hRsm
                · exact ⟨T.T1.length, T.T2.length, T.ix, tabT_move hm, hRsm, hST.inv.sz1, hST.inv.sz2⟩
              rw [htab] at HTB
              have HTBH : Hid _ := HTB
              have HNEXT : Hid (j + 1 ≤ n2 + Rj (aD T) c5 ∧ MT.length ≤ min (j + 1) n2 * 2097152 + lowN T c5) := by
                have hN := HNUM.out
                have hR := HRR.out
                have hLo := HLO.out
                have hl := HLM.out
                have hn := HNM.out
                have hlw := lowN_le S c5
                by_cases hs : n2 ≤ 3 * j
                · have hTe : T = S := by
                    apply HTS.out
                    omega
                  subst hTe
                  show _ ∧ _
                  omega
                · show _ ∧ _
                  omega
              have HFIN : Hid (cnt T.T1 + cnt T.T2 ≤ i + min (3 * (j + 1)) n2 ∧ ev.length ≤ 1048576 + min (3 * (j + 1)) n2) := by show _ ∧ _; omega
              have HCV2 : Hid (CovS T.seed c5 stay MT) := by
                show CovS T.seed c5 stay MT
                rw [HSDE.out]; exact HCV.out
              have hjchk : ¬ ((n2 : Int) + (ta : Int) + (tb : Int) + 8 < (j : Int)) := by have := HNEXT.out.1; omega
              have hsw1 : IntKind.i64.wrap ((n2 : Int) + (ta : Int)) = (n2 : Int) + (ta : Int) := by rw [IntKind.wrap_i64] <;> omega
              have hjw : IntKind.i64.wrap ((j : Int) + 1) = (j : Int) + 1 := by rw [IntKind.wrap_i64] <;> omega
              clear hST HTB hsd hTS hRsm htab hta hct hevt
              by_cases h1 : k < 3 * j + 3
              · have h2 : ¬ k < n2 := fun h => hgo ⟨h1, h⟩
                have h1i : (k : Int) < 3 * (j : Int) + 3 := by omega
                have h2i : ¬ (k : Int) < (n2 : Int) := by omega
                go_wp2_with fail
                refine (show Calls _ _ _ _ _ from HTBH.out).mono ?_
                rintro e w8 ⟨rfl, kq, hkq⟩
                have hb8 : Below wr.heap.size wr w8 := by rw [hkq]; exact below_dn (Below.refl _ _) kq
                have HS8 : Hid (SS w w8 d FT T stay ev MT (.slice PS stay.length kS) (.slice PV ev.length kV) (.slice P6 NM k6)) := HST.out.on hb8
                clear hb8 hkq
                go_wp2
                go_roundw
                case rel => exact ⟨j + 1, c5, T, FT, ev, MT, by simp, rfl, hc5, HS8.out, HCV2.out, HNEXT.out.1, HFIN.out.1, HFIN.out.2, HNEXT.out.2⟩
                case measure => simp [intOf]; omega
              · have h1i : ¬ (k : Int) < 3 * (j : Int) + 3 := by omega
                go_wp2_with fail
                refine (show Calls _ _ _ _ _ from HTBH.out).mono ?_
                rintro e w8 ⟨rfl, kq, hkq⟩
                have hb8 : Below wr.heap.size wr w8 := by rw [hkq]; exact below_dn (Below.refl _ _) kq
                have HS8 : Hid (SS w w8 d FT T stay ev MT (.slice PS stay.length kS) (.slice PV ev.length kV) (.slice P6 NM k6)) := HST.out.on hb8
                clear hb8 hkq
                go_wp2
                go_roundw
                case rel => exact ⟨j + 1, c5, T, FT, ev, MT, by simp, rfl, hc5, HS8.out, HCV2.out, HNEXT.out.1, HFIN.out.1, HFIN.out.2, HNEXT.out.2⟩
                case measure => simp [intOf]; omega
end Go.Proofs.Ytdemodhjlbkbeaa
