import Derived.Test.YtbmfbpcjokbjkaaDoorPcB
import Derived.Test.YtbmfbpcjokbjkaaDoorWkA
namespace Go.Proofs.YtbmfbpcjokbjkaaDoor
open Go.RowKit Vi
set_option linter.unusedVariables false
set_option linter.unusedSimpArgs false
theorem ext_take (s : ByteArray) (r : Nat) : (s.extract 0 r).data.toList = s.data.toList.take r := by rw [ext_any, List.drop_zero, Nat.sub_zero]
theorem ext_drop (s : ByteArray) (r : Nat) : (s.extract r s.size).data.toList = s.data.toList.drop r := by
  rw [ext_any, List.take_of_length_le (by rw [List.length_drop, list_len]; exact Nat.le_refl _)]
theorem ext_mid (s : ByteArray) (a b : Nat) : (s.extract a b).data.toList = (s.data.toList.drop a).take (b - a) := ext_any _ _ _
theorem PA.new {B : Nat} {w : World} {q : Nat} (h : PrR w q 0 0 (.slice none 0 0) (.slice none 0 0) 0 0 0) (hB : B ≤ q) : PA B w q (.slice none 0 0) (.slice none 0 0) (stP (some [])) := ⟨h, ⟨rfl, Or.inl ⟨rfl, rfl⟩⟩, ⟨rfl, Or.inl ⟨rfl, rfl⟩⟩, hB⟩
theorem own_eq {W : World} {b T k n m : Nat} {v : Value} {xs : List Value} (h : W.ownsRow b T k v n xs) (e : n = m) : W.ownsRow b T k v m xs := e ▸ h
set_option maxRecDepth 20000 in
set_option maxHeartbeats 4000000 in
theorem RespPieces_walk (t : ByteArray) (v1 : Value) (zs : List Int) (z0 : t.size ≤ 1048576) (hzl : zs.length ≤ 1048576) (hzb : ∀ z ∈ zs, -9223372036854775808 ≤ z ∧ z ≤ 9223372036854775807) (w : World) (hN : NV w v1 zs) (hL : Laid w) :
    Calls Tryd.prog 3 #[.string t, v1] w fun e w' => e = .returned (.bool true) ∧ Below w.heap.size w w' := by
  obtain ⟨P0, c0, rfl⟩ := hN.form
  have HL : Hid (Laid w) := hL
  have HN : Hid (NV w (.slice P0 zs.length c0) zs) := hN
  have HZB : Hid _ := hzb
  have HNW : Hid _ := New_any w
  obtain ⟨B, hB⟩ : ∃ B, w.heap.size = B := ⟨_, rfl⟩
  have HB : Hid (w.heap.size = B) := hB
  rw [hB] at HNW ⊢
  obtain ⟨n, hn⟩ : ∃ n, zs.length = n := ⟨_, rfl⟩
  have HZN : Hid (zs.length = n) := hn
  rw [hn] at hzl ⊢
  clear hL hB hn hN hzb
  go_enter Tryd.func3, Tryd.ntmps3
  go_wp2_with fail
  refine (show Calls _ _ _ _ _ from HNW.out).mono ?_
  rintro e w1 ⟨rfl, hr1, hb1⟩
  have HB1 : Hid (Below B w w1) := hb1
  have HPA1 : Hid (PA B w1 B (.slice none 0 0) (.slice none 0 0) (stP (some []))) := PA.new hr1 (Nat.le_refl _)
  have HNW2 : Hid _ := New_any w1
  obtain ⟨qb, hqb⟩ : ∃ q, w1.heap.size = q := ⟨_, rfl⟩
  have hlt1 : B < qb := by rw [← hqb]; exact row_lt hr1
  rw [hqb] at HNW2
  have HQB : Hid (w1.heap.size = qb) := hqb
  clear hr1 hb1 hqb
  go_wp2_with fail
  refine (show Calls _ _ _ _ _ from HNW2.out).mono ?_
  rintro e w2 ⟨rfl, hr2, hb2⟩
  have HB2 : Hid (Below B w w2) := HB1.out.trans (hb2.mono (Nat.le_of_lt hlt1))
  have HPA2 : Hid (PA B w2 B (.slice none 0 0) (.slice none 0 0) (stP (some []))) := HPA1.out.on (HQB.out ▸ hb2)
  have HPB2 : Hid (PA B w2 qb (.slice none 0 0) (.slice none 0 0) (stP (some []))) := PA.new hr2 (Nat.le_of_lt hlt1)
  have HNW3 : Hid _ := New_any w2
  obtain ⟨qc, hqc⟩ : ∃ q, w2.heap.size = q := ⟨_, rfl⟩
  have hlt2 : qb < qc := by rw [← hqc]; exact row_lt hr2
  rw [hqc] at HNW3
  have HQC : Hid (w2.heap.size = qc) := hqc
  clear hr2 hb2 hqc
  go_wp2_with fail
  refine (show Calls _ _ _ _ _ from HNW3.out).mono ?_
  rintro e w3 ⟨rfl, hr3, hb3⟩
  have HB3 : Hid (Below B w w3) := HB2.out.trans (hb3.mono (by omega))
  have hb3' : Below w2.heap.size w2 w3 := HQC.out ▸ hb3
  have hpc3 : PA B w3 qc (.slice none 0 0) (.slice none 0 0) (stP (some [])) := PA.new hr3 (by omega)
  have HWK : Hid _ := works_any w3 (HL.out.on (HB.out ▸ HB3.out))
  have HPA3 : Hid _ := HPA2.out.on hb3'
  have HPB3 : Hid _ := HPB2.out.on hb3'
  have HPC3 : Hid _ := hpc3
  clear hr3 hb3 hb3' hpc3
  go_wp2_with fail
  refine (show Calls _ _ _ _ _ from HWK.out).mono ?_
  rintro e w4 ⟨rfl, hb4⟩
  have HPA4 : Hid (PA B w4 B (.slice none 0 0) (.slice none 0 0) (stP (some []))) := HPA3.out.on hb4
  have HPB4 : Hid (PA B w4 qb (.slice none 0 0) (.slice none 0 0) (stP (some []))) := HPB3.out.on hb4
  have HPC4 : Hid (PA B w4 qc (.slice none 0 0) (.slice none 0 0) (stP (some []))) := HPC3.out.on hb4
  have HB4 : Hid (Below B w w4) := HB3.out.trans (hb4.mono (by have := HPA3.out.lt; exact this))
  have HFA : Hid _ := Feed_any B B _ _ (some []) t (by omega) pnd_nil (fun P hP => by injection hP with hP; subst hP; simp) w4 HPA4.out (fun W hW => HL.out.on (HB.out ▸ HB4.out.trans hW))
  clear hb4
  go_wp2_with fail
  refine (show Calls _ _ _ _ _ from HFA.out).mono ?_
  rintro e w5 ⟨pva, wva, Pa, ca, Ea, hfia, hma, rfl⟩
  obtain ⟨na, hna⟩ : ∃ k, Ea.length = k := ⟨_, rfl⟩
  rw [hna] at hfia ⊢
  have HNA : Hid (Ea.length = na) := hna
  obtain ⟨xa, hxa⟩ := HPA4.out.block
  have HPA5 : Hid _ := hfia.pa
  have HRA5 : Hid (RLs B w4.heap.size w5 (.slice Pa na ca) Ea) := hfia.rl
  have HPB5 : Hid (PA B w5 qb (.slice none 0 0) (.slice none 0 0) (stP (some []))) := HPB4.out.far hfia.mv (by omega) hxa
  have HPC5 : Hid (PA B w5 qc (.slice none 0 0) (.slice none 0 0) (stP (some []))) := HPC4.out.far hfia.mv (by omega) hxa
  have HB5 : Hid (Below B w w5) := HB4.out.trans (hfia.mv.below HPA4.out)
  have HMA : Hid _ := hma
  clear hfia hma hna hxa
  go_wp2
  go_loopw [9, 10, 11] (fun cl cr ci wr => ∃ (i : Nat) (rest : ByteArray) (E : List (Value × Rq)) (P : Option Addr) (c : Nat) (o : Option SP.Bs) (pv wv : Value), (i ≤ n ∧ PcI B w5 wr qb t.data.toList rest.data.toList E P c o pv wv) ∧ cl = .slice P E.length c ∧ cr = .string rest ∧ ci = .int .i64 (i : Int)) (fun _ _ ci _ => n - (intOf ci).toNat)
  case atStart => exact ⟨0, t, [], none, 0, some [], _, _, ⟨Nat.zero_le _, PcI.zero _ HPB5.out⟩, rfl, rfl, rfl⟩
  case round =>
    obtain ⟨i, rest, E, P, c, o, pv, wv, ⟨hi, hpc⟩, rfl, rfl, rfl⟩ := hrel
    obtain ⟨hpn, hpl, hel⟩ := hpc.pnd
    rw [list_len, list_len] at hel
    have HPC : Hid _ := hpc
    have HPN : Hid _ := hpn
    have HPL : Hid (∀ P, o = some P → P.length ≤ 1099511627776) := fun P hP => by have := hpl P hP; rw [list_len] at this; omega
    obtain ⟨nE, hnE⟩ : ∃ k, E.length = k := ⟨_, rfl⟩
    have HNE : Hid (E.length = nE) := hnE
    rw [hnE] at hel ⊢
    have HBr : Hid (Below B w wr) := HB5.out.trans (hpc.fi.mv.below HPB5.out)
    clear hpc hpn hpl hnE
    by_cases hlt : i < n
    · have hiz : i < zs.length := by rw [HZN.out]; exact hlt
      obtain ⟨g, og, hP0, hcz⟩ := (HN.out.on (HB.out ▸ HBr.out)).cell i hiz
      obtain ⟨z, hz⟩ : ∃ z, zs[i] = z := ⟨_, rfl⟩
      have hzr := HZB.out _ (List.getElem_mem hiz)
      rw [hz] at hcz hzr
      subst hP0
      have hz0 : (0 : Int) ≤ (i : Int) := by omega
      have hz1 : (i : Int) < (n : Int) := by omega
      have HPS : Hid _ := pos_any z (rest.size + 1) hzr.1 hzr.2 (by omega) (by omega) wr
      have hcast : ((rest.size + 1 : Nat) : Int) = (rest.size : Int) + 1 := by omega
      rw [hcast] at HPS
      clear hz hzr hiz hcast
      go_wp2_with fail
      refine (show Calls _ _ _ _ _ from HPS.out).mono ?_
      rintro e w6 ⟨⟨r, hr, rfl⟩, hw6⟩
      subst hw6
      have hrs : r ≤ rest.size := by omega
      have HFD : Hid _ := feed_more B w5.heap.size qb w5 w6 _ _ pv wv (.slice P nE c) o E (rest.extract 0 r) (by rw [ext_size _ _ _ hrs]; omega) HPN.out HPL.out (HNE.out ▸ HPC.out.fi) (fun W hW => HL.out.on (HB.out ▸ HBr.out.trans hW))
      go_wp2_with fail
      refine (show Calls _ _ _ _ _ from HFD.out).mono ?_
      rintro e w7 ⟨pv', wv', P2, c2, F, rfl, hfi, hF, hdj, hm⟩
      obtain ⟨nF, hnF⟩ : ∃ k, F.length = k := ⟨_, rfl⟩
      rw [ext_take] at hfi hm
      have HFI : Hid (FI B w5.heap.size w5 w7 qb (.slice none 0 0) (.slice none 0 0) pv' wv' (stP (FX o (rest.data.toList.take r)).2) (.slice P nE c) E) := hfi
      rw [hnF] at hF ⊢
      have HF : Hid (RLs B w6.heap.size w7 (.slice P2 nF c2) F) := hF
      have HNF : Hid (F.length = nF) := hnF
      have HDJ : Hid _ := hdj
      have HM : Hid _ := hm
      have hFl : nE + nF ≤ 1048576 := by
        obtain ⟨T, e1, e2⟩ := HPC.out.eq
        have h3 := FX_len (T ++ rest.data.toList.take r)
        rw [FX_app, e2] at h3
        have h4 := h3.1
        dsimp only at h4
        rw [← hm, List.length_append, List.length_map, List.length_map, HNE.out, hnF] at h4
        have h5 := congrArg List.length e1
        rw [List.length_append, list_len, list_len] at h5
        rw [List.length_append, List.length_take, list_len] at h4
        omega
      clear hfi hF hnF hdj hm
      go_wp2_with (at_builtin; go_must (refine wpList_append_rq rfl _ _ rfl w5.heap.size w6.heap.size B B (.slice P nE c) nE E rfl HNE.out HFI.out.rl (.slice P2 nF c2) F rfl HF.out ?b1 ?b2 ?_))
      case b1 => rw [HNF.out]; omega
      case b2 => exact HFI.out.mv.size
      intro v8 w8 ho8 hg8
      rw [HNF.out] at ho8
      obtain ⟨P8, c8, hf8⟩ := own_form ho8
      subst hf8
      have HST : Hid (PcI B w5 w8 qb t.data.toList (rest.data.toList.drop r) (E ++ F) P8 c8 (FX o (rest.data.toList.take r)).2 pv' wv') := HPC.out.step w7 (List.take_append_drop r _) (HNE.out.symm ▸ HFI.out) HF.out HDJ.out HM.out (by rw [HNE.out, HNF.out]; exact ho8) (by rw [HNE.out]; exact hg8)
      clear ho8 hg8 hcz
      go_wp2
      go_roundw
      case rel => exact ⟨i + 1, rest.extract r rest.size, E ++ F, P8, c8, _, pv', wv', ⟨hlt, by rw [ext_drop]; exact HST.out⟩, by rw [List.length_append, HNE.out, HNF.out], rfl, rfl⟩
      case measure => simp [intOf]; omega
    · have hin : i = n := by omega
      subst hin
      have HFD : Hid _ := feed_more B w5.heap.size qb w5 wr _ _ pv wv (.slice P nE c) o E rest (by omega) HPN.out HPL.out (HNE.out ▸ HPC.out.fi) (fun W hW => HL.out.on (HB.out ▸ HBr.out.trans hW))
      go_wp2_with fail
      refine (show Calls _ _ _ _ _ from HFD.out).mono ?_
      rintro e w7 ⟨pv', wv', P2, c2, F, rfl, hfi, hF, hdj, hm⟩
      obtain ⟨nF, hnF⟩ : ∃ k, F.length = k := ⟨_, rfl⟩
      have HFI : Hid (FI B w5.heap.size w5 w7 qb (.slice none 0 0) (.slice none 0 0) pv' wv' (stP (FX o rest.data.toList).2) (.slice P nE c) E) := hfi
      rw [hnF] at hF ⊢
      have HF : Hid (RLs B wr.heap.size w7 (.slice P2 nF c2) F) := hF
      have HNF : Hid (F.length = nF) := hnF
      have HDJ : Hid _ := hdj
      have HM : Hid _ := hm
      have hFl : nE + nF ≤ 1048576 := by
        obtain ⟨T, e1, e2⟩ := HPC.out.eq
        have h3 := FX_len (T ++ rest.data.toList)
        rw [FX_app, e2] at h3
        have h4 := h3.1
        dsimp only at h4
        rw [← hm, List.length_append, List.length_map, List.length_map, HNE.out, hnF, e1, list_len] at h4
        omega
      clear hfi hF hnF hdj hm
      go_wp2_with (at_builtin; go_must (refine wpList_append_rq rfl _ _ rfl w5.heap.size wr.heap.size B B (.slice P nE c) nE E rfl HNE.out HFI.out.rl (.slice P2 nF c2) F rfl HF.out ?d1 ?d2 ?_))
      case d1 => rw [HNF.out]; omega
      case d2 => exact HFI.out.mv.size
      intro v8 w8 ho8 hg8
      rw [HNF.out] at ho8
      obtain ⟨P8, c8, hf8⟩ := own_form ho8
      subst hf8
      have hst : PcI B w5 w8 qb t.data.toList [] (E ++ F) P8 c8 (FX o rest.data.toList).2 pv' wv' := HPC.out.step w7 (List.append_nil _) (HNE.out.symm ▸ HFI.out) HF.out HDJ.out HM.out (by rw [HNE.out, HNF.out]; exact ho8) (by rw [HNE.out]; exact hg8)
      obtain ⟨Eb, hEb⟩ : ∃ X, E ++ F = X := ⟨_, rfl⟩
      have hEbl : Eb.length = nE + nF := by rw [← hEb, List.length_append, HNE.out, HNF.out]
      rw [hEb] at hst
      obtain ⟨nb, hnb⟩ : ∃ k, nE + nF = k := ⟨_, rfl⟩
      rw [hnb] at hEbl ⊢
      have HNB : Hid (Eb.length = nb) := hEbl
      have HEQB : Hid _ := hst.fin
      have hfib := hst.fi
      rw [hEbl] at hfib
      have HPB8 : Hid _ := hfib.pa
      have HRB8 : Hid (RLs B w5.heap.size w8 (.slice P8 nb c8) Eb) := hfib.rl
      obtain ⟨xb, hxb⟩ := HPB5.out.block
      have HPA8 : Hid _ := HPA5.out.far hfib.mv (by omega) hxb
      have HRA8 : Hid (RLs B w4.heap.size w8 (.slice Pa na ca) Ea) := HRA5.out.far hfib.mv hxb
      have HPC8 : Hid (PA B w8 qc (.slice none 0 0) (.slice none 0 0) (stP (some []))) := HPC5.out.far hfib.mv (by omega) hxb
      have HB8 : Hid (Below B w w8) := HB5.out.trans (hfib.mv.below HPB5.out)
      clear ho8 hg8 hst hEb hEbl hnb hfib hxb hFl
      go_wp2
      go_loopw [13, 14] (fun cm ci w9 => ∃ (j : Nat) (E : List (Value × Rq)) (P : Option Addr) (c : Nat) (o : Option SP.Bs) (pv wv : Value), (j ≤ t.size ∧ PcI B w8 w9 qc t.data.toList (t.data.toList.drop j) E P c o pv wv) ∧ cm = .slice P E.length c ∧ ci = .int .i64 (j : Int)) (fun _ ci _ => t.size - (intOf ci).toNat)
      case atStart => exact ⟨0, [], none, 0, some [], _, _, ⟨Nat.zero_le _, PcI.zero _ HPC8.out⟩, rfl, rfl⟩
      case round =>
        obtain ⟨j, E2, P3, c3, o3, pv3, wv3, ⟨hj, hpc⟩, rfl, rfl⟩ := hrel
        obtain ⟨hpn, hpl, hel⟩ := hpc.pnd
        rw [List.length_drop, list_len] at hel
        have HPD : Hid (PcI B w8 wr qc t.data.toList (t.data.toList.drop j) E2 P3 c3 o3 pv3 wv3) := hpc
        have HPN3 : Hid _ := hpn
        have HPL3 : Hid (∀ P, o3 = some P → P.length ≤ 1099511627776) := fun P hP => by have := hpl P hP; rw [list_len] at this; omega
        obtain ⟨nG, hnG⟩ : ∃ k, E2.length = k := ⟨_, rfl⟩
        have HNG : Hid (E2.length = nG) := hnG
        rw [hnG] at hel ⊢
        have HBs : Hid (Below B w wr) := HB8.out.trans (hpc.fi.mv.below HPC8.out)
        by_cases hlt : j < t.size
        · clear hpc hpn hpl hnG
          have hj1 : j + 1 ≤ t.size := hlt
          have HFD3 : Hid _ := feed_more B w8.heap.size qc w8 wr _ _ pv3 wv3 (.slice P3 nG c3) o3 E2 (t.extract j (j + 1)) (by rw [ext_size _ _ _ hj1]; omega) HPN3.out HPL3.out (HNG.out ▸ HPD.out.fi) (fun W hW => HL.out.on (HB.out ▸ HBs.out.trans hW))
          go_wp2_with fail
          refine (show Calls _ _ _ _ _ from HFD3.out).mono ?_
          rintro e wq ⟨pv4, wv4, P4, c4, G, rfl, hfi, hF, hdj, hm⟩
          obtain ⟨nH, hnH⟩ : ∃ k, G.length = k := ⟨_, rfl⟩
          rw [ext_mid, show j + 1 - j = 1 by omega] at hfi hm
          have HFI3 : Hid (FI B w8.heap.size w8 wq qc (.slice none 0 0) (.slice none 0 0) pv4 wv4 (stP (FX o3 ((t.data.toList.drop j).take 1)).2) (.slice P3 nG c3) E2) := hfi
          rw [hnH] at hF ⊢
          have HF3 : Hid (RLs B wr.heap.size wq (.slice P4 nH c4) G) := hF
          have HNH : Hid (G.length = nH) := hnH
          have HDJ3 : Hid _ := hdj
          have HM3 : Hid _ := hm
          have hFl : nG + nH ≤ 1048576 := by
            obtain ⟨T, e1, e2⟩ := HPD.out.eq
            have h3 := FX_len (T ++ (t.data.toList.drop j).take 1)
            rw [FX_app, e2] at h3
            have h4 := h3.1
            dsimp only at h4
            rw [← hm, List.length_append, List.length_map, List.length_map, HNG.out, hnH] at h4
            have h5 := congrArg List.length e1
            rw [List.length_append, List.length_drop, list_len] at h5
            rw [List.length_append, List.length_take, List.length_drop, list_len] at h4
            omega
          clear hfi hF hnH hdj hm
          go_wp2_with (at_builtin; go_must (refine wpList_append_rq rfl _ _ rfl w8.heap.size wr.heap.size B B (.slice P3 nG c3) nG E2 rfl HNG.out HFI3.out.rl (.slice P4 nH c4) G rfl HF3.out ?f1 ?f2 ?_))
          case f1 => rw [HNH.out]; omega
          case f2 => exact HFI3.out.mv.size
          intro va wa hoa hga
          rw [HNH.out] at hoa
          obtain ⟨P5, c5, hf5⟩ := own_form hoa
          subst hf5
          have HST3 : Hid (PcI B w8 wa qc t.data.toList (t.data.toList.drop (j + 1)) (E2 ++ G) P5 c5 (FX o3 ((t.data.toList.drop j).take 1)).2 pv4 wv4) := HPD.out.step wq (by rw [← List.drop_drop]; exact List.take_append_drop 1 _) (HNG.out.symm ▸ HFI3.out) HF3.out HDJ3.out HM3.out (by rw [HNG.out, HNH.out]; exact hoa) (by rw [HNG.out]; exact hga)
          clear hoa hga
          go_wp2
          go_roundw
          case rel => exact ⟨j + 1, E2 ++ G, P5, c5, _, pv4, wv4, ⟨hlt, HST3.out⟩, by rw [List.length_append, HNG.out, HNH.out], rfl⟩
          case measure => simp [intOf]; omega
        · have hjn : j = t.size := by omega
          subst hjn
          have hdr : t.data.toList.drop t.size = [] := List.drop_eq_nil_of_le (by rw [list_len]; exact Nat.le_refl _)
          rw [hdr] at hpc
          have HEQC : Hid _ := hpc.fin
          have hfic := hpc.fi
          rw [hnG] at hfic
          obtain ⟨xc, hxc⟩ := HPC8.out.block
          have HRC9 : Hid (RLs B w8.heap.size wr (.slice P3 nG c3) E2) := hfic.rl
          have HPC9 : Hid _ := hfic.pa
          have HPA9 : Hid _ := HPA8.out.far hfic.mv (by omega) hxc
          have HPB9 : Hid _ := HPB8.out.far hfic.mv (by omega) hxc
          have HRA9 : Hid (RLs B w4.heap.size wr (.slice Pa na ca) Ea) := HRA8.out.far hfic.mv hxc
          have HRB9 : Hid (RLs B w5.heap.size wr (.slice P8 nb c8) Eb) := HRB8.out.far hfic.mv hxc
          have hFX := FX_len t.data.toList
          have hFA := FX_args t.data.toList
          have hEA : Ea.map (·.2) = (FX (some []) t.data.toList).1 := HMA.out
          have hEB : Eb.map (·.2) = (FX (some []) t.data.toList).1 := by rw [HEQB.out]
          have hEC : E2.map (·.2) = (FX (some []) t.data.toList).1 := by rw [HEQC.out]
          have hlX : (FX (some []) t.data.toList).1.length ≤ 1099511627776 := by have := hFX.1; rw [list_len] at this; omega
          have haX : ∀ r ∈ (FX (some []) t.data.toList).1, r.args.length ≤ 70368744177664 := fun r hr => by have := hFA r hr; rw [list_len] at this; omega
          have hvA := HRA9.out.view
          have hvB := HRB9.out.view
          have hvC := HRC9.out.view
          rw [hEA] at hvA
          rw [hEB] at hvB
          rw [hEC] at hvC
          have HS1 : Hid _ := sameRq_any _ _ _ _ hlX hlX haX haX wr hvA hvB
          have HS2 : Hid (∀ k, Calls Tryd.prog 10 #[.slice Pa na ca, .slice P3 nG c3] (wr.drewN k) fun e w' => (∃ b, e = .returned (.bool b) ∧ (b = true ↔ (FX (some []) t.data.toList).1 = (FX (some []) t.data.toList).1)) ∧ ∃ m, w' = (wr.drewN k).drewN m) := fun k => sameRq_any _ _ _ _ hlX hlX haX haX (wr.drewN k) (hvA.on (below_dn (Below.refl _ _) k)) (hvC.on (below_dn (Below.refl _ _) k))
          obtain ⟨hd, hhd⟩ : ∃ h, (stP (FX (some []) t.data.toList).2).held = h := ⟨_, rfl⟩
          have e1 : (FX (some []) t.data.toList).2 = (FX o rest.data.toList).2 := by rw [HEQB.out]
          have e2 : (FX (some []) t.data.toList).2 = o3 := by rw [HEQC.out]
          have HHA : Hid (∀ W, Below wr.heap.size wr W → Calls Tryd.prog 11 #[.pointer (some ⟨B, 0, none⟩)] W fun e w' => e = .returned (.int .i64 (hd : Int)) ∧ w' = W) := fun W hW => by have h9 := Held_any B _ _ _ _ _ _ _ W (HPA9.out.on hW).row; rw [hhd] at h9; exact h9
          have HHB : Hid (∀ W, Below wr.heap.size wr W → Calls Tryd.prog 11 #[.pointer (some ⟨qb, 0, none⟩)] W fun e w' => e = .returned (.int .i64 (hd : Int)) ∧ w' = W) := fun W hW => by have h9 := Held_any qb _ _ _ _ _ _ _ W (HPB9.out.on hW).row; rw [← e1, hhd] at h9; exact h9
          have HHC : Hid (∀ W, Below wr.heap.size wr W → Calls Tryd.prog 11 #[.pointer (some ⟨qc, 0, none⟩)] W fun e w' => e = .returned (.int .i64 (hd : Int)) ∧ w' = W) := fun W hW => by have h9 := Held_any qc _ _ _ _ _ _ _ W (HPC9.out.on hW).row; rw [← e2, hhd] at h9; exact h9
          clear hpc hpn hpl hnG hdr hfic hxc hFX hFA hEA hEB hEC hlX haX hvA hvB hvC hhd e1 e2
          go_wp2_with fail
          refine (show Calls _ _ _ _ _ from HS1.out).mono ?_
          rintro e wx ⟨⟨b1, rfl, hb1⟩, k1, hwx⟩
          have hb1t : b1 = true := by simpa using hb1
          subst hb1t
          subst hwx
          clear hb1
          go_wp2_with fail
          refine (show Calls _ _ _ _ _ from HS2.out k1).mono ?_
          rintro e wy ⟨⟨b2, rfl, hb2⟩, k2, hwy⟩
          have hb2t : b2 = true := by simpa using hb2
          subst hb2t
          have hby : Below wr.heap.size wr wy := by rw [hwy]; exact below_dn (below_dn (Below.refl _ _) k1) k2
          have HBy : Hid (Below wr.heap.size wr wy) := hby
          clear hb2 hwy hby
          go_wp2_with fail
          refine (show Calls _ _ _ _ _ from HHA.out wy HBy.out).mono ?_
          rintro e wz ⟨rfl, hwz⟩
          subst hwz
          go_wp2_with fail
          refine (show Calls _ _ _ _ _ from HHB.out wz HBy.out).mono ?_
          rintro e wz2 ⟨rfl, hwz⟩
          subst hwz
          go_wp2_with fail
          refine (show Calls _ _ _ _ _ from HHA.out wz2 HBy.out).mono ?_
          rintro e wz3 ⟨rfl, hwz⟩
          subst hwz
          go_wp2_with fail
          refine (show Calls _ _ _ _ _ from HHC.out wz3 HBy.out).mono ?_
          rintro e wz4 ⟨rfl, hwz⟩
          subst hwz
          go_wp2
          go_returns
          exact ⟨rfl, HBs.out.trans (HBy.out.mono (by have := HPA9.out.lt; exact this))⟩
end Go.Proofs.YtbmfbpcjokbjkaaDoor
