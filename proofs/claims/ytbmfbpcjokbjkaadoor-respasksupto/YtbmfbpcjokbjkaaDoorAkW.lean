import Derived.Test.YtbmfbpcjokbjkaaDoorAkL
namespace Go.Proofs.YtbmfbpcjokbjkaaDoor
open Go.RowKit Vi
set_option linter.unusedVariables false
set_option linter.unusedSimpArgs false
theorem sum_snoc (xs : List ByteArray) (k : Nat) (h : k < xs.length) : sumL (xs.take (k + 1)) = sumL (xs.take k) + xs[k].size := by
  unfold sumL
  rw [List.take_add_one, List.getElem?_eq_getElem h, List.map_append, List.sum_append]; simp
theorem sum_take (xs : List ByteArray) (k : Nat) : sumL (xs.take k) ≤ sumL xs := by
  have : sumL xs = sumL (xs.take k) + sumL (xs.drop k) := by unfold sumL; rw [← List.sum_append, ← List.map_append, List.take_append_drop]
  omega
/-- the longest of the first words. -/
def Lng (xs : List ByteArray) (k lg : Nat) : Prop := (∀ x ∈ xs.take k, x.size ≤ lg) ∧ (lg = 0 ∨ ∃ x ∈ xs.take k, x.size = lg)
theorem Lng.zero (xs : List ByteArray) : Lng xs 0 0 := ⟨fun x hx => by simp at hx, Or.inl rfl⟩
theorem Lng.step {xs : List ByteArray} {k lg : Nat} (h : Lng xs k lg) (hk : k < xs.length) : Lng xs (k + 1) (max lg xs[k].size) := by
  have e : xs.take (k + 1) = xs.take k ++ [xs[k]] := by rw [List.take_add_one, List.getElem?_eq_getElem hk]; rfl
  refine ⟨fun x hx => ?_, ?_⟩
  · rw [e] at hx
    rcases List.mem_append.1 hx with hx | hx
    · exact Nat.le_trans (h.1 x hx) (Nat.le_max_left _ _)
    · rw [List.mem_singleton] at hx; rw [hx]; exact Nat.le_max_right _ _
  · rcases Nat.le_total lg xs[k].size with hle | hle
    · rw [Nat.max_eq_right hle]
      exact Or.inr ⟨xs[k], by rw [e]; exact List.mem_append_right _ (List.mem_singleton.2 rfl), rfl⟩
    · rw [Nat.max_eq_left hle]
      rcases h.2 with h2 | ⟨x, hx, hxl⟩
      · exact Or.inl h2
      · exact Or.inr ⟨x, by rw [e]; exact List.mem_append_left _ hx, hxl⟩
theorem app_text (t : ByteArray) (l : SP.Bs) : t ++ strB l = strB (t.data.toList ++ l) := by
  have := strB_app t.data.toList (strB l)
  rw [strB_of, strB_list] at this
  exact this
theorem app_list (t : ByteArray) (l : SP.Bs) : (t ++ strB l).data.toList = t.data.toList ++ l := by rw [app_text, strB_list]
theorem app_size (t : ByteArray) (l : SP.Bs) : (t ++ strB l).size = t.size + l.length := by rw [← list_len, app_list, List.length_append, list_len]
set_option maxRecDepth 20000 in
set_option maxHeartbeats 4000000 in
theorem RespAsks_walk (v0 : Value) (xss : List (List ByteArray)) (z : Int) (hbl : bl2 xss ≤ 1048576) (hz : -9223372036854775808 ≤ z ∧ z ≤ 9223372036854775807) (w : World) (hG : GV w v0 xss) (hL : Laid w) :
    Calls Tryd.prog 4 #[v0, .int .i64 z] w fun e w' => e = .returned (.bool true) ∧ Below w.heap.size w w' := by
  obtain ⟨P0, c0, rfl⟩ := hG.form
  have HL : Hid (Laid w) := hL
  have HG : Hid (GV w (.slice P0 xss.length c0) xss) := hG
  obtain ⟨B, hB⟩ : ∃ B, w.heap.size = B := ⟨_, rfl⟩
  have HB : Hid (w.heap.size = B) := hB
  rw [hB]
  obtain ⟨n, hn⟩ : ∃ n, xss.length = n := ⟨_, rfl⟩
  have hnl : n ≤ 1048576 := by rw [← hn]; exact Nat.le_trans (bl2_len xss) hbl
  have HXN : Hid (xss.length = n) := hn
  rw [hn]
  obtain ⟨i0, hi0, hy0, hy1, hy2⟩ := info_parts infoRq
  clear hL hB hn hG
  go_enter Tryd.func4, Tryd.ntmps4
  go_wp2
  go_loopw [5, 6, 7, 8] (fun ct cw cl ci wr => ∃ (i : Nat) (tx : ByteArray) (E : List (Value × Rq)) (P : Option Addr) (c last : Nat), (i ≤ n ∧ Below B w wr ∧ WRs B w wr (.slice P E.length c) E ∧ AK E tx.data.toList last ∧ E.length ≤ i ∧ tx.size ≤ 32 * bl2 (xss.take i)) ∧ ct = .string tx ∧ cw = .slice P E.length c ∧ cl = .int .i64 (last : Int) ∧ ci = .int .i64 (i : Int)) (fun _ _ _ ci _ => n - (intOf ci).toNat)
  case atStart => exact ⟨0, ⟨#[]⟩, [], none, 0, 0, ⟨Nat.zero_le _, HB.out ▸ Below.refl _ _, ⟨⟨rfl, Or.inl ⟨rfl, rfl⟩⟩, fun x hx => (by cases hx), fun x hx => (by cases hx)⟩, Or.inl ⟨rfl, rfl, rfl⟩, Nat.zero_le _, Nat.zero_le _⟩, rfl, rfl, rfl, rfl⟩
  case round =>
    obtain ⟨i, tx, E, P, c, last, ⟨hi, hbw, hwr, hak, hEi, htx⟩, rfl, rfl, rfl, rfl⟩ := hrel
    have HBW : Hid (Below B w wr) := hbw
    have HWR : Hid (WRs B w wr (.slice P E.length c) E) := hwr
    have HAK : Hid (AK E tx.data.toList last) := hak
    have HTX : Hid _ := htx
    have hbt := bl2_take xss i
    have htxl : tx.size ≤ 33554432 := by omega
    obtain ⟨nE, hnE⟩ : ∃ k, E.length = k := ⟨_, rfl⟩
    have HNE : Hid (E.length = nE) := hnE
    rw [hnE] at hEi HWR ⊢
    clear hbw hwr hak htx hnE hbt
    by_cases hlt : i < n
    · have hix : i < xss.length := by rw [HXN.out]; exact hlt
      obtain ⟨g, og, av, hP0, hcv, hsr⟩ := HG.out.cell i hix
      have hcr : wr.cell? ⟨g, og + i, none⟩ = some av := cell_on hcv (HB.out ▸ HBW.out)
      have HSN : Hid _ := bl2_snoc xss i hix
      have hbi := bl2_take xss (i + 1)
      rw [HSN.out] at hbi
      obtain ⟨xs, hxs⟩ : ∃ xs, xss[i] = xs := ⟨_, rfl⟩
      rw [hxs] at hsr HSN hbi
      have hb1 : bl1 xs ≤ 1048576 := by omega
      obtain ⟨hml, hsl⟩ := bl1_len xs
      obtain ⟨Pi, ci, rfl⟩ := hsr.form
      subst hP0
      obtain ⟨m, hm⟩ : ∃ m, xs.length = m := ⟨_, rfl⟩
      have HM : Hid (xs.length = m) := hm
      have HSR : Hid (SRow w (.slice Pi xs.length ci) xs) := hsr
      rw [hm] at hml hcr HSR
      have HSL : Hid (sumL xs < bl1 xs) := hsl
      have hz0 : (0 : Int) ≤ (i : Int) := by omega
      have hz1 : (i : Int) < (n : Int) := by omega
      clear hcv hsr hxs hix hbi hm
      go_wp2
      go_loopw [9, 10, 11] (fun cs cg ck w2 => ∃ (k lg : Nat), (k ≤ m ∧ Lng xs k lg ∧ w2 = wr) ∧ cs = .int .i64 (sumL (xs.take k) : Int) ∧ cg = .int .i64 (lg : Int) ∧ ck = .int .i64 (k : Int)) (fun _ _ ck _ => m - (intOf ck).toNat)
      case atStart => exact ⟨0, 0, ⟨Nat.zero_le _, Lng.zero xs, rfl⟩, rfl, rfl, rfl⟩
      case round =>
        obtain ⟨k, lg, ⟨hk, hlg, hw2⟩, rfl, rfl, rfl⟩ := hrel
        subst hw2
        have HLG : Hid (Lng xs k lg) := hlg
        clear hlg
        by_cases hkm : k < m
        · have hkx : k < xs.length := by rw [HM.out]; exact hkm
          obtain ⟨gi, oi, hPi, hcx⟩ := (HSR.out.on (HB.out ▸ HBW.out)).cell k hkx
          have HSS : Hid _ := sum_snoc xs k hkx
          have HLS : Hid _ := HLG.out.step hkx
          have hst := sum_take xs (k + 1)
          rw [HSS.out] at hst
          obtain ⟨X, hX⟩ : ∃ X, xs[k] = X := ⟨_, rfl⟩
          rw [hX] at hcx HSS HLS hst
          subst hPi
          obtain ⟨sk, hsk⟩ : ∃ s, sumL (xs.take k) = s := ⟨_, rfl⟩
          rw [hsk] at HSS hst ⊢
          have hsm : sk + X.size ≤ 1048576 := by have := HSL.out; omega
          have hy0 : (0 : Int) ≤ (k : Int) := by omega
          have hy1 : (k : Int) < (m : Int) := by omega
          clear hX hst hkx hsk
          go_wp2
          refine ⟨⟨k + 1, max lg X.size, ⟨hkm, HLS.out, trivial⟩, ?_, ?_, rfl⟩, ?_⟩
          · rw [HSS.out]; exact congrArg (Value.int .i64) (by omega)
          · exact congrArg (Value.int .i64) (by omega)
          · simp [intOf]; omega
        · have hke : k = m := by omega
          subst hke
          have hst := sum_take xs k
          obtain ⟨sk, hsk⟩ : ∃ s, sumL (xs.take k) = s := ⟨_, rfl⟩
          rw [hsk] at hst ⊢
          have hsm : sk ≤ 1048576 := by have := HSL.out; omega
          have etk : xs.take k = xs := List.take_of_length_le (by rw [HM.out]; exact Nat.le_refl _)
          have HLX : Hid ((∀ x ∈ xs, x.size ≤ lg) ∧ (lg = 0 ∨ ∃ x ∈ xs, x.size = lg)) := by have h9 := HLG.out; unfold Lng at h9; rw [etk] at h9; exact h9
          have hs1 : ¬ ((33554432 : Int) < (sk : Int)) := by omega
          have hs2 : ¬ ((1048576 : Int) < (k : Int)) := by omega
          clear hst hsk etk
          by_cases hm0 : k = 0
          · subst hm0
            go_wp2
            go_roundw
            case rel => exact ⟨i + 1, tx, E, P, c, last, ⟨hlt, HBW.out, by rw [HNE.out]; exact HWR.out, HAK.out, by rw [HNE.out]; omega, by rw [HSN.out]; have := HTX.out; omega⟩, rfl, by rw [HNE.out], rfl, rfl⟩
            case measure => simp [intOf]; omega
          · have hk0 : ((k : Int) == 0) = false := by simpa using hm0
            by_cases hlg : 524288 < lg
            · have hlg1 : (524288 : Int) < (lg : Int) := by omega
              go_wp2
              go_roundw
              case rel => exact ⟨i + 1, tx, E, P, c, last, ⟨hlt, HBW.out, by rw [HNE.out]; exact HWR.out, HAK.out, by rw [HNE.out]; omega, by rw [HSN.out]; have := HTX.out; omega⟩, rfl, by rw [HNE.out], rfl, rfl⟩
              case measure => simp [intOf]; omega
            · have hlg1 : ¬ ((524288 : Int) < (lg : Int)) := by omega
              have HCK : Hid (CmOk xs) := ⟨fun e => hm0 (by rw [← HM.out, e]; rfl), by rw [HM.out]; omega, fun x hx => Nat.le_trans (HLX.out.1 x hx) (by omega), by have := HSL.out; omega⟩
              have hfl := bl1_flat xs (by omega)
              have hcl := bl1_cmd xs (by omega) (by rw [HM.out]; omega)
              have HCM : Hid _ := Command_any (.slice Pi k ci) xs (by rw [HM.out]; omega) (by omega) wr (HSR.out.on (HB.out ▸ HBW.out)) (HL.out.on (HB.out ▸ HBW.out))
              obtain ⟨S, hS⟩ : ∃ S, strB (cmdL xs) = S := ⟨_, rfl⟩
              have hSl : S.size ≤ 32 * bl1 xs := by rw [← hS, strB_size]; exact hcl
              have HS : Hid (strB (cmdL xs) = S) := hS
              rw [hS] at HCM
              clear hfl hcl hS
              go_wp2_with fail
              refine (show Calls _ _ _ _ _ from HCM.out).mono ?_
              rintro e w4 ⟨rfl, hb4⟩
              have hB4 : Below B w w4 := HBW.out.trans (hb4.mono (by have := HBW.out.size; rw [HB.out] at this; exact this))
              have HB4 : Hid (Below B w w4) := hB4
              have hwr4 := HWR.out
              have hc4 : w4.cell? ⟨g, og + i, none⟩ = some (.slice Pi k ci) := cell_on hcr hb4
              have HW4 : Hid (WRs B w w4 (.slice P nE c) E) := HWR.out.on hb4
              have hBw4 : B ≤ w4.heap.size := by have := hB4.size; rw [HB.out] at this; exact this
              have hjoin : tx.size + S.size ≤ 9223372036854775807 := by omega
              clear hb4 hB4 hcr
              go_upto_region 18 with fail
              go_wp2_with (at_builtin; go_must (refine wpList_append_own_at _ rfl _ _ 26 rfl B 36 i0 (.agg #[.slice none 0 0, .string ⟨#[]⟩]) 2 40 Tryd.underlying26 hi0 hy0 hy1 hy2 rfl (by decide) (.slice P nE c) nE (rqC E) rfl ?g1 ⟨w4.heap.size, 0, none⟩ 1 1 [.slice Pi k ci, .string ⟨#[]⟩] rfl rfl ?g2 ?g3 ?g4 ?g5 ?g6 ?_))
              case g1 => have h9 := (HW4.out.on ((Below.refl _ _).alloc (Nat.le_refl _) (.cells #[.slice Pi k ci, .string ⟨#[]⟩] 36))).row; rw [HNE.out] at h9; exact h9
              case g2 => first | exact cell_two_new _ _ _ _ | (intro j u hj; exact cell_two_new _ _ _ _ j u hj)
              case g3 => intro u hu; rcases List.mem_cons.1 hu with rfl | hu; rfl; rcases List.mem_cons.1 hu with rfl | hu; rfl; cases hu
              case g4 => unfold maxLen; omega
              case g5 => omega
              case g6 => exact Nat.le_trans hBw4 (by simp)
              intro v5 w5 ho5 hg5 _ _
              obtain ⟨P5, c5, hf5⟩ := own_form ho5
              subst hf5
              have HB5 : Hid (Below B w w5) := (HB4.out.trans (((Below.refl B w4).alloc hBw4 (.cells #[.slice Pi k ci, .string ⟨#[]⟩] 36)))).trans ((Below.refl B _).grown hg5 (Nat.le_trans hBw4 (by simp)) (fun k hk => own_block HW4.out.row k hk))
              have HW5 : Hid (WRs B w w5 (.slice P5 (nE + 1) c5) (E ++ [(.slice Pi k ci, ⟨argL xs, []⟩)])) := by
                refine ⟨?_, fun x hx => ?_, fun x hx => ?_⟩
                · rw [rqC_snoc, List.length_append, HNE.out]; exact ho5
                · rcases List.mem_append.1 hx with hx | hx
                  · exact HW4.out.args x hx
                  · rw [List.mem_singleton] at hx; rw [hx]; show SRow w (.slice Pi k ci) ((argL xs).map strB); rw [arg_back]; exact HSR.out
                · rcases List.mem_append.1 hx with hx | hx
                  · exact HW4.out.one x hx
                  · rw [List.mem_singleton] at hx; rw [hx]; exact ⟨_, _, _, rfl⟩
              clear ho5 hg5 hc4 hwr4
              go_wp2
              go_roundw
              case rel =>
                refine ⟨i + 1, tx ++ S, E ++ [(.slice Pi k ci, ⟨argL xs, []⟩)], P5, c5, S.size, ⟨hlt, HB5.out, by rw [List.length_append, List.length_singleton, HNE.out]; exact HW5.out, ?_, by rw [List.length_append, List.length_singleton, HNE.out]; omega, ?_⟩, rfl, by rw [List.length_append, List.length_singleton, HNE.out], rfl, rfl⟩
                · rw [← HS.out, app_list, strB_size]; exact HAK.out.step _ xs HCK.out
                · rw [HSN.out]
                  have h8 := HTX.out
                  rw [← HS.out, app_size, ← strB_size, HS.out]; omega
              case measure => simp [intOf]; omega
    · have hin : i = n := by omega
      subst hin
      have hEl : nE ≤ 1048576 := by omega
      have htt := HAK.out.tx
      have HNW : Hid _ := New_any wr
      obtain ⟨qp, hqp⟩ : ∃ q, wr.heap.size = q := ⟨_, rfl⟩
      have HQP : Hid (wr.heap.size = qp) := hqp
      have hBq : B ≤ qp := by have := HBW.out.size; rw [HB.out, hqp] at this; exact this
      rw [hqp] at HNW
      clear hqp htt
      go_wp2_with fail
      refine (show Calls _ _ _ _ _ from HNW.out).mono ?_
      rintro e w1 ⟨rfl, hr1, hb1⟩
      have hb1' : Below wr.heap.size wr w1 := HQP.out ▸ hb1
      have HB1 : Hid (Below B w w1) := HBW.out.trans (hb1.mono hBq)
      have HW1 : Hid (WRs B w w1 (.slice P nE c) E) := HWR.out.on hb1'
      have HPP1 : Hid (PA B w1 qp (.slice none 0 0) (.slice none 0 0) (stP (some []))) := PA.new hr1 hBq
      have HNW2 : Hid _ := New_any w1
      obtain ⟨qq, hqq⟩ : ∃ q, w1.heap.size = q := ⟨_, rfl⟩
      have HQQ : Hid (w1.heap.size = qq) := hqq
      have hltq : qp < qq := by rw [← hqq]; exact row_lt hr1
      rw [hqq] at HNW2
      clear hqq hr1 hb1 hb1'
      go_wp2_with fail
      refine (show Calls _ _ _ _ _ from HNW2.out).mono ?_
      rintro e w2 ⟨rfl, hr2, hb2⟩
      have hb2' : Below w1.heap.size w1 w2 := HQQ.out ▸ hb2
      have HB2 : Hid (Below B w w2) := HB1.out.trans (hb2.mono (by omega))
      have HW2 : Hid (WRs B w w2 (.slice P nE c) E) := HW1.out.on hb2'
      have HPP2 : Hid (PA B w2 qp (.slice none 0 0) (.slice none 0 0) (stP (some []))) := HPP1.out.on hb2'
      have HPQ2 : Hid (PA B w2 qq (.slice none 0 0) (.slice none 0 0) (stP (some []))) := PA.new hr2 (by omega)
      have HWK : Hid _ := works_any w2 (HL.out.on (HB.out ▸ HB2.out))
      clear hr2 hb2 hb2'
      go_wp2_with fail
      refine (show Calls _ _ _ _ _ from HWK.out).mono ?_
      rintro e w3 ⟨rfl, hb3⟩
      have HB3 : Hid (Below B w w3) := HB2.out.trans (hb3.mono (HPP2.out.lt))
      have HW3 : Hid (WRs B w w3 (.slice P nE c) E) := HW2.out.on hb3
      have HPP3 : Hid (PA B w3 qp (.slice none 0 0) (.slice none 0 0) (stP (some []))) := HPP2.out.on hb3
      have HPQ3 : Hid (PA B w3 qq (.slice none 0 0) (.slice none 0 0) (stP (some []))) := HPQ2.out.on hb3
      have HPS : Hid _ := pos_any z (tx.size + 1) hz.1 hz.2 (by omega) (by omega) w3
      have hcast : ((tx.size + 1 : Nat) : Int) = (tx.size : Int) + 1 := by omega
      rw [hcast] at HPS
      clear hb3 hcast
      go_wp2_with fail
      refine (show Calls _ _ _ _ _ from HPS.out).mono ?_
      rintro e w4 ⟨⟨r, hr, rfl⟩, hw4⟩
      subst hw4
      have hrs : r ≤ tx.size := by omega
      have HPC : Hid (PcI B w4 w4 qp tx.data.toList tx.data.toList [] none 0 (some []) (.slice none 0 0) (.slice none 0 0)) := PcI.zero _ HPP3.out
      have HFD : Hid _ := Feed_any B qp _ _ (some []) (tx.extract 0 r) (by rw [ext_size _ _ _ hrs]; omega) pnd_nil (fun P hP => by injection hP with hP; subst hP; simp) w4 HPP3.out (fun W hW => HL.out.on (HB.out ▸ HB3.out.trans hW))
      go_wp2_with fail
      refine (show Calls _ _ _ _ _ from HFD.out).mono ?_
      rintro e w5 ⟨pv5, wv5, P5, c5, F5, hfi5, hm5, rfl⟩
      rw [ext_take] at hfi5 hm5
      obtain ⟨n5, hn5⟩ : ∃ k, F5.length = k := ⟨_, rfl⟩
      have HN5 : Hid (F5.length = n5) := hn5
      have hpc5 : PcI B w4 w5 qp tx.data.toList (tx.data.toList.drop r) F5 P5 c5 (FX (some []) (tx.data.toList.take r)).2 pv5 wv5 := ⟨hfi5, tx.data.toList.take r, List.take_append_drop _ _, by rw [hm5]⟩
      obtain ⟨hpn5, hpl5, hel5⟩ := hpc5.pnd
      rw [List.length_drop, list_len, hn5] at hel5
      have HFI5 : Hid (FI B w4.heap.size w4 w5 qp (.slice none 0 0) (.slice none 0 0) pv5 wv5 (stP (FX (some []) (tx.data.toList.take r)).2) (.slice P5 n5 c5) F5) := by show FI _ _ _ _ _ _ _ _ _ _ _ _; rw [← hn5]; exact hfi5
      have HPC5 : Hid _ := hpc5
      have HB5 : Hid (Below B w w5) := HB3.out.trans (hfi5.mv.below HPP3.out)
      have HFE : Hid _ := feed_more B w4.heap.size qp w4 w5 _ _ pv5 wv5 (.slice P5 n5 c5) _ F5 (tx.extract r tx.size) (by rw [ext_size _ _ _ (Nat.le_refl _)]; omega) hpn5 (fun P hP => by have := hpl5 P hP; rw [list_len] at this; omega) HFI5.out (fun W hW => HL.out.on (HB.out ▸ HB5.out.trans hW))
      rw [hn5]
      clear hfi5 hm5 hn5 hpc5 hpn5 hpl5
      go_wp2_with fail
      refine (show Calls _ _ _ _ _ from HFE.out).mono ?_
      rintro e w6 ⟨pv6, wv6, P6, c6, F6, rfl, hfi6, hF6, hdj6, hm6⟩
      rw [ext_drop] at hfi6 hm6
      obtain ⟨n6, hn6⟩ : ∃ k, F6.length = k := ⟨_, rfl⟩
      have HN6 : Hid (F6.length = n6) := hn6
      rw [hn6] at hF6 ⊢
      have HFI6 : Hid (FI B w4.heap.size w4 w6 qp (.slice none 0 0) (.slice none 0 0) pv6 wv6 (stP (FX (FX (some []) (tx.data.toList.take r)).2 (tx.data.toList.drop r)).2) (.slice P5 n5 c5) F5) := hfi6
      have HF6 : Hid (RLs B w5.heap.size w6 (.slice P6 n6 c6) F6) := hF6
      have HDJ6 : Hid _ := hdj6
      have HM6 : Hid _ := hm6
      have hFl : n5 + n6 ≤ 33554432 := by
        obtain ⟨T, e1, e2⟩ := HPC5.out.eq
        have h3 := FX_len (T ++ tx.data.toList.drop r)
        rw [FX_app, e2] at h3
        have h4 := h3.1
        dsimp only at h4
        rw [← hm6, List.length_append, List.length_map, List.length_map, HN5.out, hn6, e1, list_len] at h4
        omega
      clear hfi6 hF6 hdj6 hm6 hn6
      go_wp2_with (at_builtin; go_must (refine wpList_append_rq rfl _ _ rfl w4.heap.size w5.heap.size B B (.slice P5 n5 c5) n5 F5 rfl HN5.out HFI6.out.rl (.slice P6 n6 c6) F6 rfl HF6.out ?h1 ?h2 ?_))
      case h1 => rw [HN6.out]; omega
      case h2 => exact HFI6.out.mv.size
      intro v8 w8 ho8 hg8
      rw [HN6.out] at ho8
      obtain ⟨P8, c8, hf8⟩ := own_form ho8
      subst hf8
      have hst : PcI B w4 w8 qp tx.data.toList [] (F5 ++ F6) P8 c8 (FX (FX (some []) (tx.data.toList.take r)).2 (tx.data.toList.drop r)).2 pv6 wv6 := HPC5.out.step w6 (List.append_nil _) (HN5.out.symm ▸ HFI6.out) HF6.out HDJ6.out HM6.out (by rw [HN5.out, HN6.out]; exact ho8) (by rw [HN5.out]; exact hg8)
      have hfin := hst.fin
      have htt : FX (some []) tx.data.toList = (E.map (·.2), some []) := HAK.out.tx
      have hmA : (F5 ++ F6).map (·.2) = E.map (·.2) := by rw [htt] at hfin; exact (Prod.mk.inj hfin).1.symm
      have hoA : (FX (FX (some []) (tx.data.toList.take r)).2 (tx.data.toList.drop r)).2 = some [] := by rw [htt] at hfin; exact (Prod.mk.inj hfin).2.symm
      have hfi8 := hst.fi
      rw [hoA, List.length_append, HN5.out, HN6.out] at hfi8
      obtain ⟨xp, hxp⟩ := HPP3.out.block
      have HPP8 : Hid (PA B w8 qp pv6 wv6 (stP (some []))) := hfi8.pa
      have HPQ8 : Hid (PA B w8 qq (.slice none 0 0) (.slice none 0 0) (stP (some []))) := HPQ3.out.far hfi8.mv (by omega) hxp
      have HW8 : Hid (WRs B w w8 (.slice P nE c) E) := HW3.out.far hfi8.mv hxp
      have HB8 : Hid (Below B w w8) := HB3.out.trans (hfi8.mv.below HPP3.out)
      have hvA := hfi8.rl.view
      rw [hmA] at hvA
      have hvW := HW8.out.view (HB.out ▸ HB8.out)
      have hFA := FX_args tx.data.toList
      rw [htt] at hFA
      have hlX : (E.map (·.2)).length ≤ 1099511627776 := by rw [List.length_map, HNE.out]; omega
      have haX : ∀ r ∈ E.map (·.2), r.args.length ≤ 70368744177664 := fun r hr => by have := hFA r hr; rw [list_len] at this; omega
      have HS1 : Hid _ := sameRq_any _ _ _ _ hlX hlX haX haX w8 hvA hvW
      obtain ⟨n8, hn8⟩ : ∃ k, n5 + n6 = k := ⟨_, rfl⟩
      rw [hn8] at HS1 ⊢
      have HHD : Hid (∀ W, Below w8.heap.size w8 W → Calls Tryd.prog 11 #[.pointer (some ⟨qp, 0, none⟩)] W fun e w' => e = .returned (.int .i64 0) ∧ w' = W) := fun W hW => Held_any qp _ _ _ _ _ _ _ W (HPP8.out.on hW).row
      have HLX : Hid _ := hlX
      have HAX : Hid _ := haX
      clear ho8 hg8 hst hfin htt hmA hoA hfi8 hxp hvA hvW hFA hlX haX hn8
      go_wp2_with fail
      refine (show Calls _ _ _ _ _ from HS1.out).mono ?_
      rintro e w9 ⟨⟨b1, rfl, hb1⟩, k1, hw9⟩
      have hb1t : b1 = true := by simpa using hb1
      subst hb1t
      have hb9 : Below w8.heap.size w8 w9 := by rw [hw9]; exact below_dn (Below.refl _ _) k1
      have HB9 : Hid (Below w8.heap.size w8 w9) := hb9
      clear hb1 hw9 hb9
      go_wp2_with fail
      refine (show Calls _ _ _ _ _ from HHD.out w9 HB9.out).mono ?_
      rintro e wx ⟨rfl, hwx⟩
      subst hwx
      have HBx : Hid (Below B w wx) := HB8.out.trans (HB9.out.mono HPP8.out.lt)
      by_cases hE0 : nE = 0
      · subst hE0
        go_wp2
        go_returns
        exact ⟨rfl, HBx.out⟩
      · have hE1 : ((nE : Int) == 0) = false := by simpa using hE0
        have hEne : E ≠ [] := fun e => hE0 (by rw [← HNE.out, e]; rfl)
        obtain ⟨hct, hlle, hl1⟩ := HAK.out.cut hEne
        rw [list_len] at hlle
        have htx1 : 1 ≤ tx.size := by omega
        have hsub : (tx.size : Int) - 1 = ((tx.size - 1 : Nat) : Int) := by omega
        have HPQ9 : Hid (PA B wx qq (.slice none 0 0) (.slice none 0 0) (stP (some []))) := HPQ8.out.on HB9.out
        have HFQ : Hid _ := Feed_any B qq _ _ (some []) (tx.extract 0 (tx.size - 1)) (by rw [ext_size _ _ _ (by omega)]; omega) pnd_nil (fun P hP => by injection hP with hP; subst hP; simp) wx HPQ9.out (fun W hW => HL.out.on (HB.out ▸ HBx.out.trans hW))
        have HW9 : Hid (WRs B w wx (.slice P nE c) E) := HW8.out.on HB9.out
        obtain ⟨t1, ht1⟩ : ∃ k, tx.size - 1 = k := ⟨_, rfl⟩
        rw [ht1] at HFQ hsub
        have ht1s : t1 ≤ tx.size := by omega
        have HT1 : Hid (tx.size - 1 = t1) := ht1
        have HCT : Hid _ := hct
        clear hct ht1
        go_wp2_with fail
        refine (show Calls _ _ _ _ _ from HFQ.out).mono ?_
        rintro e wy ⟨pvy, wvy, Py, cy, Fy, hfiy, hmy, rfl⟩
        have hdl : (tx.extract 0 t1).data.toList = tx.data.toList.dropLast := by rw [ext_take, ← HT1.out, List.dropLast_eq_take, list_len]
        have htq : FX (some []) (tx.extract 0 t1).data.toList = (E.dropLast.map (·.2), some (tx.data.toList.drop (tx.data.toList.length - last)).dropLast) := by rw [hdl]; exact HCT.out
        rw [htq] at hfiy hmy
        obtain ⟨ny, hny⟩ : ∃ k, Fy.length = k := ⟨_, rfl⟩
        rw [hny] at hfiy ⊢
        obtain ⟨xq, hxq⟩ := HPQ9.out.block
        have HWy : Hid (WRs B w wy (.slice P nE c) E) := HW9.out.far hfiy.mv hxq
        have HBy : Hid (Below B w wy) := HBx.out.trans (hfiy.mv.below HPQ9.out)
        have HPQy : Hid _ := hfiy.pa
        have hvy := hfiy.rl.view
        rw [hmy] at hvy
        have hvw : QV wy (.slice P (nE - 1) c) (E.dropLast.map (·.2)) := by
          have h9 := (HWy.out.view (HB.out ▸ HBy.out)).cut (nE - 1) (by rw [List.length_map, HNE.out]; omega)
          rw [List.dropLast_eq_take, HNE.out, List.map_take]
          exact h9
        have hsubE : (nE : Int) - 1 = ((nE - 1 : Nat) : Int) := by omega
        have hlD : (E.dropLast.map (·.2)).length ≤ 1099511627776 := by rw [List.length_map, List.length_dropLast, HNE.out]; omega
        have haD : ∀ r ∈ E.dropLast.map (·.2), r.args.length ≤ 70368744177664 := fun r hr => HAX.out r (by
          obtain ⟨x, hx, rfl⟩ := List.mem_map.1 hr
          exact List.mem_map.2 ⟨x, List.dropLast_subset _ hx, rfl⟩)
        obtain ⟨e1, he1⟩ : ∃ k, nE - 1 = k := ⟨_, rfl⟩
        rw [he1] at hvw hsubE
        have he1n : e1 ≤ nE := by omega
        have hcapE : nE ≤ c := by
          have := HWy.out.row
          rw [HNE.out] at this
          rcases this.2 with ⟨_, h0⟩ | ⟨g, cap, cur, e, _, _, hc, _⟩
          · exact absurd h0 hE0
          · have := (Value.slice.inj e).2.2
            omega
        have HS2 : Hid _ := sameRq_any _ _ _ _ hlD hlD haD haD wy hvy hvw
        have hhl : (tx.data.toList.drop (tx.data.toList.length - last)).dropLast.length = last - 1 := by rw [List.length_dropLast, List.length_drop, list_len]; omega
        have hhe : (stP (some (tx.data.toList.drop (tx.data.toList.length - last)).dropLast)).held = last - 1 := by rw [stP_held]; exact hhl
        have hlsub : (last : Int) - 1 = ((last - 1 : Nat) : Int) := by omega
        have HHQ : Hid (∀ W, Below wy.heap.size wy W → Calls Tryd.prog 11 #[.pointer (some ⟨qq, 0, none⟩)] W fun e w' => e = .returned (.int .i64 ((last : Int) - 1)) ∧ w' = W) := fun W hW => by have h9 := Held_any qq _ _ _ _ _ _ _ W (HPQy.out.on hW).row; rw [hhe, ← hlsub] at h9; exact h9
        clear hfiy hmy hdl htq hny hxq hvy hvw hlD haD he1 hhl hhe hlsub
        go_wp2_with fail
        refine (show Calls _ _ _ _ _ from HS2.out).mono ?_
        rintro e wz ⟨⟨b2, rfl, hb2⟩, k2, hwz⟩
        have hb2t : b2 = true := by simpa using hb2
        subst hb2t
        have hbz : Below wy.heap.size wy wz := by rw [hwz]; exact below_dn (Below.refl _ _) k2
        have HBz : Hid (Below wy.heap.size wy wz) := hbz
        clear hb2 hwz hbz
        go_wp2_with fail
        refine (show Calls _ _ _ _ _ from HHQ.out wz HBz.out).mono ?_
        rintro e wq ⟨rfl, hwq⟩
        subst hwq
        go_wp2
        go_returns
        exact ⟨rfl, HBy.out.trans (HBz.out.mono HPQy.out.lt)⟩
end Go.Proofs.YtbmfbpcjokbjkaaDoor
