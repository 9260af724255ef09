import Derived.Test.YtdemodhjlbkbeaaQO
import Derived.Test.YtdemodhjlbkbeaaQMaps
import Derived.Laws.AppendOwnNone
namespace Go.Proofs.Ytdemodhjlbkbeaa
open Go.RowKit
set_option linter.unusedVariables false
/-- 'append(met, l...)' of two rows of texts. -/
theorem wpList_append_two {w : World} {ops : Array Oper} {rest : List Oper} {o : Oper} {a : Act} {Q : Exit → Act → World → Prop} (hg : o.guard = none) (s x : Operand)
    (hop : o.op = Op.call { callee := Callee.builtin Builtin.append, args := #[s, x], argTypes := #[28, 28] })
    (base base' : Nat) (v : Value) (n : Nat) (xs : List Value) (hs : a.eval s = v) (hown : w.ownsRow base 9 1 v n xs) (r : Value) (m : Nat) (M : List Ent) (hx : a.eval x = r) (hr : w.ownsRow base' 9 1 r m (keyV M))
    (hl : n + m ≤ 8796093022208) (hb : base ≤ w.heap.size)
    (h : ∀ v' w', w'.ownsRow base 9 1 v' (n + m) (xs ++ keyV M) → Grew w w' v v' → wpList Try.prog ops Q rest (a.put o.dst v') w') :
    wpList Try.prog ops Q (o :: rest) a w := by
  obtain ⟨i0, hi, hz0, hz1, hz2⟩ := info_parts info9
  have hlen := hr.1
  rcases hr.2 with ⟨rfl, h0⟩ | ⟨g, cap, cur, rfl, hbg, hgr, q⟩
  · subst h0
    refine wpList_append_own_none hg s x 28 hop base 9 i0 1 Try.underlying28 hi v n xs hs hown hx ?_
    have hM : keyV M = [] := List.length_eq_zero_iff.1 (by simpa using hlen)
    exact h v w (by rw [hM, List.append_nil]; exact hown) (Grew.refl _ _)
  · refine wpList_append_own_at w hg s x 28 hop base 9 i0 (.string ⟨#[]⟩) 1 16 Try.underlying28 hi hz0 hz1 hz2 rfl (by decide) v n xs hs hown ⟨g, 0, none⟩ m cap (keyV M) hx hlen ?_ ?_ (by unfold maxLen; omega) (by omega) hb ?_
    · intro j u hj
      exact World.ownsRow.cells hr (g := g) rfl j u hj
    · intro u hu
      unfold keyV at hu
      obtain ⟨e, _, rfl⟩ := List.mem_map.1 hu
      rfl
    · intro v' w' ho hgw hnil hat
      refine h v' w' ho ⟨hgw, ?_, fun hn e => hn (hnil.1 e).1⟩
      rcases hat with e | e
      · exact Or.inl e
      · exact Or.inr ⟨_, e, Nat.le_refl _⟩
/-- how far a scan of a dict that stays has come. -/
def Cov (D : DS) (met : List Ent) (c : Nat) : Prop := (D.T1 = [] ∧ met = [] ∧ c = 0) ∨ (D.T1 ≠ [] ∧ c < 2 ^ aD D ∧ met.Perm (D.all.filter (inR D 0 (Rj (aD D) c))))
theorem Cov.zero {D : DS} (h : DInv D) : Cov D [] 0 := by
  by_cases hne : D.T1 = []
  · exact Or.inl ⟨hne, rfl, rfl⟩
  · have hs := shape h hne
    have := hs.a42
    refine Or.inr ⟨hne, Nat.two_pow_pos _, ?_⟩
    rw [Rj_zero _ (by omega)]
    have : D.all.filter (inR D 0 0) = [] := by
      rw [List.filter_eq_nil_iff]; intro x _ hx; simp [inR] at hx
    rw [this]
theorem Cov.step {D : DS} (h : DInv D) (hne : D.T1 ≠ []) {met : List Ent} {c : Nat} (hc : Cov D met c) {n : Int} {t : Nat} (hs : ScanIs D c n t) :
    (itN (aD D) t c = 0 ∧ (met ++ visN D c t).Perm D.all) ∨ (itN (aD D) t c ≠ 0 ∧ Cov D (met ++ visN D c t) (itN (aD D) t c) ∧ Rj (aD D) c < Rj (aD D) (itN (aD D) t c)) := by
  have hsh := shape h hne
  have ha := hsh.a42
  rcases hc with ⟨e, _⟩ | ⟨_, hclt, hp⟩
  · exact absurd e hne
  have hpos := hs.pos
  obtain ⟨s, rfl⟩ : ∃ s, t = s + 1 := ⟨t - 1, by omega⟩
  have hle := hs.le
  have hz := it_zero (a := aD D) (by omega) c s hle
  obtain ⟨_, _, _, hv⟩ := visN_ok h hne c (s + 1) hle
  have hjoin : (met ++ visN D c (s + 1)).Perm (D.all.filter (inR D 0 (Rj (aD D) c + (s + 1)))) := by
    refine (List.Perm.append hp (hv hclt)).trans (filter_split _ _ _ _ (fun x => ?_) (fun x hx => ?_)).symm
    · unfold inR
      rw [Bool.eq_iff_iff]
      simp only [Bool.and_eq_true, Bool.or_eq_true, decide_eq_true_eq]
      omega
    · unfold inR at *
      simp only [Bool.and_eq_true, decide_eq_true_eq] at hx
      rw [Bool.and_eq_false_iff]
      left
      simp only [decide_eq_false_iff_not]; omega
  by_cases he : Rj (aD D) c + (s + 1) = 2 ^ aD D
  · left
    refine ⟨hz.2 he, hjoin.trans ?_⟩
    rw [List.filter_eq_self.2 (fun x _ => ?_)]
    unfold inR
    simp only [Bool.and_eq_true, decide_eq_true_eq]
    rw [he]
    exact ⟨Nat.zero_le _, Rj_lt _ (by omega) _⟩
  · right
    have hR := itN_R (aD D) (by omega) c (s + 1)
    rw [Nat.mod_eq_of_lt (by omega)] at hR
    exact ⟨fun e => he (hz.1 e), Or.inr ⟨hne, itN_lt _ (by omega) c s, by rw [hR]; exact hjoin⟩, by rw [hR]; omega⟩
theorem Scan_cov (g : Nat) (F : List Nat) (D : DS) (hD : DInv D) (hcc : cnt D.T1 + cnt D.T2 ≤ 4398046511000) (met : List Ent) (c : Nat) (hcov : Cov D met c) (n : Int) (hn : -9223372036854775808 ≤ n ∧ n ≤ 9223372036854775807) (w : World) (h : DI w g F D) :
    Calls Try.prog 19 #[.pointer (some ⟨g, 0, none⟩), .int .i64 (c : Int), .int .i64 n] w fun e w' => ∃ (M : List Ent) (r : Value) (c' : Nat), e = .returned (.tuple #[r, .int .i64 (c' : Int)]) ∧ w'.ownsRow w.heap.size 9 1 r M.length (keyV M) ∧ Below w.heap.size w w' ∧ M.length ≤ cnt D.T1 + cnt D.T2 ∧ c' ≤ 9223372036854775807 ∧ ((c' = 0 ∧ (met ++ M).Perm D.all) ∨ (c' ≠ 0 ∧ Cov D (met ++ M) c' ∧ Rj (aD D) c < Rj (aD D) c')) := by
  by_cases hne : D.T1 = []
  · obtain ⟨_, e1, e2⟩ | ⟨h1, _⟩ := hcov
    · subst e1; subst e2
      have hall : D.all = [] := by
        have h2 : D.T2 = [] := Decidable.byContradiction fun hm => T1_ne hD hm hne
        unfold DS.all; rw [hne, h2]; rfl
      refine (Scan_none g F D hne (0 : Nat) n w h).mono ?_
      rintro e w' ⟨rfl, rfl⟩
      exact ⟨[], .slice none 0 0, 0, rfl, ⟨rfl, Or.inl ⟨rfl, rfl⟩⟩, Below.refl _ _, by simp, by omega, Or.inl ⟨rfl, by rw [hall]; exact List.Perm.refl _⟩⟩
    · exact absurd hne h1
  · have hcl : c < 2 ^ aD D := by
      rcases hcov with ⟨e, _⟩ | ⟨_, h1, _⟩
      · exact absurd e hne
      · exact h1
    have ha := (shape hD hne).a42
    have hp : 2 ^ aD D ≤ 2 ^ 42 := Nat.pow_le_pow_right (by omega) ha
    refine (Scan_any g F D hD hne hcc c (by omega) n hn w h).mono ?_
    rintro e w' ⟨t, r, hs, rfl, ho, hb⟩
    refine ⟨visN D c t, r, itN (aD D) t c, rfl, ho, hb, visN_cnt hD hne c t hs.le, itN_le _ ha c t (by omega), hcov.step hD hne hs⟩
theorem keyV_map (M : List Ent) : keyV M = (M.map fun e => e.1.data.toList).map encStr := keyV_enc M
theorem met_has {D : DS} {met : List Ent} (hp : met.Perm D.all) {K : List UInt8} (hk : K ∈ keysS D) : inB ((met.map fun e => e.1.data.toList).map strB) (strB K) = true := by
  refine (inB_iff _ _).2 ?_
  have h1 := (keysS_perm D).mem_iff.1 hk
  unfold keyB at h1
  obtain ⟨x, hx, rfl⟩ := List.mem_map.1 h1
  exact List.mem_map.2 ⟨_, List.mem_map.2 ⟨x, hp.mem_iff.2 hx, rfl⟩, rfl⟩
theorem sm_le {D : DS} (h : DInv D) (hne : D.T1 ≠ []) : 2 ^ aD D ≤ max D.T1.length D.T2.length := by
  rw [← (shape h hne).sl]
  rcases sm_or D with e | e <;> rw [e] <;> omega
set_option maxHeartbeats 8000000 in
set_option maxRecDepth 100000 in
theorem Ends_walk (seed : Int) (ad : Option Addr) (g0 off len cap : Nat) (nn : Int) (w : World) (hA : len ≠ 0 → ad = some ⟨g0, off, none⟩) (hL : len ≤ 4398046510976) (hO : ∀ i, i < len → ∃ kd k n, OpAt w g0 off i kd k n) (hw2 : (Lit.int .i64 nn).wf = true) :
    Calls Try.prog 6 #[.int .i64 seed, .slice ad len cap, .int .i64 nn] w fun e w' => e = .returned (.bool true) ∧ Below w.heap.size w w' := by
  have hnn : -9223372036854775808 ≤ nn ∧ nn ≤ 9223372036854775807 := by
    simp [Lit.wf, IntKind.min, IntKind.max, IntKind.signed, IntKind.bits] at hw2; omega
  have HNW : Hid _ := New_any seed w
  have HWK : Hid _ := works_any
  have HO : Hid _ := hO
  have HA : Hid _ := hA
  clear hO hA hw2
  go_enter Try.func6, Try.ntmps6
  go_wp2_with fail
  refine (show Calls _ _ _ _ _ from HNW.out).mono ?_
  rintro e w1 ⟨rfl, hd1, hb1⟩
  have HD1 : Hid (DI w1 w.heap.size [w.heap.size] ⟨seed, [], [], 0⟩) := hd1
  have HB1 : Hid (Below w.heap.size w w1) := hb1
  clear hd1 hb1
  go_wp2_with fail
  refine (show Calls _ _ _ _ _ from HWK.out _).mono ?_
  rintro e w2 ⟨rfl, hb2⟩
  have HD2 : Hid (DI w2 w.heap.size [w.heap.size] ⟨seed, [], [], 0⟩) := HD1.out.on hb2
  have HB2 : Hid (Below w.heap.size w w2) := bel_to HB1.out hb2 (Nat.le_refl _)
  clear hb2 HD1 HB1
  obtain ⟨d, hd⟩ : ∃ d, w.heap.size = d := ⟨_, rfl⟩
  have HDD : Hid (w.heap.size = d) := hd
  rw [hd] at HD2
  rw [hd]
  clear hd
  go_wp2
  go_loopw [8] (fun ci wr => ∃ (i : Nat) (D : DS) (F : List Nat), i ≤ len ∧ ci = .int .i64 (i : Int) ∧ DInv D ∧ DI wr d F D ∧ cnt D.T1 + cnt D.T2 ≤ i ∧ (∀ q ∈ F, w.heap.size ≤ q) ∧ Below w.heap.size w wr) (fun ci _ => len - (intOf ci).toNat)
  case atStart => exact ⟨0, _, [d], Nat.zero_le _, rfl, newD_ok seed, HD2.out, by simp [cnt], by simp [HDD.out], HB2.out⟩
  case round =>
    obtain ⟨i, D, F, hi, rfl, hI, hdi, hcn, hF, hbr⟩ := hrel
    have HI : Hid (DInv D) := hI
    have HDI : Hid (DI wr d F D) := hdi
    have HF : Hid (∀ q ∈ F, w.heap.size ≤ q) := hF
    have HBR : Hid (Below w.heap.size w wr) := hbr
    clear hI hdi hF hbr
    by_cases hlt : i < len
    · have had := HA.out (by omega)
      subst had
      obtain ⟨kd, k, n, hop⟩ := HO.out i hlt
      have hop2 := hop.under HBR.out hop.lt
      have e0 := hop2.a
      have e1 := hop2.b
      have e2 := hop2.c
      have hks := hop2.k
      have HCH : Hid _ := changed_any d F D HI.out (.slice none 0 0) [] (by simp) kd k (by omega) n (by omega) wr (StrRow.nil wr) (fun W _ => StrRow.nil W) HDI.out
      have HCK : Hid _ := chgD_ok HI.out [] kd k (by omega) n (by omega)
      have hz3 : (0 : Int) ≤ (i : Int) := by omega
      have hz4 : (i : Int) < (len : Int) := by omega
      clear hop hop2
      go_wp2_with fail
      refine (show Calls _ _ _ _ _ from HCH.out).mono ?_
      rintro e w3 ⟨rfl, F3, hd3, hm3⟩
      obtain ⟨k1, k2⟩ := HCK.out
      have HF3 : Hid (∀ q ∈ F3, w.heap.size ≤ q) := hm3.ge HF.out HBR.out.size
      have HB3 : Hid (Below w.heap.size w w3) := HBR.out.trans (hm3.below HF.out HBR.out.size)
      have HI3 : Hid _ := k1
      clear e0 e1 e2 hm3 k1 HCH HCK
      generalize chgD D [] kd k n = S at *
      have HD3 : Hid (DI w3 d F3 S) := hd3
      clear hd3
      go_wp2
      go_roundw
      case rel => exact ⟨i + 1, S, F3, hlt, by simp, HI3.out, HD3.out, by omega, HF3.out, HB3.out⟩
      case measure => simp [intOf]; omega
    · have hie : i = len := by omega
      subst hie
      have HTB : Hid _ := Tables_all d F D wr HDI.out
      have hcS : cnt D.T1 + cnt D.T2 ≤ 4398046511000 := by omega
      obtain ⟨ta, tb, tc, htab, hta, htc, hsz⟩ : ∃ (ta tb : Nat) (tc : Int), tabT D = .tuple #[.int .i64 (ta : Int), .int .i64 (tb : Int), .int .i64 tc] ∧ (D.T1 ≠ [] → 2 ^ aD D ≤ max ta tb) ∧ (tc < 0 ∨ 0 ≤ tc) ∧ ta ≤ 4398046511104 ∧ tb ≤ 4398046511104 := by
        by_cases hm : D.T2 = []
        · refine ⟨D.T1.length, 0, -1, tabT_still hm, fun hne => ?_, Or.inl (by omega), HI.out.sz1, by omega⟩
          have := sm_le HI.out hne
          rw [hm] at this; simpa using this
        · exact ⟨D.T1.length, D.T2.length, D.ix, tabT_move hm, fun hne => sm_le HI.out hne, Or.inr (by omega), HI.out.sz1, HI.out.sz2⟩
      rw [htab] at HTB
      have HTA : Hid _ := hta
      clear htab hta
      go_wp2_with fail
      refine (show Calls _ _ _ _ _ from HTB.out).mono ?_
      rintro e w4 ⟨rfl, kq, hkq⟩
      have hb4 : Below wr.heap.size wr w4 := by rw [hkq]; exact below_dn (Below.refl _ _) kq
      have HB4 : Hid (Below w.heap.size w w4) := HBR.out.trans (hb4.mono HBR.out.size)
      have HD4 : Hid (DI w4 d F D) := HDI.out.on hb4
      clear hb4 hkq
      go_wp2
      go_loopw [14, 13, 12] (fun ci cz cm wx => ∃ (j cu : Nat) (met : List Ent), ci = .int .i64 (j : Int) ∧ cz = .int .i64 (cu : Int) ∧ cu ≤ 9223372036854775807 ∧ Cov D met cu ∧ j ≤ Rj (aD D) cu ∧ (D.T1 = [] → j = 0) ∧ wx.ownsRow w4.heap.size 9 1 cm met.length (keyV met) ∧ Below w4.heap.size w4 wx) (fun ci _ _ _ => 4398046511104 - (intOf ci).toNat)
      case atStart => exact ⟨0, 0, [], rfl, rfl, by omega, Cov.zero HI.out, by omega, fun _ => rfl, ⟨rfl, Or.inl ⟨rfl, rfl⟩⟩, Below.refl _ _⟩
      case round =>
        obtain ⟨j, cu, met, rfl, rfl, hcu, hcov, hjR, hj0, hom, hbx⟩ := hrel
        have hlen : met.length ≤ cnt D.T1 + cnt D.T2 := by
          rcases hcov with ⟨_, e, _⟩ | ⟨_, _, hp⟩
          · rw [e]; exact Nat.zero_le _
          · rw [hp.length_eq, ← DS.all_len]; exact List.length_filter_le _ _
        have hjm : (j : Int) < max (max 1 (ta : Int)) (tb : Int) := by
          by_cases hne : D.T1 = []
          · rw [hj0 hne]; omega
          · have := HTA.out hne
            have := Rj_lt (aD D) (by have := (shape HI.out hne).a42; omega) cu
            omega
        have hjb : j < 4398046511104 := by omega
        have HBX : Hid (Below w4.heap.size w4 wr) := hbx
        have HOM : Hid (wr.ownsRow w4.heap.size 9 1 _ met.length (keyV met)) := hom
        have HDX : Hid (DI wr d F D) := HD4.out.on hbx
        have HSC : Hid _ := Scan_cov d F D HI.out hcS met cu hcov nn hnn wr HDX.out
        have HJR : Hid (j ≤ Rj (aD D) cu) := hjR
        obtain ⟨P8, k8, hkf⟩ := own_form hom
        subst hkf
        clear hcov hom hbx hjR hj0
        have HLEN : Hid _ := hlen
        clear hlen
        go_wp2_with fail
        all_goals
          refine (show Calls _ _ _ _ _ from HSC.out).mono ?_
          rintro e w5 ⟨M, r5, c5, rfl, ho5, hb5, hM5, hc5, hcase⟩
          have HO5 : Hid (w5.ownsRow wr.heap.size 9 1 r5 M.length (keyV M)) := ho5
          have HOM5 : Hid (w5.ownsRow w4.heap.size 9 1 (.slice P8 met.length k8) met.length (keyV met)) := own_keep HOM.out (fun q _ hq => hb5.block q hq)
          have HB5 : Hid (Below w4.heap.size w4 w5) := HBX.out.trans (hb5.mono HBX.out.size)
          have HD5 : Hid (DI w5 d F D) := HDX.out.on hb5
          obtain ⟨P9, k9, hkf9⟩ := own_form ho5
          subst hkf9
          have HCS : Hid _ := hcase
          have HM5 : Hid _ := hM5
          clear ho5 hb5 hcase hM5
          go_upto_region 15 with fail
          go_wp2_with (at_builtin; go_must (refine wpList_append_two rfl _ _ rfl w4.heap.size wr.heap.size _ _ _ rfl HOM5.out _ M.length M rfl HO5.out ?p1 ?p2 ?_))
          case p1 => have := HLEN.out; have := HM5.out; omega
          case p2 => exact HB5.out.size
          intro v6 w6 ho6 hg6
          have HO6 : Hid (w6.ownsRow w4.heap.size 9 1 v6 (met ++ M).length (keyV (met ++ M))) := by
            show World.ownsRow _ _ _ _ _ _ _
            rw [keyV_app, List.length_append]; exact ho6
          have HD6 : Hid (DI w6 d F D) := hg6.di HD5.out (fun q hq e => HD5.out.apart HOM5.out (Or.inl rfl) q e hq)
          have HB6 : Hid (Below w4.heap.size w4 w6) := HB5.out.trans (hg6.below HB5.out.size (fun q hq => (World.ownsRow.lt HOM5.out q hq).1))
          clear ho6 hg6
          by_cases hc0 : c5 = 0
          · subst hc0
            have HPE : Hid ((met ++ M).Perm D.all) := by
              rcases HCS.out with ⟨_, h⟩ | ⟨h, _⟩
              · exact h
              · exact absurd rfl h
            have HKY : Hid _ := Keys_any d F D HI.out hcS w6 HD6.out
            obtain ⟨P6, k6, hkf6⟩ := own_form HO6.out
            subst hkf6
            have HSR : Hid (StrRow w6 (.slice P6 (met ++ M).length k6) (((met ++ M).map fun e => e.1.data.toList).map strB)) := by
              have q := HO6.out
              rw [keyV_map] at q
              exact StrRow.of_own q (by simp)
            have HLM : Hid ((met ++ M).length = (keysS D).length) := by show _ = _; rw [HPE.out.length_eq, keysS_len, DS.all_len]
            have HLC : Hid ((keysS D).length ≤ 4398046511000) := by show _ ≤ _; rw [keysS_len]; exact hcS
            obtain ⟨MM, hMM⟩ : ∃ MM, (met ++ M).length = MM := ⟨_, rfl⟩
            rw [hMM] at HSR HLM ⊢
            have HMM : Hid _ := hMM
            clear hMM
            go_wp2_with fail
            refine (show Calls _ _ _ _ _ from HKY.out).mono ?_
            rintro e w7 ⟨kv, rfl, hkn, hko, hb7⟩
            have HB7 : Hid (Below w6.heap.size w6 w7) := hb7
            have HSK : Hid (StrRow w7 kv ((keysS D).map strB)) := StrRow.of_own hko rfl
            obtain ⟨kad, kcp, rfl, hkc⟩ := HSK.out
            rw [List.length_map]
            have HKC : Hid _ := hkc
            obtain ⟨KN, hKN⟩ : ∃ KN, (keysS D).length = KN := ⟨_, rfl⟩
            have HKN : Hid _ := hKN
            rw [hKN] at HLM HLC ⊢
            have hKb := HLC.out
            have hMK := HLM.out
            subst hMK
            clear hkn hko hb7 hkc hKN HSK
            go_wp2
            go_loopw [18] (fun ci wx => Below w7.heap.size w7 wx ∧ ∃ u : Nat, u ≤ MM ∧ ci = .int .i64 (u : Int)) (fun ci _ => MM - (intOf ci).toNat)
            case atStart => exact ⟨Below.refl _ _, 0, Nat.zero_le _, rfl⟩
            case round =>
              obtain ⟨hbu, u, hu, rfl⟩ := hrel
              have HBU : Hid (Below w7.heap.size w7 wr) := hbu
              by_cases hul : u < MM
              · have hul2 : u < (keysS D).length := by rw [HKN.out]; exact hul
                obtain ⟨gk, ok, e1, e2⟩ := HKC.out (fun e => by have := congrArg List.length e; simp at this; rw [this] at hul2; simp at hul2)
                subst e1
                have c1 := cell_on (e2 u (by simpa using hul2)) hbu
                rw [List.getElem_map] at c1
                have HIN : Hid (inB (((met ++ M).map fun e => e.1.data.toList).map strB) (strB (keysS D)[u]) = true) := met_has HPE.out (List.getElem_mem hul2)
                have hbw : Below w6.heap.size w6 wr := HB7.out.trans (hbu.mono HB7.out.size)
                have HSW : StrRow wr (.slice P6 MM k6) (((met ++ M).map fun e => e.1.data.toList).map strB) := by
                  obtain ⟨a1, a2, a3, a4⟩ := HSR.out
                  refine ⟨a1, a2, a3, fun hne => ?_⟩
                  obtain ⟨b1, b2, b3, b4⟩ := a4 hne
                  exact ⟨b1, b2, b3, fun q hq => cell_on (b4 q hq) hbw⟩
                have HHA := has_any (.slice P6 MM k6) _ (by have := HMM.out; simp at this ⊢; omega) (strB (keysS D)[u]) wr HSW
                rw [HIN.out] at HHA
                have HHAH : Hid _ := HHA
                have hz5 : (0 : Int) ≤ (u : Int) := by omega
                have hz6 : (u : Int) < (MM : Int) := by omega
                have huw : IntKind.i64.wrap ((u : Int) + 1) = (u : Int) + 1 := by rw [IntKind.wrap_i64] <;> omega
                clear e2 hbu hbw HSW HHA HIN
                generalize strB (keysS D)[u] = X at *
                clear hul2
                go_wp2_with fail
                refine (show Calls _ _ _ _ _ from HHAH.out).mono ?_
                rintro e w8 ⟨rfl, rfl⟩
                go_wp2
                go_roundw
                case rel => exact ⟨HBU.out, u + 1, hul, by simp⟩
                case measure => simp [intOf]; omega
              · have HBF : Hid (Below w.heap.size w wr) := HB4.out.trans ((HB6.out.trans ((HB7.out.trans (hbu.mono HB7.out.size)).mono HB6.out.size)).mono HB4.out.size)
                clear hbu
                rcases htc with htc | htc
                · have htc2 : ¬ (0 : Int) ≤ tc := by omega
                  go_wp2
                  go_returns
                  exact ⟨rfl, HBF.out⟩
                · go_wp2
                  go_returns
                  exact ⟨rfl, HBF.out⟩
          · have hc0e : ((c5 : Int) == 0) = false := by simpa using hc0
            obtain ⟨HCV, HRR⟩ : Hid (Cov D (met ++ M) c5) ∧ Hid (Rj (aD D) cu < Rj (aD D) c5) := by
              rcases HCS.out with ⟨h, _⟩ | ⟨_, h1, h2⟩
              · exact absurd h hc0
              · exact ⟨h1, h2⟩
            have HJ2 : Hid (j + 1 ≤ Rj (aD D) c5) := by have := HJR.out; have := HRR.out; show _ ≤ _; omega
            have HNE : Hid (D.T1 = [] → j + 1 = 0) := fun e => by
              rcases HCV.out with ⟨_, _, h⟩ | ⟨h, _⟩
              · exact absurd h hc0
              · exact absurd e h
            have hjw : IntKind.i64.wrap ((j : Int) + 1) = (j : Int) + 1 := by rw [IntKind.wrap_i64] <;> omega
            obtain ⟨P6, k6, hkf6⟩ := own_form HO6.out
            subst hkf6
            go_wp2
            go_roundw
            case rel => exact ⟨j + 1, c5, met ++ M, by simp, rfl, hc5, HCV.out, HJ2.out, HNE.out, HO6.out, HB6.out⟩
            case measure => simp [intOf]; omega
end Go.Proofs.Ytdemodhjlbkbeaa
namespace Go.Proofs.Ytdemodhjlbkbeaa.dictEnds
open Go.ChangeShapes Go.WideShapes Go.ChangeAt Go.RowKit Go.Deep
set_option linter.unusedVariables false
theorem own : ownKnob Try.prog.godebug = none := by kernel_rfl
theorem laidOut : laidOutB Try.prog = true := by kernel_rfl
set_option maxRecDepth 100000 in
theorem lifted (os : Os) (started : os.Started) (H : Type) (enc : TypeId × Value → H) :
    ReturnsInHanded {} Try.checked os 6 .any (Rows.dictEndsSpec.pre6 enc Try.prog Try.f6 Rows.dictEndsRow.domain false) (Rows.dictEndsSpec.post enc Try.prog Try.f6 false true false false) := by
  refine returnsInHanded_of_change_sized (C := Try.checked) own started (by kernel_rfl) Try.func6
    (ChangeSpec.witness6 (enc := enc) (C := Try.checked) false ⟨#[], #[.int .i64 0, .slice none 0 0, .int .i64 0], []⟩ 8 (by kernel_rfl) (by kernel_rfl) (by kernel_rfl) (by kernel_rfl)) ?_
  intro W base args ds gs before hval0 hW hcnd hsz0 _
  have hval : ∀ (j : Nat) t v, Try.f6.params[j]? = some t → args[j]? = some v → Value.okWide Try.prog W .any base t v := hval0
  have hsz : (DataW.weightsEach Try.prog (Try.f6.params.toList ++ Rows.dictEndsSpec.plain.varTypes Try.prog) (ds ++ gs)).all (· ≤ reachBytes) = true := hsz0
  have hW' := hW
  obtain ⟨p, q, hA0, hV, rfl, hfz, hnd⟩ := hW
  have hA : DataW.TrodAll enc Try.prog W 0 (fun _ => true) true Try.f6.params.toList args.toList ds p := hA0
  rw [Try.params6] at hA hval hsz
  obtain ⟨v0, vs0, d0, ds0, p0, q0, hargs, rfl, rfl, h0, r0⟩ := trodAll_cons hA
  obtain ⟨v1, vs1, d1, ds1, p1, q1, rfl, rfl, rfl, h1, r1⟩ := trodAll_cons r0
  obtain ⟨v2, vs2, d2, ds2, p2, q2, rfl, rfl, rfl, h2, r2⟩ := trodAll_cons r1
  obtain ⟨rfl, rfl, rfl⟩ := trodAll_nil r2
  obtain rfl : args = #[v0, v1, v2] := by cases args; simp_all
  obtain ⟨rfl, rfl⟩ := trodVars_none hV
  obtain ⟨a0, rfl, rfl, rfl, w0⟩ := open_int Try.underlying3 (hval 0 3 v0 rfl rfl) h0
  have hlt1 : ∀ x ∈ p1, x.block < W.heap.size := fun x hx => by simpa using hW'.lt x (by simp [hx])
  have hk1 := h1
  obtain ⟨ad1, ln1, cp1, rfl⟩ := okWide_slice Try.underlying25 (hval 1 25 v1 rfl rfl)
  obtain ⟨fuel1, hf1⟩ := h1
  obtain ⟨g1, o1, hA1', hL1, hO1⟩ := open_ops (x := (d1, p1)) (j := 1) (by simpa [Value.cells] using hf1) hsz rfl rfl
  obtain ⟨a2, rfl, rfl, rfl, w2⟩ := open_int Try.underlying3 (hval 2 3 v2 rfl rfl) h2
  clear hA0 hval0 hsz0
  refine (Ends_walk a0 ad1 g1 o1 ln1 cp1 a2 W hA1' hL1 hO1 w2).mono fun e W' ⟨he, bel⟩ => ?_
  subst he
  exact ⟨_, rfl, _, _, _, [], _, [], hW', trodAll_mk1 (shut_bool Try.underlying4 _), (trodAll_cons_mk (shut_int Try.underlying3 w0) (trodAll_cons_mk (Below.trod laidOut (by kernel_rfl) (of_decide_eq_true (by kernel_rfl)) hk1 bel hlt1) (trodAll_cons_mk (shut_int Try.underlying3 w2) trodAll_mk0))), rfl, bel.frame _, fun h => by cases h⟩

theorem over : Rows.dictEndsRow.holds Try.pinned (OpenSpec.ofChange Rows.dictEndsSpec) :=
  OpenClaim.holds_of_wide 6 Try.f6 rfl rfl rfl rfl rfl rfl rfl ⟨rfl, rfl, rfl, rfl, rfl⟩ rfl rfl rfl rfl rfl (by kernel_rfl) Try.func6 (by kernel_rfl)
    (of_decide_eq_true (by kernel_rfl)) (by unfold Func.isWrapper; first | (rw [if_pos (by decide +kernel)]; kernel_rfl) | (rw [if_neg (by decide +kernel)]; exact ⟨rfl, rfl⟩))
    (fun os started H enc _ => lifted os started H enc)
end Go.Proofs.Ytdemodhjlbkbeaa.dictEnds
namespace Go.Proofs.Ytdemodhjlbkbeaa
theorem dictEnds_holds : Rows.DictEndsSaid := dictEnds.over
#print axioms dictEnds_holds
end Go.Proofs.Ytdemodhjlbkbeaa
