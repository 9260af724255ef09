import Derived.Test.YtdemodhjlbkbeaaQM
namespace Go.Proofs.Ytdemodhjlbkbeaa
open Go.RowKit
set_option linter.unusedVariables false
/-- how far a move has come. -/
def MStat (a b i : Nat) (S : DS) : Prop := (S.T2 = [] ∧ S.T1.length = b) ∨ (S.T2 ≠ [] ∧ S.T1.length = a ∧ S.T2.length = b ∧ i ≤ S.ix)
theorem step_stat {a b i : Nat} {S : DS} (h : DInv S) (hs : MStat a b i S) : MStat a b (i + 1) (stepD S) := by
  unfold stepD
  by_cases hm : S.T2 = []
  · rw [if_pos hm]
    rcases hs with hs | hs
    · exact Or.inl hs
    · exact absurd hm hs.1
  · rw [if_neg hm]
    rcases hs with hs | ⟨_, h1, h2, h3⟩
    · exact absurd hs.1 hm
    · obtain ⟨_, _, q1, q2, q3, _⟩ := takeD_ok h hm
      unfold endD
      split
      · exact Or.inl ⟨rfl, by show (takeD S).T2.length = b; rw [q2, h2]⟩
      · refine Or.inr ⟨ne_of_len q2 hm, by rw [q1, h1], by rw [q2, h2], by omega⟩
theorem set_stat {a b i : Nat} {S : DS} (h : DInv S) (hs : MStat a b i S) {k : ByteArray} (v : Int) (hk : (stepD S).has k = true) : MStat a b (i + 1) (setD S k v) := by
  have q := step_stat h hs
  rw [setD_old hk]
  split
  · rcases q with ⟨q1, q2⟩ | ⟨q1, q2, q3, q4⟩
    · exact Or.inl ⟨q1, by show (tput _ _ _ _).length = b; rw [tput_len]; exact q2⟩
    · exact Or.inr ⟨q1, by show (tput _ _ _ _).length = a; rw [tput_len]; exact q2, q3, q4⟩
  · next hn =>
    have hb : thas (stepD S).seed (stepD S).T2 k = true := by
      unfold DS.has at hk
      have ha' : thas (stepD S).seed (stepD S).T1 k = false := by simpa using hn
      rw [ha', Bool.false_or] at hk; exact hk
    have hne : (stepD S).T2 ≠ [] := fun e => by rw [e] at hb; cases hb
    rcases q with ⟨q1, q2⟩ | ⟨q1, q2, q3, q4⟩
    · exact absurd q1 hne
    · exact Or.inr ⟨ne_of_len (tput_len ..) hne, q2, by show (tput _ _ _ _).length = b; rw [tput_len]; exact q3, q4⟩
theorem stat_end {a b : Nat} {S : DS} (h : DInv S) (hs : MStat a b a S) : S.T2 = [] ∧ S.T1.length = b := by
  rcases hs with hs | ⟨h1, h2, h3, h4⟩
  · exact hs
  · obtain ⟨hl, _⟩ := nextB_hit h h1
    have := nextB_ge S.T1 S.ix
    omega
theorem tabT_still {D : DS} (h : D.T2 = []) : tabT D = .tuple #[.int .i64 (D.T1.length : Nat), .int .i64 0, .int .i64 (-1)] := by unfold tabT; rw [if_pos h]
theorem tabT_move {D : DS} (h : D.T2 ≠ []) : tabT D = .tuple #[.int .i64 (D.T1.length : Nat), .int .i64 (D.T2.length : Nat), .int .i64 (D.ix : Nat)] := by unfold tabT; rw [if_neg h]
theorem below_row {b : Nat} {w w' : World} {g : Nat} (h : Below b w w') (hg : g < b) : w'.heap[g]? = w.heap[g]? := h.block g hg
theorem OpAt.under {W W' : World} {g off i : Nat} {kd : Int} {k : ByteArray} {n : Int} (h : OpAt W g off i kd k n) {b : Nat} (hb : Below b W W') (hg : g < b) : OpAt W' g off i kd k n :=
  ⟨(hb.cell (p := ⟨g, off + i * 3, none⟩) hg).trans h.a, (hb.cell (p := ⟨g, off + i * 3 + 1, none⟩) hg).trans h.b, (hb.cell (p := ⟨g, off + i * 3 + 2, none⟩) hg).trans h.c, h.k, h.n⟩
set_option maxHeartbeats 4000000 in
set_option maxRecDepth 100000 in
theorem Measure_walk (seed : Int) (ad : Option Addr) (g0 off len cap : Nat) (w : World) (hA : len ≠ 0 → ad = some ⟨g0, off, none⟩) (hL : len ≤ 4398046510976) (hO : ∀ i, i < len → ∃ kd k n, OpAt w g0 off i kd k n) :
    Calls Try.prog 7 #[.int .i64 seed, .slice ad len cap] w fun e w' => e = .returned (.bool true) ∧ Below w.heap.size w w' := by
  have HNW : Hid _ := New_any seed w
  have HWK : Hid _ := works_any
  have HO : Hid _ := hO
  have HA : Hid _ := hA
  clear hO hA
  go_enter Try.func7, Try.ntmps7
  go_wp2_with fail
  refine (show Calls _ _ _ _ _ from HNW.out).mono ?_
  rintro e w1 ⟨rfl, hd1, hb1⟩
  have HD1 : Hid (DI w1 w.heap.size [w.heap.size] ⟨seed, [], [], 0⟩) := hd1
  have HB1 : Hid (Below w.heap.size w w1) := hb1
  clear hd1 hb1
  go_wp2_with fail
  refine (show Calls _ _ _ _ _ from HWK.out _).mono ?_
  rintro e w2 ⟨rfl, hb2⟩
  have HD2 : Hid (DI w2 w.heap.size [w.heap.size] ⟨seed, [], [], 0⟩) := HD1.out.on hb2
  have HB2 : Hid (Below w.heap.size w w2) := bel_to HB1.out hb2 (Nat.le_refl _)
  clear hb2 HD1 HB1
  obtain ⟨d, hd⟩ : ∃ d, w.heap.size = d := ⟨_, rfl⟩
  have HDD : Hid (w.heap.size = d) := hd
  rw [hd] at HD2
  rw [hd]
  clear hd
  go_wp2
  go_loopw [6] (fun ci wr => ∃ (i : Nat) (D : DS) (F : List Nat), i ≤ len ∧ ci = .int .i64 (i : Int) ∧ DInv D ∧ DI wr d F D ∧ cnt D.T1 + cnt D.T2 ≤ i ∧ (∀ q ∈ F, w.heap.size ≤ q) ∧ Below w.heap.size w wr) (fun ci _ => len - (intOf ci).toNat)
  case atStart => exact ⟨0, _, [d], Nat.zero_le _, rfl, newD_ok seed, HD2.out, by simp [cnt], by simp [HDD.out], HB2.out⟩
  case round =>
    obtain ⟨i, D, F, hi, rfl, hI, hdi, hcn, hF, hbr⟩ := hrel
    have HI : Hid (DInv D) := hI
    have HDI : Hid (DI wr d F D) := hdi
    have HF : Hid (∀ q ∈ F, w.heap.size ≤ q) := hF
    have HBR : Hid (Below w.heap.size w wr) := hbr
    clear hI hdi hF hbr
    by_cases hlt : i < len
    · have had := HA.out (by omega)
      subst had
      obtain ⟨kd, k, n, hop⟩ := HO.out i hlt
      have hop2 := hop.under HBR.out hop.lt
      have e0 := hop2.a
      have e1 := hop2.b
      have e2 := hop2.c
      have hks := hop2.k
      have HCH : Hid _ := changed_any d F D HI.out (.slice none 0 0) [] (by simp) kd k (by omega) n (by omega) wr (StrRow.nil wr) (fun W _ => StrRow.nil W) HDI.out
      have HCK : Hid _ := chgD_ok HI.out [] kd k (by omega) n (by omega)
      have hz3 : (0 : Int) ≤ (i : Int) := by omega
      have hz4 : (i : Int) < (len : Int) := by omega
      clear hop hop2
      go_wp2_with fail
      refine (show Calls _ _ _ _ _ from HCH.out).mono ?_
      rintro e w3 ⟨rfl, F3, hd3, hm3⟩
      obtain ⟨k1, k2⟩ := HCK.out
      have HF3 : Hid (∀ q ∈ F3, w.heap.size ≤ q) := hm3.ge HF.out HBR.out.size
      have HB3 : Hid (Below w.heap.size w w3) := HBR.out.trans (hm3.below HF.out HBR.out.size)
      have HI3 : Hid _ := k1
      clear e0 e1 e2 hm3 k1 HCH HCK
      generalize chgD D [] kd k n = S at *
      have HD3 : Hid (DI w3 d F3 S) := hd3
      have HTB : Hid _ := Tables_all d F3 S w3 hd3
      have hcS : cnt S.T1 + cnt S.T2 ≤ 4398046511000 := by omega
      clear hd3
      by_cases hm : S.T2 = []
      · rw [tabT_still hm] at HTB
        have hsz := HI3.out.sz1
        obtain ⟨c, hce⟩ : ∃ c, cnt S.T1 + cnt S.T2 = c := ⟨_, rfl⟩
        have hc2 : c ≤ 2 * S.T1.length := by
          have hme := HI3.out.me1 hm
          rw [hm] at hce
          rw [← hce]; simpa [cnt] using hme
        have HCE : Hid _ := hce
        clear hm
        go_wp2_with fail
        refine (show Calls _ _ _ _ _ from HTB.out).mono ?_
        rintro e w4 ⟨rfl, kq, hkq⟩
        have hb4 : Below w3.heap.size w3 w4 := by rw [hkq]; exact below_dn (Below.refl _ _) kq
        have HD4 : Hid (DI w4 d F3 S) := HD3.out.on hb4
        have HB4 : Hid (Below w.heap.size w w4) := HB3.out.trans (hb4.mono HB3.out.size)
        have HLN : Hid _ := Len_all d F3 S hcS w4 HD4.out
        rw [hce] at HLN
        rw [hce] at hcS k2
        clear hb4 hkq hce
        go_wp2_with fail
        refine (show Calls _ _ _ _ _ from HLN.out).mono ?_
        rintro e w5 ⟨rfl, kq5, hkq5⟩
        have hb5 : Below w4.heap.size w4 w5 := by rw [hkq5]; exact below_dn (Below.refl _ _) kq5
        have HD5 : Hid (DI w5 d F3 S) := HD4.out.on hb5
        have HB5 : Hid (Below w.heap.size w w5) := HB4.out.trans (hb5.mono HB4.out.size)
        clear hb5 hkq5
        go_wp2
        go_roundw
        case rel => exact ⟨i + 1, S, F3, hlt, by simp, HI3.out, HD5.out, by rw [HCE.out]; omega, HF3.out, HB5.out⟩
        case measure => simp [intOf]; omega
      · rw [tabT_move hm] at HTB
        have hixn : ¬ ((S.ix : Int) < 0) := by omega
        go_wp2_with fail
        refine (show Calls _ _ _ _ _ from HTB.out).mono ?_
        rintro e w4 ⟨rfl, kq, hkq⟩
        have hb4 : Below w3.heap.size w3 w4 := by rw [hkq]; exact below_dn (Below.refl _ _) kq
        have HD4 : Hid (DI w4 d F3 S) := HD3.out.on hb4
        have HB4 : Hid (Below w.heap.size w w4) := HB3.out.trans (hb4.mono HB3.out.size)
        clear hb4 hkq
        go_wp2
        go_roundw
        case rel => exact ⟨i + 1, S, F3, hlt, by simp, HI3.out, HD4.out, by omega, HF3.out, HB4.out⟩
        case measure => simp [intOf]; omega
    · have hie : i = len := by omega
      subst hie
      have HTB : Hid _ := Tables_all d F D wr HDI.out
      have hcS : cnt D.T1 + cnt D.T2 ≤ 4398046511000 := by omega
      by_cases hm : D.T2 = []
      · rw [tabT_still hm] at HTB
        go_wp2_with fail
        refine (show Calls _ _ _ _ _ from HTB.out).mono ?_
        rintro e w4 ⟨rfl, kq, hkq⟩
        have hb4 : Below wr.heap.size wr w4 := by rw [hkq]; exact below_dn (Below.refl _ _) kq
        have HB4 : Hid (Below w.heap.size w w4) := HBR.out.trans (hb4.mono HBR.out.size)
        clear hb4 hkq
        go_wp2
        go_returns
        exact ⟨rfl, HB4.out⟩
      · rw [tabT_move hm] at HTB
        have hixn : ¬ ((D.ix : Int) < 0) := by omega
        go_wp2_with fail
        refine (show Calls _ _ _ _ _ from HTB.out).mono ?_
        rintro e w4 ⟨rfl, kq, hkq⟩
        have hb4 : Below wr.heap.size wr w4 := by rw [hkq]; exact below_dn (Below.refl _ _) kq
        have HB4 : Hid (Below w.heap.size w w4) := HBR.out.trans (hb4.mono HBR.out.size)
        have HD4 : Hid (DI w4 d F D) := HDI.out.on hb4
        have HKY : Hid _ := Keys_any d F D HI.out hcS w4 HD4.out
        clear hb4 hkq
        go_wp2_with fail
        refine (show Calls _ _ _ _ _ from HKY.out).mono ?_
        rintro e w5 ⟨kv, rfl, hkn, hko, hb5⟩
        have HD5 : Hid (DI w5 d F D) := HD4.out.on hb5
        have HB5 : Hid (Below w.heap.size w w5) := HB4.out.trans (hb5.mono HB4.out.size)
        have hpos : 0 < (keysS D).length := by rw [keysS_len]; have := HI.out.mv hm; omega
        obtain ⟨K0, hK0⟩ : ∃ K0, (keysS D)[0]? = some K0 := ⟨_, List.getElem?_eq_getElem hpos⟩
        obtain ⟨K, kc, hkv, hKb, hKl, hKc⟩ : ∃ K kc, kv = .slice (some ⟨K, 0, none⟩) (keysS D).length kc ∧ w4.heap.size ≤ K ∧ K < w5.heap.size ∧ w5.cell? ⟨K, 0, none⟩ = some (.string (strB K0)) := by
          rcases hko.2 with ⟨e, _⟩ | ⟨K, kc, cur, rfl, hb, hg, _⟩
          · exact absurd e hkn
          · refine ⟨K, kc, rfl, hb, row_lt hg, ?_⟩
            have q := World.ownsRow.cells hko (g := K) rfl 0 (encStr K0) (by rw [List.getElem?_map, hK0]; rfl)
            have q2 : w5.cell? ⟨K, 0, none⟩ = some (encStr K0) := by simpa [Addr.add] using q
            exact q2
        subst hkv
        have HKM : Hid (strB K0 ∈ D.all.map (·.1)) := by
          have hm0 : K0 ∈ keysS D := List.mem_of_getElem? hK0
          have hm1 := (keysS_perm D).mem_iff.1 hm0
          unfold keyB at hm1
          obtain ⟨x, hx1, hx2⟩ := List.mem_map.1 hm1
          refine List.mem_map.2 ⟨x, hx1, ?_⟩
          rw [← hx2]; rfl
        have HKZ : Hid ((strB K0).size ≤ 281474976710656) := by
          obtain ⟨x, hx1, hx2⟩ := List.mem_map.1 HKM.out
          rw [← hx2]; exact HI.out.keys x hx1
        have HKF : Hid (K ∉ F) := fun hx => by have := HD4.out.lt K hx; omega
        have HKC : Hid _ := hKc
        have HNE : Hid (D.T2 ≠ []) := hm
        have hsz := HI.out.sz1
        clear hkn hko hb5 hK0 hKb hKc hm
        generalize (keysS D).length = KN at *
        generalize strB K0 = KK at *
        obtain ⟨TA, hTA⟩ : ∃ TA, D.T1.length = TA := ⟨_, rfl⟩
        obtain ⟨TB, hTB⟩ : ∃ TB, D.T2.length = TB := ⟨_, rfl⟩
        have HMS : Hid (MStat TA TB 0 D) := Or.inr ⟨HNE.out, hTA, hTB, Nat.zero_le _⟩
        rw [hTA, hTB]
        rw [hTA] at hsz
        clear hTA hTB
        go_wp2
        go_loopw [14] (fun ci wr => ∃ (j : Nat) (S : DS) (FS : List Nat), j ≤ TA ∧ ci = .int .i64 (j : Int) ∧ DInv S ∧ DI wr d FS S ∧ KK ∈ S.all.map (·.1) ∧ cnt S.T1 + cnt S.T2 = cnt D.T1 + cnt D.T2 ∧ Moved w5 wr F FS ∧ MStat TA TB j S) (fun ci _ => TA - (intOf ci).toNat)
        case atStart => exact ⟨0, D, F, Nat.zero_le _, rfl, HI.out, HD5.out, HKM.out, rfl, Moved.refl _ _, HMS.out⟩
        case round =>
          obtain ⟨j, S, FS, hj, rfl, hIS, hDS, hKS, hcc, hMS, hST⟩ := hrel
          have HIS : Hid (DInv S) := hIS
          have HDS : Hid (DI wr d FS S) := hDS
          have HKS : Hid (KK ∈ S.all.map (·.1)) := hKS
          have HMV : Hid (Moved w5 wr F FS) := hMS
          have HST : Hid (MStat TA TB j S) := hST
          by_cases hjl : j < TA
          · have hck : wr.cell? ⟨K, 0, none⟩ = some (.string KK) := (World.cell?_of_block (a := ⟨K, 0, none⟩) (hMS.rest K hKl HKF.out)).trans HKC.out
            have hhas : (stepD S).has KK = true := (all_keys (stepD_ok hIS).1 KK).2 (((stepD_ok hIS).2.1.map _).mem_iff.2 hKS)
            have HHS : Hid _ := hhas
            have HSE : Hid _ := Set_any d FS S hIS KK HKZ.out (j : Int) (by omega) wr hDS
            have HSK : Hid _ := setD_ok hIS KK HKZ.out (j : Int) (by omega)
            rw [hhas] at HSK
            have HSS : Hid _ := set_stat hIS hST (j : Int) hhas
            clear hIS hDS hKS hMS hST hhas
            go_wp2_with fail
            refine (show Calls _ _ _ _ _ from HSE.out).mono ?_
            rintro e w6 ⟨rfl, F6, hd6, hm6⟩
            obtain ⟨v0, R, r1, r2⟩ := HSK.out.old rfl
            have HD6 : Hid (DI w6 d F6 (setD S KK (j : Int))) := hd6
            have HM6 : Hid (Moved w5 w6 F F6) := HMV.out.trans hm6
            have HK6 : Hid (KK ∈ (setD S KK (j : Int)).all.map (·.1)) := (r2.map _).mem_iff.2 (by simp)
            have HC6 : Hid (cnt (setD S KK (j : Int)).T1 + cnt (setD S KK (j : Int)).T2 = cnt D.T1 + cnt D.T2) := by
              show _ = _
              rw [← hcc, ← DS.all_len, ← DS.all_len, r1.length_eq, r2.length_eq]; rfl
            clear hd6 hm6 r1 r2 hck
            have hjw : IntKind.i64.wrap ((j : Int) + 1) = (j : Int) + 1 := by rw [IntKind.wrap_i64] <;> omega
            go_wp2
            go_roundw
            case rel => exact ⟨j + 1, _, F6, hjl, by simp, HSK.out.inv, HD6.out, HK6.out, HC6.out, HM6.out, HSS.out⟩
            case measure => simp [intOf]; omega
          · have hje : j = TA := by omega
            subst hje
            obtain ⟨z1, z2⟩ := stat_end hIS hST
            have HTE : Hid _ := Tables_all d FS S wr hDS
            rw [tabT_still z1, z2] at HTE
            have HBE : Hid (Below w.heap.size w wr) := HB5.out.trans (hMS.below HF.out HB5.out.size)
            clear hIS hDS hKS hMS hST z1 z2
            go_wp2_with fail
            refine (show Calls _ _ _ _ _ from HTE.out).mono ?_
            rintro e w7 ⟨rfl, kq7, hkq7⟩
            have hb7 : Below wr.heap.size wr w7 := by rw [hkq7]; exact below_dn (Below.refl _ _) kq7
            have HB7 : Hid (Below w.heap.size w w7) := HBE.out.trans (hb7.mono HBE.out.size)
            clear hb7 hkq7
            go_wp2
            go_returns
            exact ⟨rfl, HB7.out⟩
end Go.Proofs.Ytdemodhjlbkbeaa
namespace Go.Proofs.Ytdemodhjlbkbeaa.dictMeasure
open Go.ChangeShapes Go.WideShapes Go.ChangeAt Go.RowKit Go.Deep
set_option linter.unusedVariables false
theorem own : ownKnob Try.prog.godebug = none := by kernel_rfl
theorem laidOut : laidOutB Try.prog = true := by kernel_rfl
set_option maxRecDepth 100000 in
theorem lifted (os : Os) (started : os.Started) (H : Type) (enc : TypeId × Value → H) :
    ReturnsInHanded {} Try.checked os 7 .any (Rows.dictMeasureSpec.pre6 enc Try.prog Try.f7 Rows.dictMeasureRow.domain false) (Rows.dictMeasureSpec.post enc Try.prog Try.f7 false true false false) := by
  refine returnsInHanded_of_change_sized (C := Try.checked) own started (by kernel_rfl) Try.func7
    (ChangeSpec.witness6 (enc := enc) (C := Try.checked) false ⟨#[], #[.int .i64 0, .slice none 0 0], []⟩ 8 (by kernel_rfl) (by kernel_rfl) (by kernel_rfl) (by kernel_rfl)) ?_
  intro W base args ds gs before hval0 hW hcnd hsz0 _
  have hval : ∀ (j : Nat) t v, Try.f7.params[j]? = some t → args[j]? = some v → Value.okWide Try.prog W .any base t v := hval0
  have hsz : (DataW.weightsEach Try.prog (Try.f7.params.toList ++ Rows.dictMeasureSpec.plain.varTypes Try.prog) (ds ++ gs)).all (· ≤ reachBytes) = true := hsz0
  have hW' := hW
  obtain ⟨p, q, hA0, hV, rfl, hfz, hnd⟩ := hW
  have hA : DataW.TrodAll enc Try.prog W 0 (fun _ => true) true Try.f7.params.toList args.toList ds p := hA0
  rw [Try.params7] at hA hval hsz
  obtain ⟨v0, vs0, d0, ds0, p0, q0, hargs, rfl, rfl, h0, r0⟩ := trodAll_cons hA
  obtain ⟨v1, vs1, d1, ds1, p1, q1, rfl, rfl, rfl, h1, r1⟩ := trodAll_cons r0
  obtain ⟨rfl, rfl, rfl⟩ := trodAll_nil r1
  obtain rfl : args = #[v0, v1] := by cases args; simp_all
  obtain ⟨rfl, rfl⟩ := trodVars_none hV
  obtain ⟨a0, rfl, rfl, rfl, w0⟩ := open_int Try.underlying3 (hval 0 3 v0 rfl rfl) h0
  have hlt1 : ∀ x ∈ p1, x.block < W.heap.size := fun x hx => by simpa using hW'.lt x (by simp [hx])
  have hk1 := h1
  obtain ⟨ad1, ln1, cp1, rfl⟩ := okWide_slice Try.underlying25 (hval 1 25 v1 rfl rfl)
  obtain ⟨fuel1, hf1⟩ := h1
  obtain ⟨g1, o1, hA1', hL1, hO1⟩ := open_ops (x := (d1, p1)) (j := 1) (by simpa [Value.cells] using hf1) hsz rfl rfl
  clear hA0 hval0 hsz0
  refine (Measure_walk a0 ad1 g1 o1 ln1 cp1 W hA1' hL1 hO1).mono fun e W' ⟨he, bel⟩ => ?_
  subst he
  exact ⟨_, rfl, _, _, _, [], _, [], hW', trodAll_mk1 (shut_bool Try.underlying4 _), (trodAll_cons_mk (shut_int Try.underlying3 w0) (trodAll_cons_mk (Below.trod laidOut (by kernel_rfl) (of_decide_eq_true (by kernel_rfl)) hk1 bel hlt1) trodAll_mk0)), rfl, bel.frame _, fun h => by cases h⟩

theorem over : Rows.dictMeasureRow.holds Try.pinned (OpenSpec.ofChange Rows.dictMeasureSpec) :=
  OpenClaim.holds_of_wide 7 Try.f7 rfl rfl rfl rfl rfl rfl rfl ⟨rfl, rfl, rfl, rfl, rfl⟩ rfl rfl rfl rfl rfl (by kernel_rfl) Try.func7 (by kernel_rfl)
    (of_decide_eq_true (by kernel_rfl)) (by unfold Func.isWrapper; first | (rw [if_pos (by decide +kernel)]; kernel_rfl) | (rw [if_neg (by decide +kernel)]; exact ⟨rfl, rfl⟩))
    (fun os started H enc _ => lifted os started H enc)
end Go.Proofs.Ytdemodhjlbkbeaa.dictMeasure
namespace Go.Proofs.Ytdemodhjlbkbeaa
theorem dictMeasure_holds : Rows.DictMeasureSaid := dictMeasure.over
#print axioms dictMeasure_holds
end Go.Proofs.Ytdemodhjlbkbeaa
