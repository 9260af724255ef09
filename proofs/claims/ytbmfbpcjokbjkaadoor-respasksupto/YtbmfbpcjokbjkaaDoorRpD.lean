import Derived.Test.YtbmfbpcjokbjkaaDoorRpM
namespace Go.Proofs.YtbmfbpcjokbjkaaDoor
open Go.RowKit
set_option linter.unusedVariables false
set_option linter.unusedSimpArgs false
/-- what Split answers, of both. -/
def SAns (s : ByteArray) (w w' : World) (e : Ending) : Prop := ((∃ out P c, SP.sp (s.size + 1) [] s.data.toList = some out ∧ e = .returned (.tuple #[.slice P out.length c, .bool true]) ∧ w'.ownsRow w.heap.size 9 1 (.slice P out.length c) out.length (strS out)) ∨ (SP.sp (s.size + 1) [] s.data.toList = none ∧ e = .returned (.tuple #[.slice none 0 0, .bool false])))
set_option maxHeartbeats 20000000 in
set_option maxRecDepth 100000 in
theorem rsplit_of (hQ : ∀ (s : ByteArray) (hs : s.size ≤ 1073741824) (i : Nat) (hi : i ≤ s.size) (w : World), Calls Tryd.prog 25 #[.string s, .int .i64 (i : Int)] w fun e w' => QAns true s i e ∧ Below w.heap.size w w') (s : ByteArray) (hs : s.size ≤ 1073741824) (w : World) : Calls Tryd.prog 14 #[.string s] w fun e w' => SAns s w w' e ∧ Below w.heap.size w w' := by
  obtain ⟨i9, hi9, hy9, hy10, hy11⟩ := info_parts info9
  have HQ2 : Hid _ := hQ s hs
  have HQ1 : Hid _ := single_any s hs
  have HBL : Hid _ := rblank_any
  clear hQ
  go_enter Tryd.func14, Tryd.ntmps14
  go_wp2
  go_loopw [4, 5] (fun cv cj wr => ∃ (j : Nat) (out : List SP.Bs) (P : Option Addr) (c f : Nat), (j ≤ s.size ∧ wr.ownsRow w.heap.size 9 1 (.slice P out.length c) out.length (strS out) ∧ out.length ≤ j ∧ s.size - j < f ∧ Below w.heap.size w wr) ∧ cv = .slice P out.length c ∧ cj = .int .i64 (j : Int) ∧ SP.sp (s.size + 1) [] s.data.toList = SP.sp f out (s.data.toList.drop j)) (fun _ cj _ => s.size - (intOf cj).toNat)
  case atStart => exact ⟨0, [], none, 0, s.size + 1, ⟨Nat.zero_le _, ⟨rfl, Or.inl ⟨rfl, rfl⟩⟩, Nat.le_refl _, by omega, Below.refl _ _⟩, rfl, rfl, rfl⟩
  case round =>
    obtain ⟨j, out, P, c, f, ⟨hj, hown, hol, hf, hbel⟩, rfl, rfl, hsp⟩ := hrel
    obtain ⟨wx, hwx⟩ : ∃ wx, wx = wr := ⟨_, rfl⟩
    subst hwx
    obtain ⟨f, rfl⟩ : ∃ f', f = f' + 1 := ⟨f - 1, by omega⟩
    obtain ⟨no, hno⟩ : ∃ no, out.length = no := ⟨_, rfl⟩
    have HNO : Hid (out.length = no) := hno
    rw [hno] at hown ⊢
    rw [hno] at hol
    have HOW : Hid (wx.ownsRow w.heap.size 9 1 (.slice P no c) no (strS out)) := hown
    have HB : Hid (Below w.heap.size w wx) := hbel
    have HSP : Hid _ := hsp
    clear hown hsp hno hbel
    go_wp2
    go_loopw [5] (fun cj w1 => ∃ j1 : Nat, (j ≤ j1 ∧ j1 ≤ s.size ∧ SP.skp (s.data.toList.drop j) = SP.skp (s.data.toList.drop j1)) ∧ cj = .int .i64 (j1 : Int) ∧ w1 = wx) (fun cj _ => s.size - (intOf cj).toNat)
    case atStart => exact ⟨j, ⟨Nat.le_refl _, hj, rfl⟩, rfl, rfl⟩
    case round =>
      obtain ⟨j1, ⟨hjj, hj1, hsk⟩, rfl, hw1⟩ := hrel
      rw [hw1]; clear hw1
      have HSK : Hid _ := hsk
      clear hsk
      have hz0 : (0 : Int) ≤ (j1 : Int) := by omega
      by_cases hlt : j1 < s.size
      · have hz1 : (j1 : Int) < (s.size : Int) := by omega
        have hz2 : ¬ (j1 : Int) ≥ (s.size : Int) := by omega
        by_cases hb : SP.bl s[j1] = true
        · have HK : Hid _ := skp_bl s j1 hlt hb
          have hjw : IntKind.i64.wrap ((j1 : Int) + 1) = ((j1 + 1 : Nat) : Int) := by rw [IntKind.wrap_i64] <;> omega
          go_wp2_with fail
          refine (show Calls _ _ _ _ _ from HBL.out _ _).mono ?_
          rintro e wx ⟨rfl, rfl⟩
          go_wp2
          exact ⟨⟨j1 + 1, ⟨by omega, by omega, HSK.out.trans HK.out⟩, rfl, by first | trivial | rfl⟩, by simp [intOf]; omega⟩
        · have hb : SP.bl s[j1] = false := by cases h : SP.bl s[j1] with
            | true => exact absurd h hb
            | false => rfl
          have HEN : Hid _ := end_no s j1 hlt hb
          have hd1 : decide (s.size ≤ j1) = false := by simp; omega
          have HSJ : Hid (SP.skp (s.data.toList.drop j) = s.data.toList.drop j1) := HSK.out.trans (skp_no s j1 hlt hb)
          go_wp2_with fail
          refine (show Calls _ _ _ _ _ from HBL.out _ _).mono ?_
          rintro e wx ⟨rfl, rfl⟩
          go_wp2
          go_loopw [5, 6] (fun cj cw w2 => ∃ (j2 : Nat) (acc : SP.Bs), (j1 ≤ j2 ∧ j2 ≤ s.size ∧ acc.length ≤ j2 ∧ Below wx.heap.size wx w2 ∧ SP.tk [] (s.data.toList.drop j1) = SP.tk acc (s.data.toList.drop j2)) ∧ cj = .int .i64 (j2 : Int) ∧ cw = .string (strB acc)) (fun cj _ _ => s.size - (intOf cj).toNat)
          case atStart => exact ⟨j1, [], ⟨Nat.le_refl _, hj1, by simp, Below.refl _ _, rfl⟩, rfl, rfl⟩
          case round =>
            obtain ⟨j2, acc, ⟨hjk, hj2, hla, hby, htk⟩, rfl, rfl⟩ := hrel
            obtain ⟨wy, hwy⟩ : ∃ wy, wy = wr := ⟨_, rfl⟩
            subst hwy
            have HBY : Hid (Below wx.heap.size wx wy) := hby
            have HTK : Hid _ := htk
            have HOY : Hid (wy.ownsRow w.heap.size 9 1 (.slice P no c) no (strS out)) := own_on HOW.out hby
            have HBW : Hid (Below w.heap.size w wy) := bel_to HB.out hby (Nat.le_refl _)
            have HSA : Hid ((strB acc).size = acc.length) := strB_size acc
            clear hby htk
            have hv0 : (0 : Int) ≤ (j2 : Int) := by omega
            by_cases h2 : j2 < s.size
            · have hv1 : (j2 : Int) < (s.size : Int) := by omega
              by_cases hb2 : SP.bl s[j2] = true
              · have HE2 : Hid _ := end_bl s j2 h2 hb2
                go_wp2_with fail
                refine (show Calls _ _ _ _ _ from HBL.out _ _).mono ?_
                rintro e wy ⟨rfl, rfl⟩
                have HT2 : Hid (SP.tk [] (s.data.toList.drop j1) = some (acc, s.data.toList.drop j2)) := HTK.out.trans (tk_end acc _ HE2.out)
                have HLN : Hid (j1 < j2) := by
                  have h1 := SP.tk_len _ _ _ _ HT2.out HEN.out
                  rw [List.length_drop, List.length_drop, list_len] at h1
                  show _ < _; omega
                have HO3 : Hid ((wy.alloc (.cells #[.string (strB acc)] 9)).ownsRow w.heap.size 9 1 (.slice P no c) no (strS out)) := own_on HOY.out ((Below.refl _ _).alloc (Nat.le_refl _) _)
                have HNC : Hid (∀ a u, [Value.string (strB acc)][a]? = some u → (wy.alloc (.cells #[.string (strB acc)] 9)).cell? ((⟨wy.heap.size, 0, none⟩ : Addr).add a) = some u) := fun a u ha => by
                  match a, ha with
                  | 0, ha => simp at ha; subst ha; rw [Addr.add_lit]; exact (row1 (one_alloc wy (.cells #[.string (strB acc)] 9))).1
                go_upto_region 20 with fail
                go_wp2_with (at_builtin; go_must (refine wpList_append_own _ rfl _ _ 33 rfl w.heap.size 9 i9 (.string ⟨#[]⟩) 1 16 Tryd.underlying33 hi9 hy9 hy10 hy11 rfl (by decide) (.slice P no c) no (strS out) rfl HO3.out ⟨wy.heap.size, 0, none⟩ 1 1 [.string (strB acc)] rfl rfl HNC.out ?ta1 ?ta2 ?ta3 ?ta4 ?_))
                case ta1 => first | (intro u hu; simp at hu; subst hu; rfl) | rfl
                case ta2 => unfold maxLen; omega
                case ta3 => omega
                case ta4 => have := HBW.out.size; simp; omega
                intro v9 w9 ho9 hg9 hn9
                obtain ⟨P9, k9, hf9⟩ := own_form ho9
                subst hf9
                have HO9 : Hid (w9.ownsRow w.heap.size 9 1 (.slice P9 (no + 1) k9) (no + 1) (strS (out ++ [acc]))) := by show World.ownsRow _ _ _ _ _ _ _; rw [strS_snoc]; exact ho9
                have HB9 : Hid (Below w.heap.size w w9) := (HBW.out.alloc HBW.out.size _).grown hg9 (by have := HBW.out.size; simp; omega) (fun b hb => own_block HO3.out b hb)
                clear ho9 hg9 hn9
                go_wp2
                refine ⟨⟨j2, out ++ [acc], P9, k9, f, ⟨by omega, by rw [List.length_append, HNO.out]; exact HO9.out, by rw [List.length_append, HNO.out]; simp; have := HLN.out; omega, by have := HLN.out; omega, HB9.out⟩, by rw [List.length_append, HNO.out]; rfl, rfl, ?_⟩, by simp [intOf]; have := HLN.out; omega⟩
                rw [HSP.out]; exact sp_word f out _ _ HSJ.out HEN.out _ _ HT2.out
              · have hb2 : SP.bl s[j2] = false := by cases h : SP.bl s[j2] with
                  | true => exact absurd h hb2
                  | false => rfl
                have HB2 : Hid (SP.bl s[j2] = false) := hb2
                obtain ⟨j3, hj3⟩ : ∃ j3, j2 + 1 = j3 := ⟨_, rfl⟩
                have hjw : IntKind.i64.wrap ((j2 : Int) + 1) = (j3 : Int) := by rw [IntKind.wrap_i64] <;> omega
                by_cases h34 : s[j2].toNat = 34
                · have e1 : ((s[j2].toNat : Int) != 34) = false := by simp; omega
                  have e2 : ((s[j2].toNat : Int) == 34) = true := by simp; omega
                  have HTQ : Hid _ := tk_q true acc s j2 h2 hb2 h34
                  rw [hj3] at HTQ
                  clear h34
                  go_wp2_with fail
                  refine (show Calls _ _ _ _ _ from HBL.out _ _).mono ?_
                  rintro e wy ⟨rfl, rfl⟩
                  go_wp2_with fail
                  refine (show Calls _ _ _ _ _ from HQ2.out j3 (by omega) _).mono ?_
                  rintro e w2 ⟨⟨a, je, hq, ⟨l1, l2, l3⟩, rfl⟩ | ⟨hq, rfl⟩, hb3⟩
                  · have HQA : Hid _ := hq
                    have HB3 : Hid (Below wx.heap.size wx w2) := bel_to HBY.out hb3 (Nat.le_refl _)
                    have HBW3 : Hid (Below w.heap.size w w2) := bel_to HB.out HB3.out (Nat.le_refl _)
                    have hn0 : ¬ (je : Int) < 0 := by omega
                    have hz5 : (0 : Int) ≤ (je : Int) := by omega
                    clear hq hb3
                    by_cases h4 : je < s.size
                    · have hz6 : (je : Int) < (s.size : Int) := by omega
                      by_cases hb4 : SP.bl s[je] = true
                      · have HT4 : Hid (SP.tk acc (s.data.toList.drop j2) = SP.tk (acc ++ a) (s.data.toList.drop je)) := by
                          show _ = _
                          rw [HTQ.out, HQA.out]; simp only; rw [end_bl s je h4 hb4, tk_end _ _ (end_bl s je h4 hb4)]; rfl
                        go_wp2_with fail
                        refine (show Calls _ _ _ _ _ from HBL.out _ _).mono ?_
                        rintro e w2 ⟨rfl, rfl⟩
                        have hmx : ¬ 9223372036854775807 < (strB acc).size + (strB a).size := by rw [strB_size, strB_size]; omega
                        go_wp2
                        refine ⟨⟨je, acc ++ a, ⟨by omega, by omega, by rw [List.length_append]; omega, HB3.out, HTK.out.trans HT4.out⟩, rfl, ?_⟩, by simp [intOf]; omega⟩
                        rw [← strB_two]
                      · have hb4 : SP.bl s[je] = false := by cases h : SP.bl s[je] with
                          | true => exact absurd h hb4
                          | false => rfl
                        have HT4 : Hid (SP.tk [] (s.data.toList.drop j1) = none) := by
                          show _ = _
                          rw [HTK.out, HTQ.out, HQA.out]; simp only; rw [end_no s je h4 hb4]; rfl
                        go_wp2_with fail
                        refine (show Calls _ _ _ _ _ from HBL.out _ _).mono ?_
                        rintro e w2 ⟨rfl, rfl⟩
                        go_wp2
                        go_returns
                        exact ⟨Or.inr ⟨by rw [HSP.out]; exact sp_bad f out _ _ HSJ.out HEN.out HT4.out, rfl⟩, HBW3.out⟩
                    · have hz6 : ¬ (je : Int) < (s.size : Int) := by omega
                      have HT4 : Hid (SP.tk acc (s.data.toList.drop j2) = SP.tk (acc ++ a) (s.data.toList.drop je)) := by
                        show _ = _
                        rw [HTQ.out, HQA.out]; simp only; rw [end_nil s je h4, tk_end _ _ (end_nil s je h4)]; rfl
                      have hmx : ¬ 9223372036854775807 < (strB acc).size + (strB a).size := by rw [strB_size, strB_size]; omega
                      go_wp2
                      refine ⟨⟨je, acc ++ a, ⟨by omega, by omega, by rw [List.length_append]; omega, HB3.out, HTK.out.trans HT4.out⟩, rfl, ?_⟩, by simp [intOf]; omega⟩
                      rw [← strB_two]
                  · have HT4 : Hid (SP.tk [] (s.data.toList.drop j1) = none) := by
                      show _ = _
                      rw [HTK.out, HTQ.out, hq]
                    have HBW3 : Hid (Below w.heap.size w w2) := bel_to HBW.out hb3 (Nat.le_refl _)
                    clear hq hb3
                    go_wp2
                    go_returns
                    exact ⟨Or.inr ⟨by rw [HSP.out]; exact sp_bad f out _ _ HSJ.out HEN.out HT4.out, rfl⟩, HBW3.out⟩
                · by_cases h39 : s[j2].toNat = 39
                  · have e1 : ((s[j2].toNat : Int) != 34) = true := by simp; omega
                    have e1b : ((s[j2].toNat : Int) != 39) = false := by simp; omega
                    have e2 : ((s[j2].toNat : Int) == 34) = false := by simp; omega
                    have HTQ : Hid _ := tk_q false acc s j2 h2 hb2 h39
                    rw [hj3] at HTQ
                    clear h34 h39
                    go_wp2_with fail
                    refine (show Calls _ _ _ _ _ from HBL.out _ _).mono ?_
                    rintro e wy ⟨rfl, rfl⟩
                    go_wp2_with fail
                    refine (show Calls _ _ _ _ _ from HQ1.out j3 (by omega) _).mono ?_
                    rintro e w2 ⟨⟨a, je, hq, ⟨l1, l2, l3⟩, rfl⟩ | ⟨hq, rfl⟩, hb3⟩
                    · have HQA : Hid _ := hq
                      have HB3 : Hid (Below wx.heap.size wx w2) := bel_to HBY.out hb3 (Nat.le_refl _)
                      have HBW3 : Hid (Below w.heap.size w w2) := bel_to HB.out HB3.out (Nat.le_refl _)
                      have hn0 : ¬ (je : Int) < 0 := by omega
                      have hz5 : (0 : Int) ≤ (je : Int) := by omega
                      clear hq hb3
                      by_cases h4 : je < s.size
                      · have hz6 : (je : Int) < (s.size : Int) := by omega
                        by_cases hb4 : SP.bl s[je] = true
                        · have HT4 : Hid (SP.tk acc (s.data.toList.drop j2) = SP.tk (acc ++ a) (s.data.toList.drop je)) := by
                            show _ = _
                            rw [HTQ.out, HQA.out]; simp only; rw [end_bl s je h4 hb4, tk_end _ _ (end_bl s je h4 hb4)]; rfl
                          go_wp2_with fail
                          refine (show Calls _ _ _ _ _ from HBL.out _ _).mono ?_
                          rintro e w2 ⟨rfl, rfl⟩
                          have hmx : ¬ 9223372036854775807 < (strB acc).size + (strB a).size := by rw [strB_size, strB_size]; omega
                          go_wp2
                          refine ⟨⟨je, acc ++ a, ⟨by omega, by omega, by rw [List.length_append]; omega, HB3.out, HTK.out.trans HT4.out⟩, rfl, ?_⟩, by simp [intOf]; omega⟩
                          rw [← strB_two]
                        · have hb4 : SP.bl s[je] = false := by cases h : SP.bl s[je] with
                            | true => exact absurd h hb4
                            | false => rfl
                          have HT4 : Hid (SP.tk [] (s.data.toList.drop j1) = none) := by
                            show _ = _
                            rw [HTK.out, HTQ.out, HQA.out]; simp only; rw [end_no s je h4 hb4]; rfl
                          go_wp2_with fail
                          refine (show Calls _ _ _ _ _ from HBL.out _ _).mono ?_
                          rintro e w2 ⟨rfl, rfl⟩
                          go_wp2
                          go_returns
                          exact ⟨Or.inr ⟨by rw [HSP.out]; exact sp_bad f out _ _ HSJ.out HEN.out HT4.out, rfl⟩, HBW3.out⟩
                      · have hz6 : ¬ (je : Int) < (s.size : Int) := by omega
                        have HT4 : Hid (SP.tk acc (s.data.toList.drop j2) = SP.tk (acc ++ a) (s.data.toList.drop je)) := by
                          show _ = _
                          rw [HTQ.out, HQA.out]; simp only; rw [end_nil s je h4, tk_end _ _ (end_nil s je h4)]; rfl
                        have hmx : ¬ 9223372036854775807 < (strB acc).size + (strB a).size := by rw [strB_size, strB_size]; omega
                        go_wp2
                        refine ⟨⟨je, acc ++ a, ⟨by omega, by omega, by rw [List.length_append]; omega, HB3.out, HTK.out.trans HT4.out⟩, rfl, ?_⟩, by simp [intOf]; omega⟩
                        rw [← strB_two]
                    · have HT4 : Hid (SP.tk [] (s.data.toList.drop j1) = none) := by
                        show _ = _
                        rw [HTK.out, HTQ.out, hq]
                      have HBW3 : Hid (Below w.heap.size w w2) := bel_to HBW.out hb3 (Nat.le_refl _)
                      clear hq hb3
                      go_wp2
                      go_returns
                      exact ⟨Or.inr ⟨by rw [HSP.out]; exact sp_bad f out _ _ HSJ.out HEN.out HT4.out, rfl⟩, HBW3.out⟩
                  · have e1 : ((s[j2].toNat : Int) != 34) = true := by simp; omega
                    have e1b : ((s[j2].toNat : Int) != 39) = true := by simp; omega
                    have HT1 : Hid _ := tk_plain acc s j2 h2 hb2 h34 h39
                    have HS1 : Hid _ := strB_one acc s j2 h2
                    rw [hj3] at HT1 HS1
                    have hz3 : (j2 : Int) ≤ (j3 : Int) := by omega
                    have hz4 : (j3 : Int) ≤ (s.size : Int) := by omega
                    clear h34 h39
                    go_wp2_with fail
                    refine (show Calls _ _ _ _ _ from HBL.out _ _).mono ?_
                    rintro e wy ⟨rfl, rfl⟩
                    have hmx : ¬ 9223372036854775807 < (strB acc).size + (s.extract j2 j3).size := by rw [strB_size, ext_size s j2 j3 (by omega)]; omega
                    go_wp2
                    refine ⟨⟨j3, acc ++ [s[j2]], ⟨by omega, by omega, by rw [List.length_append]; simp; omega, HBY.out, HTK.out.trans HT1.out⟩, rfl, ?_⟩, by simp [intOf]; omega⟩
                    first | rw [← HS1.out] | (rw [← HS1.out]; rfl)
            · have hv1 : ¬ (j2 : Int) < (s.size : Int) := by omega
              have HE2 : Hid _ := end_nil s j2 h2
              have HT2 : Hid (SP.tk [] (s.data.toList.drop j1) = some (acc, s.data.toList.drop j2)) := HTK.out.trans (tk_end acc _ HE2.out)
              have HLN : Hid (j1 < j2) := by
                have h1 := SP.tk_len _ _ _ _ HT2.out HEN.out
                rw [List.length_drop, List.length_drop, list_len] at h1
                show _ < _; omega
              have HO3 : Hid ((wy.alloc (.cells #[.string (strB acc)] 9)).ownsRow w.heap.size 9 1 (.slice P no c) no (strS out)) := own_on HOY.out ((Below.refl _ _).alloc (Nat.le_refl _) _)
              have HNC : Hid (∀ a u, [Value.string (strB acc)][a]? = some u → (wy.alloc (.cells #[.string (strB acc)] 9)).cell? ((⟨wy.heap.size, 0, none⟩ : Addr).add a) = some u) := fun a u ha => by
                match a, ha with
                | 0, ha => simp at ha; subst ha; rw [Addr.add_lit]; exact (row1 (one_alloc wy (.cells #[.string (strB acc)] 9))).1
              go_upto_region 20 with fail
              go_wp2_with (at_builtin; go_must (refine wpList_append_own _ rfl _ _ 33 rfl w.heap.size 9 i9 (.string ⟨#[]⟩) 1 16 Tryd.underlying33 hi9 hy9 hy10 hy11 rfl (by decide) (.slice P no c) no (strS out) rfl HO3.out ⟨wy.heap.size, 0, none⟩ 1 1 [.string (strB acc)] rfl rfl HNC.out ?tb1 ?tb2 ?tb3 ?tb4 ?_))
              case tb1 => first | (intro u hu; simp at hu; subst hu; rfl) | rfl
              case tb2 => unfold maxLen; omega
              case tb3 => omega
              case tb4 => have := HBW.out.size; simp; omega
              intro v9 w9 ho9 hg9 hn9
              obtain ⟨P9, k9, hf9⟩ := own_form ho9
              subst hf9
              have HO9 : Hid (w9.ownsRow w.heap.size 9 1 (.slice P9 (no + 1) k9) (no + 1) (strS (out ++ [acc]))) := by show World.ownsRow _ _ _ _ _ _ _; rw [strS_snoc]; exact ho9
              have HB9 : Hid (Below w.heap.size w w9) := (HBW.out.alloc HBW.out.size _).grown hg9 (by have := HBW.out.size; simp; omega) (fun b hb => own_block HO3.out b hb)
              clear ho9 hg9 hn9
              go_wp2
              refine ⟨⟨j2, out ++ [acc], P9, k9, f, ⟨by omega, by rw [List.length_append, HNO.out]; exact HO9.out, by rw [List.length_append, HNO.out]; simp; have := HLN.out; omega, by have := HLN.out; omega, HB9.out⟩, by rw [List.length_append, HNO.out]; rfl, rfl, ?_⟩, by simp [intOf]; have := HLN.out; omega⟩
              rw [HSP.out]; exact sp_word f out _ _ HSJ.out HEN.out _ _ HT2.out
      · have hz1 : ¬ (j1 : Int) < (s.size : Int) := by omega
        have hz2 : (j1 : Int) ≥ (s.size : Int) := by omega
        have HEN : Hid (SP.skp (s.data.toList.drop j) = []) := by show _ = _; rw [HSK.out, List.drop_eq_nil_of_le (by rw [list_len]; omega)]; rfl
        go_wp2
        go_returns
        refine ⟨Or.inl ⟨out, P, c, by rw [HSP.out]; exact sp_done f out _ HEN.out, ?_, ?_⟩, HB.out⟩
        · rw [HNO.out]; rfl
        · rw [HNO.out]; exact HOW.out
end Go.Proofs.YtbmfbpcjokbjkaaDoor
