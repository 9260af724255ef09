import Derived.Test.YtbmfbpcjokbjkaaDoorGG
namespace Go.Proofs.YtbmfbpcjokbjkaaDoor
open Go.RowKit Vi
set_option linter.unusedVariables false
set_option linter.unusedSimpArgs false
/-- read, in a word's bytes; 'next' reads the word behind it. -/
def rdBody (next : PS → SP.Bs → RO) (S : PS) (s : SP.Bs) : RO :=
  if s.length + S.part.length < S.size.toNat + 2 then ⟨{ S with st := 4, part := S.part ++ s }, [], [], [], 0⟩
  else if 0 < S.more - 1 then next { S with st := 4, part := [], words := S.words ++ [(S.part ++ s.take (S.size.toNat + 2 - S.part.length)).take S.size.toNat], more := S.more - 1 } (s.drop (S.size.toNat + 2 - S.part.length))
  else ⟨{ S with st := 4, part := [], words := S.words ++ [(S.part ++ s.take (S.size.toNat + 2 - S.part.length)).take S.size.toNat], more := S.more - 1 }, s.drop (S.size.toNat + 2 - S.part.length), S.words ++ [(S.part ++ s.take (S.size.toNat + 2 - S.part.length)).take S.size.toNat], [], 2⟩
/-- what holds of a parser ahead of a word. -/
structure WInv (S : PS) : Prop where
  m1 : 1 ≤ S.more
  mw : (S.words.length : Int) + S.more ≤ 1048576
  t0 : 0 ≤ S.total
  t1 : S.total ≤ 33554432
set_option maxRecDepth 20000 in
set_option maxHeartbeats 4000000 in
theorem seg3 (B q r : Nat) (pv0 wv0 pv wv : Value) (S : PS) (s : ByteArray) (u : Nat → Value) (w0 w : World) (h : PA B w q pv wv S) (hM : Mv w0 w q pv0 wv0 pv wv) (hr0 : w0.heap.size ≤ r) (hrow : w.heap[r]? = some (.cells #[.slice none 0 0, .string ⟨#[]⟩] 36)) (hW : WInv S) (sz : Nat) (hz : S.size = (sz : Int)) (hzl : sz ≤ 524288) (hn : S.part.length < sz + 2) (hs : s.size ≤ 1073741824)
    (next : PS → SP.Bs → RO) (R : RO) (hR : rdBody next S s.data.toList = R) (post : Ending → World → Prop) (J : Nat → Act → World → Prop) (hpost : ∀ e w', RdIs B w0 w' q pv0 wv0 e R → post e w')
    (hJ : ∀ a' w' s' pv' wv' S', IsFr a' q s' r → PA B w' q pv' wv' S' → Mv w0 w' q pv0 wv0 pv' wv' → w'.heap[r]? = some (.cells #[.slice none 0 0, .string ⟨#[]⟩] 36) → WInv S' → S'.part = [] → s'.size < s.size → next S' s'.data.toList = R → J 1 a' w') :
    (scopeTl Tryd.f17 3).wp Tryd.prog (jumps J (bodyPost Tryd.prog Tryd.f17 post)) (Fr q s r u) w := by
  have HP : Hid _ := hpost
  have HJ : Hid _ := hJ
  have HW : Hid _ := hW
  obtain ⟨c0, c1, c2, c3, c4, c5, c6, cf⟩ := h.row.cells
  obtain ⟨W1, hW1⟩ : ∃ W, W = w.setCell ⟨q, 0, none⟩ (.int .i64 4) := ⟨_, rfl⟩
  have HS : Hid (PA B W1 q pv wv { S with st := 4 } ∧ Mv w W1 q pv wv pv wv) := by rw [hW1]; exact h.st0 4
  have HR1 : Hid _ := HS.out.2.req h hrow
  have HM1 : Hid _ := hM.trans HS.out.2
  have hzn : S.size.toNat = sz := by rw [hz]; rfl
  unfold rdBody at hR
  rw [hzn, list_len] at hR
  have HRR : Hid _ := hR
  have HZ : Hid _ := hz
  obtain ⟨Q, hQ⟩ : ∃ Q, Q = jumps J (bodyPost Tryd.prog Tryd.f17 post) := ⟨_, rfl⟩
  rw [← hQ]
  have HQ : Hid _ := hQ
  clear hQ hpost h hM hrow hR hzn hJ
  by_cases hlt : s.size + S.part.length < sz + 2
  · have HTS : Hid _ := toSize_wait B q sz pv wv { S with st := 4 } s hz hzl hs hlt W1 HS.out.1
    have HLT : Hid _ := hlt
    clear hlt hW hz
    simp only [scopeTl, scopeTo, scopeIn, Tryd.f17, findLabel, Nat.reduceBEq, Bool.false_eq_true, ↓reduceIte, Option.getD_some, Option.getD_none, Fr]
    go_wp2_with fail
    rw [← hW1]
    refine (show Calls _ _ _ _ _ from HTS.out).mono ?_
    rintro e w2 ⟨rfl, pv2, hp2, hm2⟩
    have HP2 : Hid _ := hp2
    have HM2 : Hid _ := HM1.out.trans hm2
    have HR2 : Hid _ := hm2.req HS.out.1 HR1.out
    clear hp2 hm2 c0 c1 c2 c3 c4 c5 c6 cf hW1
    go_wp2_with fail
    refine (stop_wait w2).mono ?_
    rintro e w3 ⟨rfl, hb3⟩
    have HP3 : Hid _ := HP2.out.on hb3
    have HM3 : Hid _ := HM2.out.trans (mv_bel hb3)
    have HR3 : Hid _ := keep_row HR2.out hb3
    obtain ⟨z0, z1, zf⟩ := prow2 HR3.out
    clear hb3
    go_wp2
    rw [HQ.out]
    have e1 := HRR.out
    rw [if_pos HLT.out] at e1
    exact rd_fin B q r pv0 wv0 _ wv w0 w3 R _ _ (by rw [← e1]; exact HP3.out) HM3.out hr0 HR3.out (.slice none 0 0) ⟨#[]⟩ ⟨#[]⟩ 0 (by rw [← e1]; rfl) (by rw [← e1]; rfl) (by rw [← e1]) (by rw [← e1]; exact own_nil) _ rfl rfl rfl rfl post J HP.out
  · obtain ⟨m, hm⟩ : ∃ m, sz + 2 - S.part.length = m := ⟨_, rfl⟩
    have hm1 : m + S.part.length = sz + 2 := by omega
    have hms : m ≤ s.size := by omega
    have hm0 : 0 < m := by omega
    have HTS : Hid _ := toSize_yes B q sz m pv wv { S with st := 4 } s hz hzl hs hm1 hms ⟨by have := hW.m1; show 0 ≤ S.more; omega, by have := hW.mw; show S.more ≤ _; omega⟩ (by have := hW.mw; have := hW.m1; show S.words.length ≤ _; omega) W1 HS.out.1
    have HR0 := HRR.out
    rw [if_neg hlt, hm] at HR0
    have HRM : Hid _ := HR0
    obtain ⟨mo, hmo⟩ : ∃ mo, S.more - 1 = mo := ⟨_, rfl⟩
    have HMO : Hid _ := hmo
    have hmo0 : 0 ≤ mo := by have := hW.m1; omega
    have hmo1 : mo ≤ 1048576 := by have := hW.mw; omega
    have hsx : (s.extract m s.size).size < s.size := by rw [ext_size _ _ _ (Nat.le_refl _)]; omega
    have HSX : Hid _ := hsx
    clear hlt hW hz HR0 hm hmo hsx
    simp only [scopeTl, scopeTo, scopeIn, Tryd.f17, findLabel, Nat.reduceBEq, Bool.false_eq_true, ↓reduceIte, Option.getD_some, Option.getD_none, Fr]
    go_wp2_with fail
    rw [← hW1]
    refine (show Calls _ _ _ _ _ from HTS.out).mono ?_
    rintro e w2 ⟨rfl, pv2, wv2, hp2, hm2⟩
    obtain ⟨PW, cw, hfw⟩ := own_form hp2.wo
    obtain ⟨nw, hnw⟩ : ∃ nw, (S.words ++ [(S.part ++ s.data.toList.take m).take sz]).length = nw := ⟨_, rfl⟩
    dsimp only at hfw
    rw [hnw] at hfw
    subst hfw
    have HNW : Hid _ := hnw
    clear hnw
    have HP2 : Hid _ := hp2
    have HM2 : Hid _ := HM1.out.trans hm2
    have HR2 : Hid _ := hm2.req HS.out.1 HR1.out
    clear hp2 hm2 c0 c1 c2 c3 c4 c5 c6 cf hW1
    obtain ⟨b0, b1, b2, b3, b4, b5, b6, bf⟩ := HP2.out.row.cells
    dsimp only at b0 b1 b2 b3 b4 b5 b6
    rw [HMO.out] at b4
    obtain ⟨z0, z1, zf⟩ := prow2 HR2.out
    by_cases hmp : 0 < mo
    · have HMP : Hid _ := hmp
      go_wp2
      go_step3
      show Q _ _ _
      rw [HQ.out, jumps_goto]
      have e1 := HRM.out
      rw [if_pos (by rw [HMO.out]; exact HMP.out)] at e1
      refine HJ.out _ _ (s.extract m s.size) _ _ _ rfl HP2.out HM2.out HR2.out ⟨?_, ?_, HW.out.t0, HW.out.t1⟩ rfl HSX.out ?_
      · show 1 ≤ S.more - 1
        rw [HMO.out]; have := HMP.out; omega
      · show ((S.words ++ [_]).length : Int) + (S.more - 1) ≤ 1048576
        rw [List.length_append]; have := HW.out.mw; simp; omega
      · rw [← rest_str, strB_list]; exact e1
    · have HMP : Hid _ := hmp
      go_upto_region 33 with fail
      go_region
      all_goals
        go_wp2
        rw [HQ.out]
        have e1 := HRM.out
        rw [if_neg (by rw [HMO.out]; exact HMP.out)] at e1
        exact rd_fin B q r pv0 wv0 _ _ w0 w2.drew R _ _ (by rw [← e1]; exact HP2.out.drew) (HM2.out.trans (mv_bel (Below.refl _ _).drew)) hr0 HR2.out (.slice PW nw cw) (s.extract m s.size) ⟨#[]⟩ 2 (by rw [← e1]; exact rest_str _ _) (by rw [← e1]; rfl) (by rw [← e1]) (by rw [← e1]; exact HP2.out.drew.wo) _ rfl rfl rfl rfl post J HP.out
end Go.Proofs.YtbmfbpcjokbjkaaDoor
