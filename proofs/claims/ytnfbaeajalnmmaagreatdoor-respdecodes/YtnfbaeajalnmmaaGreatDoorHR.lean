import Derived.Test.YtnfbaeajalnmmaaGreatDoorGG
namespace Go.Proofs.YtnfbaeajalnmmaaGreatDoor
open Go.RowKit Vi
set_option linter.unusedVariables false
set_option linter.unusedSimpArgs false
/-- read, in a word's bytes; 'next' reads the word behind it. -/
def rdBody (next : PS → SP.Bs → RO) (S : PS) (s : SP.Bs) : RO :=
  if s.length + S.part.length < S.size.toNat + 2 then ⟨{ S with st := 4, part := S.part ++ s }, [], [], [], 0⟩
  else if 0 < S.more - 1 then next { S with st := 4, part := [], words := S.words ++ [(S.part ++ s.take (S.size.toNat + 2 - S.part.length)).take S.size.toNat], more := S.more - 1 } (s.drop (S.size.toNat + 2 - S.part.length))
  else ⟨{ S with st := 4, part := [], words := S.words ++ [(S.part ++ s.take (S.size.toNat + 2 - S.part.length)).take S.size.toNat], more := S.more - 1 }, s.drop (S.size.toNat + 2 - S.part.length), S.words ++ [(S.part ++ s.take (S.size.toNat + 2 - S.part.length)).take S.size.toNat], [], 2⟩
/-- what holds of a parser ahead of a word. -/
structure WInv (S : PS) : Prop where
  m1 : 1 ≤ S.more
  mw : (S.words.length : Int) + S.more ≤ 1048576
  t0 : 0 ≤ S.total
  t1 : S.total ≤ 33554432
set_option maxRecDepth 20000 in
set_option maxHeartbeats 4000000 in
theorem seg3 (B q r : Nat) (pv0 wv0 pv wv : Value) (S : PS) (s : ByteArray) (u : Nat → Value) (w0 w : World) (h : PA B w q pv wv S) (hM : Mv w0 w q pv0 wv0 pv wv) (hr0 : w0.heap.size ≤ r) (hrow : w.heap[r]? = some (.cells #[.slice none 0 0, .string ⟨#[]⟩] 47)) (hW : WInv S) (sz : Nat) (hz : S.size = (sz : Int)) (hzl : sz ≤ 524288) (hn : S.part.length < sz + 2) (hs : s.size ≤ 1073741824)
    (next : PS → SP.Bs → RO) (R : RO) (hR : rdBody next S s.data.toList = R) (post : Ending → World → Prop) (J : Nat → Act → World → Prop) (hpost : ∀ e w', RdIs B w0 w' q pv0 wv0 e R → post e w')
    (hJ : ∀ a' w' s' pv' wv' S', IsFr a' q s' r → PA B w' q pv' wv' S' → Mv w0 w' q pv0 wv0 pv' wv' → w'.heap[r]? = some (.cells #[.slice none 0 0, .string ⟨#[]⟩] 47) → WInv S' → S'.part = [] → s'.size < s.size → next S' s'.data.toList = R → J 1 a' w') :
    (scopeTl Tryz.f25 3).wp Tryz.prog (jumps J (bodyPost Tryz.prog Tryz.f25 post)) (Fr q s r u) w := by
  have HP : Hid _ := hpost
  have HJ : Hid _ := hJ
  have HW : Hid _ := hW
  obtain ⟨c0, c1, c2, c3, c4, c5, c6, cf⟩ := h.row.cells
  obtain ⟨W1, hW1⟩ : ∃ W, W = w.setCell ⟨q, 0, none⟩ (.int .i64 4) := ⟨_, rfl⟩
  have HS : Hid (PA B W1 q pv wv { S with st := 4 } ∧ Mv w W1 q pv wv pv wv) := by rw [hW1]; exact h.st0 4
  have HR1 : Hid _ := HS.out.2.req h hrow
  have HM1 : Hid _ := hM.trans HS.out.2
  have hzn : S.size.toNat = sz := by rw [hz]; rfl
  unfold rdBody at hR
  rw [hzn, list_len] at hR
  have HRR : Hid _ := hR
  have HZ : Hid _ := hz
  obtain ⟨Q, hQ⟩ : ∃ Q, Q = jumps J (bodyPost Tryz.prog Tryz.f25 post) := ⟨_, rfl⟩
  rw [← hQ]
  have HQ : Hid _ := hQ
  clear hQ hpost h hM hrow hR hzn hJ
  by_cases hlt : s.size + S.part.length < sz + 2
  · have HTS : Hid _ := toSize_wait B q sz pv wv { S with st := 4 } s hz hzl hs hlt W1 HS.out.1
    have HLT : Hid _ := hlt
    clear hlt hW hz
    simp only [scopeTl, scopeTo, scopeIn, Tryz.f25, findLabel, Nat.reduceBEq, Bool.false_eq_true, ↓reduceIte, Option.getD_some, Option.getD_none, Fr]
    go_wp2_with fail
    rw [← hW1]
    refine (show Calls _ _ _ _ _ from HTS.out).mono ?_
    rintro e w2 ⟨rfl, pv2, hp2, hm2⟩
    have HP2 : Hid _ := hp2
    have HM2 : Hid _ := HM1.out.trans hm2
    have HR2 : Hid _ := hm2.req HS.out.1 HR1.out
    clear hp2 hm2 c0 c1 c2 c3 c4 c5 c6 cf hW1
    go_wp2_with fail
    refine (stop_wait w2).mono ?_
    rintro e w3 ⟨rfl, hb3⟩
    have HP3 : Hid _ := HP2.out.on hb3
    have HM3 : Hid _ := HM2.out.trans (mv_bel hb3)
    have HR3 : Hid _ := keep_row HR2.out hb3
    obtain ⟨z0, z1, zf⟩ := prow2 HR3.out
    clear hb3
    go_wp2
    rw [HQ.out]
    have e1 := HRR.out
    rw [if_pos HLT.out] at e1
    exact rd_fin B q r pv0 wv0 _ wv w0 w3 R _ _ (by rw [← e1]; exact HP3.out) HM3.out hr0 HR3.out (.slice none 0 0) ⟨#[]⟩ ⟨#[]⟩ 0 (by rw [← e1]; rfl) (by rw [← e1]; rfl) (by rw [← e1]) (by rw [← e1]; exact own_nil) _ rfl rfl rfl rfl post J HP.out
  · obtain ⟨m, hm⟩ : ∃ m, sz + 2 - S.part.length = m := ⟨_, rfl⟩
    have hm1 : m + S.part.length = sz + 2 := by omega
    have hms : m ≤ s.size := by omega
    have hm0 : 0 < m := by omega
    have HTS : Hid _ := toSize_yes B q sz m pv wv { S with st := 4 } s hz hzl hs hm1 hms ⟨by have := hW.m1; show 0 ≤ S.more; omega, by have := hW.mw; show S.more ≤ _; omega⟩ (by have := hW.mw; have := hW.m1; show S.words.length ≤ _; omega) W1 HS.out.1
    have HR0 := HRR.out
    rw [if_neg hlt, hm] at HR0
    have HRM : Hid _ := HR0
    obtain ⟨mo, hmo⟩ : ∃ mo, S.more - 1 = mo := ⟨_, rfl⟩
    have HMO : Hid _ := hmo
    have hmo0 : 0 ≤ mo := by have := hW.m1; omega
    have hmo1 : mo ≤ 1048576 := by have := hW.mw; omega
    have hsx : (s.extract m s.size).size < s.size := by rw [ext_size _ _ _ (Nat.le_refl _)]; omega
    have HSX : Hid _ := hsx
    clear hlt hW hz HR0 hm hmo hsx
    simp only [scopeTl, scopeTo, scopeIn, Tryz.f25, findLabel, Nat.reduceBEq, Bool.false_eq_true, ↓reduceIte, Option.getD_some, Option.getD_none, Fr]
    go_wp2_with fail
    rw [← hW1]
    refine (show Calls _ _ _ _ _ from HTS.out).mono ?_
    rintro e w2 ⟨rfl, pv2, wv2, hp2, hm2⟩
    obtain ⟨PW, cw, hfw⟩ := own_form hp2.wo
    obtain ⟨nw, hnw⟩ : ∃ nw, (S.words ++ [(S.part ++ s.data.toList.take m).take sz]).length = nw := ⟨_, rfl⟩
    dsimp only at hfw
    rw [hnw] at hfw
    subst hfw
    have HNW : Hid _ := hnw
    clear hnw
    have HP2 : Hid _ := hp2
    have HM2 : Hid _ := HM1.out.trans hm2
    have HR2 : Hid _ := hm2.req HS.out.1 HR1.out
    clear hp2 hm2 c0 c1 c2 c3 c4 c5 c6 cf hW1
    obtain ⟨b0, b1, b2, b3, b4, b5, b6, bf⟩ := HP2.out.row.cells
    dsimp only at b0 b1 b2 b3 b4 b5 b6
    rw [HMO.out] at b4
    obtain ⟨z0, z1, zf⟩ := prow2 HR2.out
    by_cases hmp : 0 < mo
    · have HMP : Hid _ := hmp
      go_wp2
      go_step3
      show Q _ _ _
      rw [HQ.out, jumps_goto]
      have e1 := HRM.out
      rw [if_pos (by rw [HMO.out]; exact HMP.out)] at e1
      refine HJ.out _ _ (s.extract m s.size) _ _ _ rfl HP2.out HM2.out HR2.out ⟨?_, ?_, HW.out.t0, HW.out.t1⟩ rfl HSX.out ?_
      · show 1 ≤ S.more - 1
        rw [HMO.out]; have := HMP.out; omega
      · show ((S.words ++ [_]).length : Int) + (S.more - 1) ≤ 1048576
        rw [List.length_append]; have := HW.out.mw; simp; omega
      · rw [← rest_str, strB_list]; exact e1
    · have HMP : Hid _ := hmp
      go_upto_region 33 with fail
      go_region
      all_goals
        go_wp2
        rw [HQ.out]
        have e1 := HRM.out
        rw [if_neg (by rw [HMO.out]; exact HMP.out)] at e1
        exact rd_fin B q r pv0 wv0 _ _ w0 w2.drew R _ _ (by rw [← e1]; exact HP2.out.drew) (HM2.out.trans (mv_bel (Below.refl _ _).drew)) hr0 HR2.out (.slice PW nw cw) (s.extract m s.size) ⟨#[]⟩ 2 (by rw [← e1]; exact rest_str _ _) (by rw [← e1]; rfl) (by rw [← e1]) (by rw [← e1]; exact HP2.out.drew.wo) _ rfl rfl rfl rfl post J HP.out
end Go.Proofs.YtnfbaeajalnmmaaGreatDoor
namespace Go.Proofs.YtnfbaeajalnmmaaGreatDoor
open Go.RowKit Vi
set_option linter.unusedVariables false
set_option linter.unusedSimpArgs false
def longLen : ByteArray := ⟨#[80, 114, 111, 116, 111, 99, 111, 108, 32, 101, 114, 114, 111, 114, 58, 32, 116, 111, 111, 32, 98, 105, 103, 32, 98, 117, 108, 107, 32, 99, 111, 117, 110, 116, 32, 115, 116, 114, 105, 110, 103]⟩
def badLen : ByteArray := ⟨#[80, 114, 111, 116, 111, 99, 111, 108, 32, 101, 114, 114, 111, 114, 58, 32, 105, 110, 118, 97, 108, 105, 100, 32, 98, 117, 108, 107, 32, 108, 101, 110, 103, 116, 104]⟩
/-- what a word's whole line tells. -/
def lenO (next : PS → SP.Bs → RO) (S : PS) (rest : SP.Bs) (o : Option Int) : RO := match o with
  | none => ⟨{ S with st := 3, part := [] }, [], [], badLen.data.toList, 2⟩
  | some v => if S.total + v ≤ 33554432 then rdBody next { S with st := 3, part := [], size := v, total := S.total + v } rest else ⟨{ S with st := 3, part := [], size := v, total := S.total + v }, [], [], badLen.data.toList, 2⟩
/-- read, in the line that tells how many bytes a word has. -/
def rdLen (next : PS → SP.Bs → RO) (S : PS) (s : SP.Bs) : RO := match lfAt (s.take (65 - S.part.length)) with
  | none => if 64 < (S.part ++ s.take (65 - S.part.length)).length then ⟨{ S with st := 3, part := S.part ++ s.take (65 - S.part.length) }, [], [], longLen.data.toList, 2⟩ else ⟨{ S with st := 3, part := S.part ++ s.take (65 - S.part.length) }, [], [], [], 0⟩
  | some k => lenO next S (s.drop (k + 1)) (lenV ((eol (S.part ++ s.take k)).drop 1))
set_option maxRecDepth 20000 in
set_option maxHeartbeats 4000000 in
theorem seg2_no (B q r : Nat) (pv0 wv0 pv wv : Value) (S : PS) (s : ByteArray) (u : Nat → Value) (w0 w : World) (h : PA B w q pv wv S) (hM : Mv w0 w q pv0 wv0 pv wv) (hr0 : w0.heap.size ≤ r) (hrow : w.heap[r]? = some (.cells #[.slice none 0 0, .string ⟨#[]⟩] 47)) (hn : S.part.length ≤ 64) (hs : s.size ≤ 1073741824) (hi : lfAt (s.data.toList.take (65 - S.part.length)) = none)
    (next : PS → SP.Bs → RO) (post : Ending → World → Prop) (J : Nat → Act → World → Prop) (hpost : ∀ e w', RdIs B w0 w' q pv0 wv0 e (rdLen next S s.data.toList) → post e w') :
    (scopeTl Tryz.f25 2).wp Tryz.prog (jumps J (bodyPost Tryz.prog Tryz.f25 post)) (Fr q s r u) w := by
  have HP : Hid _ := hpost
  obtain ⟨c0, c1, c2, c3, c4, c5, c6, cf⟩ := h.row.cells
  obtain ⟨W1, hW1⟩ : ∃ W, W = w.setCell ⟨q, 0, none⟩ (.int .i64 3) := ⟨_, rfl⟩
  have HS : Hid (PA B W1 q pv wv { S with st := 3 } ∧ Mv w W1 q pv wv pv wv) := by rw [hW1]; exact h.st0 3
  have HR1 : Hid _ := HS.out.2.req h hrow
  have HM1 : Hid _ := hM.trans HS.out.2
  have HTE : Hid _ := toEnd_no B q pv wv { S with st := 3 } s 64 (by omega) hn hs W1 HS.out.1 hi
  have HRL : Hid (rdLen next S s.data.toList = if 64 < (S.part ++ s.data.toList.take (65 - S.part.length)).length then ⟨{ S with st := 3, part := S.part ++ s.data.toList.take (65 - S.part.length) }, [], [], longLen.data.toList, 2⟩ else ⟨{ S with st := 3, part := S.part ++ s.data.toList.take (65 - S.part.length) }, [], [], [], 0⟩) := by show _ = _; unfold rdLen; rw [hi]
  obtain ⟨Q, hQ⟩ : ∃ Q, Q = jumps J (bodyPost Tryz.prog Tryz.f25 post) := ⟨_, rfl⟩
  rw [← hQ]
  have HQ : Hid _ := hQ
  clear hQ hpost h hM hi hrow
  simp only [scopeTl, scopeTo, scopeIn, Tryz.f25, findLabel, Nat.reduceBEq, Bool.false_eq_true, ↓reduceIte, Option.getD_some, Option.getD_none, Fr]
  go_wp2_with fail
  rw [← hW1]
  refine (show Calls _ _ _ _ _ from HTE.out).mono ?_
  rintro e w2 ⟨rfl, pv2, hp2, hm2⟩
  obtain ⟨P2, c2', hf2⟩ := own_form hp2.po
  dsimp only at hf2
  subst hf2
  have HP2 : Hid _ := hp2
  have HM2 : Hid _ := HM1.out.trans hm2
  have HR2 : Hid _ := hm2.req HS.out.1 HR1.out
  clear hp2 hm2 c0 c1 c2 c3 c4 c5 c6 cf hW1
  by_cases hlen : 64 < (S.part ++ s.data.toList.take (65 - S.part.length)).length
  · have HLN : Hid _ := hlen
    go_wp2_with fail
    refine (unended_fault q 3 S.held _ c2' 64 P2 wv S.more S.total S.size longLen (by decide) HLN.out w2 HP2.out.row).mono ?_
    rintro e w3 ⟨rfl, hb3⟩
    have HP3 : Hid _ := HP2.out.on hb3
    have HM3 : Hid _ := HM2.out.trans (mv_bel hb3)
    have HR3 : Hid _ := keep_row HR2.out hb3
    obtain ⟨z0, z1, zf⟩ := prow2 HR3.out
    clear hb3 hlen
    go_wp2
    rw [HQ.out]
    have e1 := HRL.out
    rw [if_pos HLN.out] at e1
    exact rd_fin B q r pv0 wv0 _ wv w0 w3 (rdLen next S s.data.toList) _ _ (by rw [e1]; exact HP3.out) HM3.out hr0 HR3.out (.slice none 0 0) ⟨#[]⟩ longLen 2 (by rw [e1]; rfl) (by rw [e1]; rfl) (by rw [e1]) (by rw [e1]; exact own_nil) _ rfl rfl rfl rfl post J HP.out
  · have HLN : Hid _ := hlen
    go_wp2_with fail
    refine (unended_wait q 3 S.held _ c2' 64 P2 wv S.more S.total S.size longLen (Nat.le_of_not_lt HLN.out) w2 HP2.out.row).mono ?_
    rintro e w3 ⟨rfl, hb3⟩
    have HP3 : Hid _ := HP2.out.on hb3
    have HM3 : Hid _ := HM2.out.trans (mv_bel hb3)
    have HR3 : Hid _ := keep_row HR2.out hb3
    obtain ⟨z0, z1, zf⟩ := prow2 HR3.out
    clear hb3 hlen
    go_wp2
    rw [HQ.out]
    have e1 := HRL.out
    rw [if_neg HLN.out] at e1
    exact rd_fin B q r pv0 wv0 _ wv w0 w3 (rdLen next S s.data.toList) _ _ (by rw [e1]; exact HP3.out) HM3.out hr0 HR3.out (.slice none 0 0) ⟨#[]⟩ ⟨#[]⟩ 0 (by rw [e1]; rfl) (by rw [e1]; rfl) (by rw [e1]) (by rw [e1]; exact own_nil) _ rfl rfl rfl rfl post J HP.out
set_option maxRecDepth 20000 in
set_option maxHeartbeats 4000000 in
theorem seg2_yes (B q r k : Nat) (pv0 wv0 pv wv : Value) (S : PS) (s : ByteArray) (u : Nat → Value) (w0 w : World) (h : PA B w q pv wv S) (hM : Mv w0 w q pv0 wv0 pv wv) (hr0 : w0.heap.size ≤ r) (hrow : w.heap[r]? = some (.cells #[.slice none 0 0, .string ⟨#[]⟩] 47)) (hW : WInv S) (hn : S.part.length ≤ 64) (hs : s.size ≤ 1073741824) (hi : lfAt (s.data.toList.take (65 - S.part.length)) = some k) (hE : eol (S.part ++ s.data.toList.take k) ≠ []) (hL : ∀ W, Below B w W → Laid W)
    (next : PS → SP.Bs → RO) (post : Ending → World → Prop) (J : Nat → Act → World → Prop) (R : RO) (hR : rdLen next S s.data.toList = R) (hpost : ∀ e w', RdIs B w0 w' q pv0 wv0 e R → post e w')
    (hJ : ∀ a' w' s' pv' wv' S', IsFr a' q s' r → PA B w' q pv' wv' S' → Mv w0 w' q pv0 wv0 pv' wv' → w'.heap[r]? = some (.cells #[.slice none 0 0, .string ⟨#[]⟩] 47) → WInv S' → S'.part = [] → s'.size < s.size → next S' s'.data.toList = R → J 1 a' w') :
    (scopeTl Tryz.f25 2).wp Tryz.prog (jumps J (bodyPost Tryz.prog Tryz.f25 post)) (Fr q s r u) w := by
  have HP : Hid _ := hpost
  have HJ : Hid _ := hJ
  have HW : Hid _ := hW
  obtain ⟨c0, c1, c2, c3, c4, c5, c6, cf⟩ := h.row.cells
  obtain ⟨W1, hW1⟩ : ∃ W, W = w.setCell ⟨q, 0, none⟩ (.int .i64 3) := ⟨_, rfl⟩
  have HS : Hid (PA B W1 q pv wv { S with st := 3 } ∧ Mv w W1 q pv wv pv wv) := by rw [hW1]; exact h.st0 3
  have HR1 : Hid _ := HS.out.2.req h hrow
  have HM1 : Hid _ := hM.trans HS.out.2
  have HA : Hid _ := h
  have HLD : Hid _ := hL
  have hkl : k < 65 := by have := (lf_some _ _ hi).2; rw [List.length_take] at this; omega
  have hks : k < s.size := by have := (lf_some _ _ hi).2; rw [List.length_take, list_len] at this; omega
  have HTE : Hid _ := toEnd_yes B q k pv wv { S with st := 3 } s 64 (by omega) hn hs W1 HS.out.1 hi
  have HPL : Hid ((S.part ++ s.data.toList.take k).length ≤ 1073741824) := by show _ ≤ _; rw [List.length_append, List.length_take]; omega
  have HRL : Hid (lenO next S (s.data.toList.drop (k + 1)) (lenV ((eol (S.part ++ s.data.toList.take k)).drop 1)) = R) := by show _ = _; rw [← hR]; unfold rdLen; rw [hi]
  have HSX : Hid ((s.extract (k + 1) s.size).size < s.size) := by show _ < _; rw [ext_size _ _ _ (Nat.le_refl _)]; omega
  have HEE : Hid _ := hE
  obtain ⟨Q, hQ⟩ : ∃ Q, Q = jumps J (bodyPost Tryz.prog Tryz.f25 post) := ⟨_, rfl⟩
  rw [← hQ]
  have HQ : Hid _ := hQ
  clear hQ hpost h hM hi hrow hL hW hE hR hJ
  simp only [scopeTl, scopeTo, scopeIn, Tryz.f25, findLabel, Nat.reduceBEq, Bool.false_eq_true, ↓reduceIte, Option.getD_some, Option.getD_none, Fr]
  go_wp2_with fail
  rw [← hW1]
  refine (show Calls _ _ _ _ _ from HTE.out).mono ?_
  rintro e w2 ⟨rfl, pv2, hp2, hm2⟩
  have HP2 : Hid _ := hp2
  have HM2 : Hid _ := HM1.out.trans hm2
  have HMW : Hid _ := HS.out.2.trans hm2
  have HR2 : Hid _ := hm2.req HS.out.1 HR1.out
  clear hp2 hm2 c0 c1 c2 c3 c4 c5 c6 cf hW1
  go_wp2_with fail
  refine (length_any B q pv2 wv { S with st := 3, part := S.part ++ s.data.toList.take k } HPL.out HEE.out ⟨HW.out.t0, HW.out.t1⟩ w2 HP2.out (fun W hW => HLD.out W ((HMW.out.below HA.out).trans hW))).mono ?_
  rintro e w3 ⟨pv3, hm3, hl3⟩
  have HM3 : Hid _ := HM2.out.trans hm3
  have HR3 : Hid _ := hm3.req HP2.out HR2.out
  dsimp only at hl3
  clear hm3
  cases hlv : lenV ((eol (S.part ++ s.data.toList.take k)).drop 1) with
  | none =>
    rw [hlv] at hl3
    have e1 := HRL.out
    rw [hlv] at e1
    have HE1 : Hid _ := e1
    obtain ⟨he, hp3⟩ := hl3
    subst he
    have HP3 : Hid _ := hp3
    clear hlv e1 hp3
    go_wp2_with fail
    refine (stop_fault badLen (by decide) w3).mono ?_
    rintro e w4 ⟨rfl, hb4⟩
    have HP4 : Hid _ := HP3.out.on hb4
    have HM4 : Hid _ := HM3.out.trans (mv_bel hb4)
    have HR4 : Hid _ := keep_row HR3.out hb4
    obtain ⟨z0, z1, zf⟩ := prow2 HR4.out
    clear hb4
    go_wp2
    rw [HQ.out]
    have e1 := HE1.out
    exact rd_fin B q r pv0 wv0 _ wv w0 w4 R _ _ (by rw [← e1]; exact HP4.out) HM4.out hr0 HR4.out (.slice none 0 0) ⟨#[]⟩ badLen 2 (by rw [← e1]; rfl) (by rw [← e1]; rfl) (by rw [← e1]; rfl) (by rw [← e1]; exact own_nil) _ rfl rfl rfl rfl post J HP.out
  | some v =>
    rw [hlv] at hl3
    have e1 := HRL.out
    rw [hlv] at e1
    obtain ⟨he, hp3⟩ := hl3
    subst he
    have HP3 : Hid _ := hp3
    have hv01 : 0 ≤ v ∧ v ≤ 524288 := by
      unfold lenV at hlv
      split at hlv
      · split at hlv
        · injection hlv with hlv; subst hlv; assumption
        · cases hlv
      · cases hlv
    have HV : Hid _ := hv01
    by_cases ht : S.total + v ≤ 33554432
    · have HT : Hid _ := ht
      have e2 : rdBody next { S with st := 3, part := [], size := v, total := S.total + v } (s.data.toList.drop (k + 1)) = R := by rw [← e1]; exact (if_pos ht).symm
      have HE2 : Hid _ := e2
      have hd1 : decide (S.total + v ≤ 33554432) = true := by simpa using ht
      rw [hd1]
      clear hlv e1 hp3 e2 hv01 ht hd1
      go_wp2
      rename_i K1 hK1
      apply wp_label
      show K1 _ _
      apply hK1
      refine (?_ : ∀ fa, IsFr fa q (s.extract (k + 1) s.size) r → Code.wp Tryz.prog (scopeTl Tryz.f25 3) Q fa w3) _ rfl
      intro fa hfa
      obtain ⟨u', rfl⟩ := hfa.get
      rw [HQ.out]
      refine seg3 B q r pv0 wv0 _ wv _ _ u' w0 w3 HP3.out HM3.out hr0 HR3.out ⟨HW.out.m1, HW.out.mw, ?_, HT.out⟩ v.toNat ?_ ?_ ?_ ?_ next R ?_ post J HP.out ?_
      · have := HV.out.1; have := HW.out.t0; show 0 ≤ S.total + v; omega
      · have := HV.out.1; show v = ((v.toNat : Nat) : Int); omega
      · have := HV.out.2; omega
      · show (0 : Nat) < _; omega
      · have := HSX.out; omega
      · rw [← rest_str, strB_list]; exact HE2.out
      · intro a' w' s' pv' wv' S' g1 g2 g3 g4 g5 g6 g7 g8
        exact HJ.out a' w' s' pv' wv' S' g1 g2 g3 g4 g5 g6 (by have := HSX.out; omega) g8
    · have HT : Hid _ := ht
      have e2 : (⟨{ S with st := 3, part := [], size := v, total := S.total + v }, [], [], badLen.data.toList, 2⟩ : RO) = R := by rw [← e1]; exact (if_neg ht).symm
      have HE1 : Hid _ := e2
      have hd1 : decide (S.total + v ≤ 33554432) = false := by simpa using ht
      rw [hd1]
      clear hlv e1 hp3 e2 hv01 ht hd1
      go_wp2_with fail
      refine (stop_fault badLen (by decide) w3).mono ?_
      rintro e w4 ⟨rfl, hb4⟩
      have HP4 : Hid _ := HP3.out.on hb4
      have HM4 : Hid _ := HM3.out.trans (mv_bel hb4)
      have HR4 : Hid _ := keep_row HR3.out hb4
      obtain ⟨z0, z1, zf⟩ := prow2 HR4.out
      clear hb4
      go_wp2
      rw [HQ.out]
      have e1 := HE1.out
      exact rd_fin B q r pv0 wv0 _ wv w0 w4 R _ _ (by rw [← e1]; exact HP4.out) HM4.out hr0 HR4.out (.slice none 0 0) ⟨#[]⟩ badLen 2 (by rw [← e1]; rfl) (by rw [← e1]; rfl) (by rw [← e1]) (by rw [← e1]; exact own_nil) _ rfl rfl rfl rfl post J HP.out
/-- read in the line that tells a word's length, and from there on. -/
theorem seg2 (B q r : Nat) (pv0 wv0 pv wv : Value) (S : PS) (s : ByteArray) (u : Nat → Value) (w0 w : World) (h : PA B w q pv wv S) (hM : Mv w0 w q pv0 wv0 pv wv) (hr0 : w0.heap.size ≤ r) (hrow : w.heap[r]? = some (.cells #[.slice none 0 0, .string ⟨#[]⟩] 47)) (hW : WInv S) (hn : S.part.length ≤ 64) (hs : s.size ≤ 1073741824) (hE : ∀ k, lfAt (s.data.toList.take (65 - S.part.length)) = some k → eol (S.part ++ s.data.toList.take k) ≠ []) (hL : ∀ W, Below B w W → Laid W)
    (next : PS → SP.Bs → RO) (post : Ending → World → Prop) (J : Nat → Act → World → Prop) (R : RO) (hR : rdLen next S s.data.toList = R) (hpost : ∀ e w', RdIs B w0 w' q pv0 wv0 e R → post e w')
    (hJ : ∀ a' w' s' pv' wv' S', IsFr a' q s' r → PA B w' q pv' wv' S' → Mv w0 w' q pv0 wv0 pv' wv' → w'.heap[r]? = some (.cells #[.slice none 0 0, .string ⟨#[]⟩] 47) → WInv S' → S'.part = [] → s'.size < s.size → next S' s'.data.toList = R → J 1 a' w') :
    (scopeTl Tryz.f25 2).wp Tryz.prog (jumps J (bodyPost Tryz.prog Tryz.f25 post)) (Fr q s r u) w := by
  cases hi : lfAt (s.data.toList.take (65 - S.part.length)) with
  | none => exact seg2_no B q r pv0 wv0 pv wv S s u w0 w h hM hr0 hrow hn hs hi next post J (by rw [hR]; exact hpost)
  | some k => exact seg2_yes B q r k pv0 wv0 pv wv S s u w0 w h hM hr0 hrow hW hn hs hi (hE k hi) hL next post J R hR hpost hJ
end Go.Proofs.YtnfbaeajalnmmaaGreatDoor
namespace Go.Proofs.YtnfbaeajalnmmaaGreatDoor
open Go.RowKit Vi
set_option linter.unusedVariables false
set_option linter.unusedSimpArgs false
def expPre : ByteArray := ⟨#[80, 114, 111, 116, 111, 99, 111, 108, 32, 101, 114, 114, 111, 114, 58, 32, 101, 120, 112, 101, 99, 116, 101, 100, 32, 39, 36, 39, 44, 32, 103, 111, 116, 32, 39]⟩
/-- the error at a byte that is no '$'. -/
def expB (b : UInt8) : SP.Bs := expPre.data.toList ++ [b] ++ [39]
/-- read, ahead of a word's line. -/
def rdWord (next : PS → SP.Bs → RO) (S : PS) (s : SP.Bs) : RO := match s with
  | [] => ⟨{ S with st := 2 }, [], [], [], 0⟩
  | b :: t => if b = 36 then rdLen next { S with st := 2 } (b :: t) else ⟨{ S with st := 2 }, [], [], expB b, 2⟩
def rdW : Nat → PS → SP.Bs → RO
  | 0 => fun S s => ⟨S, [], [], [], 1⟩
  | f + 1 => rdWord (rdW f)
theorem eol_full {b : UInt8} {x : SP.Bs} (hb : b ≠ 13) : eol (b :: x) ≠ [] := by
  intro e
  unfold eol Lib.trimSuffix at e
  split at e
  · rename_i hs
    have hl := congrArg List.length e
    simp at hl
    subst hl
    simp [Lib.hasSuffix] at hs
    obtain ⟨y, hy⟩ := hs
    cases y with
    | nil => injection hy with hy _; exact hb hy.symm
    | cons a y => simp at hy
  · cases e
theorem lf_cons {b : UInt8} {t : SP.Bs} {n k : Nat} (hb : b ≠ 10) (h : lfAt ((b :: t).take n) = some k) : ∃ j, k = j + 1 := by
  cases k with
  | succ j => exact ⟨j, rfl⟩
  | zero =>
    exfalso
    cases n with
    | zero => simp [lfAt] at h
    | succ n =>
      unfold lfAt at h
      rw [List.take_succ_cons, List.findIdx?_cons] at h
      have : (b == 10) = false := by simpa using hb
      rw [this, if_neg (by decide)] at h
      obtain ⟨j, _, hj⟩ := Option.map_eq_some_iff.mp h
      omega
set_option maxRecDepth 20000 in
set_option maxHeartbeats 800000 in
theorem seg1 (B q r : Nat) (pv0 wv0 pv wv : Value) (S : PS) (s : ByteArray) (u : Nat → Value) (w0 w : World) (h : PA B w q pv wv S) (hM : Mv w0 w q pv0 wv0 pv wv) (hr0 : w0.heap.size ≤ r) (hrow : w.heap[r]? = some (.cells #[.slice none 0 0, .string ⟨#[]⟩] 47)) (hW : WInv S) (hn : S.part = []) (hs : s.size ≤ 1073741824) (hL : ∀ W, Below B w W → Laid W)
    (next : PS → SP.Bs → RO) (post : Ending → World → Prop) (J : Nat → Act → World → Prop) (R : RO) (hR : rdWord next S s.data.toList = R) (hpost : ∀ e w', RdIs B w0 w' q pv0 wv0 e R → post e w')
    (hJ : ∀ a' w' s' pv' wv' S', IsFr a' q s' r → PA B w' q pv' wv' S' → Mv w0 w' q pv0 wv0 pv' wv' → w'.heap[r]? = some (.cells #[.slice none 0 0, .string ⟨#[]⟩] 47) → WInv S' → S'.part = [] → s'.size < s.size → next S' s'.data.toList = R → J 1 a' w') :
    (scopeTl Tryz.f25 1).wp Tryz.prog (jumps J (bodyPost Tryz.prog Tryz.f25 post)) (Fr q s r u) w := by
  have HP : Hid _ := hpost
  have HJ : Hid _ := hJ
  have HW : Hid _ := hW
  obtain ⟨c0, c1, c2, c3, c4, c5, c6, cf⟩ := h.row.cells
  obtain ⟨W1, hW1⟩ : ∃ W, W = w.setCell ⟨q, 0, none⟩ (.int .i64 2) := ⟨_, rfl⟩
  have HS : Hid (PA B W1 q pv wv { S with st := 2 } ∧ Mv w W1 q pv wv pv wv) := by rw [hW1]; exact h.st0 2
  have HR1 : Hid _ := HS.out.2.req h hrow
  have HM1 : Hid _ := hM.trans HS.out.2
  have HA : Hid _ := h
  have HLD : Hid _ := hL
  have HN : Hid _ := hn
  obtain ⟨Q, hQ⟩ : ∃ Q, Q = jumps J (bodyPost Tryz.prog Tryz.f25 post) := ⟨_, rfl⟩
  rw [← hQ]
  have HQ : Hid _ := hQ
  clear hQ hpost h hM hrow hL hW hJ hn
  by_cases h0 : s.size = 0
  · have hse := str_empty h0
    have e1 : (⟨{ S with st := 2 }, [], [], [], 0⟩ : RO) = R := by rw [← hR, empty_str s h0]; rfl
    have HE1 : Hid _ := e1
    clear hR e1 h0
    simp only [scopeTl, scopeTo, scopeIn, Tryz.f25, findLabel, Nat.reduceBEq, Bool.false_eq_true, ↓reduceIte, Option.getD_some, Option.getD_none, Fr]
    go_wp2_with fail
    rw [← hW1]
    refine (stop_wait W1).mono ?_
    rintro e w3 ⟨rfl, hb3⟩
    have HP3 : Hid _ := HS.out.1.on hb3
    have HM3 : Hid _ := HM1.out.trans (mv_bel hb3)
    have HR3 : Hid _ := keep_row HR1.out hb3
    obtain ⟨z0, z1, zf⟩ := prow2 HR3.out
    clear hb3 hW1
    go_wp2
    rw [HQ.out]
    have e1 := HE1.out
    exact rd_fin B q r pv0 wv0 _ wv w0 w3 R _ _ (by rw [← e1]; exact HP3.out) HM3.out hr0 HR3.out (.slice none 0 0) ⟨#[]⟩ ⟨#[]⟩ 0 (by rw [← e1]; rfl) (by rw [← e1]; rfl) (by rw [← e1]) (by rw [← e1]; exact own_nil) _ rfl rfl rfl rfl post J HP.out
  · have hse := str_full h0
    have h1 : 0 < s.size := by omega
    have HT := head_tl s h1
    have HHT : Hid _ := HT
    obtain ⟨b, hb⟩ : ∃ b, s[0] = b := ⟨_, rfl⟩
    rw [hb] at HT
    have HB : Hid _ := hb
    by_cases hb36 : b = 36
    · have e1 : rdLen next { S with st := 2 } s.data.toList = R := by rw [← hR, HT]; unfold rdWord; exact (if_pos hb36).symm
      have HE1 : Hid _ := e1
      have HB36 : Hid _ := hb36
      have hc : (s[0].toNat : Int) = 36 := by rw [hb, hb36]; rfl
      have hcn : s[0].toNat = 36 := by rw [hb, hb36]; rfl
      have hE : ∀ k, lfAt (s.data.toList.take (65 - ({ S with st := 2 } : PS).part.length)) = some k → eol (({ S with st := 2 } : PS).part ++ s.data.toList.take k) ≠ [] := by
        intro k hk
        show eol (S.part ++ _) ≠ []
        rw [HN.out, List.nil_append]
        rw [HT] at hk ⊢
        obtain ⟨j, rfl⟩ := lf_cons (by rw [hb36]; decide) hk
        rw [List.take_succ_cons]
        exact eol_full (by rw [hb36]; decide)
      have HEE : Hid _ := hE
      clear hR e1 h0 HT hb hb36 hE
      simp only [scopeTl, scopeTo, scopeIn, Tryz.f25, findLabel, Nat.reduceBEq, Bool.false_eq_true, ↓reduceIte, Option.getD_some, Option.getD_none, Fr]
      go_wp2
      rename_i K1 hK1
      apply wp_label
      show K1 _ _
      apply hK1
      rw [← hW1]
      refine (?_ : ∀ fa, IsFr fa q s r → Code.wp Tryz.prog (scopeTl Tryz.f25 2) Q fa W1) _ rfl
      intro fa hfa
      obtain ⟨u', rfl⟩ := hfa.get
      rw [HQ.out]
      exact seg2 B q r pv0 wv0 pv wv { S with st := 2 } s u' w0 W1 HS.out.1 HM1.out hr0 HR1.out ⟨HW.out.m1, HW.out.mw, HW.out.t0, HW.out.t1⟩ (by show S.part.length ≤ 64; rw [HN.out]; simp) hs HEE.out (fun W hW => HLD.out W ((HS.out.2.below HA.out).trans hW)) next post J R HE1.out HP.out HJ.out
    · have e1 : (⟨{ S with st := 2 }, [], [], expB b, 2⟩ : RO) = R := by rw [← hR, HT]; unfold rdWord; exact (if_neg hb36).symm
      have HE1 : Hid _ := e1
      have hc : ¬ ((s[0].toNat : Int) = 36) := by
        rw [hb]; intro e; exact hb36 (UInt8.toNat_inj.1 (by show b.toNat = 36; omega))
      have hcb : ((s[0].toNat : Int) != 36) = true := by simpa using hc
      have hfu : (⟨#[80, 114, 111, 116, 111, 99, 111, 108, 32, 101, 114, 114, 111, 114, 58, 32, 101, 120, 112, 101, 99, 116, 101, 100, 32, 39, 36, 39, 44, 32, 103, 111, 116, 32, 39]⟩ : ByteArray) ++ s.extract 0 1 ++ ⟨#[39]⟩ = strB (expB b) := by
        apply bytes_ext
        rw [strB_list]
        show _ = expPre.data.toList ++ [b] ++ [39]
        have : (s.extract 0 1).data.toList = [b] := by rw [ext_any, HT]; rfl
        rw [← this]
        show ((expPre ++ s.extract 0 1) ++ (⟨#[39]⟩ : ByteArray)).data.toList = _
        rw [ByteArray.data_append, Array.toList_append, ByteArray.data_append, Array.toList_append]
      have HFU : Hid _ := hfu
      have HFZ : Hid (¬ (strB (expB b)).size = 0) := by show ¬ _; rw [strB_size]; unfold expB; simp
      clear hR e1 h0 HT hb36 hb hfu hc
      simp only [scopeTl, scopeTo, scopeIn, Tryz.f25, findLabel, Nat.reduceBEq, Bool.false_eq_true, ↓reduceIte, Option.getD_some, Option.getD_none, Fr]
      go_wp2_with fail
      rw [← hW1, HFU.out]
      refine (stop_fault (strB (expB b)) HFZ.out W1).mono ?_
      rintro e w3 ⟨rfl, hb3⟩
      have HP3 : Hid _ := HS.out.1.on hb3
      have HM3 : Hid _ := HM1.out.trans (mv_bel hb3)
      have HR3 : Hid _ := keep_row HR1.out hb3
      obtain ⟨z0, z1, zf⟩ := prow2 HR3.out
      clear hb3 hW1
      go_wp2
      rw [HQ.out]
      have e1 := HE1.out
      exact rd_fin B q r pv0 wv0 _ wv w0 w3 R _ _ (by rw [← e1]; exact HP3.out) HM3.out hr0 HR3.out (.slice none 0 0) ⟨#[]⟩ (strB (expB b)) 2 (by rw [← e1]; rfl) (by rw [← e1]) (by rw [← e1]) (by rw [← e1]; exact own_nil) _ rfl rfl rfl rfl post J HP.out
end Go.Proofs.YtnfbaeajalnmmaaGreatDoor
