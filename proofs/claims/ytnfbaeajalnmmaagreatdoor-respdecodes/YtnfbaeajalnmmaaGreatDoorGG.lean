import Derived.Test.YtnfbaeajalnmmaaGreatDoorGF
namespace Go.Proofs.YtnfbaeajalnmmaaGreatDoor
open Go.RowKit Vi
set_option linter.unusedVariables false
set_option linter.unusedSimpArgs false
def longLine : ByteArray := ⟨#[80, 114, 111, 116, 111, 99, 111, 108, 32, 101, 114, 114, 111, 114, 58, 32, 116, 111, 111, 32, 98, 105, 103, 32, 105, 110, 108, 105, 110, 101, 32, 114, 101, 113, 117, 101, 115, 116]⟩
/-- what a whole line tells. -/
def lnO (S : PS) (rest : SP.Bs) (o : Option (List SP.Bs)) : RO := match o with
  | none => ⟨{ S with st := 5, part := [] }, [], [], badLine.data.toList, 2⟩
  | some [] => ⟨{ S with st := 5, part := [] }, rest, [], [], 1⟩
  | some out => ⟨{ S with st := 5, part := [] }, rest, out, [], 2⟩
/-- read, in a request that is a line of words. -/
def rdLine (S : PS) (s : SP.Bs) : RO := match lfAt (s.take (65537 - S.part.length)) with
  | none => if 65536 < (S.part ++ s.take (65537 - S.part.length)).length then ⟨{ S with st := 5, part := S.part ++ s.take (65537 - S.part.length) }, [], [], longLine.data.toList, 2⟩ else ⟨{ S with st := 5, part := S.part ++ s.take (65537 - S.part.length) }, [], [], [], 0⟩
  | some k => lnO S (s.drop (k + 1)) (lnW (S.part ++ s.take k))
theorem own_nil {W : World} {B : Nat} : W.ownsRow B 9 1 (.slice none 0 0) 0 [] := ⟨rfl, Or.inl ⟨rfl, rfl⟩⟩
set_option maxRecDepth 20000 in
set_option maxHeartbeats 4000000 in
theorem seg4_no (B q r : Nat) (pv0 wv0 pv wv : Value) (S : PS) (s : ByteArray) (u : Nat → Value) (w0 w : World) (h : PA B w q pv wv S) (hM : Mv w0 w q pv0 wv0 pv wv) (hr0 : w0.heap.size ≤ r) (hrow : w.heap[r]? = some (.cells #[.slice none 0 0, .string ⟨#[]⟩] 47)) (hn : S.part.length ≤ 65536) (hs : s.size ≤ 1073741824) (hi : lfAt (s.data.toList.take (65537 - S.part.length)) = none)
    (post : Ending → World → Prop) (J : Nat → Act → World → Prop) (hpost : ∀ e w', RdIs B w0 w' q pv0 wv0 e (rdLine S s.data.toList) → post e w') :
    (scopeTl Tryz.f25 4).wp Tryz.prog (jumps J (bodyPost Tryz.prog Tryz.f25 post)) (Fr q s r u) w := by
  have HP : Hid _ := hpost
  obtain ⟨c0, c1, c2, c3, c4, c5, c6, cf⟩ := h.row.cells
  obtain ⟨W1, hW1⟩ : ∃ W, W = w.setCell ⟨q, 0, none⟩ (.int .i64 5) := ⟨_, rfl⟩
  have HS : Hid (PA B W1 q pv wv { S with st := 5 } ∧ Mv w W1 q pv wv pv wv) := by rw [hW1]; exact h.st0 5
  have HR1 : Hid _ := HS.out.2.req h hrow
  have HM1 : Hid _ := hM.trans HS.out.2
  have HTE : Hid _ := toEnd_no B q pv wv { S with st := 5 } s 65536 (Nat.le_refl _) hn hs W1 HS.out.1 hi
  have HRL : Hid (rdLine S s.data.toList = if 65536 < (S.part ++ s.data.toList.take (65537 - S.part.length)).length then ⟨{ S with st := 5, part := S.part ++ s.data.toList.take (65537 - S.part.length) }, [], [], longLine.data.toList, 2⟩ else ⟨{ S with st := 5, part := S.part ++ s.data.toList.take (65537 - S.part.length) }, [], [], [], 0⟩) := by show _ = _; unfold rdLine; rw [hi]
  obtain ⟨Q, hQ⟩ : ∃ Q, Q = jumps J (bodyPost Tryz.prog Tryz.f25 post) := ⟨_, rfl⟩
  rw [← hQ]
  have HQ : Hid _ := hQ
  clear hQ hpost h hM hi hrow
  simp only [scopeTl, scopeTo, scopeIn, Tryz.f25, findLabel, Nat.reduceBEq, Bool.false_eq_true, ↓reduceIte, Option.getD_some, Option.getD_none, Fr]
  go_wp2_with fail
  rw [← hW1]
  refine (show Calls _ _ _ _ _ from HTE.out).mono ?_
  rintro e w2 ⟨rfl, pv2, hp2, hm2⟩
  obtain ⟨P2, c2', hf2⟩ := own_form hp2.po
  dsimp only at hf2
  subst hf2
  have HP2 : Hid _ := hp2
  have HM2 : Hid _ := HM1.out.trans hm2
  have HR2 : Hid _ := hm2.req HS.out.1 HR1.out
  clear hp2 hm2 c0 c1 c2 c3 c4 c5 c6 cf hW1
  by_cases hlen : 65536 < (S.part ++ s.data.toList.take (65537 - S.part.length)).length
  · have HLN : Hid _ := hlen
    go_wp2_with fail
    refine (unended_fault q 5 S.held _ c2' 65536 P2 wv S.more S.total S.size longLine (by decide) HLN.out w2 HP2.out.row).mono ?_
    rintro e w3 ⟨rfl, hb3⟩
    have HP3 : Hid _ := HP2.out.on hb3
    have HM3 : Hid _ := HM2.out.trans (mv_bel hb3)
    have HR3 : Hid _ := keep_row HR2.out hb3
    obtain ⟨z0, z1, zf⟩ := prow2 HR3.out
    clear hb3 hlen
    go_wp2
    rw [HQ.out]
    have e1 := HRL.out
    rw [if_pos HLN.out] at e1
    exact rd_fin B q r pv0 wv0 _ wv w0 w3 (rdLine S s.data.toList) _ _ (by rw [e1]; exact HP3.out) HM3.out hr0 HR3.out (.slice none 0 0) ⟨#[]⟩ longLine 2 (by rw [e1]; rfl) (by rw [e1]; rfl) (by rw [e1]) (by rw [e1]; exact own_nil) _ rfl rfl rfl rfl post J HP.out
  · have HLN : Hid _ := hlen
    go_wp2_with fail
    refine (unended_wait q 5 S.held _ c2' 65536 P2 wv S.more S.total S.size longLine (Nat.le_of_not_lt HLN.out) w2 HP2.out.row).mono ?_
    rintro e w3 ⟨rfl, hb3⟩
    have HP3 : Hid _ := HP2.out.on hb3
    have HM3 : Hid _ := HM2.out.trans (mv_bel hb3)
    have HR3 : Hid _ := keep_row HR2.out hb3
    obtain ⟨z0, z1, zf⟩ := prow2 HR3.out
    clear hb3 hlen
    go_wp2
    rw [HQ.out]
    have e1 := HRL.out
    rw [if_neg HLN.out] at e1
    exact rd_fin B q r pv0 wv0 _ wv w0 w3 (rdLine S s.data.toList) _ _ (by rw [e1]; exact HP3.out) HM3.out hr0 HR3.out (.slice none 0 0) ⟨#[]⟩ ⟨#[]⟩ 0 (by rw [e1]; rfl) (by rw [e1]; rfl) (by rw [e1]) (by rw [e1]; exact own_nil) _ rfl rfl rfl rfl post J HP.out
end Go.Proofs.YtnfbaeajalnmmaaGreatDoor
namespace Go.Proofs.YtnfbaeajalnmmaaGreatDoor
open Go.RowKit Vi
set_option linter.unusedVariables false
set_option linter.unusedSimpArgs false
theorem rest_str (s : ByteArray) (k : Nat) : strB (s.data.toList.drop k) = s.extract k s.size := by
  apply bytes_ext
  rw [strB_list, ext_any, List.take_of_length_le]
  rw [List.length_drop, list_len]; exact Nat.le_refl _
set_option maxRecDepth 20000 in
set_option maxHeartbeats 4000000 in
theorem seg4_yes (B q r k : Nat) (pv0 wv0 pv wv : Value) (S : PS) (s : ByteArray) (u : Nat → Value) (w0 w : World) (h : PA B w q pv wv S) (hM : Mv w0 w q pv0 wv0 pv wv) (hr0 : w0.heap.size ≤ r) (hrow : w.heap[r]? = some (.cells #[.slice none 0 0, .string ⟨#[]⟩] 47)) (hn : S.part.length ≤ 65536) (hs : s.size ≤ 1073741824) (hi : lfAt (s.data.toList.take (65537 - S.part.length)) = some k) (hL : ∀ W, Below B w W → Laid W)
    (post : Ending → World → Prop) (J : Nat → Act → World → Prop) (hpost : ∀ e w', RdIs B w0 w' q pv0 wv0 e (rdLine S s.data.toList) → post e w') :
    (scopeTl Tryz.f25 4).wp Tryz.prog (jumps J (bodyPost Tryz.prog Tryz.f25 post)) (Fr q s r u) w := by
  have HP : Hid _ := hpost
  obtain ⟨c0, c1, c2, c3, c4, c5, c6, cf⟩ := h.row.cells
  obtain ⟨W1, hW1⟩ : ∃ W, W = w.setCell ⟨q, 0, none⟩ (.int .i64 5) := ⟨_, rfl⟩
  have HS : Hid (PA B W1 q pv wv { S with st := 5 } ∧ Mv w W1 q pv wv pv wv) := by rw [hW1]; exact h.st0 5
  have HR1 : Hid _ := HS.out.2.req h hrow
  have HM1 : Hid _ := hM.trans HS.out.2
  have HA : Hid _ := h
  have HLD : Hid _ := hL
  have hkl : k < 65537 := by have := (lf_some _ _ hi).2; rw [List.length_take] at this; omega
  have HTE : Hid _ := toEnd_yes B q k pv wv { S with st := 5 } s 65536 (Nat.le_refl _) hn hs W1 HS.out.1 hi
  have HPL : Hid ((S.part ++ s.data.toList.take k).length ≤ 1073741824) := by show _ ≤ _; rw [List.length_append, List.length_take]; omega
  have HRL : Hid (rdLine S s.data.toList = lnO S (s.data.toList.drop (k + 1)) (lnW (S.part ++ s.data.toList.take k))) := by show _ = _; unfold rdLine; rw [hi]
  obtain ⟨Q, hQ⟩ : ∃ Q, Q = jumps J (bodyPost Tryz.prog Tryz.f25 post) := ⟨_, rfl⟩
  rw [← hQ]
  have HQ : Hid _ := hQ
  clear hQ hpost h hM hi hrow hL
  simp only [scopeTl, scopeTo, scopeIn, Tryz.f25, findLabel, Nat.reduceBEq, Bool.false_eq_true, ↓reduceIte, Option.getD_some, Option.getD_none, Fr]
  go_wp2_with fail
  rw [← hW1]
  refine (show Calls _ _ _ _ _ from HTE.out).mono ?_
  rintro e w2 ⟨rfl, pv2, hp2, hm2⟩
  have HP2 : Hid _ := hp2
  have HM2 : Hid _ := HM1.out.trans hm2
  have HMW : Hid _ := HS.out.2.trans hm2
  have HR2 : Hid _ := hm2.req HS.out.1 HR1.out
  clear hp2 hm2 c0 c1 c2 c3 c4 c5 c6 cf hW1
  go_wp2_with fail
  refine (line_any B q pv2 wv _ (s.extract (k + 1) s.size) HPL.out w2 HP2.out (fun W hW => HLD.out W ((HMW.out.below HA.out).trans hW))).mono ?_
  rintro e w3 ⟨pv3, hl3, hp3, hm3⟩
  have HP3 : Hid _ := hp3
  have HM3 : Hid _ := HM2.out.trans hm3
  have HR3 : Hid _ := hm3.req HP2.out HR2.out
  have HB2 : Hid (B ≤ w2.heap.size) := HP2.out.lt
  obtain ⟨z0, z1, zf⟩ := prow2 HR3.out
  clear hp3 hm3
  dsimp only at hl3
  cases hln : lnW (S.part ++ s.data.toList.take k) with
  | none =>
    rw [hln] at hl3
    have e1 := HRL.out
    rw [hln] at e1
    have HE1 : Hid _ := e1
    have hl4 : e = _ := hl3
    subst hl4
    clear hl3 hln e1
    go_wp2
    rw [HQ.out]
    have e1 := HE1.out
    exact rd_fin B q r pv0 wv0 _ wv w0 w3 (rdLine S s.data.toList) _ _ (by rw [e1]; exact HP3.out) HM3.out hr0 HR3.out (.slice none 0 0) ⟨#[]⟩ badLine 2 (by rw [e1]; rfl) (by rw [e1]; rfl) (by rw [e1]; rfl) (by rw [e1]; exact own_nil) _ rfl rfl rfl rfl post J HP.out
  | some out =>
    rw [hln] at hl3
    have e1 := HRL.out
    rw [hln] at e1
    cases out with
    | nil =>
      have HE1 : Hid _ := e1
      have hl4 : e = _ := hl3
      subst hl4
      clear hl3 hln e1
      go_wp2
      rw [HQ.out]
      have e1 := HE1.out
      exact rd_fin B q r pv0 wv0 _ wv w0 w3 (rdLine S s.data.toList) _ _ (by rw [e1]; exact HP3.out) HM3.out hr0 HR3.out (.slice none 0 0) (s.extract (k + 1) s.size) ⟨#[]⟩ 1 (by rw [e1]; exact rest_str _ _) (by rw [e1]; rfl) (by rw [e1]; rfl) (by rw [e1]; exact own_nil) _ rfl rfl rfl rfl post J HP.out
    | cons o1 os =>
      have HE1 : Hid _ := e1
      obtain ⟨P, c, rfl, hown⟩ := hl3
      have HOW : Hid _ := own_lower hown HB2.out
      clear hln e1 hown
      go_wp2
      rw [HQ.out]
      have e1 := HE1.out
      exact rd_fin B q r pv0 wv0 _ wv w0 w3 (rdLine S s.data.toList) _ _ (by rw [e1]; exact HP3.out) HM3.out hr0 HR3.out (.slice P (o1 :: os).length c) (s.extract (k + 1) s.size) ⟨#[]⟩ 2 (by rw [e1]; exact rest_str _ _) (by rw [e1]; rfl) (by rw [e1]; rfl) (by rw [e1]; exact HOW.out) _ rfl rfl rfl rfl post J HP.out
/-- read in a line of words, whole. -/
theorem seg4 (B q r : Nat) (pv0 wv0 pv wv : Value) (S : PS) (s : ByteArray) (u : Nat → Value) (w0 w : World) (h : PA B w q pv wv S) (hM : Mv w0 w q pv0 wv0 pv wv) (hr0 : w0.heap.size ≤ r) (hrow : w.heap[r]? = some (.cells #[.slice none 0 0, .string ⟨#[]⟩] 47)) (hn : S.part.length ≤ 65536) (hs : s.size ≤ 1073741824) (hL : ∀ W, Below B w W → Laid W)
    (post : Ending → World → Prop) (J : Nat → Act → World → Prop) (hpost : ∀ e w', RdIs B w0 w' q pv0 wv0 e (rdLine S s.data.toList) → post e w') :
    (scopeTl Tryz.f25 4).wp Tryz.prog (jumps J (bodyPost Tryz.prog Tryz.f25 post)) (Fr q s r u) w := by
  cases hi : lfAt (s.data.toList.take (65537 - S.part.length)) with
  | none => exact seg4_no B q r pv0 wv0 pv wv S s u w0 w h hM hr0 hrow hn hs hi post J hpost
  | some k => exact seg4_yes B q r k pv0 wv0 pv wv S s u w0 w h hM hr0 hrow hn hs hi hL post J hpost
end Go.Proofs.YtnfbaeajalnmmaaGreatDoor
