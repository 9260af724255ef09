import Derived.Test.YtnfbaeajalnmmaaGreatDoorHR
namespace Go.Proofs.YtnfbaeajalnmmaaGreatDoor
open Go.RowKit Vi
set_option linter.unusedVariables false
set_option linter.unusedSimpArgs false
def longCnt : ByteArray := ⟨#[80, 114, 111, 116, 111, 99, 111, 108, 32, 101, 114, 114, 111, 114, 58, 32, 116, 111, 111, 32, 98, 105, 103, 32, 109, 98, 117, 108, 107, 32, 99, 111, 117, 110, 116, 32, 115, 116, 114, 105, 110, 103]⟩
def badCnt : ByteArray := ⟨#[80, 114, 111, 116, 111, 99, 111, 108, 32, 101, 114, 114, 111, 114, 58, 32, 105, 110, 118, 97, 108, 105, 100, 32, 109, 117, 108, 116, 105, 98, 117, 108, 107, 32, 108, 101, 110, 103, 116, 104]⟩
/-- what the whole line tells that says how many words there are. -/
def cntO (next : PS → SP.Bs → RO) (S : PS) (rest l : SP.Bs) : RO :=
  if cntOk l = true then (if cntN l < 1 then ⟨{ S with st := 1, part := [], more := cntN l }, rest, [], [], 1⟩ else rdWord next { S with st := 1, part := [], more := cntN l } rest)
  else ⟨{ S with st := 1, part := [], more := cntN l }, [], [], badCnt.data.toList, 2⟩
/-- read, in the line that tells how many words a request has. -/
def rdCount (next : PS → SP.Bs → RO) (S : PS) (s : SP.Bs) : RO := match lfAt (s.take (65 - S.part.length)) with
  | none => if 64 < (S.part ++ s.take (65 - S.part.length)).length then ⟨{ S with st := 1, part := S.part ++ s.take (65 - S.part.length) }, [], [], longCnt.data.toList, 2⟩ else ⟨{ S with st := 1, part := S.part ++ s.take (65 - S.part.length) }, [], [], [], 0⟩
  | some k => cntO next S (s.drop (k + 1)) ((eol (S.part ++ s.take k)).drop 1)
set_option maxRecDepth 20000 in
set_option maxHeartbeats 4000000 in
theorem seg0_no (B q r : Nat) (pv0 wv0 pv wv : Value) (S : PS) (s : ByteArray) (u : Nat → Value) (w0 w : World) (h : PA B w q pv wv S) (hM : Mv w0 w q pv0 wv0 pv wv) (hr0 : w0.heap.size ≤ r) (hrow : w.heap[r]? = some (.cells #[.slice none 0 0, .string ⟨#[]⟩] 47)) (hn : S.part.length ≤ 64) (hs : s.size ≤ 1073741824) (hi : lfAt (s.data.toList.take (65 - S.part.length)) = none)
    (next : PS → SP.Bs → RO) (post : Ending → World → Prop) (J : Nat → Act → World → Prop) (hpost : ∀ e w', RdIs B w0 w' q pv0 wv0 e (rdCount next S s.data.toList) → post e w') :
    (scopeTl Tryz.f25 0).wp Tryz.prog (jumps J (bodyPost Tryz.prog Tryz.f25 post)) (Fr q s r u) w := by
  have HP : Hid _ := hpost
  obtain ⟨c0, c1, c2, c3, c4, c5, c6, cf⟩ := h.row.cells
  obtain ⟨W1, hW1⟩ : ∃ W, W = w.setCell ⟨q, 0, none⟩ (.int .i64 1) := ⟨_, rfl⟩
  have HS : Hid (PA B W1 q pv wv { S with st := 1 } ∧ Mv w W1 q pv wv pv wv) := by rw [hW1]; exact h.st0 1
  have HR1 : Hid _ := HS.out.2.req h hrow
  have HM1 : Hid _ := hM.trans HS.out.2
  have HTE : Hid _ := toEnd_no B q pv wv { S with st := 1 } s 64 (by omega) hn hs W1 HS.out.1 hi
  have HRL : Hid (rdCount next S s.data.toList = if 64 < (S.part ++ s.data.toList.take (65 - S.part.length)).length then ⟨{ S with st := 1, part := S.part ++ s.data.toList.take (65 - S.part.length) }, [], [], longCnt.data.toList, 2⟩ else ⟨{ S with st := 1, part := S.part ++ s.data.toList.take (65 - S.part.length) }, [], [], [], 0⟩) := by show _ = _; unfold rdCount; rw [hi]
  obtain ⟨Q, hQ⟩ : ∃ Q, Q = jumps J (bodyPost Tryz.prog Tryz.f25 post) := ⟨_, rfl⟩
  rw [← hQ]
  have HQ : Hid _ := hQ
  clear hQ hpost h hM hi hrow
  simp only [scopeTl, scopeTo, scopeIn, Tryz.f25, findLabel, Nat.reduceBEq, Bool.false_eq_true, ↓reduceIte, Option.getD_some, Option.getD_none, Fr]
  go_wp2_with fail
  rw [← hW1]
  refine (show Calls _ _ _ _ _ from HTE.out).mono ?_
  rintro e w2 ⟨rfl, pv2, hp2, hm2⟩
  obtain ⟨P2, c2', hf2⟩ := own_form hp2.po
  dsimp only at hf2
  subst hf2
  have HP2 : Hid _ := hp2
  have HM2 : Hid _ := HM1.out.trans hm2
  have HR2 : Hid _ := hm2.req HS.out.1 HR1.out
  clear hp2 hm2 c0 c1 c2 c3 c4 c5 c6 cf hW1
  by_cases hlen : 64 < (S.part ++ s.data.toList.take (65 - S.part.length)).length
  · have HLN : Hid _ := hlen
    go_wp2_with fail
    refine (unended_fault q 1 S.held _ c2' 64 P2 wv S.more S.total S.size longCnt (by decide) HLN.out w2 HP2.out.row).mono ?_
    rintro e w3 ⟨rfl, hb3⟩
    have HP3 : Hid _ := HP2.out.on hb3
    have HM3 : Hid _ := HM2.out.trans (mv_bel hb3)
    have HR3 : Hid _ := keep_row HR2.out hb3
    obtain ⟨z0, z1, zf⟩ := prow2 HR3.out
    clear hb3 hlen
    go_wp2
    rw [HQ.out]
    have e1 := HRL.out
    rw [if_pos HLN.out] at e1
    exact rd_fin B q r pv0 wv0 _ wv w0 w3 (rdCount next S s.data.toList) _ _ (by rw [e1]; exact HP3.out) HM3.out hr0 HR3.out (.slice none 0 0) ⟨#[]⟩ longCnt 2 (by rw [e1]; rfl) (by rw [e1]; rfl) (by rw [e1]) (by rw [e1]; exact own_nil) _ rfl rfl rfl rfl post J HP.out
  · have HLN : Hid _ := hlen
    go_wp2_with fail
    refine (unended_wait q 1 S.held _ c2' 64 P2 wv S.more S.total S.size longCnt (Nat.le_of_not_lt HLN.out) w2 HP2.out.row).mono ?_
    rintro e w3 ⟨rfl, hb3⟩
    have HP3 : Hid _ := HP2.out.on hb3
    have HM3 : Hid _ := HM2.out.trans (mv_bel hb3)
    have HR3 : Hid _ := keep_row HR2.out hb3
    obtain ⟨z0, z1, zf⟩ := prow2 HR3.out
    clear hb3 hlen
    go_wp2
    rw [HQ.out]
    have e1 := HRL.out
    rw [if_neg HLN.out] at e1
    exact rd_fin B q r pv0 wv0 _ wv w0 w3 (rdCount next S s.data.toList) _ _ (by rw [e1]; exact HP3.out) HM3.out hr0 HR3.out (.slice none 0 0) ⟨#[]⟩ ⟨#[]⟩ 0 (by rw [e1]; rfl) (by rw [e1]; rfl) (by rw [e1]) (by rw [e1]; exact own_nil) _ rfl rfl rfl rfl post J HP.out
set_option maxRecDepth 20000 in
set_option maxHeartbeats 4000000 in
theorem seg0_yes (B q r k : Nat) (pv0 wv0 pv wv : Value) (S : PS) (s : ByteArray) (u : Nat → Value) (w0 w : World) (h : PA B w q pv wv S) (hM : Mv w0 w q pv0 wv0 pv wv) (hr0 : w0.heap.size ≤ r) (hrow : w.heap[r]? = some (.cells #[.slice none 0 0, .string ⟨#[]⟩] 47)) (hW : S.words = [] ∧ 0 ≤ S.total ∧ S.total ≤ 33554432) (hn : S.part.length ≤ 64) (hs : s.size ≤ 1073741824) (hi : lfAt (s.data.toList.take (65 - S.part.length)) = some k) (hE : eol (S.part ++ s.data.toList.take k) ≠ []) (hL : ∀ W, Below B w W → Laid W)
    (next : PS → SP.Bs → RO) (post : Ending → World → Prop) (J : Nat → Act → World → Prop) (R : RO) (hR : rdCount next S s.data.toList = R) (hpost : ∀ e w', RdIs B w0 w' q pv0 wv0 e R → post e w')
    (hJ : ∀ a' w' s' pv' wv' S', IsFr a' q s' r → PA B w' q pv' wv' S' → Mv w0 w' q pv0 wv0 pv' wv' → w'.heap[r]? = some (.cells #[.slice none 0 0, .string ⟨#[]⟩] 47) → WInv S' → S'.part = [] → s'.size < s.size → next S' s'.data.toList = R → J 1 a' w') :
    (scopeTl Tryz.f25 0).wp Tryz.prog (jumps J (bodyPost Tryz.prog Tryz.f25 post)) (Fr q s r u) w := by
  have HP : Hid _ := hpost
  have HJ : Hid _ := hJ
  have HW : Hid _ := hW
  obtain ⟨c0, c1, c2, c3, c4, c5, c6, cf⟩ := h.row.cells
  obtain ⟨W1, hW1⟩ : ∃ W, W = w.setCell ⟨q, 0, none⟩ (.int .i64 1) := ⟨_, rfl⟩
  have HS : Hid (PA B W1 q pv wv { S with st := 1 } ∧ Mv w W1 q pv wv pv wv) := by rw [hW1]; exact h.st0 1
  have HR1 : Hid _ := HS.out.2.req h hrow
  have HM1 : Hid _ := hM.trans HS.out.2
  have HA : Hid _ := h
  have HLD : Hid _ := hL
  have hkl : k < 65 := by have := (lf_some _ _ hi).2; rw [List.length_take] at this; omega
  have hks : k < s.size := by have := (lf_some _ _ hi).2; rw [List.length_take, list_len] at this; omega
  have HTE : Hid _ := toEnd_yes B q k pv wv { S with st := 1 } s 64 (by omega) hn hs W1 HS.out.1 hi
  have HPL : Hid ((S.part ++ s.data.toList.take k).length ≤ 1073741824) := by show _ ≤ _; rw [List.length_append, List.length_take]; omega
  have HRL : Hid (cntO next S (s.data.toList.drop (k + 1)) ((eol (S.part ++ s.data.toList.take k)).drop 1) = R) := by show _ = _; rw [← hR]; unfold rdCount; rw [hi]
  have HSX : Hid ((s.extract (k + 1) s.size).size < s.size) := by show _ < _; rw [ext_size _ _ _ (Nat.le_refl _)]; omega
  have HEE : Hid _ := hE
  obtain ⟨Q, hQ⟩ : ∃ Q, Q = jumps J (bodyPost Tryz.prog Tryz.f25 post) := ⟨_, rfl⟩
  rw [← hQ]
  have HQ : Hid _ := hQ
  clear hQ hpost h hM hi hrow hL hW hE hR hJ
  simp only [scopeTl, scopeTo, scopeIn, Tryz.f25, findLabel, Nat.reduceBEq, Bool.false_eq_true, ↓reduceIte, Option.getD_some, Option.getD_none, Fr]
  go_wp2_with fail
  rw [← hW1]
  refine (show Calls _ _ _ _ _ from HTE.out).mono ?_
  rintro e w2 ⟨rfl, pv2, hp2, hm2⟩
  have HP2 : Hid _ := hp2
  have HM2 : Hid _ := HM1.out.trans hm2
  have HMW : Hid _ := HS.out.2.trans hm2
  have HR2 : Hid _ := hm2.req HS.out.1 HR1.out
  clear hp2 hm2 c0 c1 c2 c3 c4 c5 c6 cf hW1
  go_wp2_with fail
  refine (count_any B q pv2 wv { S with st := 1, part := S.part ++ s.data.toList.take k } HPL.out HEE.out w2 HP2.out (fun W hW => HLD.out W ((HMW.out.below HA.out).trans hW))).mono ?_
  rintro e w3 ⟨rfl, pv3, hp3, hm3⟩
  have HM3 : Hid _ := HM2.out.trans hm3
  have HR3 : Hid _ := hm3.req HP2.out HR2.out
  have HMV : Hid _ := HMW.out.trans hm3
  have HP3 : Hid _ := hp3
  clear hp3 hm3
  dsimp only
  obtain ⟨L, hLL⟩ : ∃ L, (eol (S.part ++ s.data.toList.take k)).drop 1 = L := ⟨_, rfl⟩
  rw [hLL]
  rw [hLL] at HP3 HRL
  clear hLL
  cases hok : cntOk L with
  | false =>
    have e1 : (⟨{ S with st := 1, part := [], more := cntN L }, [], [], badCnt.data.toList, 2⟩ : RO) = R := by rw [← HRL.out]; unfold cntO; rw [hok]; rfl
    have HE1 : Hid _ := e1
    clear e1 hok
    go_wp2_with fail
    refine (stop_fault badCnt (by decide) w3).mono ?_
    rintro e w4 ⟨rfl, hb4⟩
    have HP4 : Hid _ := HP3.out.on hb4
    have HM4 : Hid _ := HM3.out.trans (mv_bel hb4)
    have HR4 : Hid _ := keep_row HR3.out hb4
    obtain ⟨z0, z1, zf⟩ := prow2 HR4.out
    clear hb4
    go_wp2
    rw [HQ.out]
    have e1 := HE1.out
    exact rd_fin B q r pv0 wv0 _ wv w0 w4 R _ _ (by rw [← e1]; exact HP4.out) HM4.out hr0 HR4.out (.slice none 0 0) ⟨#[]⟩ badCnt 2 (by rw [← e1]; rfl) (by rw [← e1]; rfl) (by rw [← e1]) (by rw [← e1]; exact own_nil) _ rfl rfl rfl rfl post J HP.out
  | true =>
    have hle : cntN L ≤ 1048576 := by
      unfold cntOk at hok
      unfold cntN
      cases hno : numberOf L with
      | none => rw [hno] at hok; cases hok
      | some v => rw [hno] at hok; simpa using hok
    obtain ⟨c, hc⟩ : ∃ c, cntN L = c := ⟨_, rfl⟩
    rw [hc] at HP3 hle
    obtain ⟨b0, b1, b2, b3, b4, b5, b6, bf⟩ := HP3.out.row.cells
    dsimp only at b0 b1 b2 b3 b4 b5 b6
    obtain ⟨z0, z1, zf⟩ := prow2 HR3.out
    by_cases h1 : c < 1
    · have e1 : (⟨{ S with st := 1, part := [], more := c }, s.data.toList.drop (k + 1), [], [], 1⟩ : RO) = R := by rw [← HRL.out]; unfold cntO; rw [hok, hc, if_pos rfl, if_pos h1]
      have HE1 : Hid _ := e1
      clear e1 hok hc
      go_wp2
      rw [HQ.out]
      have e1 := HE1.out
      exact rd_fin B q r pv0 wv0 _ wv w0 w3 R _ _ (by rw [← e1]; exact HP3.out) HM3.out hr0 HR3.out (.slice none 0 0) (s.extract (k + 1) s.size) ⟨#[]⟩ 1 (by rw [← e1]; exact rest_str _ _) (by rw [← e1]; rfl) (by rw [← e1]) (by rw [← e1]; exact own_nil) _ rfl rfl rfl rfl post J HP.out
    · have e1 : rdWord next { S with st := 1, part := [], more := c } (s.data.toList.drop (k + 1)) = R := by rw [← HRL.out]; unfold cntO; rw [hok, hc, if_pos rfl, if_neg h1]
      have HE1 : Hid _ := e1
      have HC1 : Hid (1 ≤ c) := by show _ ≤ _; omega
      have HC2 : Hid _ := hle
      clear e1 hok hc
      go_wp2
      rename_i K1 hK1
      apply wp_label
      show K1 _ _
      apply hK1
      refine (?_ : ∀ fa, IsFr fa q (s.extract (k + 1) s.size) r → Code.wp Tryz.prog (scopeTl Tryz.f25 1) Q fa w3) _ rfl
      intro fa hfa
      obtain ⟨u', rfl⟩ := hfa.get
      rw [HQ.out]
      refine seg1 B q r pv0 wv0 _ wv _ _ u' w0 w3 HP3.out HM3.out hr0 HR3.out ⟨HC1.out, ?_, HW.out.2.1, HW.out.2.2⟩ rfl ?_ (fun W hW => HLD.out W ((HMV.out.below HA.out).trans hW)) next post J R ?_ HP.out ?_
      · show (S.words.length : Int) + c ≤ 1048576
        rw [HW.out.1]; have := HC2.out; simp; omega
      · have := HSX.out; omega
      · rw [← rest_str, strB_list]; exact HE1.out
      · intro a' w' s' pv' wv' S' g1 g2 g3 g4 g5 g6 g7 g8
        exact HJ.out a' w' s' pv' wv' S' g1 g2 g3 g4 g5 g6 (by have := HSX.out; omega) g8
/-- read in the line that tells how many words there are, and from there on. -/
theorem seg0 (B q r : Nat) (pv0 wv0 pv wv : Value) (S : PS) (s : ByteArray) (u : Nat → Value) (w0 w : World) (h : PA B w q pv wv S) (hM : Mv w0 w q pv0 wv0 pv wv) (hr0 : w0.heap.size ≤ r) (hrow : w.heap[r]? = some (.cells #[.slice none 0 0, .string ⟨#[]⟩] 47)) (hW : S.words = [] ∧ 0 ≤ S.total ∧ S.total ≤ 33554432) (hn : S.part.length ≤ 64) (hs : s.size ≤ 1073741824) (hE : ∀ k, lfAt (s.data.toList.take (65 - S.part.length)) = some k → eol (S.part ++ s.data.toList.take k) ≠ []) (hL : ∀ W, Below B w W → Laid W)
    (next : PS → SP.Bs → RO) (post : Ending → World → Prop) (J : Nat → Act → World → Prop) (R : RO) (hR : rdCount next S s.data.toList = R) (hpost : ∀ e w', RdIs B w0 w' q pv0 wv0 e R → post e w')
    (hJ : ∀ a' w' s' pv' wv' S', IsFr a' q s' r → PA B w' q pv' wv' S' → Mv w0 w' q pv0 wv0 pv' wv' → w'.heap[r]? = some (.cells #[.slice none 0 0, .string ⟨#[]⟩] 47) → WInv S' → S'.part = [] → s'.size < s.size → next S' s'.data.toList = R → J 1 a' w') :
    (scopeTl Tryz.f25 0).wp Tryz.prog (jumps J (bodyPost Tryz.prog Tryz.f25 post)) (Fr q s r u) w := by
  cases hi : lfAt (s.data.toList.take (65 - S.part.length)) with
  | none => exact seg0_no B q r pv0 wv0 pv wv S s u w0 w h hM hr0 hrow hn hs hi next post J (by rw [hR]; exact hpost)
  | some k => exact seg0_yes B q r k pv0 wv0 pv wv S s u w0 w h hM hr0 hrow hW hn hs hi (hE k hi) hL next post J R hR hpost hJ
end Go.Proofs.YtnfbaeajalnmmaaGreatDoor
namespace Go.Proofs.YtnfbaeajalnmmaaGreatDoor
open Go.RowKit Vi
set_option linter.unusedVariables false
set_option linter.unusedSimpArgs false
/-- what holds at a label of read, and what is to come of it. -/
def RGo (l f : Nat) (S : PS) (s : SP.Bs) (R : RO) : Prop := match l with
  | 0 => S.part.length ≤ 64 ∧ (S.words = [] ∧ 0 ≤ S.total ∧ S.total ≤ 33554432) ∧ (∀ k, lfAt (s.take (65 - S.part.length)) = some k → eol (S.part ++ s.take k) ≠ []) ∧ rdCount (rdW f) S s = R
  | 1 => WInv S ∧ S.part = [] ∧ rdW f S s = R
  | 2 => WInv S ∧ S.part.length ≤ 64 ∧ (∀ k, lfAt (s.take (65 - S.part.length)) = some k → eol (S.part ++ s.take k) ≠ []) ∧ rdLen (rdW f) S s = R
  | 3 => WInv S ∧ (∃ sz : Nat, S.size = (sz : Int) ∧ sz ≤ 524288 ∧ S.part.length < sz + 2) ∧ rdBody (rdW f) S s = R
  | _ => S.part.length ≤ 65536 ∧ rdLine S s = R
def RJ (B q r : Nat) (pv0 wv0 : Value) (w0 : World) (R : RO) (l : Nat) (a : Act) (w : World) : Prop := l < 5 ∧ ∃ f s pv wv S, IsFr a q s r ∧ PA B w q pv wv S ∧ Mv w0 w q pv0 wv0 pv wv ∧ w.heap[r]? = some (.cells #[.slice none 0 0, .string ⟨#[]⟩] 47) ∧ s.size < f ∧ s.size ≤ 1073741824 ∧ RGo l f S s.data.toList R
def slen (v : Value) : Nat := match v with
  | .string s => s.size
  | _ => 0
def RM (_ : Nat) (a : Act) (_ : World) : Nat := slen (a.tmps.getD 1 undef)
theorem rm_fr {l : Nat} {a : Act} {q : Nat} {s : ByteArray} {r : Nat} {w : World} (h : IsFr a q s r) : RM l a w = s.size := by
  obtain ⟨u, rfl⟩ := h.get
  rfl
theorem rm_fr' {l : Nat} {u : Nat → Value} {q : Nat} {s : ByteArray} {r : Nat} {w : World} : RM l (Fr q s r u) w = s.size := rfl
/-- from a label on. -/
theorem rd_pass (B q r : Nat) (pv0 wv0 : Value) (S0 : PS) (w0 : World) (h0 : PA B w0 q pv0 wv0 S0) (hr0 : w0.heap.size ≤ r) (hL : ∀ W, Below B w0 W → Laid W) (R : RO) (post : Ending → World → Prop) (hpost : ∀ e w', RdIs B w0 w' q pv0 wv0 e R → post e w') (l : Nat) (a : Act) (w : World) (hj : RJ B q r pv0 wv0 w0 R l a w) :
    (scopeTo Tryz.f25 l).wp Tryz.prog (jumps (fun l' a' w' => RJ B q r pv0 wv0 w0 R l' a' w' ∧ RM l' a' w' < RM l a w) (bodyPost Tryz.prog Tryz.f25 post)) a w := by
  obtain ⟨hl, f, s, pv, wv, S, hfr, hp, hm, hrow, hf, hs, hgo⟩ := hj
  obtain ⟨u, rfl⟩ := hfr.get
  have hL2 : ∀ W, Below B w W → Laid W := fun W hW => hL W ((hm.below h0).trans hW)
  have hJ : ∀ g, s.size ≤ g → ∀ a' w' s' pv' wv' S', IsFr a' q s' r → PA B w' q pv' wv' S' → Mv w0 w' q pv0 wv0 pv' wv' → w'.heap[r]? = some (.cells #[.slice none 0 0, .string ⟨#[]⟩] 47) → WInv S' → S'.part = [] → s'.size < s.size → rdW g S' s'.data.toList = R → (RJ B q r pv0 wv0 w0 R 1 a' w' ∧ RM 1 a' w' < RM l (Fr q s r u) w) := by
    intro g hg a' w' s' pv' wv' S' g1 g2 g3 g4 g5 g6 g7 g8
    exact ⟨⟨by omega, g, s', pv', wv', S', g1, g2, g3, g4, by omega, by omega, g5, g6, g8⟩, by rw [rm_fr g1, rm_fr']; exact g7⟩
  apply tl_to hl
  match l, hl, hgo with
  | 0, _, ⟨k1, k2, k3, k4⟩ => exact seg0 B q r pv0 wv0 pv wv S s u w0 w hp hm hr0 hrow k2 k1 hs k3 hL2 (rdW f) post _ R k4 hpost (hJ f (by omega))
  | 1, _, ⟨k1, k2, k3⟩ =>
    cases f with
    | zero => omega
    | succ f => exact seg1 B q r pv0 wv0 pv wv S s u w0 w hp hm hr0 hrow k1 k2 hs hL2 (rdW f) post _ R k3 hpost (hJ f (by omega))
  | 2, _, ⟨k1, k2, k3, k4⟩ => exact seg2 B q r pv0 wv0 pv wv S s u w0 w hp hm hr0 hrow k1 k2 hs k3 hL2 (rdW f) post _ R k4 hpost (hJ f (by omega))
  | 3, _, ⟨k1, ⟨sz, k2, k3, k4⟩, k5⟩ => exact seg3 B q r pv0 wv0 pv wv S s u w0 w hp hm hr0 hrow k1 sz k2 k3 k4 hs (rdW f) R k5 post _ hpost (hJ f (by omega))
  | 4, _, ⟨k1, k2⟩ => exact seg4 B q r pv0 wv0 pv wv S s u w0 w hp hm hr0 hrow k1 hs hL2 post _ (by rw [k2]; exact hpost)
end Go.Proofs.YtnfbaeajalnmmaaGreatDoor
namespace Go.Proofs.YtnfbaeajalnmmaaGreatDoor
open Go.RowKit Vi
set_option linter.unusedVariables false
set_option linter.unusedSimpArgs false
/-- what holds of a parser between two feeds. -/
structure RInv (S : PS) : Prop where
  le : S.st ≤ 5
  r0 : S.st = 0 → S.part = [] ∧ S.words = [] ∧ S.total = 0
  r1 : S.st = 1 → S.part.length ≤ 64 ∧ (∃ t, S.part = 42 :: t) ∧ S.words = [] ∧ 0 ≤ S.total ∧ S.total ≤ 33554432
  r2 : S.st = 2 → WInv S ∧ S.part = []
  r3 : S.st = 3 → WInv S ∧ S.part.length ≤ 64 ∧ ∃ t, S.part = 36 :: t
  r4 : S.st = 4 → WInv S ∧ ∃ sz : Nat, S.size = (sz : Int) ∧ sz ≤ 524288 ∧ S.part.length < sz + 2
  r5 : S.st = 5 → S.part.length ≤ 65536
/-- read, as plain data. -/
def rdF (f : Nat) (S : PS) (s : SP.Bs) : RO := match S.st with
  | 0 => if s.head? = some 42 then rdCount (rdW f) S s else rdLine S s
  | 1 => rdCount (rdW f) S s
  | 2 => rdW f S s
  | 3 => rdLen (rdW f) S s
  | 4 => rdBody (rdW f) S s
  | _ => rdLine S s
theorem part_eol {b : UInt8} {t : SP.Bs} {p s : SP.Bs} (hb : b ≠ 13) (hp : p = b :: t) (k : Nat) : eol (p ++ s.take k) ≠ [] := by
  rw [hp, List.cons_append]; exact eol_full hb
set_option maxRecDepth 20000 in
set_option maxHeartbeats 2000000 in
theorem read_any (B q f : Nat) (pv wv : Value) (S : PS) (s : ByteArray) (hs : s.size ≤ 1073741824) (h0 : 0 < s.size) (hf : s.size < f) (hI : RInv S) (w : World) (h : PA B w q pv wv S) (hL : ∀ W, Below B w W → Laid W) :
    Calls Tryz.prog 25 #[.pointer (some ⟨q, 0, none⟩), .string s] w fun e w' => RdIs B w w' q pv wv e (rdF f S s.data.toList) := by
  obtain ⟨W0, hW0⟩ : ∃ W, W = w.alloc (.cells #[.slice none 0 0, .string ⟨#[]⟩] 47) := ⟨_, rfl⟩
  have hb0 : Below w.heap.size w W0 := by rw [hW0]; exact (Below.refl _ _).alloc (Nat.le_refl _) _
  have HP0 : Hid _ := h.on hb0
  have HM0 : Hid (Mv w W0 q pv wv pv wv) := mv_bel hb0
  have HR0 : Hid (W0.heap[w.heap.size]? = some (.cells #[.slice none 0 0, .string ⟨#[]⟩] 47)) := by show _ = _; rw [hW0]; exact one_alloc _ _
  have HA : Hid _ := h
  have HI : Hid _ := hI
  have HL : Hid _ := hL
  obtain ⟨c0, c1, c2, c3, c4, c5, c6, cf⟩ := HP0.out.row.cells
  clear h hI hL hb0
  go_enter Tryz.func25, Tryz.ntmps25
  go_wp2
  rw [← hW0]
  refine wp_scope_labels (scopeTo Tryz.f25) (RJ B q w.heap.size pv wv w (rdF f S s.data.toList)) RM (fun l a w hj => rd_to l hj.1) ?_ (fun l a w' hj => rd_pass B q w.heap.size pv wv S w HA.out (Nat.le_refl _) HL.out _ _ (fun e w' hr => hr) l a w' hj)
  generalize hQ : jumps _ _ = Q
  have HQ : Hid _ := hQ
  clear hQ hW0
  have hle := HI.out.le
  have hcs : S.st = 0 ∨ S.st = 1 ∨ S.st = 2 ∨ S.st = 3 ∨ S.st = 4 ∨ S.st = 5 := by omega
  clear hle
  rcases hcs with hst | hst | hst | hst | hst | hst
  · have HK : Hid _ := hst
    rw [hst] at c0
    obtain ⟨i1, i2, i3⟩ := HI.out.r0 hst
    have HI1 : Hid _ := i1
    have HI2 : Hid _ := i2
    have HI3 : Hid _ := i3
    have HT := head_tl s h0
    have HHT : Hid _ := HT
    by_cases hb : s[0] = 42
    · have hcn : ((s[0].toNat : Int) != 42) = false := by rw [hb]; rfl
      have HB : Hid _ := hb
      clear hst i1 i2 i3 HT hb
      go_wp2
      rename_i K1 hK1
      apply wp_label
      show K1 _ _
      apply hK1
      refine (?_ : ∀ fa, IsFr fa q s w.heap.size → Code.wp Tryz.prog (scopeTl Tryz.f25 0) Q fa W0) _ rfl
      intro fa hfa
      obtain ⟨u', rfl⟩ := hfa.get
      rw [← HQ.out]
      have e1 : rdF f S s.data.toList = rdCount (rdW f) S s.data.toList := by unfold rdF; rw [HK.out]; exact if_pos (by rw [HHT.out, HB.out]; rfl)
      refine seg0 B q w.heap.size pv wv pv wv S s u' w W0 HP0.out HM0.out (Nat.le_refl _) HR0.out ⟨HI2.out, by rw [HI3.out]; omega, by rw [HI3.out]; omega⟩ (by rw [HI1.out]; simp) hs ?_ (fun W hW => HL.out W ((HM0.out.below HA.out).trans hW)) (rdW f) _ _ _ e1.symm (fun e w' hr => hr) ?_
      · intro k hk
        rw [HI1.out, List.nil_append]
        rw [HI1.out] at hk
        rw [HHT.out] at hk ⊢
        obtain ⟨j, rfl⟩ := lf_cons (by rw [HB.out]; decide) hk
        rw [List.take_succ_cons]
        exact eol_full (by rw [HB.out]; decide)
      · intro a' w' s' pv' wv' S' g1 g2 g3 g4 g5 g6 g7 g8
        exact ⟨by omega, f, s', pv', wv', S', g1, g2, g3, g4, by omega, by omega, g5, g6, g8⟩
    · have hcn : ((s[0].toNat : Int) != 42) = true := by
        have : ¬ ((s[0].toNat : Int) = 42) := fun e => hb (UInt8.toNat_inj.1 (by show s[0].toNat = 42; omega))
        simpa using this
      have HB : Hid _ := hb
      clear hst i1 i2 i3 HT hb
      go_wp2
      go_step3
      show Q _ _ _
      rw [← HQ.out, jumps_goto]
      refine ⟨by omega, f, s, pv, wv, S, rfl, HP0.out, HM0.out, HR0.out, hf, hs, ?_⟩
      have e1 : rdF f S s.data.toList = rdLine S s.data.toList := by unfold rdF; rw [HK.out]; exact if_neg (by rw [HHT.out]; intro e; injection e with e; exact HB.out e)
      rw [e1]
      exact ⟨by rw [HI1.out]; simp, rfl⟩
  · have HK : Hid _ := hst
    rw [hst] at c0
    clear hst
    go_wp2
    go_step3
    show Q _ _ _
    rw [← HQ.out, jumps_goto]
    refine ⟨by omega, f, s, pv, wv, S, rfl, HP0.out, HM0.out, HR0.out, hf, hs, ?_⟩
    have e1 : rdF f S s.data.toList = rdCount (rdW f) S s.data.toList := by unfold rdF; rw [HK.out]; rfl
    rw [e1]
    obtain ⟨k1, ⟨tt, k2⟩, k3, k4, k5⟩ := HI.out.r1 HK.out
    exact ⟨k1, ⟨k3, k4, k5⟩, fun k hk => part_eol (by decide) k2 k, rfl⟩
  · have HK : Hid _ := hst
    rw [hst] at c0
    clear hst
    go_wp2
    go_step3
    show Q _ _ _
    rw [← HQ.out, jumps_goto]
    refine ⟨by omega, f, s, pv, wv, S, rfl, HP0.out, HM0.out, HR0.out, hf, hs, ?_⟩
    have e1 : rdF f S s.data.toList = rdW f S s.data.toList := by unfold rdF; rw [HK.out]; rfl
    rw [e1]
    obtain ⟨k1, k2⟩ := HI.out.r2 HK.out
    exact ⟨k1, k2, rfl⟩
  · have HK : Hid _ := hst
    rw [hst] at c0
    clear hst
    go_wp2
    go_step3
    show Q _ _ _
    rw [← HQ.out, jumps_goto]
    refine ⟨by omega, f, s, pv, wv, S, rfl, HP0.out, HM0.out, HR0.out, hf, hs, ?_⟩
    have e1 : rdF f S s.data.toList = rdLen (rdW f) S s.data.toList := by unfold rdF; rw [HK.out]; rfl
    rw [e1]
    obtain ⟨k1, k2, tt, k3⟩ := HI.out.r3 HK.out
    exact ⟨k1, k2, fun k hk => part_eol (by decide) k3 k, rfl⟩
  · have HK : Hid _ := hst
    rw [hst] at c0
    clear hst
    go_wp2
    go_step3
    show Q _ _ _
    rw [← HQ.out, jumps_goto]
    refine ⟨by omega, f, s, pv, wv, S, rfl, HP0.out, HM0.out, HR0.out, hf, hs, ?_⟩
    have e1 : rdF f S s.data.toList = rdBody (rdW f) S s.data.toList := by unfold rdF; rw [HK.out]; rfl
    rw [e1]
    obtain ⟨k1, k2⟩ := HI.out.r4 HK.out
    exact ⟨k1, k2, rfl⟩
  · have HK : Hid _ := hst
    rw [hst] at c0
    clear hst
    go_wp2
    go_step3
    show Q _ _ _
    rw [← HQ.out, jumps_goto]
    refine ⟨by omega, f, s, pv, wv, S, rfl, HP0.out, HM0.out, HR0.out, hf, hs, ?_⟩
    have e1 : rdF f S s.data.toList = rdLine S s.data.toList := by unfold rdF; rw [HK.out]; rfl
    rw [e1]
    exact ⟨HI.out.r5 HK.out, rfl⟩
end Go.Proofs.YtnfbaeajalnmmaaGreatDoor
