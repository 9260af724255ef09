import Derived.Test.YtnfbaeajalnmmaaGreatDoorGH
namespace Go.Proofs.YtnfbaeajalnmmaaGreatDoor
open Go.RowKit Vi
set_option linter.unusedVariables false
set_option linter.unusedSimpArgs false
theorem word_rest (S : PS) (s : SP.Bs) (hs : s ≠ []) : (rdN S s).rest.length < s.length := by
  rw [rdN_eq]
  cases s with
  | nil => exact absurd rfl hs
  | cons b t =>
    unfold rdWord
    dsimp only
    by_cases hb : b = 36
    · rw [if_pos hb]; exact len_rest _ _ (by simp) (fun n _ => sho_all n)
    · rw [if_neg hb]; exact Nat.succ_pos _
theorem rdG_rest (S : PS) (s : SP.Bs) (hI : RInv S) (hs : s ≠ []) : (rdG S s).rest.length < s.length := by
  have h0 : 0 < s.length := by cases s with | nil => exact absurd rfl hs | cons b t => simp
  obtain ⟨st, held, part, words, more, total, size⟩ := S
  match st, hI with
  | 0, hI =>
    by_cases hb : s.head? = some 42
    · rw [show rdG ⟨0, held, part, words, more, total, size⟩ s = rdCount rdN ⟨0, held, part, words, more, total, size⟩ s from if_pos hb]; exact count_rest _ s hs
    · rw [show rdG ⟨0, held, part, words, more, total, size⟩ s = rdLine ⟨0, held, part, words, more, total, size⟩ s from if_neg hb]; exact line_rest _ s hs
  | 1, hI => exact count_rest _ s hs
  | 2, hI => exact word_rest _ s hs
  | 3, hI => exact len_rest _ s hs (fun n _ => sho_all n)
  | 4, hI =>
    obtain ⟨_, sz, h1, h2, h3⟩ := hI.r4 rfl
    have h1' : size = (sz : Int) := h1
    have h3' : part.length < sz + 2 := h3
    refine Nat.lt_of_le_of_lt (body_rest ⟨4, held, part, words, more, total, size⟩ s (sho_all _)) ?_
    show s.length - (size.toNat + 2 - part.length) < _
    rw [h1', Int.toNat_natCast]; omega
  | n + 5, hI => exact line_rest _ s hs
theorem PA.held {B : Nat} {w : World} {q : Nat} {pv wv : Value} {S : PS} (h : PA B w q pv wv S) (n : Nat) (v : Int) (hv : v = (n : Int)) : PA B (w.setCell ⟨q, 1, none⟩ (.int .i64 v)) q pv wv (hS S n) ∧ Mv w (w.setCell ⟨q, 1, none⟩ (.int .i64 v)) q pv wv pv wv := by
  subst hv
  have ho : Only w (w.setCell ⟨q, 1, none⟩ (.int .i64 (n : Int))) q := (Only.refl _ _).set _ _
  refine ⟨h.cells ho ?_ rfl rfl, mv_only ho rfl rfl⟩
  have := h.row
  unfold PrR at this ⊢
  rw [heap_setCell_same _ _ _ _ _ _ this]; rfl
theorem told_two {R : RO} (h : R.k = 2) : told R = [⟨R.args, R.err⟩] := if_pos h
theorem told_not {R : RO} (h : R.k ≠ 2) : told R = [] := if_neg h
/-- read, in Feed. -/
theorem read_feed (B q nE c : Nat) (P : Option Addr) (pv wv pv1 wv1 : Value) (P1 : SP.Bs) (s : ByteArray) (w wr : World) (E : List (Value × Rq)) (hs : s.size ≤ 1073741824) (h0 : ¬ s.size = 0) (hp : Pnd (some P1)) (hF : FI B w.heap.size w wr q pv wv pv1 wv1 (stP (some P1)) (.slice P nE c) E) (hL : ∀ W, Below B wr W → Laid W) (G : RO) (hG : rdG (PS0 0) (P1 ++ s.data.toList) = G) :
    Calls Tryz.prog 25 #[.pointer (some ⟨q, 0, none⟩), .string s] wr fun e w' => ∃ pv2 wv2 P2 c2, e = .returned (.tuple #[.string (strB G.rest), .agg #[.slice P2 G.args.length c2, .string (strB G.err)], .int .i64 G.k]) ∧ FI B w.heap.size w w' q pv wv pv2 wv2 (hS G.S P1.length) (.slice P nE c) E ∧ w'.ownsRow B 9 1 (.slice P2 G.args.length c2) G.args.length (strS G.args) := by
  have hne : s.data.toList ≠ [] := fun e => h0 (by rw [← list_len, e]; rfl)
  refine (read_any B q (s.size + 1) pv1 wv1 _ s hs (by omega) (by omega) (stP_inv P1 hp) wr hF.pa hL).mono ?_
  rintro e w' ⟨pv2, wv2, av, hpa, hmv, rfl, hav⟩
  rw [rdF_G _ _ _ (by rw [list_len]; omega), stP_rd P1 _ hp hne, hG] at hpa hav ⊢
  obtain ⟨P2, c2, rfl⟩ := own_form hav
  exact ⟨pv2, wv2, P2, c2, rfl, hF.step hpa hmv, hav⟩
theorem fx_ok {P1 s : SP.Bs} {G : RO} (hG : rdG (PS0 0) (P1 ++ s) = G) (h0 : P1 ++ s ≠ []) (hk : ¬ G.k = 0) (he : G.err = []) : FX (some P1) s = (told G ++ (FX (some []) G.rest).1, (FX (some []) G.rest).2) := by
  subst hG
  exact TX_ok _ h0 hk he
theorem fx_err {P1 s : SP.Bs} {G : RO} (hG : rdG (PS0 0) (P1 ++ s) = G) (h0 : P1 ++ s ≠ []) (hk : ¬ G.k = 0) (he : G.err ≠ []) (r : SP.Bs) : FX (some P1) s = (told G ++ (FX none r).1, (FX none r).2) := by
  subst hG
  refine (TX_err _ h0 hk he).trans ?_
  show _ = (told _ ++ [], none)
  rw [List.append_nil]
theorem fx_wait {P1 s : SP.Bs} {G : RO} (hG : rdG (PS0 0) (P1 ++ s) = G) (h0 : P1 ++ s ≠ []) (hk : G.k = 0) : FX (some P1) s = ([], some (P1 ++ s)) := by
  subst hG
  exact TX_wait _ h0 hk
theorem fx_join {E : List (Value × Rq)} {x : Value × Rq} {L : List Rq} {X : List Rq × Option SP.Bs} {o : Option SP.Bs} (h : (E.map (·.2) ++ ([x.2] ++ L), o) = X) : ((E ++ [x]).map (·.2) ++ L, o) = X := by
  rw [← h, List.map_append, List.append_assoc]; rfl
theorem pnd_nil : Pnd (some []) := fun P hP h => by injection hP with hP; exact absurd hP.symm h
theorem pnd_none : Pnd none := fun P hP => by cases hP
set_option maxRecDepth 20000 in
set_option maxHeartbeats 4000000 in
/-- Feed, whole. -/
theorem Feed_any (B q : Nat) (pv wv : Value) (o : Option SP.Bs) (s0 : ByteArray) (hs : s0.size ≤ 1073741824) (ho : Pnd o) (hoP : ∀ P, o = some P → P.length ≤ 1099511627776) (w : World) (h : PA B w q pv wv (stP o)) (hL : ∀ W, Below B w W → Laid W) :
    Calls Tryz.prog 13 #[.pointer (some ⟨q, 0, none⟩), .string s0] w fun e w' => FdIs B w w' q pv wv e (FX o s0.data.toList) := by
  have HA : Hid _ := h
  have HL : Hid _ := hL
  have HO : Hid _ := ho
  have HOP : Hid _ := hoP
  obtain ⟨i0, hi0, hy0, hy1, hy2⟩ := info_parts infoRq
  clear h hL ho hoP
  go_enter Tryz.func13, Tryz.ntmps13
  go_wp2
  go_loopw [1, 5] (fun cs cl wr => ∃ (s : ByteArray) (o1 : Option SP.Bs) (pv1 wv1 : Value) (E : List (Value × Rq)) (P : Option Addr) (c : Nat), (E.length + s.size ≤ s0.size ∧ Pnd o1 ∧ (∀ P, o1 = some P → P.length ≤ 1099511627776) ∧ FI B w.heap.size w wr q pv wv pv1 wv1 (stP o1) (.slice P E.length c) E ∧ (E.map (·.2) ++ (FX o1 s.data.toList).1, (FX o1 s.data.toList).2) = FX o s0.data.toList) ∧ cs = .string s ∧ cl = .slice P E.length c) (fun cs _ _ => slen cs)
  case atStart =>
    exact ⟨s0, o, pv, wv, [], none, 0, ⟨by simp, HO.out, HOP.out, ⟨HA.out, Mv.refl _ _ _ _, RLs.nil _ _ _, fun x hx => by cases hx⟩, rfl⟩, rfl, rfl⟩
  case round =>
    obtain ⟨s, o1, pv1, wv1, E, P, c, ⟨hlen, hpn, hpb, hfi, heq⟩, rfl, rfl⟩ := hrel
    obtain ⟨nE, hnE⟩ : ∃ n, E.length = n := ⟨_, rfl⟩
    rw [hnE] at hlen hfi ⊢
    have HNE : Hid (E.length = nE) := hnE
    have HF : Hid (FI B w.heap.size w wr q pv wv pv1 wv1 (stP o1) (.slice P nE c) E) := hfi
    have HEQ : Hid _ := heq
    have HPN : Hid (Pnd o1) := hpn
    have HPB : Hid (∀ P, o1 = some P → P.length ≤ 1099511627776) := hpb
    obtain ⟨c0, c1, c2, c3, c4, c5, c6, cf⟩ := hfi.pa.row.cells
    clear hfi heq hpn hnE hpb
    by_cases h0 : s.size = 0
    · have hse := str_empty h0
      have HS0 : Hid (s.data.toList = []) := by show _ = _; rw [empty_str s h0]
      clear h0
      go_wp2
      go_returns
      have e1 := HEQ.out
      rw [HS0.out, FX_nil _ HPN.out] at e1
      refine ⟨pv1, wv1, P, c, E, ?_, ?_, by rw [HNE.out]; rfl⟩
      · rw [HNE.out, ← e1]; exact HF.out
      · rw [← e1]; simp
    · have hse := str_full h0
      cases o1 with
      | none =>
        have c0' : wr.cell? ⟨q, 0, none⟩ = some (.int .i64 6) := c0
        clear c0 c1 c2 c3 c4 c5 c6 cf
        go_wp2
        go_returns
        have e1 := HEQ.out
        refine ⟨pv1, wv1, P, c, E, ?_, ?_, by rw [HNE.out]; rfl⟩
        · rw [HNE.out, ← e1]; exact HF.out
        · rw [← e1]; simp [FX]
      | some P1 =>
        obtain ⟨st, hst⟩ : ∃ st, (stP (some P1)).st = st := ⟨_, rfl⟩
        have hst5 := stP_st P1 HPN.out
        rw [hst] at c0 hst5
        have hst6 : ((st : Int) == 6) = false := by simp; omega
        have hst7 : ((st : Int) != 6) = true := by simp; omega
        obtain ⟨G, hG⟩ : ∃ G, rdG (PS0 0) (P1 ++ s.data.toList) = G := ⟨_, rfl⟩
        have HRD : Hid _ := read_feed B q nE c P pv wv pv1 wv1 P1 s w wr E (by omega) h0 HPN.out HF.out (fun W hW => HL.out W ((HF.out.mv.below HA.out).trans hW)) G hG
        clear hst hst5
        clear c1 c2 c3 c4 c5 c6 cf
        go_wp2_with fail
        refine (show Calls _ _ _ _ _ from HRD.out).mono ?_
        rintro e w1 ⟨pv2, wv2, P2, k2, rfl, hfi2, hav⟩
        have HGN : Hid (rdG (PS0 0) (P1 ++ s.data.toList) = G) := hG
        have hne : s.data.toList ≠ [] := fun e => h0 (by rw [← list_len, e]; rfl)
        have HNS : Hid (s.data.toList ≠ []) := hne
        have HRS : Hid (G.rest.length < s.size) := by
          show _ < _
          have := rdG_rest (stP (some P1)) s.data.toList (stP_inv P1 HPN.out) hne
          rw [stP_rd P1 _ HPN.out hne, hG, list_len] at this
          exact this
        have HPS : Hid (P1 ++ s.data.toList ≠ []) := fun e => hne (List.append_eq_nil_iff.1 e).2
        obtain ⟨t1, ht1⟩ : ∃ t, strB G.rest = t := ⟨_, rfl⟩
        obtain ⟨t2, ht2⟩ : ∃ t, strB G.err = t := ⟨_, rfl⟩
        obtain ⟨nA, hnA⟩ : ∃ n, G.args.length = n := ⟨_, rfl⟩
        obtain ⟨k, hk⟩ : ∃ k, G.k = k := ⟨_, rfl⟩
        rw [ht1, ht2, hnA, hk]
        rw [hnA] at hav
        have HT1 : Hid (strB G.rest = t1) := ht1
        have HT2 : Hid (strB G.err = t2) := ht2
        have HNA : Hid (G.args.length = nA) := hnA
        have HK : Hid (G.k = k) := hk
        obtain ⟨W1, hW1⟩ : ∃ W, W = w1.alloc (.cells #[.slice P2 nA k2, .string t2] 47) := ⟨_, rfl⟩
        have hb1 : Below w1.heap.size w1 W1 := by rw [hW1]; exact (Below.refl _ _).alloc (Nat.le_refl _) _
        have hrow1 : W1.heap[w1.heap.size]? = some (.cells #[.slice P2 nA k2, .string t2] 47) := by rw [hW1]; exact one_alloc _ _
        have HFI : Hid (FI B w.heap.size w W1 q pv wv pv2 wv2 (hS G.S P1.length) (.slice P nE c) E) := hfi2.on hb1
        have HF1 : Hid (FI B w.heap.size w w1 q pv wv pv2 wv2 (hS G.S P1.length) (.slice P nE c) E) := hfi2
        have HAV : Hid (W1.ownsRow B 9 1 (.slice P2 nA k2) nA (strS G.args)) := own_on hav hb1
        have HRW : Hid _ := hrow1
        obtain ⟨z0, z1, zf⟩ := prow2 hrow1
        obtain ⟨b0, b1, b2, b3, b4, b5, b6, bf⟩ := HFI.out.pa.row.cells
        have b1' : W1.cell? ⟨q, 1, none⟩ = some (.int .i64 (P1.length : Int)) := b1
        have hP1 := HPB.out P1 rfl
        obtain ⟨nP, hnP⟩ : ∃ n, P1.length = n := ⟨_, rfl⟩
        rw [hnP] at hP1 b1'
        have HNP : Hid (P1.length = nP) := hnP
        clear hfi2 hb1 hav hG hne ht1 ht2 hnA hk c0 hst6 hst7 b0 b1 b2 b3 b4 b5 b6 hrow1 hnP
        go_upto_region 4 with fail
        rw [← hW1]
        clear hW1
        by_cases h2 : k = 0
        · subst h2
          have hsum : IntKind.i64.wrap ((nP : Int) + (s.size : Int)) = (nP : Int) + (s.size : Int) := by rw [IntKind.wrap_i64] <;> omega
          go_wp2
          go_returns
          obtain ⟨hp9, hm9⟩ := HFI.out.pa.held (nP + s.size) ((nP : Int) + (s.size : Int)) (by omega)
          have e1 := HEQ.out
          rw [fx_wait HGN.out HPS.out HK.out] at e1
          refine ⟨pv2, wv2, P, c, E, ?_, ?_, by rw [HNE.out]; rfl⟩
          · rw [HNE.out, ← e1]
            dsimp only
            rw [stP_wait P1 _ HNS.out, HNP.out, list_len, HGN.out]
            exact HFI.out.step hp9 hm9
          · rw [← e1]; simp
        · have hk0 : (k == 0) = false := by simpa using h2
          have HK0 : Hid (¬ G.k = 0) := by rw [HK.out]; exact h2
          by_cases h3 : k = 2
          · subst h3
            have HTD : Hid (told G = [⟨G.args, G.err⟩]) := told_two HK.out
            have hE1 : nE + 1 ≤ 1073741825 := by omega
            go_upto_region 7 with fail
            go_wp2_with (at_builtin; go_must (refine wpList_append_own_at _ rfl _ _ 42 rfl w.heap.size 47 i0 (.agg #[.slice none 0 0, .string ⟨#[]⟩]) 2 40 Tryz.underlying42 hi0 hy0 hy1 hy2 rfl (by decide) (.slice P nE c) nE (rqC E) rfl ?a1 ⟨W1.heap.size, 0, none⟩ 1 1 [.slice P2 nA k2, .string t2] rfl rfl ?a2 ?a3 ?a4 ?a5 ?a6 ?_))
            case a1 => have h9 := (HFI.out.on ((Below.refl _ _).alloc (Nat.le_refl _) (.cells #[.slice P2 nA k2, .string t2] 47))).rl.row; rw [HNE.out] at h9; exact h9
            case a2 => first | exact cell_two_new _ _ _ _ | (intro j u hj; exact cell_two_new _ _ _ _ j u hj) | (have := cell_two_new W1 (.slice P2 nA k2) (.string t2) 47; simpa using this)
            case a3 => intro u hu; rcases List.mem_cons.1 hu with rfl | hu; rfl; rcases List.mem_cons.1 hu with rfl | hu; rfl; cases hu
            case a4 => unfold maxLen; omega
            case a5 => omega
            case a6 => exact Nat.le_trans HFI.out.mv.size (by simp)
            intro v5 w5 ho5 hg5 _ _
            obtain ⟨P5, k5, hf5⟩ := own_form ho5
            subst hf5
            obtain ⟨hp5, hm5, hr5⟩ := (HFI.out.on ((Below.refl _ _).alloc (Nat.le_refl _) (.cells #[.slice P2 nA k2, .string t2] 47))).tell (r := ⟨G.args, G.err⟩) (Nat.le_refl _) (by rw [HNA.out]; exact own_on HAV.out ((Below.refl _ _).alloc (Nat.le_refl _) _)) (by rw [HNE.out, HT2.out]; exact ho5) hg5
            have HP5 : Hid _ := hp5
            have HM5 : Hid _ := hm5
            have HR5 : Hid _ := hr5
            have hq5 : w5.heap[w1.heap.size]? = some (.cells #[.slice P2 nA k2, .string t2] 47) := by
              have hx := keep_row HRW.out ((Below.refl _ W1).alloc (Nat.le_refl _) (.cells #[.slice P2 nA k2, .string t2] 47))
              rw [hg5.block _ (row_lt hx) (fun e => by
                have := own_block HFI.out.rl.row _ e.symm
                obtain ⟨cur, hc⟩ := own_ty' HF1.out.rl.row _ e.symm
                have := row_lt hc
                omega)]
              exact hx
            obtain ⟨y0, y1, yf⟩ := prow2 hq5
            clear hp5 hm5 hr5 ho5 hg5 hq5 z0 z1 zf b1' bf
            by_cases he : G.err = []
            · have ht2 : t2.toList.isEmpty = true := str_empty (by rw [← HT2.out, strB_size, he]; rfl)
              have HE : Hid _ := he
              clear he
              go_wp2_with fail
              refine (forget_any B q pv2 wv2 _ false w5 HP5.out).mono ?_
              rintro e w4 ⟨⟨r4, rfl⟩, hp4, ho4⟩
              have HF4 : Hid _ := FI.fgt HP5.out HM5.out HR5.out hp4 ho4
              clear hp4 ho4
              go_wp2
              go_roundw
              case rel =>
                refine ⟨t1, some [], _, _, E ++ [(.slice P2 nA k2, ⟨G.args, G.err⟩)], P5, k5, ⟨?_, pnd_nil, fun P hP => by injection hP with hP; subst hP; simp, by rw [List.length_append, List.length_singleton, HNE.out]; exact HF4.out, ?_⟩, rfl, by rw [List.length_append, List.length_singleton, HNE.out]⟩
                · rw [List.length_append, List.length_singleton, HNE.out]; rw [← HT1.out, strB_size]; have := HRS.out; omega
                · have e1 := HEQ.out
                  rw [fx_ok HGN.out HPS.out HK0.out HE.out, HTD.out] at e1
                  rw [← HT1.out, strB_list]
                  exact fx_join e1
              case measure => show t1.size < s.size; rw [← HT1.out, strB_size]; exact HRS.out
            · have ht2 : t2.toList.isEmpty = false := str_full (by rw [← HT2.out, strB_size]; intro e; exact he (List.eq_nil_of_length_eq_zero e))
              have HE : Hid _ := he
              clear he
              go_wp2_with fail
              refine (forget_any B q pv2 wv2 _ true w5 HP5.out).mono ?_
              rintro e w4 ⟨⟨r4, rfl⟩, hp4, ho4⟩
              have HF4 : Hid _ := FI.fgt HP5.out HM5.out HR5.out hp4 ho4
              clear hp4 ho4
              go_wp2
              go_roundw
              case rel =>
                refine ⟨t1, none, _, _, E ++ [(.slice P2 nA k2, ⟨G.args, G.err⟩)], P5, k5, ⟨?_, pnd_none, fun P hP => by (cases hP), by rw [List.length_append, List.length_singleton, HNE.out]; exact HF4.out, ?_⟩, rfl, by rw [List.length_append, List.length_singleton, HNE.out]⟩
                · rw [List.length_append, List.length_singleton, HNE.out]; rw [← HT1.out, strB_size]; have := HRS.out; omega
                · have e1 := HEQ.out
                  rw [fx_err HGN.out HPS.out HK0.out HE.out G.rest, HTD.out] at e1
                  rw [← HT1.out, strB_list]
                  exact fx_join e1
              case measure => show t1.size < s.size; rw [← HT1.out, strB_size]; exact HRS.out
          · have hk2 : (k == 2) = false := by simpa using h3
            have HTD : Hid (told G = []) := told_not (by rw [HK.out]; exact h3)
            by_cases he : G.err = []
            · have ht2 : t2.toList.isEmpty = true := str_empty (by rw [← HT2.out, strB_size, he]; rfl)
              have HE : Hid _ := he
              clear he
              go_wp2_with fail
              refine (forget_any B q pv2 wv2 _ false W1 HFI.out.pa).mono ?_
              rintro e w4 ⟨⟨r4, rfl⟩, hp4, ho4⟩
              have HF4 : Hid _ := FI.fgt HFI.out.pa HFI.out.mv HFI.out.rl hp4 ho4
              clear hp4 ho4
              go_wp2
              go_roundw
              case rel =>
                refine ⟨t1, some [], _, _, E, P, c, ⟨?_, pnd_nil, fun P hP => by injection hP with hP; subst hP; simp, by rw [HNE.out]; exact HF4.out, ?_⟩, rfl, by rw [HNE.out]⟩
                · rw [HNE.out]; rw [← HT1.out, strB_size]; have := HRS.out; omega
                · have e1 := HEQ.out
                  rw [fx_ok HGN.out HPS.out HK0.out HE.out, HTD.out] at e1
                  rw [← HT1.out, strB_list]
                  exact e1
              case measure => show t1.size < s.size; rw [← HT1.out, strB_size]; exact HRS.out
            · have ht2 : t2.toList.isEmpty = false := str_full (by rw [← HT2.out, strB_size]; intro e; exact he (List.eq_nil_of_length_eq_zero e))
              have HE : Hid _ := he
              clear he
              go_wp2_with fail
              refine (forget_any B q pv2 wv2 _ true W1 HFI.out.pa).mono ?_
              rintro e w4 ⟨⟨r4, rfl⟩, hp4, ho4⟩
              have HF4 : Hid _ := FI.fgt HFI.out.pa HFI.out.mv HFI.out.rl hp4 ho4
              clear hp4 ho4
              go_wp2
              go_roundw
              case rel =>
                refine ⟨t1, none, _, _, E, P, c, ⟨?_, pnd_none, fun P hP => by (cases hP), by rw [HNE.out]; exact HF4.out, ?_⟩, rfl, by rw [HNE.out]⟩
                · rw [HNE.out]; rw [← HT1.out, strB_size]; have := HRS.out; omega
                · have e1 := HEQ.out
                  rw [fx_err HGN.out HPS.out HK0.out HE.out G.rest, HTD.out] at e1
                  rw [← HT1.out, strB_list]
                  exact e1
              case measure => show t1.size < s.size; rw [← HT1.out, strB_size]; exact HRS.out
end Go.Proofs.YtnfbaeajalnmmaaGreatDoor
