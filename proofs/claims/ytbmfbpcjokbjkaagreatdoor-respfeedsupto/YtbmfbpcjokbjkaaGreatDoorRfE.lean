import Derived.Test.YtbmfbpcjokbjkaaGreatDoorRfB
namespace Go.Proofs.YtbmfbpcjokbjkaaGreatDoor
open Go.RowKit Vi
set_option linter.unusedVariables false
set_option linter.unusedSimpArgs false
/-! what is left is an end of what was there. -/
theorem lnO_suf (S : PS) (r : SP.Bs) (o : Option (List SP.Bs)) : (lnO S r o).rest <:+ r := by
  rcases o with _ | _ | ⟨x, l⟩
  · exact List.nil_suffix
  · exact List.suffix_refl _
  · exact List.suffix_refl _
theorem line_suf (S : PS) (a : SP.Bs) : (rdLine S a).rest <:+ a := by
  unfold rdLine
  cases hi : lfAt (a.take (65537 - S.part.length)) with
  | some k => exact (lnO_suf _ _ _).trans (List.drop_suffix _ _)
  | none => dsimp only; split <;> exact List.nil_suffix
def Suf (n : Nat) : Prop := ∀ (S : PS) (a : SP.Bs), a.length ≤ n → (rdN S a).rest <:+ a
theorem body_suf (S : PS) (a : SP.Bs) (hN : Suf a.length) : (rdBody rdN S a).rest <:+ a := by
  unfold rdBody
  split
  · exact List.nil_suffix
  · split
    · exact (hN _ _ (by rw [List.length_drop]; omega)).trans (List.drop_suffix _ _)
    · exact List.drop_suffix _ _
theorem len_suf (S : PS) (a : SP.Bs) (hN : ∀ n, n < a.length → Suf n) : (rdLen rdN S a).rest <:+ a := by
  unfold rdLen
  cases hi : lfAt (a.take (65 - S.part.length)) with
  | none => dsimp only; split <;> exact List.nil_suffix
  | some k =>
    have hk := lf_len hi
    rw [List.length_take] at hk
    dsimp only
    unfold lenO
    split
    · exact List.nil_suffix
    · split
      · exact (body_suf _ (a.drop (k + 1)) (hN _ (by rw [List.length_drop]; omega))).trans (List.drop_suffix _ _)
      · exact List.nil_suffix
theorem suf_all : ∀ n, Suf n := by
  intro n
  induction n using Nat.strongRecOn with
  | _ n ih =>
    intro S a ha
    rw [rdN_eq]
    cases a with
    | nil => exact List.nil_suffix
    | cons b t =>
      unfold rdWord
      dsimp only
      by_cases hb : b = 36
      · rw [if_pos hb]
        exact len_suf _ _ (fun m hm => ih m (by omega))
      · rw [if_neg hb]; exact List.nil_suffix
theorem count_suf (S : PS) (a : SP.Bs) : (rdCount rdN S a).rest <:+ a := by
  unfold rdCount
  cases hi : lfAt (a.take (65 - S.part.length)) with
  | none => dsimp only; split <;> exact List.nil_suffix
  | some k =>
    dsimp only
    unfold cntO
    split
    · split
      · exact List.drop_suffix _ _
      · rw [← rdN_eq]
        exact (suf_all _ _ _ (Nat.le_refl _)).trans (List.drop_suffix _ _)
    · exact List.nil_suffix
theorem rd0_suf (a : SP.Bs) : (rdG (PS0 0) a).rest <:+ a := by
  by_cases hb : a.head? = some 42
  · rw [show rdG (PS0 0) a = rdCount rdN (PS0 0) a from if_pos hb]; exact count_suf _ a
  · rw [show rdG (PS0 0) a = rdLine (PS0 0) a from if_neg hb]; exact line_suf _ a
theorem suf_drop {r a : SP.Bs} (h : r <:+ a) : r = a.drop (a.length - r.length) := by
  obtain ⟨t, rfl⟩ := h
  rw [List.length_append, Nat.add_sub_cancel, List.drop_left]
theorem rd0_drop (a : SP.Bs) : (rdG (PS0 0) a).rest = a.drop (a.length - (rdG (PS0 0) a).rest.length) := suf_drop (rd0_suf a)
/-- a request joins others. -/
theorem RLs.tell {B b0 : Nat} {W W' : World} {lv lv' av : Value} {E : List (Value × Rq)} {r : Rq} (h : RLs B b0 W lv E)
    (ha : W.ownsRow B 9 1 av r.args.length (strS r.args)) (ho : W'.ownsRow b0 43 2 lv' (E.length + 1) (rqC E ++ [av, .string (strB r.err)])) (hg : W.grownBy W' lv.ownBlock) :
    RLs B b0 W' lv' (E ++ [(av, r)]) := by
  have keep : ∀ (g : Nat) (c : Array Value) (T : TypeId), W.heap[g]? = some (.cells c T) → T ≠ 43 → W'.heap[g]? = W.heap[g]? := fun g c T hc hT => hg.block g (row_lt hc) (fun e => by
    obtain ⟨cur, hc2⟩ := own_ty' h.row g e.symm
    exact ty_apart hc hc2 hT)
  refine ⟨?_, fun x hx => ?_⟩
  · rw [rqC_snoc, List.length_append]; exact ho
  · rcases List.mem_append.1 hx with hx | hx
    · refine own_stays' (h.args x hx) (fun g hg => ?_)
      obtain ⟨cur, hc⟩ := own_ty' (h.args x hx) g hg; exact keep g _ _ hc (by decide)
    · have : x = (av, r) := by simpa using hx
      subst this
      refine own_stays' ha (fun g hg => ?_)
      obtain ⟨cur, hc⟩ := own_ty' ha g hg; exact keep g _ _ hc (by decide)
def hld (o : Option SP.Bs) : Int := ((stP o).held : Int)
/-- what the document's All answers. -/
def AllIs (b : Nat) (w' : World) (e : Ending) (X : List Rq × Option SP.Bs) : Prop := ∃ P c E, RLs b b w' (.slice P E.length c) E ∧ E.map (·.2) = X.1 ∧ e = .returned (.tuple #[.slice P E.length c, .int .i64 (hld X.2)])
/-- the document's first, of all texts. -/
def FstC : Prop := ∀ (s : ByteArray), 0 < s.size → s.size ≤ 1073741824 → ∀ w : World, Calls Tryz.prog 32 #[.string s] w fun e w' => FsIs w.heap.size w' s.size (rdG (PS0 0) s.data.toList) e ∧ Below w.heap.size w w'
theorem RLs.up {B B' b0 : Nat} {W : World} {lv : Value} {E : List (Value × Rq)} (h : RLs B' b0 W lv E) (hB : B ≤ B') : RLs B b0 W lv E := ⟨h.row, fun x hx => own_up (h.args x hx) hB⟩
set_option maxRecDepth 20000 in
set_option maxHeartbeats 4000000 in
/-- the document's All. -/
theorem All_of (hF : FstC) (s0 : ByteArray) (hs : s0.size ≤ 1073741824) (w : World) :
    Calls Tryz.prog 11 #[.string s0] w fun e w' => AllIs w.heap.size w' e (TX s0.data.toList) ∧ Below w.heap.size w w' := by
  have HF : Hid FstC := hF
  obtain ⟨i0, hi0, hy0, hy1, hy2⟩ := info_parts infoRq
  obtain ⟨b0, hb0⟩ : ∃ b, w.heap.size = b := ⟨_, rfl⟩
  rw [hb0]
  have HB : Hid (w.heap.size = b0) := hb0
  clear hF hb0
  go_enter Tryz.func11, Tryz.ntmps11
  go_wp2
  go_loopw [5, 4] (fun ca co wr => ∃ (pt : Nat) (E : List (Value × Rq)) (P : Option Addr) (c : Nat), (pt ≤ s0.size ∧ E.length ≤ pt ∧ Below b0 w wr ∧ RLs b0 b0 wr (.slice P E.length c) E ∧ (E.map (·.2) ++ (TX (s0.data.toList.drop pt)).1, (TX (s0.data.toList.drop pt)).2) = TX s0.data.toList) ∧ ca = .int .i64 (pt : Int) ∧ co = .slice P E.length c) (fun ca _ _ => s0.size - (intOf ca).toNat)
  case atStart =>
    exact ⟨0, [], none, 0, ⟨Nat.zero_le _, Nat.le_refl _, Below.refl _ _, RLs.nil _ _ _, rfl⟩, rfl, rfl⟩
  case round =>
    obtain ⟨pt, E, P, c, ⟨hpt, hEl, hbl, hrl, heq⟩, rfl, rfl⟩ := hrel
    obtain ⟨nE, hnE⟩ : ∃ n, E.length = n := ⟨_, rfl⟩
    rw [hnE] at hEl hrl ⊢
    have HNE : Hid (E.length = nE) := hnE
    have HBL : Hid (Below b0 w wr) := hbl
    have HRL : Hid (RLs b0 b0 wr (.slice P nE c) E) := hrl
    have HEQ : Hid _ := heq
    have HWR : Hid (b0 ≤ wr.heap.size) := by have := hbl.size; rw [HB.out] at this; exact this
    clear hbl hrl heq hnE
    by_cases hpe : pt = s0.size
    · have hge : ¬ ((pt : Int) < (s0.size : Int)) := by omega
      go_wp2
      go_returns
      have e1 := HEQ.out
      rw [hpe, List.drop_eq_nil_of_le (by rw [list_len]; exact Nat.le_refl _), TX_nil] at e1
      refine ⟨⟨P, c, E, by rw [HNE.out]; exact HRL.out, ?_, ?_⟩, HBL.out⟩
      · rw [← e1]; simp
      · rw [← e1, HNE.out]; rfl
    · have hpl : pt < s0.size := by omega
      have hge : (pt : Int) < (s0.size : Int) := by omega
      have hz0 : (0 : Int) ≤ (pt : Int) := by omega
      obtain ⟨T, hT⟩ : ∃ T, s0.extract pt s0.size = T := ⟨_, rfl⟩
      have hTl : T.data.toList = s0.data.toList.drop pt := by rw [← hT, ext_any, List.take_of_length_le (by rw [List.length_drop, list_len]; exact Nat.le_refl _)]
      have hTs : T.size = s0.size - pt := by rw [← hT, ext_size _ _ _ (Nat.le_refl _)]
      have HTT : Hid (s0.extract pt s0.size = T) := hT
      obtain ⟨G, hG⟩ : ∃ G, rdG (PS0 0) T.data.toList = G := ⟨_, rfl⟩
      have HFS : Hid _ := HF.out T (by omega) (by omega) wr
      rw [hG] at HFS
      have hTne : T.data.toList ≠ [] := fun e => by have := congrArg List.length e; rw [list_len, List.length_nil] at this; omega
      have HRS : Hid (G.rest.length < T.size) := by show _ < _; have := rd0_rest _ hTne; rw [hG, list_len] at this; exact this
      have HRD : Hid (G.rest = s0.data.toList.drop (pt + (T.size - G.rest.length))) := by
        show _ = _
        have := rd0_drop T.data.toList
        rw [hG, list_len, hTl, List.drop_drop] at this
        exact this
      have HTW : Hid (G.k = 0 → TX (s0.data.toList.drop pt) = ([], some T.data.toList)) := fun hk => by rw [← hTl]; exact TX_wait _ hTne (by rw [hG]; exact hk)
      have HTO : Hid (G.k ≠ 0 → G.err = [] → TX (s0.data.toList.drop pt) = (told G ++ (TX G.rest).1, (TX G.rest).2)) := fun hk he => by rw [← hTl, ← hG]; exact TX_ok _ hTne (by rw [hG]; exact hk) (by rw [hG]; exact he)
      have HTE : Hid (G.k ≠ 0 → G.err ≠ [] → TX (s0.data.toList.drop pt) = (told G, none)) := fun hk he => by rw [← hTl, ← hG]; exact TX_err _ hTne (by rw [hG]; exact hk) (by rw [hG]; exact he)
      have HTS : Hid (T.size = s0.size - pt) := hTs
      clear hG hTl hTne hpe
      go_wp2_with fail
      refine (show Calls _ _ _ _ _ from HFS.out).mono ?_
      rintro e w1 ⟨hfs, hb1⟩
      have HB1 : Hid (Below b0 w w1) := HBL.out.trans (hb1.mono HWR.out)
      have HR1 : Hid (RLs b0 b0 w1 (.slice P nE c) E) := HRL.out.on hb1
      have HW1 : Hid (b0 ≤ w1.heap.size) := Nat.le_trans HWR.out hb1.size
      clear hb1
      rcases hfs with ⟨hk, P2, c2, rfl⟩ | ⟨hk, he, ha, rfl⟩ | ⟨hk, he, P2, c2, rfl, hav⟩
      · have hsub : IntKind.i64.wrap ((s0.size : Int) - (pt : Int)) = (s0.size : Int) - (pt : Int) := by rw [IntKind.wrap_i64] <;> omega
        have HTX : Hid _ := HTW.out hk
        clear hk
        go_wp2
        go_returns
        have e1 := HEQ.out
        rw [HTX.out] at e1
        refine ⟨⟨P, c, E, ?_, ?_, ?_⟩, HB1.out.alloc HW1.out _⟩
        · rw [HNE.out]; exact HR1.out.on ((Below.refl _ _).alloc (Nat.le_refl _) _)
        · rw [← e1]; simp
        · rw [← e1, HNE.out]
          have e2 : hld (some T.data.toList) = (s0.size : Int) - (pt : Int) := by
            unfold hld
            rw [stP_held]
            dsimp only
            rw [list_len, HTS.out]; omega
          rw [e2]; rfl
      · have HTX : Hid (TX (s0.data.toList.drop pt) = (told G, none)) := HTE.out (by rw [hk]; decide) he
        have HTD : Hid (told G = [⟨[], G.err⟩]) := by show _ = _; rw [told_two hk, ha]
        obtain ⟨t2, ht2⟩ : ∃ t, strB G.err = t := ⟨_, rfl⟩
        rw [ht2]
        have HT2 : Hid (strB G.err = t2) := ht2
        have htf : t2.toList.isEmpty = false := str_full (by rw [← ht2, strB_size]; intro e; exact he (List.eq_nil_of_length_eq_zero e))
        obtain ⟨W1, hW1⟩ : ∃ W, W = w1.alloc (.cells #[.slice none 0 0, .string t2] 43) := ⟨_, rfl⟩
        have hb1 : Below w1.heap.size w1 W1 := by rw [hW1]; exact (Below.refl _ _).alloc (Nat.le_refl _) _
        have hrow1 : W1.heap[w1.heap.size]? = some (.cells #[.slice none 0 0, .string t2] 43) := by rw [hW1]; exact one_alloc _ _
        have HRW : Hid _ := hrow1
        have HR2 : Hid (RLs b0 b0 W1 (.slice P nE c) E) := HR1.out.on hb1
        have HB2 : Hid (Below b0 w W1) := HB1.out.trans (hb1.mono HW1.out)
        have HW2 : Hid (b0 ≤ W1.heap.size) := Nat.le_trans HW1.out hb1.size
        obtain ⟨z0, z1, zf⟩ := prow2 hrow1
        clear hk he ha ht2 hrow1 hb1
        go_upto_region 5 with fail
        rw [← hW1]
        clear hW1
        go_upto_region 8 with fail
        go_wp2_with (at_builtin; go_must (refine wpList_append_own_at _ rfl _ _ 36 rfl b0 43 i0 (.agg #[.slice none 0 0, .string ⟨#[]⟩]) 2 40 Tryz.underlying36 hi0 hy0 hy1 hy2 rfl (by decide) (.slice P nE c) nE (rqC E) rfl ?a1 ⟨W1.heap.size, 0, none⟩ 1 1 [.slice none 0 0, .string t2] rfl rfl ?a2 ?a3 ?a4 ?a5 ?a6 ?_))
        case a1 => have h9 := (HR2.out.on ((Below.refl _ _).alloc (Nat.le_refl _) (.cells #[.slice none 0 0, .string t2] 43))).row; rw [HNE.out] at h9; exact h9
        case a2 => first | exact cell_two_new _ _ _ _ | (intro j u hj; exact cell_two_new _ _ _ _ j u hj) | (have := cell_two_new W1 (.slice none 0 0) (.string t2) 43; simpa using this)
        case a3 => intro u hu; rcases List.mem_cons.1 hu with rfl | hu; rfl; rcases List.mem_cons.1 hu with rfl | hu; rfl; cases hu
        case a4 => unfold maxLen; omega
        case a5 => omega
        case a6 => exact Nat.le_trans HW2.out (by simp)
        intro v5 w5 ho5 hg5 _ _
        obtain ⟨P5, k5, hf5⟩ := own_form ho5
        subst hf5
        have HR5 : Hid (RLs b0 b0 w5 (.slice P5 (nE + 1) k5) (E ++ [(.slice none 0 0, ⟨[], G.err⟩)])) := (HR2.out.on ((Below.refl _ _).alloc (Nat.le_refl _) (.cells #[.slice none 0 0, .string t2] 43))).tell (r := ⟨[], G.err⟩) ⟨rfl, Or.inl ⟨rfl, rfl⟩⟩ (by rw [HNE.out, HT2.out]; exact ho5) hg5
        have HB5 : Hid (Below b0 w w5) := (HB2.out.alloc HW2.out (.cells #[.slice none 0 0, .string t2] 43)).grown hg5 (Nat.le_trans HW2.out (by simp)) (fun k hk => own_block HR2.out.row k hk)
        have hq5 : w5.heap[w1.heap.size]? = some (.cells #[.slice none 0 0, .string t2] 43) := by
          have hx := keep_row HRW.out ((Below.refl _ W1).alloc (Nat.le_refl _) (.cells #[.slice none 0 0, .string t2] 43))
          rw [hg5.block _ (row_lt hx) (fun e => by
            obtain ⟨cur, hc⟩ := own_ty' HR1.out.row _ e.symm
            have := row_lt hc
            omega)]
          exact hx
        obtain ⟨y0, y1, yf⟩ := prow2 hq5
        clear ho5 hg5 hq5 z0 z1 zf
        go_wp2
        go_returns
        have e1 := HEQ.out
        rw [HTX.out, HTD.out] at e1
        refine ⟨⟨P5, k5, E ++ [(.slice none 0 0, ⟨[], G.err⟩)], ?_, ?_, ?_⟩, HB5.out⟩
        · rw [List.length_append, HNE.out]; exact HR5.out
        · rw [← e1]; simp
        · rw [← e1, List.length_append, HNE.out]; rfl
      · obtain ⟨nA, hnA⟩ : ∃ n, G.args.length = n := ⟨_, rfl⟩
        obtain ⟨nR, hnR⟩ : ∃ n, G.rest.length = n := ⟨_, rfl⟩
        have HNA : Hid (G.args.length = nA) := hnA
        have HNR : Hid (G.rest.length = nR) := hnR
        have HTX : Hid _ := HTO.out hk he
        have hRS := HRS.out
        rw [hnR] at hRS
        have hsz : ((T.size : Int) - (nR : Int) == 0) = false := by simp; omega
        have hsum : IntKind.i64.wrap ((pt : Int) + ((T.size : Int) - (nR : Int))) = ((pt + (T.size - nR) : Nat) : Int) := by rw [IntKind.wrap_i64] <;> omega
        have HE : Hid (G.err = []) := he
        rw [hnA] at hav
        rw [hnA, hnR]
        obtain ⟨W1, hW1⟩ : ∃ W, W = w1.alloc (.cells #[.slice P2 nA c2, .string ⟨#[]⟩] 43) := ⟨_, rfl⟩
        have hb1 : Below w1.heap.size w1 W1 := by rw [hW1]; exact (Below.refl _ _).alloc (Nat.le_refl _) _
        have hrow1 : W1.heap[w1.heap.size]? = some (.cells #[.slice P2 nA c2, .string ⟨#[]⟩] 43) := by rw [hW1]; exact one_alloc _ _
        have HRW : Hid _ := hrow1
        have HAV : Hid (W1.ownsRow b0 9 1 (.slice P2 nA c2) nA (strS G.args)) := own_up (own_on hav hb1) HWR.out
        have HR2 : Hid (RLs b0 b0 W1 (.slice P nE c) E) := HR1.out.on hb1
        have HB2 : Hid (Below b0 w W1) := HB1.out.trans (hb1.mono HW1.out)
        have HW2 : Hid (b0 ≤ W1.heap.size) := Nat.le_trans HW1.out hb1.size
        have HTZ : Hid (pt + (T.size - nR) ≤ s0.size ∧ pt < pt + (T.size - nR)) := by show _ ∧ _; omega
        obtain ⟨p2, hp2⟩ : ∃ p, pt + (T.size - nR) = p := ⟨_, rfl⟩
        rw [hp2] at hsum HTZ
        have HP2 : Hid ((pt : Int) + (((s0.size - pt : Nat) : Int) - (nR : Int)) = (p2 : Int)) := by show _ = _; have := HTS.out; omega
        have HRR : Hid (G.rest = s0.data.toList.drop p2) := by show _ = _; rw [← hp2, ← hnR]; exact HRD.out
        obtain ⟨z0, z1, zf⟩ := prow2 hrow1
        have HKN : Hid (G.k ≠ 0) := hk
        clear he hk hnA hnR hav hrow1 hb1 hp2
        by_cases h2 : G.k = 2
        · have HTD : Hid (told G = [⟨G.args, G.err⟩]) := told_two h2
          rw [decide_eq_true h2]
          clear h2
          go_upto_region 5 with fail
          rw [← hW1]
          clear hW1
          go_upto_region 8 with fail
          go_wp2_with (at_builtin; go_must (refine wpList_append_own_at _ rfl _ _ 36 rfl b0 43 i0 (.agg #[.slice none 0 0, .string ⟨#[]⟩]) 2 40 Tryz.underlying36 hi0 hy0 hy1 hy2 rfl (by decide) (.slice P nE c) nE (rqC E) rfl ?a11 ⟨W1.heap.size, 0, none⟩ 1 1 [.slice P2 nA c2, .string ⟨#[]⟩] rfl rfl ?a12 ?a13 ?a14 ?a15 ?a16 ?_))
          case a11 => have h9 := (HR2.out.on ((Below.refl _ _).alloc (Nat.le_refl _) (.cells #[.slice P2 nA c2, .string ⟨#[]⟩] 43))).row; rw [HNE.out] at h9; exact h9
          case a12 => first | exact cell_two_new _ _ _ _ | (intro j u hj; exact cell_two_new _ _ _ _ j u hj) | (have := cell_two_new W1 (.slice P2 nA c2) (.string ⟨#[]⟩) 43; simpa using this)
          case a13 => intro u hu; rcases List.mem_cons.1 hu with rfl | hu; rfl; rcases List.mem_cons.1 hu with rfl | hu; rfl; cases hu
          case a14 => unfold maxLen; omega
          case a15 => omega
          case a16 => exact Nat.le_trans HW2.out (by simp)
          intro v5 w5 ho5 hg5 _ _
          obtain ⟨P5, k5, hf5⟩ := own_form ho5
          subst hf5
          have HR5 : Hid (RLs b0 b0 w5 (.slice P5 (nE + 1) k5) (E ++ [(.slice P2 nA c2, ⟨G.args, G.err⟩)])) := (HR2.out.on ((Below.refl _ _).alloc (Nat.le_refl _) (.cells #[.slice P2 nA c2, .string ⟨#[]⟩] 43))).tell (r := ⟨G.args, G.err⟩) (by rw [HNA.out]; exact own_on HAV.out ((Below.refl _ _).alloc (Nat.le_refl _) _)) (by rw [HNE.out, HE.out]; exact ho5) hg5
          have HB5 : Hid (Below b0 w w5) := (HB2.out.alloc HW2.out (.cells #[.slice P2 nA c2, .string ⟨#[]⟩] 43)).grown hg5 (Nat.le_trans HW2.out (by simp)) (fun k hk => own_block HR2.out.row k hk)
          have hq5 : w5.heap[w1.heap.size]? = some (.cells #[.slice P2 nA c2, .string ⟨#[]⟩] 43) := by
            have hx := keep_row HRW.out ((Below.refl _ W1).alloc (Nat.le_refl _) (.cells #[.slice P2 nA c2, .string ⟨#[]⟩] 43))
            rw [hg5.block _ (row_lt hx) (fun e => by
              obtain ⟨cur, hc⟩ := own_ty' HR1.out.row _ e.symm
              have := row_lt hc
              omega)]
            exact hx
          obtain ⟨y0, y1, yf⟩ := prow2 hq5
          clear ho5 hg5 hq5 z0 z1 zf
          go_wp2
          go_roundw
          case rel =>
            refine ⟨p2, E ++ [(.slice P2 nA c2, ⟨G.args, G.err⟩)], P5, k5, ⟨HTZ.out.1, ?_, HB5.out, by rw [List.length_append, List.length_singleton, HNE.out]; exact HR5.out, ?_⟩, by rw [HP2.out], by rw [List.length_append, List.length_singleton, HNE.out]⟩
            · rw [List.length_append, List.length_singleton, HNE.out]; have := HTZ.out.2; omega
            · have e1 := HEQ.out
              rw [HTX.out, HTD.out, HRR.out] at e1
              exact fx_join e1
          case measure => have := HTZ.out; simp [intOf]; omega
        · have HTD : Hid (told G = []) := told_not h2
          rw [decide_eq_false h2]
          clear h2
          go_upto_region 5 with fail
          rw [← hW1]
          clear hW1
          go_wp2
          go_roundw
          case rel =>
            refine ⟨p2, E, P, c, ⟨HTZ.out.1, ?_, HB2.out, by rw [HNE.out]; exact HR2.out, ?_⟩, by rw [HP2.out], by rw [HNE.out]⟩
            · rw [HNE.out]; have := HTZ.out.2; omega
            · have e1 := HEQ.out
              rw [HTX.out, HTD.out, HRR.out] at e1
              exact e1
          case measure => have := HTZ.out; simp [intOf]; omega
end Go.Proofs.YtbmfbpcjokbjkaaGreatDoor
