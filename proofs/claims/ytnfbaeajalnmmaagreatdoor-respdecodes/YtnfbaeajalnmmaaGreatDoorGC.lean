import Derived.Test.YtnfbaeajalnmmaaGreatDoorGB
import Derived.Deep.Cut
import Derived.Deep.CutRange
namespace Go.Proofs.YtnfbaeajalnmmaaGreatDoor
open Go.RowKit
set_option linter.unusedVariables false
set_option linter.unusedSimpArgs false
theorem qT_nil (d : Bool) (acc : SP.Bs) (s : ByteArray) (j : Nat) (h : s.size ≤ j) : SP.qT d acc (s.data.toList.drop j) = none := by
  rw [List.drop_eq_nil_of_le (by rw [list_len]; exact h)]; unfold SP.qT; rfl
theorem qT_end (d : Bool) (acc : SP.Bs) (s : ByteArray) (j : Nat) (h : j < s.size) (hc : s[j].toNat = SP.qc d) : SP.qT d acc (s.data.toList.drop j) = some (acc, s.data.toList.drop (j + 1)) := by
  rw [drop_at s j h]; unfold SP.qT; rw [if_pos hc]
theorem qT_esc (d : Bool) (acc : SP.Bs) (s : ByteArray) (j : Nat) (h : j < s.size) (hc : ¬ s[j].toNat = SP.qc d) (h92 : s[j].toNat = 92) : SP.qT d acc (s.data.toList.drop j) = SP.qT d (acc ++ [(SP.bsl d (s.data.toList.drop (j + 1))).1]) (SP.bsl d (s.data.toList.drop (j + 1))).2 := by
  rw [drop_at s j h]; conv => lhs; unfold SP.qT
  rw [if_neg hc, if_pos h92]
theorem qT_one (d : Bool) (acc : SP.Bs) (s : ByteArray) (j : Nat) (h : j < s.size) (hc : ¬ s[j].toNat = SP.qc d) (h92 : ¬ s[j].toNat = 92) : SP.qT d acc (s.data.toList.drop j) = SP.qT d (acc ++ [s[j]]) (s.data.toList.drop (j + 1)) := by
  rw [drop_at s j h]; conv => lhs; unfold SP.qT
  rw [if_neg hc, if_neg h92]
theorem bsl_nil (d : Bool) (s : ByteArray) (j : Nat) (h : s.size ≤ j) : SP.bsl d (s.data.toList.drop j) = (92, s.data.toList.drop j) := by
  rw [List.drop_eq_nil_of_le (by rw [list_len]; exact h)]; unfold SP.bsl; cases d <;> rfl
theorem SpS.bl {w0 W W' : World} {q : Nat} {s : ByteArray} {j : Nat} {wv : Value} {acc : SP.Bs} (h : SpS w0 W q s j wv acc) (hb : Below W.heap.size W W') : SpS w0 W' q s j wv acc := h.mo (mo_bel hb) (keep_row h.row hb)
theorem SpS.dn {w0 W : World} {q : Nat} {s : ByteArray} {j : Nat} {wv : Value} {acc : SP.Bs} (h : SpS w0 W q s j wv acc) (n : Nat) : SpS w0 (W.drewN n) q s j wv acc := h.bl (below_dn (Below.refl _ W) n)
set_option maxHeartbeats 6000000 in
set_option maxRecDepth 100000 in
theorem quo_d (q : Nat) (s : ByteArray) (i : Nat) (wv : Value) (acc : SP.Bs) (hs : s.size ≤ 1073741824) (hi : i ≤ s.size) (ha : acc.length ≤ 1073741824) (w0 w : World) (hL : Laid w0) (h : SpS w0 w q s i wv acc) : Calls Tryz.prog 97 #[.pointer (some ⟨q, 0, none⟩), .int .u8 34, .func (.func 98) #[.pointer (some ⟨q, 0, none⟩)] #[]] w fun e w' => ∃ j wv' acc', (SpS w0 w' q s j wv' acc' ∧ i ≤ j ∧ j ≤ s.size ∧ acc'.length ≤ acc.length + (j - i) ∧ Ch w w' q wv wv') ∧ ((e = .returned (.bool true) ∧ SP.qT true acc (s.data.toList.drop i) = some (acc', s.data.toList.drop j)) ∨ (e = .returned (.bool false) ∧ SP.qT true acc (s.data.toList.drop i) = none)) := by
  obtain ⟨i5, hi5, hz5, hz6, hz7⟩ := info_parts info5
  have HS0 : Hid (SpS w0 w q s i wv acc) := h
  have HL : Hid (Laid w0) := hL
  have HESC : Hid (∀ W j wv acc, SpS w0 W q s j wv acc → j < s.size → Calls Tryz.prog 98 #[.pointer (some ⟨q, 0, none⟩)] W fun e w' => ∃ c j', e = .returned (.int .u8 (UInt8.toNat c : Int)) ∧ Es SP.esc W w' q s j wv c j') := fun W j wv acc hS hj => esc_any q s j wv hs hj W (HL.out.on hS.bel) (Or.inr trivial) hS.row (fun w' m => HL.out.on (hS.bel.trans (m.below hS.hq hS.bel.size)))
  clear h hL
  go_enter Tryz.func97, Tryz.ntmps97
  go_wp2
  go_loopw [] (fun wr => ∃ j wv' acc', (SpS w0 wr q s j wv' acc' ∧ i ≤ j ∧ j ≤ s.size ∧ acc'.length ≤ acc.length + (j - i) ∧ Ch w wr q wv wv') ∧ SP.qT true acc (s.data.toList.drop i) = SP.qT true acc' (s.data.toList.drop j)) (fun wr => s.size - atOf q wr)
  case atStart => exact ⟨i, wv, acc, ⟨HS0.out, Nat.le_refl _, hi, by omega, Ch.refl _ _ _⟩, rfl⟩
  case round =>
    obtain ⟨j, wv', acc', ⟨hS, hij, hj, hla, hch⟩, hq⟩ := hrel
    obtain ⟨wx, hwx⟩ : ∃ wx, wx = wr := ⟨_, rfl⟩
    subst hwx
    have HS : Hid (SpS w0 wx q s j wv' acc') := hS
    have HQ : Hid _ := hq
    have HCH : Hid (Ch w wx q wv wv') := hch
    clear hch
    have HLB : Hid (acc'.length ≤ 2147483648) := by show _ ≤ _; omega
    obtain ⟨r0, r1, r2, rf⟩ := row3 hS.row
    clear hS hq
    by_cases hlt : j < s.size
    · have hz1 : (j : Int) < (s.size : Int) := by omega
      have HNX : Hid (∀ n, Calls Tryz.prog 96 #[.pointer (some ⟨q, 0, none⟩)] (wx.drewN n) fun e w' => e = .returned (.int .u8 (s[j].toNat : Int)) ∧ SpR w' q s (j + 1) wv' ∧ Only (wx.drewN n) w' q) := fun n => next_any q s j wv' hs hlt _ (HS.out.row.dn n)
      obtain ⟨c, hc⟩ : ∃ c, s[j] = c := ⟨_, rfl⟩
      have HC : Hid (s[j] = c) := hc
      rw [hc] at HNX
      obtain ⟨n, hn⟩ : ∃ n, c.toNat = n := ⟨_, rfl⟩
      have HN : Hid (c.toNat = n) := hn
      rw [hn] at HNX
      clear hc hn
      go_wp2_with fail
      go_quiet (fail)
      obtain ⟨n1, hn1⟩ : ∃ n1, n1 = nq := ⟨_, rfl⟩
      subst hn1
      go_wp2_with fail
      refine (show Calls _ _ _ _ _ from HNX.out n1).mono ?_
      rintro e w1 ⟨rfl, hr1, ho1⟩
      have HS1 : Hid (SpS w0 w1 q s (j + 1) wv' acc') := (HS.out.dn n1).mo (Only.mo ho1) hr1
      have HC1 : Hid (Ch w w1 q wv wv') := HCH.out.trans (((only_dn (Only.refl wx q) n1).mo.trans (Only.mo ho1)).ch wv')
      clear r0 r1 r2 rf hr1 ho1
      obtain ⟨r0, r1, r2, rf⟩ := row3 HS1.out.row
      by_cases hqn : n = 34
      · have HE : Hid _ := qT_end true acc' s j hlt (by rw [HC.out, HN.out, hqn]; rfl)
        subst hqn
        go_wp2
        go_returns
        exact ⟨j + 1, wv', acc', ⟨HS1.out, by omega, hlt, by omega, HC1.out⟩, Or.inl ⟨rfl, by rw [HQ.out]; exact HE.out⟩⟩
      · have e1 : ((n : Int) == 34) = false := by simp; omega
        have HNQ : Hid (¬ s[j].toNat = SP.qc true) := by rw [HC.out, HN.out]; exact hqn
        by_cases h92 : n = 92
        · have HT : Hid _ := qT_esc true acc' s j hlt HNQ.out (by rw [HC.out, HN.out, h92])
          have HV : Hid (n = 92) := h92
          have e2 : ((n : Int) == 92) = true := by simp; omega
          by_cases hlt2 : j + 1 < s.size
          · have hz2 : ((j : Int) + 1) < (s.size : Int) := by omega
            have HES : Hid (∀ n, Calls Tryz.prog 98 #[.pointer (some ⟨q, 0, none⟩)] (w1.drewN n) fun e w' => ∃ c j', e = .returned (.int .u8 (UInt8.toNat c : Int)) ∧ Es SP.esc (w1.drewN n) w' q s (j + 1) wv' c j') := fun n => HESC.out _ _ _ _ (HS1.out.dn n) hlt2
            clear h92
            go_wp2_with fail
            go_quiet (fail)
            go_wp2_with fail
            refine (show Calls _ _ _ _ _ from HES.out _).mono ?_
            rintro e w2 ⟨c2, j2, rfl, hE⟩
            have HW : Hid (SpS w0 w2 q s j2 wv' acc') := (HS1.out.dn _).mo hE.mo hE.row
            have HCW : Hid (Ch w w2 q wv wv') := HC1.out.trans (((only_dn (Only.refl w1 q) _).mo.trans hE.mo).ch wv')
            have HEE : Hid _ := hE
            obtain ⟨n2, hn2⟩ : ∃ n2, c2.toNat = n2 := ⟨_, rfl⟩
            have HN2 : Hid (c2.toNat = n2) := hn2
            rw [hn2]
            clear r0 r1 r2 rf hE hn2
            obtain ⟨PW, kw, hfw⟩ := own_form HW.out.own
            subst hfw
            obtain ⟨r0, r1, r2, rf⟩ := row3 HW.out.row
            have HW2 : Hid (SpS w0 (w2.alloc (.cells #[.int .u8 (n2 : Int)] 5)) q s j2 (.slice PW acc'.length kw) acc') := HW.out.bl ((Below.refl _ _).alloc (Nat.le_refl _) _)
            have HNC : Hid (∀ a u, [Value.int .u8 (n2 : Int)][a]? = some u → (w2.alloc (.cells #[.int .u8 (n2 : Int)] 5)).cell? ((⟨w2.heap.size, 0, none⟩ : Addr).add a) = some u) := fun a u ha => by
              match a, ha with
              | 0, ha => simp at ha; subst ha; rw [Addr.add_lit]; exact (row1 (one_alloc w2 (.cells #[.int .u8 (n2 : Int)] 5))).1
            go_upto_region 7 with fail
            go_wp2_with (at_builtin; go_must (refine wpList_append_own_at _ rfl _ _ 50 rfl w0.heap.size 5 i5 (.int .u8 0) 1 1 Tryz.underlying50 hi5 hz5 hz6 hz7 rfl (by decide) (.slice PW acc'.length kw) acc'.length (bcells acc') rfl HW2.out.own ⟨w2.heap.size, 0, none⟩ 1 1 [.int .u8 (n2 : Int)] rfl rfl HNC.out ?ta1 ?ta2 ?ta3 ?ta4 ?_))
            case ta1 => intro u hu; simp at hu; subst hu; rfl
            case ta2 => unfold maxLen; have := HLB.out; omega
            case ta3 => have := HLB.out; omega
            case ta4 => exact HW2.out.bel.size
            intro v9 w9 ho9 hg9 hn9 hat9
            obtain ⟨P9, k9, hf9⟩ := own_form ho9
            subst hf9
            obtain ⟨hr9, hs9, hch9⟩ := SpS.app (c := c2) HW2.out (by rw [HN2.out]; exact ho9) hg9 (by simpa using hat9)
            have HS9 : Hid _ := hs9
            have HCH9 : Hid _ := hch9
            clear r0 r1 r2 rf
            obtain ⟨r0, r1, r2, rf⟩ := row3 hr9
            clear ho9 hg9 hn9 hr9 hs9 hat9 hch9
            go_wp2
            have HBS : Hid (SP.bsl true (s.data.toList.drop (j + 1)) = (c2, s.data.toList.drop j2)) := by
              show _ = _
              unfold SP.bsl
              simp only [if_true, if_false, Bool.false_eq_true]
              rw [HEE.out.eq]
            refine ⟨⟨j2, _, acc' ++ [c2], ⟨HS9.out, by have := HEE.out.lo; omega, HEE.out.hi, by rw [List.length_append]; simp; have := HEE.out.lo; omega, (HCW.out.trans ((mo_bel ((Below.refl _ _).alloc (Nat.le_refl _) _)).ch _)).trans HCH9.out⟩, ?_⟩, ?_⟩
            · rw [HQ.out, HT.out, HBS.out]
            · rw [SpR.no HS.out.row, SpR.no HS9.out.row]; have := HEE.out.lo; omega
          · have hz2 : ¬ ((j : Int) + 1) < (s.size : Int) := by omega
            have HBS : Hid _ := bsl_nil true s (j + 1) (by omega)
            have HC92 : Hid (c = 92) := u8_ext (by rw [HN.out, HV.out]; rfl)
            clear h92
            go_wp2_with fail
            go_quiet (fail)
            clear r0 r1 r2 rf
            have HW : Hid (SpS w0 (w1.drewN nq) q s (j + 1) wv' acc') := HS1.out.dn _
            have HCW : Hid (Ch w (w1.drewN nq) q wv wv') := HC1.out.trans ((only_dn (Only.refl w1 q) nq).mo.ch wv')
            generalize w1.drewN nq = W9 at *
            obtain ⟨PW, kw, hfw⟩ := own_form HW.out.own
            subst hfw
            obtain ⟨r0, r1, r2, rf⟩ := row3 HW.out.row
            have HW2 : Hid (SpS w0 (W9.alloc (.cells #[.int .u8 (n : Int)] 5)) q s (j + 1) (.slice PW acc'.length kw) acc') := HW.out.bl ((Below.refl _ _).alloc (Nat.le_refl _) _)
            have HNC : Hid (∀ a u, [Value.int .u8 (n : Int)][a]? = some u → (W9.alloc (.cells #[.int .u8 (n : Int)] 5)).cell? ((⟨W9.heap.size, 0, none⟩ : Addr).add a) = some u) := fun a u ha => by
              match a, ha with
              | 0, ha => simp at ha; subst ha; rw [Addr.add_lit]; exact (row1 (one_alloc W9 (.cells #[.int .u8 (n : Int)] 5))).1
            go_upto_region 7 with fail
            go_wp2_with (at_builtin; go_must (refine wpList_append_own_at _ rfl _ _ 50 rfl w0.heap.size 5 i5 (.int .u8 0) 1 1 Tryz.underlying50 hi5 hz5 hz6 hz7 rfl (by decide) (.slice PW acc'.length kw) acc'.length (bcells acc') rfl HW2.out.own ⟨W9.heap.size, 0, none⟩ 1 1 [.int .u8 (n : Int)] rfl rfl HNC.out ?tb1 ?tb2 ?tb3 ?tb4 ?_))
            case tb1 => intro u hu; simp at hu; subst hu; rfl
            case tb2 => unfold maxLen; have := HLB.out; omega
            case tb3 => have := HLB.out; omega
            case tb4 => exact HW2.out.bel.size
            intro v9 w9 ho9 hg9 hn9 hat9
            obtain ⟨P9, k9, hf9⟩ := own_form ho9
            subst hf9
            obtain ⟨hr9, hs9, hch9⟩ := SpS.app (c := c) HW2.out (by rw [HN.out]; exact ho9) hg9 (by simpa using hat9)
            have HS9 : Hid _ := hs9
            have HCH9 : Hid _ := hch9
            clear r0 r1 r2 rf
            obtain ⟨r0, r1, r2, rf⟩ := row3 hr9
            clear ho9 hg9 hn9 hr9 hs9 hat9 hch9
            go_wp2
            refine ⟨⟨j + 1, _, acc' ++ [c], ⟨HS9.out, by omega, hlt, by rw [List.length_append]; simp; omega, (HCW.out.trans ((mo_bel ((Below.refl _ _).alloc (Nat.le_refl _) _)).ch _)).trans HCH9.out⟩, ?_⟩, ?_⟩
            · rw [HQ.out, HT.out, HBS.out, HC92.out]
            · rw [SpR.no HS.out.row, SpR.no HS9.out.row]; omega
        · have e2 : ((n : Int) == 92) = false := by simp; omega
          have HT : Hid _ := qT_one true acc' s j hlt HNQ.out (by rw [HC.out, HN.out]; exact h92)
          clear h92
          go_wp2_with fail
          go_quiet (fail)
          clear r0 r1 r2 rf
          have HW : Hid (SpS w0 (w1.drewN nq) q s (j + 1) wv' acc') := HS1.out.dn _
          have HCW : Hid (Ch w (w1.drewN nq) q wv wv') := HC1.out.trans ((only_dn (Only.refl w1 q) nq).mo.ch wv')
          generalize w1.drewN nq = W9 at *
          obtain ⟨PW, kw, hfw⟩ := own_form HW.out.own
          subst hfw
          obtain ⟨r0, r1, r2, rf⟩ := row3 HW.out.row
          have HW2 : Hid (SpS w0 (W9.alloc (.cells #[.int .u8 (n : Int)] 5)) q s (j + 1) (.slice PW acc'.length kw) acc') := HW.out.bl ((Below.refl _ _).alloc (Nat.le_refl _) _)
          have HNC : Hid (∀ a u, [Value.int .u8 (n : Int)][a]? = some u → (W9.alloc (.cells #[.int .u8 (n : Int)] 5)).cell? ((⟨W9.heap.size, 0, none⟩ : Addr).add a) = some u) := fun a u ha => by
            match a, ha with
            | 0, ha => simp at ha; subst ha; rw [Addr.add_lit]; exact (row1 (one_alloc W9 (.cells #[.int .u8 (n : Int)] 5))).1
          go_upto_region 7 with fail
          go_wp2_with (at_builtin; go_must (refine wpList_append_own_at _ rfl _ _ 50 rfl w0.heap.size 5 i5 (.int .u8 0) 1 1 Tryz.underlying50 hi5 hz5 hz6 hz7 rfl (by decide) (.slice PW acc'.length kw) acc'.length (bcells acc') rfl HW2.out.own ⟨W9.heap.size, 0, none⟩ 1 1 [.int .u8 (n : Int)] rfl rfl HNC.out ?tc1 ?tc2 ?tc3 ?tc4 ?_))
          case tc1 => intro u hu; simp at hu; subst hu; rfl
          case tc2 => unfold maxLen; have := HLB.out; omega
          case tc3 => have := HLB.out; omega
          case tc4 => exact HW2.out.bel.size
          intro v9 w9 ho9 hg9 hn9 hat9
          obtain ⟨P9, k9, hf9⟩ := own_form ho9
          subst hf9
          obtain ⟨hr9, hs9, hch9⟩ := SpS.app (c := c) HW2.out (by rw [HN.out]; exact ho9) hg9 (by simpa using hat9)
          have HS9 : Hid _ := hs9
          have HCH9 : Hid _ := hch9
          clear r0 r1 r2 rf
          obtain ⟨r0, r1, r2, rf⟩ := row3 hr9
          clear ho9 hg9 hn9 hr9 hs9 hat9 hch9
          go_wp2
          refine ⟨⟨j + 1, _, acc' ++ [c], ⟨HS9.out, by omega, hlt, by rw [List.length_append]; simp; omega, (HCW.out.trans ((mo_bel ((Below.refl _ _).alloc (Nat.le_refl _) _)).ch _)).trans HCH9.out⟩, ?_⟩, ?_⟩
          · rw [HQ.out, HT.out, HC.out]
          · rw [SpR.no HS.out.row, SpR.no HS9.out.row]; omega
    · have hz1 : ¬ (j : Int) < (s.size : Int) := by omega
      have HE : Hid _ := qT_nil true acc' s j (by omega)
      go_wp2_with fail
      go_quiet (fail)
      go_wp2
      go_returns
      exact ⟨j, wv', acc', ⟨HS.out.dn _, hij, hj, hla, HCH.out.trans ((only_dn (Only.refl wx q) _).mo.ch wv')⟩, Or.inr ⟨rfl, by rw [HQ.out]; exact HE.out⟩⟩
end Go.Proofs.YtnfbaeajalnmmaaGreatDoor
namespace Go.Proofs.YtnfbaeajalnmmaaGreatDoor
open Go.RowKit
set_option linter.unusedVariables false
set_option linter.unusedSimpArgs false
set_option maxHeartbeats 6000000 in
set_option maxRecDepth 100000 in
theorem quo_s (q : Nat) (s : ByteArray) (i : Nat) (wv : Value) (acc : SP.Bs) (hs : s.size ≤ 1073741824) (hi : i ≤ s.size) (ha : acc.length ≤ 1073741824) (w0 w : World) (hL : Laid w0) (h : SpS w0 w q s i wv acc) : Calls Tryz.prog 97 #[.pointer (some ⟨q, 0, none⟩), .int .u8 39, .func (.func 99) #[.pointer (some ⟨q, 0, none⟩)] #[]] w fun e w' => ∃ j wv' acc', (SpS w0 w' q s j wv' acc' ∧ i ≤ j ∧ j ≤ s.size ∧ acc'.length ≤ acc.length + (j - i) ∧ Ch w w' q wv wv') ∧ ((e = .returned (.bool true) ∧ SP.qT false acc (s.data.toList.drop i) = some (acc', s.data.toList.drop j)) ∨ (e = .returned (.bool false) ∧ SP.qT false acc (s.data.toList.drop i) = none)) := by
  obtain ⟨i5, hi5, hz5, hz6, hz7⟩ := info_parts info5
  have HS0 : Hid (SpS w0 w q s i wv acc) := h
  have HL : Hid (Laid w0) := hL
  have HESC : Hid (∀ W j wv acc, SpS w0 W q s j wv acc → j < s.size → Calls Tryz.prog 99 #[.pointer (some ⟨q, 0, none⟩)] W fun e w' => ∃ c j', e = .returned (.int .u8 (UInt8.toNat c : Int)) ∧ Es SP.esq W w' q s j wv c j') := fun W j wv acc hS hj => escq_any q s j wv hs hj W hS.row
  clear h hL
  go_enter Tryz.func97, Tryz.ntmps97
  go_wp2
  go_loopw [] (fun wr => ∃ j wv' acc', (SpS w0 wr q s j wv' acc' ∧ i ≤ j ∧ j ≤ s.size ∧ acc'.length ≤ acc.length + (j - i) ∧ Ch w wr q wv wv') ∧ SP.qT false acc (s.data.toList.drop i) = SP.qT false acc' (s.data.toList.drop j)) (fun wr => s.size - atOf q wr)
  case atStart => exact ⟨i, wv, acc, ⟨HS0.out, Nat.le_refl _, hi, by omega, Ch.refl _ _ _⟩, rfl⟩
  case round =>
    obtain ⟨j, wv', acc', ⟨hS, hij, hj, hla, hch⟩, hq⟩ := hrel
    obtain ⟨wx, hwx⟩ : ∃ wx, wx = wr := ⟨_, rfl⟩
    subst hwx
    have HS : Hid (SpS w0 wx q s j wv' acc') := hS
    have HQ : Hid _ := hq
    have HCH : Hid (Ch w wx q wv wv') := hch
    clear hch
    have HLB : Hid (acc'.length ≤ 2147483648) := by show _ ≤ _; omega
    obtain ⟨r0, r1, r2, rf⟩ := row3 hS.row
    clear hS hq
    by_cases hlt : j < s.size
    · have hz1 : (j : Int) < (s.size : Int) := by omega
      have HNX : Hid (∀ n, Calls Tryz.prog 96 #[.pointer (some ⟨q, 0, none⟩)] (wx.drewN n) fun e w' => e = .returned (.int .u8 (s[j].toNat : Int)) ∧ SpR w' q s (j + 1) wv' ∧ Only (wx.drewN n) w' q) := fun n => next_any q s j wv' hs hlt _ (HS.out.row.dn n)
      obtain ⟨c, hc⟩ : ∃ c, s[j] = c := ⟨_, rfl⟩
      have HC : Hid (s[j] = c) := hc
      rw [hc] at HNX
      obtain ⟨n, hn⟩ : ∃ n, c.toNat = n := ⟨_, rfl⟩
      have HN : Hid (c.toNat = n) := hn
      rw [hn] at HNX
      clear hc hn
      go_wp2_with fail
      go_quiet (fail)
      obtain ⟨n1, hn1⟩ : ∃ n1, n1 = nq := ⟨_, rfl⟩
      subst hn1
      go_wp2_with fail
      refine (show Calls _ _ _ _ _ from HNX.out n1).mono ?_
      rintro e w1 ⟨rfl, hr1, ho1⟩
      have HS1 : Hid (SpS w0 w1 q s (j + 1) wv' acc') := (HS.out.dn n1).mo (Only.mo ho1) hr1
      have HC1 : Hid (Ch w w1 q wv wv') := HCH.out.trans (((only_dn (Only.refl wx q) n1).mo.trans (Only.mo ho1)).ch wv')
      clear r0 r1 r2 rf hr1 ho1
      obtain ⟨r0, r1, r2, rf⟩ := row3 HS1.out.row
      by_cases hqn : n = 39
      · have HE : Hid _ := qT_end false acc' s j hlt (by rw [HC.out, HN.out, hqn]; rfl)
        subst hqn
        go_wp2
        go_returns
        exact ⟨j + 1, wv', acc', ⟨HS1.out, by omega, hlt, by omega, HC1.out⟩, Or.inl ⟨rfl, by rw [HQ.out]; exact HE.out⟩⟩
      · have e1 : ((n : Int) == 39) = false := by simp; omega
        have HNQ : Hid (¬ s[j].toNat = SP.qc false) := by rw [HC.out, HN.out]; exact hqn
        by_cases h92 : n = 92
        · have HT : Hid _ := qT_esc false acc' s j hlt HNQ.out (by rw [HC.out, HN.out, h92])
          have HV : Hid (n = 92) := h92
          have e2 : ((n : Int) == 92) = true := by simp; omega
          by_cases hlt2 : j + 1 < s.size
          · have hz2 : ((j : Int) + 1) < (s.size : Int) := by omega
            have HES : Hid (∀ n, Calls Tryz.prog 99 #[.pointer (some ⟨q, 0, none⟩)] (w1.drewN n) fun e w' => ∃ c j', e = .returned (.int .u8 (UInt8.toNat c : Int)) ∧ Es SP.esq (w1.drewN n) w' q s (j + 1) wv' c j') := fun n => HESC.out _ _ _ _ (HS1.out.dn n) hlt2
            clear h92
            go_wp2_with fail
            go_quiet (fail)
            go_wp2_with fail
            refine (show Calls _ _ _ _ _ from HES.out _).mono ?_
            rintro e w2 ⟨c2, j2, rfl, hE⟩
            have HW : Hid (SpS w0 w2 q s j2 wv' acc') := (HS1.out.dn _).mo hE.mo hE.row
            have HCW : Hid (Ch w w2 q wv wv') := HC1.out.trans (((only_dn (Only.refl w1 q) _).mo.trans hE.mo).ch wv')
            have HEE : Hid _ := hE
            obtain ⟨n2, hn2⟩ : ∃ n2, c2.toNat = n2 := ⟨_, rfl⟩
            have HN2 : Hid (c2.toNat = n2) := hn2
            rw [hn2]
            clear r0 r1 r2 rf hE hn2
            obtain ⟨PW, kw, hfw⟩ := own_form HW.out.own
            subst hfw
            obtain ⟨r0, r1, r2, rf⟩ := row3 HW.out.row
            have HW2 : Hid (SpS w0 (w2.alloc (.cells #[.int .u8 (n2 : Int)] 5)) q s j2 (.slice PW acc'.length kw) acc') := HW.out.bl ((Below.refl _ _).alloc (Nat.le_refl _) _)
            have HNC : Hid (∀ a u, [Value.int .u8 (n2 : Int)][a]? = some u → (w2.alloc (.cells #[.int .u8 (n2 : Int)] 5)).cell? ((⟨w2.heap.size, 0, none⟩ : Addr).add a) = some u) := fun a u ha => by
              match a, ha with
              | 0, ha => simp at ha; subst ha; rw [Addr.add_lit]; exact (row1 (one_alloc w2 (.cells #[.int .u8 (n2 : Int)] 5))).1
            go_upto_region 7 with fail
            go_wp2_with (at_builtin; go_must (refine wpList_append_own_at _ rfl _ _ 50 rfl w0.heap.size 5 i5 (.int .u8 0) 1 1 Tryz.underlying50 hi5 hz5 hz6 hz7 rfl (by decide) (.slice PW acc'.length kw) acc'.length (bcells acc') rfl HW2.out.own ⟨w2.heap.size, 0, none⟩ 1 1 [.int .u8 (n2 : Int)] rfl rfl HNC.out ?ta1 ?ta2 ?ta3 ?ta4 ?_))
            case ta1 => intro u hu; simp at hu; subst hu; rfl
            case ta2 => unfold maxLen; have := HLB.out; omega
            case ta3 => have := HLB.out; omega
            case ta4 => exact HW2.out.bel.size
            intro v9 w9 ho9 hg9 hn9 hat9
            obtain ⟨P9, k9, hf9⟩ := own_form ho9
            subst hf9
            obtain ⟨hr9, hs9, hch9⟩ := SpS.app (c := c2) HW2.out (by rw [HN2.out]; exact ho9) hg9 (by simpa using hat9)
            have HS9 : Hid _ := hs9
            have HCH9 : Hid _ := hch9
            clear r0 r1 r2 rf
            obtain ⟨r0, r1, r2, rf⟩ := row3 hr9
            clear ho9 hg9 hn9 hr9 hs9 hat9 hch9
            go_wp2
            have HBS : Hid (SP.bsl false (s.data.toList.drop (j + 1)) = (c2, s.data.toList.drop j2)) := by
              show _ = _
              unfold SP.bsl
              simp only [if_true, if_false, Bool.false_eq_true]
              rw [HEE.out.eq]
            refine ⟨⟨j2, _, acc' ++ [c2], ⟨HS9.out, by have := HEE.out.lo; omega, HEE.out.hi, by rw [List.length_append]; simp; have := HEE.out.lo; omega, (HCW.out.trans ((mo_bel ((Below.refl _ _).alloc (Nat.le_refl _) _)).ch _)).trans HCH9.out⟩, ?_⟩, ?_⟩
            · rw [HQ.out, HT.out, HBS.out]
            · rw [SpR.no HS.out.row, SpR.no HS9.out.row]; have := HEE.out.lo; omega
          · have hz2 : ¬ ((j : Int) + 1) < (s.size : Int) := by omega
            have HBS : Hid _ := bsl_nil false s (j + 1) (by omega)
            have HC92 : Hid (c = 92) := u8_ext (by rw [HN.out, HV.out]; rfl)
            clear h92
            go_wp2_with fail
            go_quiet (fail)
            clear r0 r1 r2 rf
            have HW : Hid (SpS w0 (w1.drewN nq) q s (j + 1) wv' acc') := HS1.out.dn _
            have HCW : Hid (Ch w (w1.drewN nq) q wv wv') := HC1.out.trans ((only_dn (Only.refl w1 q) nq).mo.ch wv')
            generalize w1.drewN nq = W9 at *
            obtain ⟨PW, kw, hfw⟩ := own_form HW.out.own
            subst hfw
            obtain ⟨r0, r1, r2, rf⟩ := row3 HW.out.row
            have HW2 : Hid (SpS w0 (W9.alloc (.cells #[.int .u8 (n : Int)] 5)) q s (j + 1) (.slice PW acc'.length kw) acc') := HW.out.bl ((Below.refl _ _).alloc (Nat.le_refl _) _)
            have HNC : Hid (∀ a u, [Value.int .u8 (n : Int)][a]? = some u → (W9.alloc (.cells #[.int .u8 (n : Int)] 5)).cell? ((⟨W9.heap.size, 0, none⟩ : Addr).add a) = some u) := fun a u ha => by
              match a, ha with
              | 0, ha => simp at ha; subst ha; rw [Addr.add_lit]; exact (row1 (one_alloc W9 (.cells #[.int .u8 (n : Int)] 5))).1
            go_upto_region 7 with fail
            go_wp2_with (at_builtin; go_must (refine wpList_append_own_at _ rfl _ _ 50 rfl w0.heap.size 5 i5 (.int .u8 0) 1 1 Tryz.underlying50 hi5 hz5 hz6 hz7 rfl (by decide) (.slice PW acc'.length kw) acc'.length (bcells acc') rfl HW2.out.own ⟨W9.heap.size, 0, none⟩ 1 1 [.int .u8 (n : Int)] rfl rfl HNC.out ?tb1 ?tb2 ?tb3 ?tb4 ?_))
            case tb1 => intro u hu; simp at hu; subst hu; rfl
            case tb2 => unfold maxLen; have := HLB.out; omega
            case tb3 => have := HLB.out; omega
            case tb4 => exact HW2.out.bel.size
            intro v9 w9 ho9 hg9 hn9 hat9
            obtain ⟨P9, k9, hf9⟩ := own_form ho9
            subst hf9
            obtain ⟨hr9, hs9, hch9⟩ := SpS.app (c := c) HW2.out (by rw [HN.out]; exact ho9) hg9 (by simpa using hat9)
            have HS9 : Hid _ := hs9
            have HCH9 : Hid _ := hch9
            clear r0 r1 r2 rf
            obtain ⟨r0, r1, r2, rf⟩ := row3 hr9
            clear ho9 hg9 hn9 hr9 hs9 hat9 hch9
            go_wp2
            refine ⟨⟨j + 1, _, acc' ++ [c], ⟨HS9.out, by omega, hlt, by rw [List.length_append]; simp; omega, (HCW.out.trans ((mo_bel ((Below.refl _ _).alloc (Nat.le_refl _) _)).ch _)).trans HCH9.out⟩, ?_⟩, ?_⟩
            · rw [HQ.out, HT.out, HBS.out, HC92.out]
            · rw [SpR.no HS.out.row, SpR.no HS9.out.row]; omega
        · have e2 : ((n : Int) == 92) = false := by simp; omega
          have HT : Hid _ := qT_one false acc' s j hlt HNQ.out (by rw [HC.out, HN.out]; exact h92)
          clear h92
          go_wp2_with fail
          go_quiet (fail)
          clear r0 r1 r2 rf
          have HW : Hid (SpS w0 (w1.drewN nq) q s (j + 1) wv' acc') := HS1.out.dn _
          have HCW : Hid (Ch w (w1.drewN nq) q wv wv') := HC1.out.trans ((only_dn (Only.refl w1 q) nq).mo.ch wv')
          generalize w1.drewN nq = W9 at *
          obtain ⟨PW, kw, hfw⟩ := own_form HW.out.own
          subst hfw
          obtain ⟨r0, r1, r2, rf⟩ := row3 HW.out.row
          have HW2 : Hid (SpS w0 (W9.alloc (.cells #[.int .u8 (n : Int)] 5)) q s (j + 1) (.slice PW acc'.length kw) acc') := HW.out.bl ((Below.refl _ _).alloc (Nat.le_refl _) _)
          have HNC : Hid (∀ a u, [Value.int .u8 (n : Int)][a]? = some u → (W9.alloc (.cells #[.int .u8 (n : Int)] 5)).cell? ((⟨W9.heap.size, 0, none⟩ : Addr).add a) = some u) := fun a u ha => by
            match a, ha with
            | 0, ha => simp at ha; subst ha; rw [Addr.add_lit]; exact (row1 (one_alloc W9 (.cells #[.int .u8 (n : Int)] 5))).1
          go_upto_region 7 with fail
          go_wp2_with (at_builtin; go_must (refine wpList_append_own_at _ rfl _ _ 50 rfl w0.heap.size 5 i5 (.int .u8 0) 1 1 Tryz.underlying50 hi5 hz5 hz6 hz7 rfl (by decide) (.slice PW acc'.length kw) acc'.length (bcells acc') rfl HW2.out.own ⟨W9.heap.size, 0, none⟩ 1 1 [.int .u8 (n : Int)] rfl rfl HNC.out ?tc1 ?tc2 ?tc3 ?tc4 ?_))
          case tc1 => intro u hu; simp at hu; subst hu; rfl
          case tc2 => unfold maxLen; have := HLB.out; omega
          case tc3 => have := HLB.out; omega
          case tc4 => exact HW2.out.bel.size
          intro v9 w9 ho9 hg9 hn9 hat9
          obtain ⟨P9, k9, hf9⟩ := own_form ho9
          subst hf9
          obtain ⟨hr9, hs9, hch9⟩ := SpS.app (c := c) HW2.out (by rw [HN.out]; exact ho9) hg9 (by simpa using hat9)
          have HS9 : Hid _ := hs9
          have HCH9 : Hid _ := hch9
          clear r0 r1 r2 rf
          obtain ⟨r0, r1, r2, rf⟩ := row3 hr9
          clear ho9 hg9 hn9 hr9 hs9 hat9 hch9
          go_wp2
          refine ⟨⟨j + 1, _, acc' ++ [c], ⟨HS9.out, by omega, hlt, by rw [List.length_append]; simp; omega, (HCW.out.trans ((mo_bel ((Below.refl _ _).alloc (Nat.le_refl _) _)).ch _)).trans HCH9.out⟩, ?_⟩, ?_⟩
          · rw [HQ.out, HT.out, HC.out]
          · rw [SpR.no HS.out.row, SpR.no HS9.out.row]; omega
    · have hz1 : ¬ (j : Int) < (s.size : Int) := by omega
      have HE : Hid _ := qT_nil false acc' s j (by omega)
      go_wp2_with fail
      go_quiet (fail)
      go_wp2
      go_returns
      exact ⟨j, wv', acc', ⟨HS.out.dn _, hij, hj, hla, HCH.out.trans ((only_dn (Only.refl wx q) _).mo.ch wv')⟩, Or.inr ⟨rfl, by rw [HQ.out]; exact HE.out⟩⟩
end Go.Proofs.YtnfbaeajalnmmaaGreatDoor
namespace Go.Proofs.YtnfbaeajalnmmaaGreatDoor
open Go.RowKit
set_option linter.unusedVariables false
set_option linter.unusedSimpArgs false
theorem tk_stop (acc : SP.Bs) (l : SP.Bs) (h : SP.ended l = true) : SP.tk acc l = some (acc, l) := by
  match l, h with
  | [], _ => rfl
  | c :: r, h => simp only [SP.tk]; rw [if_pos (show SP.bl c = true from h)]
theorem tk_dq (acc : SP.Bs) (s : ByteArray) (j : Nat) (hj : j < s.size) (hb : SP.bl s[j] = false) (hc : s[j].toNat = 34) (r : Option (SP.Bs × SP.Bs)) (hr : SP.qT true acc (s.data.toList.drop (j + 1)) = r) : SP.tk acc (s.data.toList.drop j) = r.bind (fun x => if SP.ended x.2 then some x else none) := by
  rw [drop_at s j hj]; conv => lhs; unfold SP.tk
  rw [if_neg (by rw [hb]; simp), if_pos hc, hr]
  cases r with
  | none => rfl
  | some x => rfl
theorem tk_sq (acc : SP.Bs) (s : ByteArray) (j : Nat) (hj : j < s.size) (hb : SP.bl s[j] = false) (hc : s[j].toNat = 39) (r : Option (SP.Bs × SP.Bs)) (hr : SP.qT false acc (s.data.toList.drop (j + 1)) = r) : SP.tk acc (s.data.toList.drop j) = r.bind (fun x => if SP.ended x.2 then some x else none) := by
  rw [drop_at s j hj]; conv => lhs; unfold SP.tk
  rw [if_neg (by rw [hb]; simp), if_neg (by omega), if_pos hc, hr]
  cases r with
  | none => rfl
  | some x => rfl
theorem tk_one (acc : SP.Bs) (s : ByteArray) (j : Nat) (hj : j < s.size) (hb : SP.bl s[j] = false) (h1 : ¬ s[j].toNat = 34) (h2 : ¬ s[j].toNat = 39) : SP.tk acc (s.data.toList.drop j) = SP.tk (acc ++ [s[j]]) (s.data.toList.drop (j + 1)) := by
  rw [drop_at s j hj]; conv => lhs; unfold SP.tk
  rw [if_neg (by rw [hb]; simp), if_neg h1, if_neg h2]
theorem SpS.cut {w0 W : World} {q : Nat} {s : ByteArray} {j : Nat} {P : Option Addr} {c : Nat} {acc : SP.Bs} (h : SpS w0 W q s j (.slice P acc.length c) acc) : SpS w0 (W.setCell ⟨q, 2, none⟩ (.slice P 0 c)) q s j (.slice P 0 c) [] := by
  have hr2 : SpR (W.setCell ⟨q, 2, none⟩ (.slice P 0 c)) q s j (.slice P 0 c) := by
    show _ = _
    rw [heap_setCell_same _ _ _ _ _ _ h.row]; rfl
  refine ⟨hr2, ?_, h.hq, h.bel.setCell (p := ⟨q, 2, none⟩) h.hq _⟩
  have hne := h.ne
  obtain ⟨_, ⟨hv, _⟩ | ⟨g, cap, cur, hv, hbg, hg, h1, h2, h3, h4⟩⟩ := h.own
  · injection hv with e1 e2 e3
    subst e1; subst e3
    exact ⟨rfl, Or.inl ⟨rfl, rfl⟩⟩
  · injection hv with e1 e2 e3
    subst e1; subst e3
    have := (hne g rfl).1
    exact ⟨rfl, Or.inr ⟨g, c, cur, rfl, hbg, (heap_setCell_other _ _ _ _ this).trans hg, Nat.zero_le _, h2, h3, rfl⟩⟩
set_option maxHeartbeats 6000000 in
set_option maxRecDepth 100000 in
theorem take_any (q : Nat) (s : ByteArray) (i : Nat) (wv : Value) (acc : SP.Bs) (hs : s.size ≤ 1073741824) (hi : i ≤ s.size) (w0 w : World) (hL : Laid w0) (h : SpS w0 w q s i wv acc) : Calls Tryz.prog 81 #[.pointer (some ⟨q, 0, none⟩)] w fun e w' => ∃ j wv' acc', (SpS w0 w' q s j wv' acc' ∧ i ≤ j ∧ j ≤ s.size ∧ acc'.length ≤ j - i ∧ Ch w w' q wv wv') ∧ ((e = .returned (.bool true) ∧ SP.tk [] (s.data.toList.drop i) = some (acc', s.data.toList.drop j)) ∨ (e = .returned (.bool false) ∧ SP.tk [] (s.data.toList.drop i) = none)) := by
  obtain ⟨i5, hi5, hz5, hz6, hz7⟩ := info_parts info5
  obtain ⟨P0, k0, rfl⟩ := own_form h.own
  have HS0 : Hid (SpS w0 (w.setCell ⟨q, 2, none⟩ (.slice P0 0 k0)) q s i (.slice P0 0 k0) []) := h.cut
  have HL : Hid (Laid w0) := hL
  have HCC : Hid (Ch w (w.setCell ⟨q, 2, none⟩ (.slice P0 0 k0)) q (.slice P0 acc.length k0) (.slice P0 0 k0)) := ⟨rfl, rfl, rfl, by rw [World.size_setCell]; exact Nat.le_refl _, fun k _ hq _ => heap_setCell_other _ _ _ _ hq, fun b hb => Or.inl (by cases P0 with | none => cases hb | some a => exact hb)⟩
  obtain ⟨r0, r1, r2, rf⟩ := row3 h.row
  clear h hL
  generalize acc.length = la at *
  go_enter Tryz.func81, Tryz.ntmps81
  go_wp2
  clear r0 r1 r2 rf
  go_loopw [] (fun wr => ∃ j wv' acc', (SpS w0 wr q s j wv' acc' ∧ i ≤ j ∧ j ≤ s.size ∧ acc'.length ≤ j - i ∧ Ch w wr q (.slice P0 la k0) wv') ∧ SP.tk [] (s.data.toList.drop i) = SP.tk acc' (s.data.toList.drop j)) (fun wr => s.size - atOf q wr)
  case atStart => exact ⟨i, _, [], ⟨HS0.out, Nat.le_refl _, hi, by simp, HCC.out⟩, rfl⟩
  case round =>
    obtain ⟨j, wv', acc', ⟨hS, hij, hj, hla, hch⟩, htk⟩ := hrel
    obtain ⟨wx, hwx⟩ : ∃ wx, wx = wr := ⟨_, rfl⟩
    subst hwx
    have HS : Hid (SpS w0 wx q s j wv' acc') := hS
    have HTK : Hid _ := htk
    have HCH : Hid (Ch w wx q (.slice P0 la k0) wv') := hch
    clear hch
    have HLB : Hid (acc'.length ≤ 2147483648) := by show _ ≤ _; omega
    have HEN : Hid _ := ended_any q s j wv' hs hj wx hS.row
    obtain ⟨be, hbe⟩ : ∃ be, SP.ended (s.data.toList.drop j) = be := ⟨_, rfl⟩
    have HBE : Hid _ := hbe
    rw [hbe] at HEN
    clear hS htk hbe
    go_wp2_with fail
    refine (show Calls _ _ _ _ _ from HEN.out).mono ?_
    rintro e we ⟨rfl, ne, hwe⟩
    have HSE : Hid (SpS w0 we q s j wv' acc') := by rw [hwe]; exact HS.out.dn ne
    have HCE : Hid (Ch w we q (.slice P0 la k0) wv') := by rw [hwe]; exact HCH.out.trans ((only_dn (Only.refl wx q) ne).mo.ch wv')
    clear hwe
    cases be with
    | true =>
      have HT : Hid _ := tk_stop acc' _ HBE.out
      go_wp2
      go_returns
      exact ⟨j, wv', acc', ⟨HSE.out, hij, hj, hla, HCE.out⟩, Or.inl ⟨rfl, by rw [HTK.out, HT.out]⟩⟩
    | false =>
      have hlt : j < s.size := by
        rcases Nat.lt_or_ge j s.size with h | h
        · exact h
        · have := ended_end s j h; rw [HBE.out] at this; cases this
      have HBL : Hid (SP.bl s[j] = false) := by have := ended_at s j hlt; rw [HBE.out] at this; exact this.symm
      have HNX : Hid _ := next_any q s j wv' hs hlt we HSE.out.row
      obtain ⟨c, hc⟩ : ∃ c, s[j] = c := ⟨_, rfl⟩
      have HC : Hid (s[j] = c) := hc
      rw [hc] at HNX
      obtain ⟨n, hn⟩ : ∃ n, c.toNat = n := ⟨_, rfl⟩
      have HN : Hid (c.toNat = n) := hn
      rw [hn] at HNX
      clear hc hn
      go_wp2_with fail
      refine (show Calls _ _ _ _ _ from HNX.out).mono ?_
      rintro e w1 ⟨rfl, hr1, ho1⟩
      have HS1 : Hid (SpS w0 w1 q s (j + 1) wv' acc') := HSE.out.mo (Only.mo ho1) hr1
      have HC1 : Hid (Ch w w1 q (.slice P0 la k0) wv') := HCE.out.trans ((Only.mo ho1).ch wv')
      clear hr1 ho1
      obtain ⟨r0, r1, r2, rf⟩ := row3 HS1.out.row
      by_cases h34 : n = 34
      · have HT : Hid _ := tk_dq acc' s j hlt HBL.out (by rw [HC.out, HN.out, h34])
        have HQ2 : Hid _ := quo_d q s (j + 1) wv' acc' hs hlt (by omega) w0 w1 HL.out HS1.out
        subst h34
        clear r0 r1 r2 rf
        go_wp2_with fail
        refine (show Calls _ _ _ _ _ from HQ2.out).mono ?_
        rintro e w2 ⟨j2, wv2, acc2, ⟨hS2, hl2, hh2, hla2, hch2⟩, ⟨rfl, hq2⟩ | ⟨rfl, hq2⟩⟩
        · have HS2 : Hid _ := hS2
          have HC2 : Hid _ := HC1.out.trans hch2
          clear hch2
          have HE2 : Hid _ := ended_any q s j2 wv2 hs hh2 w2 hS2.row
          have HQE : Hid _ := hq2
          obtain ⟨bb, hbb⟩ : ∃ bb, SP.ended (s.data.toList.drop j2) = bb := ⟨_, rfl⟩
          have HBB : Hid _ := hbb
          rw [hbb] at HE2
          clear hS2 hq2 hbb
          go_wp2_with fail
          refine (show Calls _ _ _ _ _ from HE2.out).mono ?_
          rintro e w3 ⟨rfl, n3, hw3⟩
          have HS3 : Hid (SpS w0 w3 q s j2 wv2 acc2) := by rw [hw3]; exact HS2.out.dn n3
          have HC3 : Hid (Ch w w3 q (.slice P0 la k0) wv2) := by rw [hw3]; exact HC2.out.trans ((only_dn (Only.refl w2 q) n3).mo.ch wv2)
          clear hw3
          cases bb with
          | true =>
            go_wp2
            go_returns
            exact ⟨j2, wv2, acc2, ⟨HS3.out, by omega, hh2, by omega, HC3.out⟩, Or.inl ⟨rfl, by rw [HTK.out, HT.out _ HQE.out]; simp [HBB.out]⟩⟩
          | false =>
            go_wp2
            go_returns
            exact ⟨j2, wv2, acc2, ⟨HS3.out, by omega, hh2, by omega, HC3.out⟩, Or.inr ⟨rfl, by rw [HTK.out, HT.out _ HQE.out]; simp [HBB.out]⟩⟩
        · have HS2 : Hid _ := hS2
          have HC2 : Hid _ := HC1.out.trans hch2
          clear hch2
          have HQE : Hid _ := hq2
          clear hS2 hq2
          go_wp2
          go_returns
          exact ⟨j2, wv2, acc2, ⟨HS2.out, by omega, hh2, by omega, HC2.out⟩, Or.inr ⟨rfl, by rw [HTK.out, HT.out _ HQE.out]; rfl⟩⟩
      have e34 : ((n : Int) == 34) = false := by simp; omega
      by_cases h39 : n = 39
      · have HT : Hid _ := tk_sq acc' s j hlt HBL.out (by rw [HC.out, HN.out, h39])
        have HQ2 : Hid _ := quo_s q s (j + 1) wv' acc' hs hlt (by omega) w0 w1 HL.out HS1.out
        subst h39
        clear r0 r1 r2 rf
        go_wp2_with fail
        refine (show Calls _ _ _ _ _ from HQ2.out).mono ?_
        rintro e w2 ⟨j2, wv2, acc2, ⟨hS2, hl2, hh2, hla2, hch2⟩, ⟨rfl, hq2⟩ | ⟨rfl, hq2⟩⟩
        · have HS2 : Hid _ := hS2
          have HC2 : Hid _ := HC1.out.trans hch2
          clear hch2
          have HE2 : Hid _ := ended_any q s j2 wv2 hs hh2 w2 hS2.row
          have HQE : Hid _ := hq2
          obtain ⟨bb, hbb⟩ : ∃ bb, SP.ended (s.data.toList.drop j2) = bb := ⟨_, rfl⟩
          have HBB : Hid _ := hbb
          rw [hbb] at HE2
          clear hS2 hq2 hbb
          go_wp2_with fail
          refine (show Calls _ _ _ _ _ from HE2.out).mono ?_
          rintro e w3 ⟨rfl, n3, hw3⟩
          have HS3 : Hid (SpS w0 w3 q s j2 wv2 acc2) := by rw [hw3]; exact HS2.out.dn n3
          have HC3 : Hid (Ch w w3 q (.slice P0 la k0) wv2) := by rw [hw3]; exact HC2.out.trans ((only_dn (Only.refl w2 q) n3).mo.ch wv2)
          clear hw3
          cases bb with
          | true =>
            go_wp2
            go_returns
            exact ⟨j2, wv2, acc2, ⟨HS3.out, by omega, hh2, by omega, HC3.out⟩, Or.inl ⟨rfl, by rw [HTK.out, HT.out _ HQE.out]; simp [HBB.out]⟩⟩
          | false =>
            go_wp2
            go_returns
            exact ⟨j2, wv2, acc2, ⟨HS3.out, by omega, hh2, by omega, HC3.out⟩, Or.inr ⟨rfl, by rw [HTK.out, HT.out _ HQE.out]; simp [HBB.out]⟩⟩
        · have HS2 : Hid _ := hS2
          have HC2 : Hid _ := HC1.out.trans hch2
          clear hch2
          have HQE : Hid _ := hq2
          clear hS2 hq2
          go_wp2
          go_returns
          exact ⟨j2, wv2, acc2, ⟨HS2.out, by omega, hh2, by omega, HC2.out⟩, Or.inr ⟨rfl, by rw [HTK.out, HT.out _ HQE.out]; rfl⟩⟩
      have e39 : ((n : Int) == 39) = false := by simp; omega
      have HT : Hid _ := tk_one acc' s j hlt HBL.out (by rw [HC.out, HN.out]; exact h34) (by rw [HC.out, HN.out]; exact h39)
      clear h34 h39 r0 r1 r2 rf
      have HW : Hid (SpS w0 w1 q s (j + 1) wv' acc') := HS1.out
      obtain ⟨PW, kw, hfw⟩ := own_form HW.out.own
      subst hfw
      obtain ⟨r0, r1, r2, rf⟩ := row3 HW.out.row
      have HW2 : Hid (SpS w0 (w1.alloc (.cells #[.int .u8 (n : Int)] 5)) q s (j + 1) (.slice PW acc'.length kw) acc') := HW.out.bl ((Below.refl _ _).alloc (Nat.le_refl _) _)
      have HNC : Hid (∀ a u, [Value.int .u8 (n : Int)][a]? = some u → (w1.alloc (.cells #[.int .u8 (n : Int)] 5)).cell? ((⟨w1.heap.size, 0, none⟩ : Addr).add a) = some u) := fun a u ha => by
        match a, ha with
        | 0, ha => simp at ha; subst ha; rw [Addr.add_lit]; exact (row1 (one_alloc w1 (.cells #[.int .u8 (n : Int)] 5))).1
      go_upto_region 5 with fail
      go_wp2_with (at_builtin; go_must (refine wpList_append_own_at _ rfl _ _ 50 rfl w0.heap.size 5 i5 (.int .u8 0) 1 1 Tryz.underlying50 hi5 hz5 hz6 hz7 rfl (by decide) (.slice PW acc'.length kw) acc'.length (bcells acc') rfl HW2.out.own ⟨w1.heap.size, 0, none⟩ 1 1 [.int .u8 (n : Int)] rfl rfl HNC.out ?td1 ?td2 ?td3 ?td4 ?_))
      case td1 => intro u hu; simp at hu; subst hu; rfl
      case td2 => unfold maxLen; have := HLB.out; omega
      case td3 => have := HLB.out; omega
      case td4 => exact HW2.out.bel.size
      intro v9 w9 ho9 hg9 hn9 hat9
      obtain ⟨P9, k9, hf9⟩ := own_form ho9
      subst hf9
      obtain ⟨hr9, hs9, hch9⟩ := SpS.app (c := c) HW2.out (by rw [HN.out]; exact ho9) hg9 (by simpa using hat9)
      have HS9 : Hid _ := hs9
      have HCH9 : Hid _ := hch9
      clear r0 r1 r2 rf
      obtain ⟨r0, r1, r2, rf⟩ := row3 hr9
      clear ho9 hg9 hn9 hr9 hs9 hat9 hch9
      go_wp2
      refine ⟨⟨j + 1, _, acc' ++ [c], ⟨HS9.out, by omega, hlt, by rw [List.length_append]; simp; omega, (HC1.out.trans ((mo_bel ((Below.refl _ _).alloc (Nat.le_refl _) _)).ch _)).trans HCH9.out⟩, ?_⟩, ?_⟩
      · rw [HTK.out, HT.out, HC.out]
      · rw [SpR.no HS.out.row, SpR.no HS9.out.row]; omega
end Go.Proofs.YtnfbaeajalnmmaaGreatDoor
namespace Go.Proofs.YtnfbaeajalnmmaaGreatDoor
open Go.RowKit
set_option linter.unusedVariables false
set_option linter.unusedSimpArgs false
def strS (out : List SP.Bs) : List Value := out.map (fun b => Value.string (strB b))
theorem strS_snoc (out : List SP.Bs) (b : SP.Bs) : strS (out ++ [b]) = strS out ++ [.string (strB b)] := by simp [strS]
theorem info9 : (Tryz.prog.info? 9).map (fun i => (i.zero, i.size, i.bytes)) = some (some (.string ⟨#[]⟩), 1, 16) := by kernel_rfl
theorem own_apart {w0 W : World} {q : Nat} {s : ByteArray} {j : Nat} {wv v : Value} {acc : SP.Bs} {b n : Nat} {xs : List Value} (h : W.ownsRow b 9 1 v n xs) (hS : SpS w0 W q s j wv acc) (g : Nat) (hg : v.ownBlock = some g) : g ≠ q ∧ wv.ownBlock ≠ some g ∧ g < W.heap.size := by
  obtain ⟨_, ⟨hv, _⟩ | ⟨g', cap, cur, hv, hb, hr, _⟩⟩ := h
  · rw [hv] at hg; simp [Value.ownBlock] at hg
  · rw [hv] at hg
    simp [Value.ownBlock] at hg
    subst hg
    refine ⟨?_, ?_, row_lt hr⟩
    · rintro rfl
      rw [hS.row] at hr; simp at hr
    · intro e
      obtain ⟨_, ⟨hv2, _⟩ | ⟨g2, cap2, cur2, hv2, hb2, hr2, _⟩⟩ := hS.own
      · rw [hv2] at e; simp [Value.ownBlock] at e
      · rw [hv2] at e
        simp [Value.ownBlock] at e
        subst e
        rw [hr2] at hr; simp at hr
theorem sp_done (f : Nat) (out : List SP.Bs) (l : SP.Bs) (h : SP.skp l = []) : SP.sp (f + 1) out l = some out := by simp only [SP.sp]; rw [h]
theorem sp_word (f : Nat) (out : List SP.Bs) (l : SP.Bs) (m : SP.Bs) (h : SP.skp l = m) (hm : SP.ended m = false) (a t : SP.Bs) (ht : SP.tk [] m = some (a, t)) : SP.sp (f + 1) out l = SP.sp f (out ++ [a]) t := by
  match m, hm, h, ht with
  | c :: r, hm, h, ht => simp only [SP.sp]; rw [h]; simp only; rw [ht]
theorem sp_bad (f : Nat) (out : List SP.Bs) (l : SP.Bs) (m : SP.Bs) (h : SP.skp l = m) (hm : SP.ended m = false) (ht : SP.tk [] m = none) : SP.sp (f + 1) out l = none := by
  match m, hm, h, ht with
  | c :: r, hm, h, ht => simp only [SP.sp]; rw [h]; simp only; rw [ht]
set_option maxHeartbeats 6000000 in
set_option maxRecDepth 100000 in
theorem split_any (s : ByteArray) (hs : s.size ≤ 1073741824) (w : World) (hL : Laid w) : Calls Tryz.prog 67 #[.string s] w fun e w' => ((∃ out P c, SP.sp (s.size + 1) [] s.data.toList = some out ∧ e = .returned (.tuple #[.slice P out.length c, .bool true]) ∧ w'.ownsRow w.heap.size 9 1 (.slice P out.length c) out.length (strS out)) ∨ (SP.sp (s.size + 1) [] s.data.toList = none ∧ e = .returned (.tuple #[.slice none 0 0, .bool false]))) ∧ Below w.heap.size w w' := by
  obtain ⟨i9, hi9, hy9, hy10, hy11⟩ := info_parts info9
  have HL : Hid (Laid w) := hL
  obtain ⟨W0, hW0⟩ : ∃ W0, W0 = w.alloc (.cells #[.string s, .int .i64 0, .slice none 0 0] 116) := ⟨_, rfl⟩
  have HS0 : Hid (SpS w W0 w.heap.size s 0 (.slice none 0 0) []) := by
    refine ⟨by rw [hW0]; exact one_alloc _ _, ⟨rfl, Or.inl ⟨rfl, rfl⟩⟩, Nat.le_refl _, ?_⟩
    rw [hW0]; exact (Below.refl _ _).alloc (Nat.le_refl _) _
  obtain ⟨q, hq⟩ : ∃ q, w.heap.size = q := ⟨_, rfl⟩
  have HQQ : Hid (w.heap.size = q) := hq
  rw [hq] at HS0
  clear hL
  go_enter Tryz.func67, Tryz.ntmps67
  go_wp2
  rw [← hW0]
  clear hW0
  go_loopw [4] (fun cv wr => ∃ (j : Nat) (wv : Value) (acc : SP.Bs) (out : List SP.Bs) (P : Option Addr) (c f : Nat), (SpS w wr q s j wv acc ∧ j ≤ s.size ∧ wr.ownsRow w.heap.size 9 1 (.slice P out.length c) out.length (strS out) ∧ out.length ≤ j ∧ s.size - j < f) ∧ cv = .slice P out.length c ∧ SP.sp (s.size + 1) [] s.data.toList = SP.sp f out (s.data.toList.drop j)) (fun _ wr => s.size - atOf q wr)
  case atStart => exact ⟨0, _, _, [], none, 0, s.size + 1, ⟨HS0.out, Nat.zero_le _, ⟨rfl, Or.inl ⟨rfl, rfl⟩⟩, Nat.le_refl _, by omega⟩, rfl, rfl⟩
  case round =>
    obtain ⟨j, wv, acc, out, P, c, f, ⟨hS, hj, hown, hol, hf⟩, rfl, hsp⟩ := hrel
    obtain ⟨wx, hwx⟩ : ∃ wx, wx = wr := ⟨_, rfl⟩
    subst hwx
    obtain ⟨f, rfl⟩ : ∃ f', f = f' + 1 := ⟨f - 1, by omega⟩
    have HS : Hid (SpS w wx q s j wv acc) := hS
    have HOW : Hid (wx.ownsRow w.heap.size 9 1 (.slice P out.length c) out.length (strS out)) := hown
    have HSP : Hid _ := hsp
    have HAP : Hid _ := own_apart hown hS
    have HSK : Hid _ := skip_any q s j wv hs hj wx hS.row
    obtain ⟨no, hno⟩ : ∃ no, out.length = no := ⟨_, rfl⟩
    have HNO : Hid (out.length = no) := hno
    rw [hno] at HOW HAP ⊢
    rw [hno] at hol
    clear hS hown hsp hno
    go_wp2_with fail
    refine (show Calls _ _ _ _ _ from HSK.out).mono ?_
    rintro e w1 ⟨j1, rfl, hsk⟩
    have HK : Hid _ := hsk
    have HS1 : Hid (SpS w w1 q s j1 wv acc) := HS.out.mo (Only.mo hsk.only) hsk.row
    have HO1 : Hid (w1.ownsRow w.heap.size 9 1 (.slice P no c) no (strS out)) := own_ne (q := q) HOW.out (fun b hb => hsk.only.other b (HAP.out b hb).1)
    clear hsk
    by_cases hlt : j1 < s.size
    · have hd : decide (j1 < s.size) = true := dec_t hlt
      have HTK : Hid _ := take_any q s j1 wv acc hs (Nat.le_of_lt hlt) w w1 HL.out HS1.out
      have HAP1 : Hid _ := own_apart HO1.out HS1.out
      go_wp2_with fail
      refine (show Calls _ _ _ _ _ from HTK.out).mono ?_
      rintro e w2 ⟨j2, wv2, acc2, ⟨hS2, hl2, hh2, hla2, hch2⟩, ⟨rfl, ht2⟩ | ⟨rfl, ht2⟩⟩
      · have HT2 : Hid _ := ht2
        have HS2 : Hid (SpS w w2 q s j2 wv2 acc2) := hS2
        have HO2 : Hid (w2.ownsRow w.heap.size 9 1 (.slice P no c) no (strS out)) := own_ne (q := q) HO1.out (fun b hb => hch2.block b (HAP1.out b hb).2.2 (HAP1.out b hb).1 (HAP1.out b hb).2.1)
        obtain ⟨P2, c2, hv2, hcv⟩ := own_text hS2.own
        subst hv2
        obtain ⟨r0, r1, r2, rf⟩ := row3 hS2.row
        have HW3 : Hid (SpS w (w2.alloc (.cells #[.string (strB acc2)] 9)) q s j2 (.slice P2 acc2.length c2) acc2) := hS2.bl ((Below.refl _ _).alloc (Nat.le_refl _) _)
        have HO3 : Hid ((w2.alloc (.cells #[.string (strB acc2)] 9)).ownsRow w.heap.size 9 1 (.slice P no c) no (strS out)) := own_on HO2.out ((Below.refl _ _).alloc (Nat.le_refl _) _)
        have HNC : Hid (∀ a u, [Value.string (strB acc2)][a]? = some u → (w2.alloc (.cells #[.string (strB acc2)] 9)).cell? ((⟨w2.heap.size, 0, none⟩ : Addr).add a) = some u) := fun a u ha => by
          match a, ha with
          | 0, ha => simp at ha; subst ha; rw [Addr.add_lit]; exact (row1 (one_alloc w2 (.cells #[.string (strB acc2)] 9))).1
        have HSZ : Hid (w.heap.size ≤ w2.heap.size) := hS2.bel.size
        clear hS2 hch2 ht2
        go_upto_region 6 with fail
        go_wp2_with (at_builtin; go_must (refine wpList_append_own _ rfl _ _ 45 rfl w.heap.size 9 i9 (.string ⟨#[]⟩) 1 16 Tryz.underlying45 hi9 hy9 hy10 hy11 rfl (by decide) (.slice P no c) no (strS out) rfl HO3.out ⟨w2.heap.size, 0, none⟩ 1 1 [.string (strB acc2)] rfl rfl HNC.out ?t1 ?t2 ?t3 ?t4 ?_))
        case t1 => intro u hu; simp at hu; subst hu; rfl
        case t2 => unfold maxLen; omega
        case t3 => omega
        case t4 => have := HSZ.out; simp; omega
        intro v9 w9 ho9 hg9 hn9
        obtain ⟨P9, k9, hf9⟩ := own_form ho9
        subst hf9
        have HO9 : Hid (w9.ownsRow w.heap.size 9 1 (.slice P9 (no + 1) k9) (no + 1) (strS (out ++ [acc2]))) := by show World.ownsRow _ _ _ _ _ _ _; rw [strS_snoc]; first | exact ho9 | (rw [HQQ.out]; exact ho9)
        have hap3 := own_apart HO3.out HW3.out
        have HS9 : Hid (SpS w w9 q s j2 (.slice P2 acc2.length c2) acc2) := by
          have hq9 : w9.heap[q]? = (w2.alloc (.cells #[.string (strB acc2)] 9)).heap[q]? := hg9.block q (row_lt HW3.out.row) (fun e => (hap3 q e.symm).1 rfl)
          refine ⟨hq9.trans HW3.out.row, own_ne (q := q) HW3.out.own (fun b hb => hg9.block b (HW3.out.ne b hb).2 (fun e => (hap3 b e.symm).2.1 hb)), HW3.out.hq, HW3.out.bel.grown hg9 HW3.out.bel.size (fun b hb => own_block HO3.out b hb)⟩
        have HLN : Hid (j1 < j2) := by
          have hen := HK.out.no hlt
          have h1 := SP.tk_len _ _ _ _ HT2.out hen
          rw [List.length_drop, List.length_drop, list_len] at h1
          show _ < _; omega
        clear r0 r1 r2 rf ho9 hg9 hn9 hcv hap3
        go_wp2
        refine ⟨⟨j2, _, acc2, out ++ [acc2], P9, k9, f, ⟨HS9.out, hh2, by rw [List.length_append, HNO.out]; exact HO9.out, by rw [List.length_append, HNO.out]; simp; have := HLN.out; have := HK.out.lo; omega, by have := HLN.out; have := HK.out.lo; omega⟩, by rw [List.length_append, HNO.out]; rfl, ?_⟩, ?_⟩
        · rw [HSP.out]; exact sp_word f out _ _ HK.out.eq (HK.out.no hlt) _ _ HT2.out
        · rw [SpR.no HS.out.row, SpR.no HS9.out.row]; have := HLN.out; have := HK.out.lo; omega
      · have HT2 : Hid _ := ht2
        have HB2 : Hid (Below w.heap.size w w2) := hS2.bel
        clear hS2 hch2 ht2
        go_wp2
        go_returns
        exact ⟨Or.inr ⟨by rw [HSP.out]; exact sp_bad f out _ _ HK.out.eq (HK.out.no hlt) HT2.out, rfl⟩, HB2.out⟩
    · have hd : decide (j1 < s.size) = false := dec_f hlt
      have HB1 : Hid (Below w.heap.size w w1) := HS1.out.bel
      have HEN : Hid (SP.skp (s.data.toList.drop j) = []) := by show _ = _; rw [HK.out.eq]; exact List.drop_eq_nil_of_le (by rw [list_len]; omega)
      go_wp2
      go_returns
      refine ⟨Or.inl ⟨out, P, c, by rw [HSP.out]; exact sp_done f out _ HEN.out, ?_, ?_⟩, HB1.out⟩
      · rw [HNO.out]; rfl
      · rw [HNO.out]; exact HO1.out
end Go.Proofs.YtnfbaeajalnmmaaGreatDoor
