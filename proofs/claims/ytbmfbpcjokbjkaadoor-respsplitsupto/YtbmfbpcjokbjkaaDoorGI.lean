import Derived.Test.YtbmfbpcjokbjkaaDoorGC
namespace Go.Proofs.YtbmfbpcjokbjkaaDoor
open Go.RowKit
set_option linter.unusedVariables false
set_option linter.unusedSimpArgs false
set_option maxHeartbeats 1000000 in
theorem rblank_any (c : UInt8) (w : World) : Calls Tryd.prog 24 #[.int .u8 (c.toNat : Int)] w fun e w' => e = .returned (.bool (SP.bl c)) ∧ w' = w := by
  obtain ⟨n, hn⟩ : ∃ n, c.toNat = n := ⟨_, rfl⟩
  rw [hn]
  by_cases h1 : n = 32
  · have HB : Hid (SP.bl c = true) := by show _ = _; unfold SP.bl; rw [hn, h1]; rfl
    have e1 : ((n : Int) == 32) = true := by simp; omega
    clear hn h1
    go_enter Tryd.func24, Tryd.ntmps24
    go_wp2
    go_returns
    exact ⟨by rw [HB.out]; first | rfl | simp, rfl⟩
  · have e1 : ((n : Int) == 32) = false := by simp; omega
    by_cases h2 : 9 ≤ n
    · by_cases h3 : n ≤ 13
      · have HB : Hid (SP.bl c = true) := by show _ = _; unfold SP.bl; rw [hn]; simp; omega
        have a1 : (9 : Int) ≤ (n : Int) := by omega
        have a2 : (n : Int) ≤ 13 := by omega
        clear hn h1 h2 h3
        go_enter Tryd.func24, Tryd.ntmps24
        go_wp2
        go_returns
        exact ⟨by rw [HB.out]; first | rfl | simp [a1, a2], rfl⟩
      · have HB : Hid (SP.bl c = false) := by show _ = _; unfold SP.bl; rw [hn]; simp; omega
        have a1 : (9 : Int) ≤ (n : Int) := by omega
        have a2 : ¬ (n : Int) ≤ 13 := by omega
        clear hn h1 h2 h3
        go_enter Tryd.func24, Tryd.ntmps24
        go_wp2
        go_returns
        exact ⟨by rw [HB.out]; first | rfl | (simp; omega), rfl⟩
    · have HB : Hid (SP.bl c = false) := by show _ = _; unfold SP.bl; rw [hn]; simp; omega
      have a1 : ¬ (9 : Int) ≤ (n : Int) := by omega
      clear hn h1 h2
      go_enter Tryd.func24, Tryd.ntmps24
      go_wp2
      go_returns
      exact ⟨by rw [HB.out]; first | rfl | (simp; omega), rfl⟩
theorem bsl_sq (s : ByteArray) (j : Nat) (h : j < s.size) (h39 : s[j].toNat = 39) : SP.bsl false (s.data.toList.drop j) = (s[j], s.data.toList.drop (j + 1)) := by
  unfold SP.bsl
  rw [drop_at s j h]
  simp only [if_false, Bool.false_eq_true, SP.esq]
  rw [if_pos h39]
theorem bsl_so (s : ByteArray) (j : Nat) (h : j < s.size) (h39 : ¬ s[j].toNat = 39) : SP.bsl false (s.data.toList.drop j) = (92, s.data.toList.drop j) := by
  unfold SP.bsl
  rw [drop_at s j h]
  simp only [if_false, Bool.false_eq_true, SP.esq]
  rw [if_neg h39]
/-- what the document's quoted and single answer. -/
def QAns (d : Bool) (s : ByteArray) (i : Nat) (e : Ending) : Prop := (∃ acc j, SP.qT d [] (s.data.toList.drop i) = some (acc, s.data.toList.drop j) ∧ (i < j ∧ j ≤ s.size ∧ acc.length ≤ j - i) ∧ e = .returned (.tuple #[.string (strB acc), .int .i64 (j : Int)])) ∨ (SP.qT d [] (s.data.toList.drop i) = none ∧ e = .returned (.tuple #[.string ⟨#[]⟩, .int .i64 (-1)]))
set_option maxHeartbeats 6000000 in
set_option maxRecDepth 100000 in
theorem single_any (s : ByteArray) (hs : s.size ≤ 1073741824) (i : Nat) (hi : i ≤ s.size) (w : World) : Calls Tryd.prog 26 #[.string s, .int .i64 (i : Int)] w fun e w' => QAns false s i e ∧ Below w.heap.size w w' := by
  obtain ⟨i5, hi5, hz5, hz6, hz7⟩ := info_parts info5
  go_enter Tryd.func26, Tryd.ntmps26
  go_wp2
  go_loopw [1, 6] (fun cj cb wr => ∃ (j : Nat) (acc : SP.Bs) (PB : Option Addr) (kb : Nat), (i ≤ j ∧ j ≤ s.size ∧ acc.length ≤ j - i) ∧ cj = .int .i64 (j : Int) ∧ cb = .slice PB acc.length kb ∧ wr.ownsRow w.heap.size 5 1 (.slice PB acc.length kb) acc.length (bcells acc) ∧ Below w.heap.size w wr ∧ SP.qT false [] (s.data.toList.drop i) = SP.qT false acc (s.data.toList.drop j)) (fun cj _ _ => s.size - (intOf cj).toNat)
  case atStart => exact ⟨i, [], none, 0, ⟨Nat.le_refl _, hi, by simp⟩, rfl, rfl, ⟨rfl, Or.inl ⟨rfl, rfl⟩⟩, Below.refl _ _, rfl⟩
  case round =>
    obtain ⟨j, acc, PB, kb, ⟨hij, hj, hla⟩, rfl, rfl, ho, hb, hq⟩ := hrel
    obtain ⟨wx, hwx⟩ : ∃ wx, wx = wr := ⟨_, rfl⟩
    subst hwx
    have HO0 : Hid (wx.ownsRow w.heap.size 5 1 (.slice PB acc.length kb) acc.length (bcells acc)) := ho
    have HB : Hid (Below w.heap.size w wx) := hb
    have HQ : Hid _ := hq
    obtain ⟨la, hle⟩ : ∃ la, acc.length = la := ⟨_, rfl⟩
    have HLA : Hid (acc.length = la) := hle
    have HO : Hid (wx.ownsRow w.heap.size 5 1 (.slice PB la kb) la (bcells acc)) := by show World.ownsRow _ _ _ _ _ _ _; have := ho; rw [hle] at this; exact this
    rw [hle] at hla ⊢
    clear ho hb hq
    by_cases hlt : j < s.size
    · have hz0 : (0 : Int) ≤ (j : Int) := by omega
      have hz1 : (j : Int) < (s.size : Int) := by omega
      obtain ⟨j1, hj1⟩ : ∃ j1, j + 1 = j1 := ⟨_, rfl⟩
      have hjw : IntKind.i64.wrap ((j : Int) + 1) = (j1 : Int) := by rw [IntKind.wrap_i64] <;> omega
      by_cases h39 : s[j].toNat = 39
      · have HE : Hid _ := qT_end false acc s j hlt h39
        rw [hj1] at HE
        have e1 : ((s[j].toNat : Int) != 39) = false := by simp; omega
        have hz2 : ¬ (j : Int) ≥ (s.size : Int) := by omega
        obtain ⟨P2, c2, hv2, hcv⟩ := own_text HO0.out
        injection hv2 with q1 q2 q3
        subst q1; subst q3
        rw [hle] at hcv
        clear h39 hle q2
        go_wp2
        go_returns
        exact ⟨Or.inl ⟨acc, j1, by rw [HQ.out]; exact HE.out, ⟨by omega, by omega, by have := HLA.out; omega⟩, rfl⟩, HB.out⟩
      · have HNQ : Hid (¬ s[j].toNat = SP.qc false) := h39
        obtain ⟨c, hc⟩ : ∃ c, s[j] = c := ⟨_, rfl⟩
        have HC : Hid (s[j] = c) := hc
        have e1 : ((s[j].toNat : Int) != 39) = true := by simp; omega
        by_cases hsp : s[j].toNat = 92 ∧ ∃ h : j1 < s.size, s[j1].toNat = 39
        · obtain ⟨h92, h2, h3⟩ := hsp
          obtain ⟨j2, hj2⟩ : ∃ j2, j1 + 1 = j2 := ⟨_, rfl⟩
          have HT : Hid (SP.qT false acc (s.data.toList.drop j) = SP.qT false (acc ++ [s[j1]]) (s.data.toList.drop j2)) := by
            show _ = _
            rw [qT_esc false acc s j hlt HNQ.out h92]
            subst hj1
            rw [bsl_sq s (j + 1) h2 h3, hj2]
          have e2 : ((s[j].toNat : Int) == 92) = true := by simp; omega
          have e3 : ((s[j1].toNat : Int) == 39) = true := by simp; omega
          have hz3 : (j1 : Int) < (s.size : Int) := by omega
          have hz4 : (0 : Int) ≤ (j1 : Int) := by omega
          have hjw2 : IntKind.i64.wrap ((j1 : Int) + 1) = (j2 : Int) := by rw [IntKind.wrap_i64] <;> omega
          have HV : Hid (s[j1].toNat = 39) := h3
          clear h39 h92 h3 hc hle
          have HO2 : Hid ((wx.alloc (.cells #[.int .u8 ((s[j1].toNat : Int) : Int)] 5)).ownsRow w.heap.size 5 1 (.slice PB la kb) la (bcells acc)) := own_on HO.out ((Below.refl _ _).alloc (Nat.le_refl _) _)
          have HNC : Hid (∀ a u, [Value.int .u8 ((s[j1].toNat : Int) : Int)][a]? = some u → (wx.alloc (.cells #[.int .u8 ((s[j1].toNat : Int) : Int)] 5)).cell? ((⟨wx.heap.size, 0, none⟩ : Addr).add a) = some u) := fun a u ha => by
            match a, ha with
            | 0, ha => simp at ha; subst ha; rw [Addr.add_lit]; exact (row1 (one_alloc wx (.cells #[.int .u8 ((s[j1].toNat : Int) : Int)] 5))).1
          go_wp2_with (at_builtin; go_must (refine wpList_append_own _ rfl _ _ 43 rfl w.heap.size 5 i5 (.int .u8 0) 1 1 Tryd.underlying43 hi5 hz5 hz6 hz7 rfl (by decide) (.slice PB la kb) la (bcells acc) rfl HO2.out ⟨wx.heap.size, 0, none⟩ 1 1 [.int .u8 ((s[j1].toNat : Int) : Int)] rfl rfl HNC.out ?ta1 ?ta2 ?ta3 ?ta4 ?_))
          case ta1 => first | (intro u hu; simp at hu; subst hu; rfl) | rfl
          case ta2 => unfold maxLen; omega
          case ta3 => omega
          case ta4 => have := HB.out.size; simp; omega
          intro v9 w9 ho9 hg9 hn9
          obtain ⟨P9, k9, hf9⟩ := own_form ho9
          subst hf9
          have HO9 : Hid (w9.ownsRow w.heap.size 5 1 (.slice P9 (la + 1) k9) (la + 1) (bcells (acc ++ [s[j1]]))) := by show World.ownsRow _ _ _ _ _ _ _; rw [bcells_snoc]; exact ho9
          have HB9 : Hid (Below w.heap.size w w9) := (HB.out.alloc HB.out.size _).grown hg9 (by have := HB.out.size; simp; omega) (fun b hb => own_block HO2.out b hb)
          clear ho9 hg9 hn9
          go_wp2
          refine ⟨⟨j2, acc ++ [s[j1]], P9, k9, ⟨by omega, by omega, by rw [List.length_append, HLA.out]; simp; omega⟩, rfl, by rw [List.length_append, HLA.out]; rfl, ?_, HB9.out, ?_⟩, by simp [intOf]; omega⟩
          · rw [List.length_append, HLA.out]; exact HO9.out
          · rw [HQ.out, HT.out]
        · have HT : Hid (SP.qT false acc (s.data.toList.drop j) = SP.qT false (acc ++ [s[j]]) (s.data.toList.drop j1)) := by
            show _ = _
            by_cases h92 : s[j].toNat = 92
            · have h92v : s[j] = 92 := u8_ext (by rw [h92]; rfl)
              rw [qT_esc false acc s j hlt HNQ.out h92, hj1]
              by_cases h2 : j1 < s.size
              · rw [bsl_so s j1 h2 (fun h3 => hsp ⟨h92, h2, h3⟩), h92v]
              · rw [bsl_nil false s j1 (by omega), h92v]
            · rw [qT_one false acc s j hlt HNQ.out h92, hj1]
          by_cases h92 : s[j].toNat = 92
          · have e2 : ((s[j].toNat : Int) == 92) = true := by simp; omega
            by_cases h2 : j1 < s.size
            · have e3 : ((s[j1].toNat : Int) == 39) = false := by simp; intro h; exact hsp ⟨h92, h2, by omega⟩
              have hz3 : (j1 : Int) < (s.size : Int) := by omega
              have hz4 : (0 : Int) ≤ (j1 : Int) := by omega
              clear h39 h92 hc hle hsp
              have HO2 : Hid ((wx.alloc (.cells #[.int .u8 ((s[j].toNat : Int) : Int)] 5)).ownsRow w.heap.size 5 1 (.slice PB la kb) la (bcells acc)) := own_on HO.out ((Below.refl _ _).alloc (Nat.le_refl _) _)
              have HNC : Hid (∀ a u, [Value.int .u8 ((s[j].toNat : Int) : Int)][a]? = some u → (wx.alloc (.cells #[.int .u8 ((s[j].toNat : Int) : Int)] 5)).cell? ((⟨wx.heap.size, 0, none⟩ : Addr).add a) = some u) := fun a u ha => by
                match a, ha with
                | 0, ha => simp at ha; subst ha; rw [Addr.add_lit]; exact (row1 (one_alloc wx (.cells #[.int .u8 ((s[j].toNat : Int) : Int)] 5))).1
              go_wp2_with (at_builtin; go_must (refine wpList_append_own _ rfl _ _ 43 rfl w.heap.size 5 i5 (.int .u8 0) 1 1 Tryd.underlying43 hi5 hz5 hz6 hz7 rfl (by decide) (.slice PB la kb) la (bcells acc) rfl HO2.out ⟨wx.heap.size, 0, none⟩ 1 1 [.int .u8 ((s[j].toNat : Int) : Int)] rfl rfl HNC.out ?tb1 ?tb2 ?tb3 ?tb4 ?_))
              case tb1 => first | (intro u hu; simp at hu; subst hu; rfl) | rfl
              case tb2 => unfold maxLen; omega
              case tb3 => omega
              case tb4 => have := HB.out.size; simp; omega
              intro v9 w9 ho9 hg9 hn9
              obtain ⟨P9, k9, hf9⟩ := own_form ho9
              subst hf9
              have HO9 : Hid (w9.ownsRow w.heap.size 5 1 (.slice P9 (la + 1) k9) (la + 1) (bcells (acc ++ [s[j]]))) := by show World.ownsRow _ _ _ _ _ _ _; rw [bcells_snoc]; exact ho9
              have HB9 : Hid (Below w.heap.size w w9) := (HB.out.alloc HB.out.size _).grown hg9 (by have := HB.out.size; simp; omega) (fun b hb => own_block HO2.out b hb)
              clear ho9 hg9 hn9
              go_wp2
              refine ⟨⟨j1, acc ++ [s[j]], P9, k9, ⟨by omega, by omega, by rw [List.length_append, HLA.out]; simp; omega⟩, rfl, by rw [List.length_append, HLA.out]; rfl, ?_, HB9.out, ?_⟩, by simp [intOf]; omega⟩
              · rw [List.length_append, HLA.out]; exact HO9.out
              · rw [HQ.out, HT.out]
            · have hz3 : ¬ (j1 : Int) < (s.size : Int) := by omega
              clear h39 h92 hc hle hsp
              have HO2 : Hid ((wx.alloc (.cells #[.int .u8 ((s[j].toNat : Int) : Int)] 5)).ownsRow w.heap.size 5 1 (.slice PB la kb) la (bcells acc)) := own_on HO.out ((Below.refl _ _).alloc (Nat.le_refl _) _)
              have HNC : Hid (∀ a u, [Value.int .u8 ((s[j].toNat : Int) : Int)][a]? = some u → (wx.alloc (.cells #[.int .u8 ((s[j].toNat : Int) : Int)] 5)).cell? ((⟨wx.heap.size, 0, none⟩ : Addr).add a) = some u) := fun a u ha => by
                match a, ha with
                | 0, ha => simp at ha; subst ha; rw [Addr.add_lit]; exact (row1 (one_alloc wx (.cells #[.int .u8 ((s[j].toNat : Int) : Int)] 5))).1
              go_wp2_with (at_builtin; go_must (refine wpList_append_own _ rfl _ _ 43 rfl w.heap.size 5 i5 (.int .u8 0) 1 1 Tryd.underlying43 hi5 hz5 hz6 hz7 rfl (by decide) (.slice PB la kb) la (bcells acc) rfl HO2.out ⟨wx.heap.size, 0, none⟩ 1 1 [.int .u8 ((s[j].toNat : Int) : Int)] rfl rfl HNC.out ?tc1 ?tc2 ?tc3 ?tc4 ?_))
              case tc1 => first | (intro u hu; simp at hu; subst hu; rfl) | rfl
              case tc2 => unfold maxLen; omega
              case tc3 => omega
              case tc4 => have := HB.out.size; simp; omega
              intro v9 w9 ho9 hg9 hn9
              obtain ⟨P9, k9, hf9⟩ := own_form ho9
              subst hf9
              have HO9 : Hid (w9.ownsRow w.heap.size 5 1 (.slice P9 (la + 1) k9) (la + 1) (bcells (acc ++ [s[j]]))) := by show World.ownsRow _ _ _ _ _ _ _; rw [bcells_snoc]; exact ho9
              have HB9 : Hid (Below w.heap.size w w9) := (HB.out.alloc HB.out.size _).grown hg9 (by have := HB.out.size; simp; omega) (fun b hb => own_block HO2.out b hb)
              clear ho9 hg9 hn9
              go_wp2
              refine ⟨⟨j1, acc ++ [s[j]], P9, k9, ⟨by omega, by omega, by rw [List.length_append, HLA.out]; simp; omega⟩, rfl, by rw [List.length_append, HLA.out]; rfl, ?_, HB9.out, ?_⟩, by simp [intOf]; omega⟩
              · rw [List.length_append, HLA.out]; exact HO9.out
              · rw [HQ.out, HT.out]
          · have e2 : ((s[j].toNat : Int) == 92) = false := by simp; omega
            clear h39 h92 hc hle hsp
            have HO2 : Hid ((wx.alloc (.cells #[.int .u8 ((s[j].toNat : Int) : Int)] 5)).ownsRow w.heap.size 5 1 (.slice PB la kb) la (bcells acc)) := own_on HO.out ((Below.refl _ _).alloc (Nat.le_refl _) _)
            have HNC : Hid (∀ a u, [Value.int .u8 ((s[j].toNat : Int) : Int)][a]? = some u → (wx.alloc (.cells #[.int .u8 ((s[j].toNat : Int) : Int)] 5)).cell? ((⟨wx.heap.size, 0, none⟩ : Addr).add a) = some u) := fun a u ha => by
              match a, ha with
              | 0, ha => simp at ha; subst ha; rw [Addr.add_lit]; exact (row1 (one_alloc wx (.cells #[.int .u8 ((s[j].toNat : Int) : Int)] 5))).1
            go_wp2_with (at_builtin; go_must (refine wpList_append_own _ rfl _ _ 43 rfl w.heap.size 5 i5 (.int .u8 0) 1 1 Tryd.underlying43 hi5 hz5 hz6 hz7 rfl (by decide) (.slice PB la kb) la (bcells acc) rfl HO2.out ⟨wx.heap.size, 0, none⟩ 1 1 [.int .u8 ((s[j].toNat : Int) : Int)] rfl rfl HNC.out ?td1 ?td2 ?td3 ?td4 ?_))
            case td1 => first | (intro u hu; simp at hu; subst hu; rfl) | rfl
            case td2 => unfold maxLen; omega
            case td3 => omega
            case td4 => have := HB.out.size; simp; omega
            intro v9 w9 ho9 hg9 hn9
            obtain ⟨P9, k9, hf9⟩ := own_form ho9
            subst hf9
            have HO9 : Hid (w9.ownsRow w.heap.size 5 1 (.slice P9 (la + 1) k9) (la + 1) (bcells (acc ++ [s[j]]))) := by show World.ownsRow _ _ _ _ _ _ _; rw [bcells_snoc]; exact ho9
            have HB9 : Hid (Below w.heap.size w w9) := (HB.out.alloc HB.out.size _).grown hg9 (by have := HB.out.size; simp; omega) (fun b hb => own_block HO2.out b hb)
            clear ho9 hg9 hn9
            go_wp2
            refine ⟨⟨j1, acc ++ [s[j]], P9, k9, ⟨by omega, by omega, by rw [List.length_append, HLA.out]; simp; omega⟩, rfl, by rw [List.length_append, HLA.out]; rfl, ?_, HB9.out, ?_⟩, by simp [intOf]; omega⟩
            · rw [List.length_append, HLA.out]; exact HO9.out
            · rw [HQ.out, HT.out]
    · have hz1 : ¬ (j : Int) < (s.size : Int) := by omega
      have hz2 : (j : Int) ≥ (s.size : Int) := by omega
      have HE : Hid _ := qT_nil false acc s j (by omega)
      clear hle
      go_wp2
      go_returns
      exact ⟨Or.inr ⟨by rw [HQ.out]; exact HE.out, rfl⟩, HB.out⟩
end Go.Proofs.YtbmfbpcjokbjkaaDoor
namespace Go.Proofs.YtbmfbpcjokbjkaaDoor
open Go.RowKit
set_option linter.unusedVariables false
set_option linter.unusedSimpArgs false
/-- the document's digit. -/
def dgI (c : UInt8) : Int := match SP.hx c with
  | some x => (x : Int)
  | none => -1
set_option maxHeartbeats 1000000 in
theorem digit_any (c : UInt8) (w : World) : Calls Tryd.prog 43 #[.int .u8 (c.toNat : Int)] w fun e w' => e = .returned (.int .i64 (dgI c)) ∧ w' = w := by
  obtain ⟨n, hn⟩ : ∃ n, c.toNat = n := ⟨_, rfl⟩
  have hc := c.toNat_lt
  rw [hn] at hc ⊢
  by_cases h1 : 48 ≤ n ∧ n ≤ 57
  · have HD : Hid (dgI c = (n : Int) - 48) := by
      show _ = _
      unfold dgI; rw [hx_dig (by rw [hn]; exact h1), hn]; simp only; omega
    have a1 : (48 : Int) ≤ (n : Int) := by omega
    have a2 : (n : Int) ≤ 57 := by omega
    have hw1 : IntKind.u8.wrap ((n : Int) - 48) = (n : Int) - 48 := by rw [IntKind.wrap_u8] <;> omega
    have hw2 : IntKind.i64.wrap ((n : Int) - 48) = (n : Int) - 48 := by rw [IntKind.wrap_i64] <;> omega
    clear h1 hn
    go_enter Tryd.func43, Tryd.ntmps43
    go_wp2
    go_returns
    exact ⟨by rw [HD.out]; rfl, rfl⟩
  by_cases h2 : 97 ≤ n ∧ n ≤ 102
  · have HD : Hid (dgI c = (n : Int) - 97 + 10) := by
      show _ = _
      unfold dgI; rw [hx_lo (by rw [hn]; exact h2), hn]; simp only; omega
    have a1 : (48 : Int) ≤ (n : Int) := by omega
    have a2 : ¬ (n : Int) ≤ 57 := by omega
    have a3 : (97 : Int) ≤ (n : Int) := by omega
    have a4 : (n : Int) ≤ 102 := by omega
    have hw1 : IntKind.u8.wrap ((n : Int) - 97) = (n : Int) - 97 := by rw [IntKind.wrap_u8] <;> omega
    have hw2 : IntKind.i64.wrap ((n : Int) - 97) = (n : Int) - 97 := by rw [IntKind.wrap_i64] <;> omega
    have hw3 : IntKind.i64.wrap ((n : Int) - 97 + 10) = (n : Int) - 97 + 10 := by rw [IntKind.wrap_i64] <;> omega
    clear h1 h2 hn
    go_enter Tryd.func43, Tryd.ntmps43
    go_wp2
    go_returns
    exact ⟨by rw [HD.out]; rfl, rfl⟩
  by_cases h3 : 65 ≤ n ∧ n ≤ 70
  · have HD : Hid (dgI c = (n : Int) - 65 + 10) := by
      show _ = _
      unfold dgI; rw [hx_up (by rw [hn]; exact h3), hn]; simp only; omega
    have a1 : (48 : Int) ≤ (n : Int) := by omega
    have a2 : ¬ (n : Int) ≤ 57 := by omega
    have a3 : ¬ (97 : Int) ≤ (n : Int) := by omega
    have a5 : (65 : Int) ≤ (n : Int) := by omega
    have a6 : (n : Int) ≤ 70 := by omega
    have hw1 : IntKind.u8.wrap ((n : Int) - 65) = (n : Int) - 65 := by rw [IntKind.wrap_u8] <;> omega
    have hw2 : IntKind.i64.wrap ((n : Int) - 65) = (n : Int) - 65 := by rw [IntKind.wrap_i64] <;> omega
    have hw3 : IntKind.i64.wrap ((n : Int) - 65 + 10) = (n : Int) - 65 + 10 := by rw [IntKind.wrap_i64] <;> omega
    clear h1 h2 h3 hn
    go_enter Tryd.func43, Tryd.ntmps43
    go_wp2
    go_returns
    exact ⟨by rw [HD.out]; rfl, rfl⟩
  have HD : Hid (dgI c = -1) := by
    show _ = _
    unfold dgI; rw [hx_no (by rw [hn]; exact h1) (by rw [hn]; exact h2) (by rw [hn]; exact h3)]
  by_cases a1 : (48 : Int) ≤ (n : Int)
  · have a2 : ¬ (n : Int) ≤ 57 := by omega
    by_cases a3 : (97 : Int) ≤ (n : Int)
    · have a4 : ¬ (n : Int) ≤ 102 := by omega
      have a5 : (65 : Int) ≤ (n : Int) := by omega
      have a6 : ¬ (n : Int) ≤ 70 := by omega
      clear h1 h2 h3 hn
      go_enter Tryd.func43, Tryd.ntmps43
      go_wp2
      go_returns
      exact ⟨by rw [HD.out]; rfl, rfl⟩
    · by_cases a5 : (65 : Int) ≤ (n : Int)
      · have a6 : ¬ (n : Int) ≤ 70 := by omega
        clear h1 h2 h3 hn
        go_enter Tryd.func43, Tryd.ntmps43
        go_wp2
        go_returns
        exact ⟨by rw [HD.out]; rfl, rfl⟩
      · clear h1 h2 h3 hn
        go_enter Tryd.func43, Tryd.ntmps43
        go_wp2
        go_returns
        exact ⟨by rw [HD.out]; rfl, rfl⟩
  · have a3 : ¬ (97 : Int) ≤ (n : Int) := by omega
    have a5 : ¬ (65 : Int) ≤ (n : Int) := by omega
    clear h1 h2 h3 hn
    go_enter Tryd.func43, Tryd.ntmps43
    go_wp2
    go_returns
    exact ⟨by rw [HD.out]; rfl, rfl⟩
/-- what the doc's escape is. -/
theorem bsl_x (s : ByteArray) (j : Nat) (h : j + 2 < s.size) (hx : s[j].toNat = 120) (x y : Nat) (h1 : SP.hx s[j + 1] = some x) (h2 : SP.hx s[j + 2] = some y) : SP.bsl true (s.data.toList.drop j) = (UInt8.ofNat (16 * x + y), s.data.toList.drop (j + 3)) := by
  unfold SP.bsl
  rw [drop_at s j (by omega), drop_at s (j + 1) (by omega), drop_at s (j + 2) (by omega)]
  simp only [if_true, SP.esc]
  rw [if_pos hx]
  simp only [SP.xx, h1, h2]
theorem xx_no (s : ByteArray) (j : Nat) (h : ¬ (j + 1 < s.size ∧ ∃ (q1 : j < s.size) (q2 : j + 1 < s.size), (SP.hx s[j]).isSome = true ∧ (SP.hx s[j + 1]).isSome = true)) : SP.xx (s.data.toList.drop j) = none := by
  by_cases h2 : j + 2 ≤ s.size
  · rw [two_drop s j h2]
    simp only [SP.xx]
    cases h3 : SP.hx s[j] with
    | none => rfl
    | some x =>
      cases h4 : SP.hx s[j + 1] with
      | none => rfl
      | some y => exact absurd ⟨by omega, by omega, by omega, by rw [h3]; rfl, by rw [h4]; rfl⟩ h
  · exact xx_end s j h2
theorem bsl_o (s : ByteArray) (j : Nat) (h : j < s.size) (hx : s[j].toNat = 120 → SP.xx (s.data.toList.drop (j + 1)) = none) : SP.bsl true (s.data.toList.drop j) = (SP.es s[j], s.data.toList.drop (j + 1)) := by
  unfold SP.bsl
  rw [drop_at s j h]
  simp only [if_true, SP.esc]
  by_cases h1 : s[j].toNat = 120
  · rw [if_pos h1, hx h1]
    have : SP.es s[j] = s[j] := by unfold SP.es; rw [h1]; simp
    rw [this]
  · rw [if_neg h1]
end Go.Proofs.YtbmfbpcjokbjkaaDoor
