import Derived.Test.YtbmfbpcjokbjkaaDoorGI
import Derived.Deep.RegionLaw
import Derived.Maps.AppendAt
import Derived.Deep.RegionHeld3
namespace Go.Proofs.YtbmfbpcjokbjkaaDoor
open Go.RowKit
set_option linter.unusedVariables false
set_option linter.unusedSimpArgs false
/-- a byte behind bytes, in a region that draws. -/
theorem step_append_b {w : World} {ops : Array Oper} {o : Oper} {a : Act} {K : Act → World → Prop} {Q : Exit → Act → World → Prop} {E : Prop} (hg : o.guard = none) (s x : Operand)
    (hop : o.op = Op.call { callee := Callee.builtin Builtin.append, args := #[s, x], argTypes := #[43, 43] })
    (b : Nat) (v : Value) (n : Nat) (xs : List Value) (hs : a.eval s = v) (hown : w.ownsRow b 5 1 v n xs) (B : Nat) (y : Int) (hx : a.eval x = .slice (some ⟨B, 0, none⟩) 1 1) (hB : w.heap[B]? = some (.cells #[.int .u8 y] 5)) (hl : n ≤ 1099511627776) (hb : b ≤ w.heap.size)
    (h : ∀ v' w', w'.ownsRow b 5 1 v' (n + 1) (xs ++ [.int .u8 y]) → w.grownBy w' v.ownBlock → K (a.put o.dst v') w') :
    if Region.wanted o (yielded ops a.tmps) = true then Oper.wp Tryd.prog o a w K Q else E := by
  have hw : Region.wanted o (yielded ops a.tmps) = true := by simp [Region.wanted, hg]
  rw [if_pos hw]
  obtain ⟨i0, hi, hz0, hz1, hz2⟩ := info_parts info5
  obtain ⟨v', w', hrun, h2, h3, h4, h5⟩ := run_append_own_at (P := Tryd.prog) w b 43 o.type 5 i0 (.int .u8 0) 1 1 Tryd.underlying43 hi hz0 hz1 hz2 rfl (by decide) v n xs hown ⟨B, 0, none⟩ 1 1 [.int .u8 y] rfl (fun j u hu => by
    rw [Lib.add_plain, Nat.zero_add, cell_of_row _ _ _ _ _ _ hB]; simpa using hu) (by intro u hu; simp at hu; subst hu; rfl) (by unfold maxLen; omega) (by omega) hb
  unfold Oper.wp
  simp [execOp, hop, resolve, invoke, builtin, hs, hx, hrun, Result.andThen]
  exact h v' w' h2 h3
theorem dgI_some {c : UInt8} {x : Nat} (h : SP.hx c = some x) : dgI c = (x : Int) := by unfold dgI; rw [h]
theorem dgI_none {c : UInt8} (h : SP.hx c = none) : dgI c = -1 := by unfold dgI; rw [h]
/-- no letter before place k is this one. -/
def NoFor (k n : Nat) : Prop := (0 < k → n ≠ 110) ∧ (1 < k → n ≠ 114) ∧ (2 < k → n ≠ 116) ∧ (3 < k → n ≠ 98) ∧ (4 < k → n ≠ 97)
theorem es_at {c : UInt8} {n m : Nat} (h : c.toNat = n) (hm : (if n = 110 then (10 : UInt8) else if n = 114 then 13 else if n = 116 then 9 else if n = 98 then 8 else if n = 97 then 7 else c).toNat = m) : (SP.es c).toNat = m := by unfold SP.es; rw [h]; exact hm
theorem es_not {c : UInt8} (h : NoFor 5 c.toNat) : (SP.es c).toNat = c.toNat := by
  unfold NoFor at h
  unfold SP.es
  rw [if_neg (by omega), if_neg (by omega), if_neg (by omega), if_neg (by omega), if_neg (by omega)]
set_option maxHeartbeats 40000000 in
set_option maxRecDepth 100000 in
theorem quoted_ref (s : ByteArray) (hs : s.size ≤ 1073741824) (i : Nat) (hi : i ≤ s.size) (w : World) : Calls Tryd.prog 25 #[.string s, .int .i64 (i : Int)] w fun e w' => QAns true s i e ∧ Below w.heap.size w w' := by
  obtain ⟨i5, hi5, hz5, hz6, hz7⟩ := info_parts info5
  have HDG : Hid _ := digit_any
  go_enter Tryd.func25, Tryd.ntmps25
  go_wp2
  go_loopw [1, 6] (fun cj cb wr => ∃ (j : Nat) (acc : SP.Bs) (PB : Option Addr) (kb : Nat), (i ≤ j ∧ j ≤ s.size ∧ acc.length ≤ j - i) ∧ cj = .int .i64 (j : Int) ∧ cb = .slice PB acc.length kb ∧ wr.ownsRow w.heap.size 5 1 (.slice PB acc.length kb) acc.length (bcells acc) ∧ Below w.heap.size w wr ∧ SP.qT true [] (s.data.toList.drop i) = SP.qT true acc (s.data.toList.drop j)) (fun cj _ _ => s.size - (intOf cj).toNat)
  case atStart => exact ⟨i, [], none, 0, ⟨Nat.le_refl _, hi, by simp⟩, rfl, rfl, ⟨rfl, Or.inl ⟨rfl, rfl⟩⟩, Below.refl _ _, rfl⟩
  case round =>
    obtain ⟨j, acc, PB, kb, ⟨hij, hj, hla⟩, rfl, rfl, ho, hb, hq⟩ := hrel
    obtain ⟨wx, hwx⟩ : ∃ wx, wx = wr := ⟨_, rfl⟩
    subst hwx
    have HO0 : Hid (wx.ownsRow w.heap.size 5 1 (.slice PB acc.length kb) acc.length (bcells acc)) := ho
    have HB : Hid (Below w.heap.size w wx) := hb
    have HQ : Hid _ := hq
    obtain ⟨la, hle⟩ : ∃ la, acc.length = la := ⟨_, rfl⟩
    have HLA : Hid (acc.length = la) := hle
    have HO : Hid (wx.ownsRow w.heap.size 5 1 (.slice PB la kb) la (bcells acc)) := by show World.ownsRow _ _ _ _ _ _ _; have := ho; rw [hle] at this; exact this
    rw [hle] at hla ⊢
    clear ho hb hq
    by_cases hlt : j < s.size
    · have hz0 : (0 : Int) ≤ (j : Int) := by omega
      have hz1 : (j : Int) < (s.size : Int) := by omega
      obtain ⟨j1, hj1⟩ : ∃ j1, j + 1 = j1 := ⟨_, rfl⟩
      have hjw : IntKind.i64.wrap ((j : Int) + 1) = (j1 : Int) := by rw [IntKind.wrap_i64] <;> omega
      by_cases h34 : s[j].toNat = 34
      · have HE : Hid _ := qT_end true acc s j hlt h34
        rw [hj1] at HE
        have e1 : ((s[j].toNat : Int) != 34) = false := by simp; omega
        have hz2 : ¬ (j : Int) ≥ (s.size : Int) := by omega
        obtain ⟨P2, c2, hv2, hcv⟩ := own_text HO0.out
        injection hv2 with q1 q2 q3
        subst q1; subst q3
        rw [hle] at hcv
        clear h34 hle q2
        go_wp2
        go_returns
        exact ⟨Or.inl ⟨acc, j1, by rw [HQ.out]; exact HE.out, ⟨by omega, by omega, by have := HLA.out; omega⟩, rfl⟩, HB.out⟩
      · have HNQ : Hid (¬ s[j].toNat = SP.qc true) := h34
        have e1 : ((s[j].toNat : Int) != 34) = true := by simp; omega
        by_cases h92 : s[j].toNat = 92
        · have h92v : s[j] = 92 := u8_ext (by rw [h92]; rfl)
          have e2 : ((s[j].toNat : Int) != 92) = false := by simp; omega
          by_cases h2 : j1 < s.size
          · have hz2 : ¬ (j1 : Int) ≥ (s.size : Int) := by omega
            have hz3 : (0 : Int) ≤ (j1 : Int) := by omega
            have hz4 : (j1 : Int) < (s.size : Int) := by omega
            obtain ⟨j2, hj2⟩ : ∃ j2, j + 2 = j2 := ⟨_, rfl⟩
            obtain ⟨j3, hj3⟩ : ∃ j3, j + 3 = j3 := ⟨_, rfl⟩
            have hjw2 : IntKind.i64.wrap ((j : Int) + 2) = (j2 : Int) := by rw [IntKind.wrap_i64] <;> omega
            have hjw3 : IntKind.i64.wrap ((j : Int) + 3) = (j3 : Int) := by rw [IntKind.wrap_i64] <;> omega
            have HT0 : Hid _ := qT_esc true acc s j hlt HNQ.out h92
            rw [hj1] at HT0
            by_cases hxx : ∃ (q3 : j3 < s.size) (q2 : j2 < s.size) (x y : Nat), s[j1].toNat = 120 ∧ SP.hx s[j2] = some x ∧ SP.hx s[j3] = some y
            · obtain ⟨q3, q2, x, y, h120, hx, hy⟩ := hxx
              have HT : Hid (SP.qT true acc (s.data.toList.drop j) = SP.qT true (acc ++ [UInt8.ofNat (16 * x + y)]) (s.data.toList.drop (j + 4))) := by
                show _ = _
                rw [HT0.out]
                subst hj1; subst hj2; subst hj3
                rw [bsl_x s (j + 1) q3 h120 x y hx hy]
              have hx16 := hx_lt hx
              have hy16 := hx_lt hy
              obtain ⟨j4, hj4⟩ : ∃ j4, j + 4 = j4 := ⟨_, rfl⟩
              have hjw4 : IntKind.i64.wrap ((j : Int) + 4) = (j4 : Int) := by rw [IntKind.wrap_i64] <;> omega
              have e3 : ((s[j1].toNat : Int) == 120) = true := by simp; omega
              have hz5a : (j3 : Int) < (s.size : Int) := by omega
              have hz6a : (j2 : Int) < (s.size : Int) := by omega
              have hz7a : (0 : Int) ≤ (j3 : Int) := by omega
              have hz8a : (0 : Int) ≤ (j2 : Int) := by omega
              have hgx : (x : Int) ≥ 0 := by omega
              have hgy : (y : Int) ≥ 0 := by omega
              obtain ⟨z, hz⟩ : ∃ z, 16 * x + y = z := ⟨_, rfl⟩
              have hm1 : IntKind.i64.wrap (16 * (x : Int)) = 16 * (x : Int) := by rw [IntKind.wrap_i64] <;> omega
              have hm2 : IntKind.i64.wrap (16 * (x : Int) + (y : Int)) = (z : Int) := by rw [IntKind.wrap_i64] <;> omega
              have hm3 : IntKind.u8.wrap (z : Int) = (z : Int) := by rw [IntKind.wrap_u8] <;> omega
              rw [hz, hj4] at HT
              have HZ : Hid ((UInt8.ofNat z).toNat = z) := by show _ = _; rw [UInt8.toNat_ofNat']; omega
              have HD2 : Hid (∀ w0 : World, Calls Tryd.prog 43 #[.int .u8 (s[j2].toNat : Int)] w0 fun e w' => e = .returned (.int .i64 (x : Int)) ∧ w' = w0) := fun w0 => by have := HDG.out s[j2] w0; rw [dgI_some hx] at this; exact this
              have HD3 : Hid (∀ w0 : World, Calls Tryd.prog 43 #[.int .u8 (s[j3].toNat : Int)] w0 fun e w' => e = .returned (.int .i64 (y : Int)) ∧ w' = w0) := fun w0 => by have := HDG.out s[j3] w0; rw [dgI_some hy] at this; exact this
              have hd2 : dgI s[j2] = (x : Int) := dgI_some hx
              have hd3 : dgI s[j3] = (y : Int) := dgI_some hy
              clear h34 h92 hle h92v h120 hx hy HT0
              go_wp2_with fail
              refine (show Calls _ _ _ _ _ from HD2.out _).mono ?_
              rintro e wx ⟨rfl, rfl⟩
              go_wp2_with fail
              refine (show Calls _ _ _ _ _ from HD3.out _).mono ?_
              rintro e wx ⟨rfl, rfl⟩
              go_upto_region 7 with fail
              have hS0 : True := trivial
              go_region_held3 (fun W : World => True) (exact trivial) (first | (go_at_call 43; refine (show Calls _ _ _ _ _ from HDG.out _ _).mono ?_; rintro e a4 ⟨rfl, ha4⟩; have hb4 : Below wx.heap.size wx a4 := (by rw [ha4]; first | exact hb4 | exact (Below.refl _ wx).drew); clear ha4) | (refine step_append_b rfl (.tmp 68) (.tmp 82) rfl w.heap.size (.slice PB la kb) la (bcells acc) (by simp [Act.eval, Act.put]) (own_on HO.out (Below.alloc hb4 hb4.size _)) a4.heap.size (z : Int) (by simp [Act.eval, Act.put]) (one_alloc _ _) (by omega) (by have := hb4.size; have := HB.out.size; simp; omega) ?_; intro v9 w9 ho9 hg9; obtain ⟨P9, k9, hf9⟩ := own_form ho9; subst hf9))
              all_goals (
                have HB4 : Hid (Below w.heap.size w a4) := bel_to HB.out hb4 (Nat.le_refl _)
                have HO4 : Hid _ := own_on HO.out (hb4.alloc hb4.size (.cells #[.int .u8 (z : Int)] 5))
                have HO9 : Hid (w9.ownsRow w.heap.size 5 1 (.slice P9 (la + 1) k9) (la + 1) (bcells (acc ++ [UInt8.ofNat z]))) := by show World.ownsRow _ _ _ _ _ _ _; rw [bcells_snoc, HZ.out]; exact ho9
                have HB9 : Hid (Below w.heap.size w w9) := (HB4.out.alloc HB4.out.size _).grown hg9 (by have := HB4.out.size; simp; omega) (fun b hb => own_block HO4.out b hb)
                clear ho9 hg9
                go_wp2
                refine ⟨⟨j4, acc ++ [UInt8.ofNat z], P9, k9, ⟨by omega, by omega, by rw [List.length_append, HLA.out]; simp; omega⟩, rfl, by rw [List.length_append, HLA.out]; rfl, ?_, HB9.out, ?_⟩, by simp [intOf]; omega⟩
                · rw [List.length_append, HLA.out]; exact HO9.out
                · rw [HQ.out, HT.out])
            · have HT : Hid (SP.qT true acc (s.data.toList.drop j) = SP.qT true (acc ++ [SP.es s[j1]]) (s.data.toList.drop j2)) := by
                show _ = _
                rw [HT0.out]
                subst hj1; subst hj2; subst hj3
                rw [bsl_o s (j + 1) h2 (fun h120 => xx_no s (j + 2) (fun ⟨q3, q1, q2, a, b⟩ => by
                  obtain ⟨x, hx⟩ := Option.isSome_iff_exists.mp a
                  obtain ⟨y, hy⟩ := Option.isSome_iff_exists.mp b
                  exact hxx ⟨q3, q1, x, y, h120, hx, hy⟩))]
              have hz8a : (0 : Int) ≤ (j2 : Int) := by omega
              have hz9a : (0 : Int) ≤ (j3 : Int) := by omega
              have hcs : ¬ (j3 : Int) < (s.size : Int) ∨ ((j3 : Int) < (s.size : Int) ∧ ((s[j1].toNat : Int) == 120) = false) ∨ ((j3 : Int) < (s.size : Int) ∧ ((s[j1].toNat : Int) == 120) = true ∧ (∃ q2 : j2 < s.size, dgI s[j2] = -1)) ∨ ((j3 : Int) < (s.size : Int) ∧ ((s[j1].toNat : Int) == 120) = true ∧ (∃ (q2 : j2 < s.size) (q3 : j3 < s.size) (x : Nat), dgI s[j2] = (x : Int) ∧ dgI s[j3] = -1)) := by
                by_cases q3 : j3 < s.size
                · by_cases h120 : s[j1].toNat = 120
                  · have q2 : j2 < s.size := by omega
                    cases hx : SP.hx s[j2] with
                    | none => exact Or.inr (Or.inr (Or.inl ⟨by omega, by simp; omega, q2, dgI_none hx⟩))
                    | some x =>
                      cases hy : SP.hx s[j3] with
                      | none => exact Or.inr (Or.inr (Or.inr ⟨by omega, by simp; omega, q2, q3, x, dgI_some hx, dgI_none hy⟩))
                      | some y => exact absurd ⟨q3, q2, x, y, h120, hx, hy⟩ hxx
                  · exact Or.inr (Or.inl ⟨by omega, by simp; omega⟩)
                · exact Or.inl (by omega)
              clear hxx h34 h92 hle h92v HT0
              rcases hcs with hA | ⟨hA, e3⟩ | ⟨hA, e3, q2, hd2⟩ | ⟨hA, e3, q2, q3, x, hd2, hd3⟩
              · go_upto_region 9 with fail
                go_wp2
                go_loopw [10, 7] (fun ck c7 wr => ∃ k : Nat, (k ≤ 5 ∧ NoFor k s[j1].toNat) ∧ ck = .int .i64 (k : Int) ∧ c7 = .int .u8 (s[j1].toNat : Int) ∧ wr = wx) (fun ck _ _ => 5 - (intOf ck).toNat)
                case atStart => exact ⟨0, ⟨by omega, by unfold NoFor; omega⟩, rfl, rfl, rfl⟩
                case round =>
                  obtain ⟨k, ⟨hk, hno⟩, rfl, rfl, hwr⟩ := hrel
                  obtain ⟨n1, hn1⟩ : ∃ n1, s[j1].toNat = n1 := ⟨_, rfl⟩
                  have HN1 : Hid (s[j1].toNat = n1) := hn1
                  rw [hwr]; clear hwr; rw [hn1] at hno ⊢; clear hn1
                  have h5 : k = 0 ∨ k = 1 ∨ k = 2 ∨ k = 3 ∨ k = 4 ∨ k = 5 := by omega
                  rcases h5 with rfl | rfl | rfl | rfl | rfl | rfl
                  · by_cases hm : n1 = 110
                    · have HE : Hid ((SP.es s[j1]).toNat = ((⟨#[10, 13, 9, 8, 7]⟩ : ByteArray)[0]'(by decide)).toNat) := es_at (n := 110) (by rw [HN1.out, hm]) (by rfl)
                      have e9 : ((((⟨#[110, 114, 116, 98, 97]⟩ : ByteArray)[0]'(by decide)).toNat : Int) == (n1 : Int)) = true := by rw [hm]; rfl
                      clear hno hm
                      have HO2 : Hid ((wx.alloc (.cells #[.int .u8 (((⟨#[10, 13, 9, 8, 7]⟩ : ByteArray)[0]'(by decide)).toNat : Int)] 5)).ownsRow w.heap.size 5 1 (.slice PB la kb) la (bcells acc)) := own_on HO.out ((Below.refl _ _).alloc (Nat.le_refl _) _)
                      have HNC : Hid (∀ a u, [Value.int .u8 (((⟨#[10, 13, 9, 8, 7]⟩ : ByteArray)[0]'(by decide)).toNat : Int)][a]? = some u → (wx.alloc (.cells #[.int .u8 (((⟨#[10, 13, 9, 8, 7]⟩ : ByteArray)[0]'(by decide)).toNat : Int)] 5)).cell? ((⟨wx.heap.size, 0, none⟩ : Addr).add a) = some u) := fun a u ha => by
                        match a, ha with
                        | 0, ha => simp at ha; subst ha; rw [Addr.add_lit]; exact (row1 (one_alloc wx (.cells #[.int .u8 (((⟨#[10, 13, 9, 8, 7]⟩ : ByteArray)[0]'(by decide)).toNat : Int)] 5))).1
                      go_wp2_with (at_builtin; go_must (refine wpList_append_own _ rfl _ _ 43 rfl w.heap.size 5 i5 (.int .u8 0) 1 1 Tryd.underlying43 hi5 hz5 hz6 hz7 rfl (by decide) (.slice PB la kb) la (bcells acc) rfl HO2.out ⟨wx.heap.size, 0, none⟩ 1 1 [.int .u8 (((⟨#[10, 13, 9, 8, 7]⟩ : ByteArray)[0]'(by decide)).toNat : Int)] rfl rfl HNC.out ?t101 ?t102 ?t103 ?t104 ?_))
                      case t101 => first | (intro u hu; simp at hu; subst hu; rfl) | rfl
                      case t102 => unfold maxLen; omega
                      case t103 => omega
                      case t104 => have := HB.out.size; simp; omega
                      intro v9 w9 ho9 hg9 hn9
                      obtain ⟨P9, k9, hf9⟩ := own_form ho9
                      subst hf9
                      have HO9 : Hid (w9.ownsRow w.heap.size 5 1 (.slice P9 (la + 1) k9) (la + 1) (bcells (acc ++ [SP.es s[j1]]))) := by show World.ownsRow _ _ _ _ _ _ _; rw [bcells_snoc, HE.out]; exact ho9
                      have HB9 : Hid (Below w.heap.size w w9) := (HB.out.alloc HB.out.size _).grown hg9 (by have := HB.out.size; simp; omega) (fun b hb => own_block HO2.out b hb)
                      clear ho9 hg9 hn9
                      go_wp2
                      refine ⟨⟨j2, acc ++ [SP.es s[j1]], P9, k9, ⟨by omega, by omega, by rw [List.length_append, HLA.out]; simp; omega⟩, rfl, by rw [List.length_append, HLA.out]; rfl, ?_, HB9.out, ?_⟩, by simp [intOf]; omega⟩
                      · rw [List.length_append, HLA.out]; exact HO9.out
                      · rw [HQ.out, HT.out]
                    · have e9 : ((((⟨#[110, 114, 116, 98, 97]⟩ : ByteArray)[0]'(by decide)).toNat : Int) == (n1 : Int)) = false := by show (((110 : Nat) : Int) == (n1 : Int)) = false; simp; omega
                      have HNO : Hid (NoFor 1 n1) := by show NoFor _ _; unfold NoFor at hno ⊢; omega
                      clear hno hm
                      go_wp2
                      exact ⟨⟨1, ⟨by omega, HNO.out⟩, rfl, rfl, by first | trivial | rfl⟩, by simp [intOf]⟩
                  · by_cases hm : n1 = 114
                    · have HE : Hid ((SP.es s[j1]).toNat = ((⟨#[10, 13, 9, 8, 7]⟩ : ByteArray)[1]'(by decide)).toNat) := es_at (n := 114) (by rw [HN1.out, hm]) (by rfl)
                      have e9 : ((((⟨#[110, 114, 116, 98, 97]⟩ : ByteArray)[1]'(by decide)).toNat : Int) == (n1 : Int)) = true := by rw [hm]; rfl
                      clear hno hm
                      have HO2 : Hid ((wx.alloc (.cells #[.int .u8 (((⟨#[10, 13, 9, 8, 7]⟩ : ByteArray)[1]'(by decide)).toNat : Int)] 5)).ownsRow w.heap.size 5 1 (.slice PB la kb) la (bcells acc)) := own_on HO.out ((Below.refl _ _).alloc (Nat.le_refl _) _)
                      have HNC : Hid (∀ a u, [Value.int .u8 (((⟨#[10, 13, 9, 8, 7]⟩ : ByteArray)[1]'(by decide)).toNat : Int)][a]? = some u → (wx.alloc (.cells #[.int .u8 (((⟨#[10, 13, 9, 8, 7]⟩ : ByteArray)[1]'(by decide)).toNat : Int)] 5)).cell? ((⟨wx.heap.size, 0, none⟩ : Addr).add a) = some u) := fun a u ha => by
                        match a, ha with
                        | 0, ha => simp at ha; subst ha; rw [Addr.add_lit]; exact (row1 (one_alloc wx (.cells #[.int .u8 (((⟨#[10, 13, 9, 8, 7]⟩ : ByteArray)[1]'(by decide)).toNat : Int)] 5))).1
                      go_wp2_with (at_builtin; go_must (refine wpList_append_own _ rfl _ _ 43 rfl w.heap.size 5 i5 (.int .u8 0) 1 1 Tryd.underlying43 hi5 hz5 hz6 hz7 rfl (by decide) (.slice PB la kb) la (bcells acc) rfl HO2.out ⟨wx.heap.size, 0, none⟩ 1 1 [.int .u8 (((⟨#[10, 13, 9, 8, 7]⟩ : ByteArray)[1]'(by decide)).toNat : Int)] rfl rfl HNC.out ?t111 ?t112 ?t113 ?t114 ?_))
                      case t111 => first | (intro u hu; simp at hu; subst hu; rfl) | rfl
                      case t112 => unfold maxLen; omega
                      case t113 => omega
                      case t114 => have := HB.out.size; simp; omega
                      intro v9 w9 ho9 hg9 hn9
                      obtain ⟨P9, k9, hf9⟩ := own_form ho9
                      subst hf9
                      have HO9 : Hid (w9.ownsRow w.heap.size 5 1 (.slice P9 (la + 1) k9) (la + 1) (bcells (acc ++ [SP.es s[j1]]))) := by show World.ownsRow _ _ _ _ _ _ _; rw [bcells_snoc, HE.out]; exact ho9
                      have HB9 : Hid (Below w.heap.size w w9) := (HB.out.alloc HB.out.size _).grown hg9 (by have := HB.out.size; simp; omega) (fun b hb => own_block HO2.out b hb)
                      clear ho9 hg9 hn9
                      go_wp2
                      refine ⟨⟨j2, acc ++ [SP.es s[j1]], P9, k9, ⟨by omega, by omega, by rw [List.length_append, HLA.out]; simp; omega⟩, rfl, by rw [List.length_append, HLA.out]; rfl, ?_, HB9.out, ?_⟩, by simp [intOf]; omega⟩
                      · rw [List.length_append, HLA.out]; exact HO9.out
                      · rw [HQ.out, HT.out]
                    · have e9 : ((((⟨#[110, 114, 116, 98, 97]⟩ : ByteArray)[1]'(by decide)).toNat : Int) == (n1 : Int)) = false := by show (((114 : Nat) : Int) == (n1 : Int)) = false; simp; omega
                      have HNO : Hid (NoFor 2 n1) := by show NoFor _ _; unfold NoFor at hno ⊢; omega
                      clear hno hm
                      go_wp2
                      exact ⟨⟨2, ⟨by omega, HNO.out⟩, rfl, rfl, by first | trivial | rfl⟩, by simp [intOf]⟩
                  · by_cases hm : n1 = 116
                    · have HE : Hid ((SP.es s[j1]).toNat = ((⟨#[10, 13, 9, 8, 7]⟩ : ByteArray)[2]'(by decide)).toNat) := es_at (n := 116) (by rw [HN1.out, hm]) (by rfl)
                      have e9 : ((((⟨#[110, 114, 116, 98, 97]⟩ : ByteArray)[2]'(by decide)).toNat : Int) == (n1 : Int)) = true := by rw [hm]; rfl
                      clear hno hm
                      have HO2 : Hid ((wx.alloc (.cells #[.int .u8 (((⟨#[10, 13, 9, 8, 7]⟩ : ByteArray)[2]'(by decide)).toNat : Int)] 5)).ownsRow w.heap.size 5 1 (.slice PB la kb) la (bcells acc)) := own_on HO.out ((Below.refl _ _).alloc (Nat.le_refl _) _)
                      have HNC : Hid (∀ a u, [Value.int .u8 (((⟨#[10, 13, 9, 8, 7]⟩ : ByteArray)[2]'(by decide)).toNat : Int)][a]? = some u → (wx.alloc (.cells #[.int .u8 (((⟨#[10, 13, 9, 8, 7]⟩ : ByteArray)[2]'(by decide)).toNat : Int)] 5)).cell? ((⟨wx.heap.size, 0, none⟩ : Addr).add a) = some u) := fun a u ha => by
                        match a, ha with
                        | 0, ha => simp at ha; subst ha; rw [Addr.add_lit]; exact (row1 (one_alloc wx (.cells #[.int .u8 (((⟨#[10, 13, 9, 8, 7]⟩ : ByteArray)[2]'(by decide)).toNat : Int)] 5))).1
                      go_wp2_with (at_builtin; go_must (refine wpList_append_own _ rfl _ _ 43 rfl w.heap.size 5 i5 (.int .u8 0) 1 1 Tryd.underlying43 hi5 hz5 hz6 hz7 rfl (by decide) (.slice PB la kb) la (bcells acc) rfl HO2.out ⟨wx.heap.size, 0, none⟩ 1 1 [.int .u8 (((⟨#[10, 13, 9, 8, 7]⟩ : ByteArray)[2]'(by decide)).toNat : Int)] rfl rfl HNC.out ?t121 ?t122 ?t123 ?t124 ?_))
                      case t121 => first | (intro u hu; simp at hu; subst hu; rfl) | rfl
                      case t122 => unfold maxLen; omega
                      case t123 => omega
                      case t124 => have := HB.out.size; simp; omega
                      intro v9 w9 ho9 hg9 hn9
                      obtain ⟨P9, k9, hf9⟩ := own_form ho9
                      subst hf9
                      have HO9 : Hid (w9.ownsRow w.heap.size 5 1 (.slice P9 (la + 1) k9) (la + 1) (bcells (acc ++ [SP.es s[j1]]))) := by show World.ownsRow _ _ _ _ _ _ _; rw [bcells_snoc, HE.out]; exact ho9
                      have HB9 : Hid (Below w.heap.size w w9) := (HB.out.alloc HB.out.size _).grown hg9 (by have := HB.out.size; simp; omega) (fun b hb => own_block HO2.out b hb)
                      clear ho9 hg9 hn9
                      go_wp2
                      refine ⟨⟨j2, acc ++ [SP.es s[j1]], P9, k9, ⟨by omega, by omega, by rw [List.length_append, HLA.out]; simp; omega⟩, rfl, by rw [List.length_append, HLA.out]; rfl, ?_, HB9.out, ?_⟩, by simp [intOf]; omega⟩
                      · rw [List.length_append, HLA.out]; exact HO9.out
                      · rw [HQ.out, HT.out]
                    · have e9 : ((((⟨#[110, 114, 116, 98, 97]⟩ : ByteArray)[2]'(by decide)).toNat : Int) == (n1 : Int)) = false := by show (((116 : Nat) : Int) == (n1 : Int)) = false; simp; omega
                      have HNO : Hid (NoFor 3 n1) := by show NoFor _ _; unfold NoFor at hno ⊢; omega
                      clear hno hm
                      go_wp2
                      exact ⟨⟨3, ⟨by omega, HNO.out⟩, rfl, rfl, by first | trivial | rfl⟩, by simp [intOf]⟩
                  · by_cases hm : n1 = 98
                    · have HE : Hid ((SP.es s[j1]).toNat = ((⟨#[10, 13, 9, 8, 7]⟩ : ByteArray)[3]'(by decide)).toNat) := es_at (n := 98) (by rw [HN1.out, hm]) (by rfl)
                      have e9 : ((((⟨#[110, 114, 116, 98, 97]⟩ : ByteArray)[3]'(by decide)).toNat : Int) == (n1 : Int)) = true := by rw [hm]; rfl
                      clear hno hm
                      have HO2 : Hid ((wx.alloc (.cells #[.int .u8 (((⟨#[10, 13, 9, 8, 7]⟩ : ByteArray)[3]'(by decide)).toNat : Int)] 5)).ownsRow w.heap.size 5 1 (.slice PB la kb) la (bcells acc)) := own_on HO.out ((Below.refl _ _).alloc (Nat.le_refl _) _)
                      have HNC : Hid (∀ a u, [Value.int .u8 (((⟨#[10, 13, 9, 8, 7]⟩ : ByteArray)[3]'(by decide)).toNat : Int)][a]? = some u → (wx.alloc (.cells #[.int .u8 (((⟨#[10, 13, 9, 8, 7]⟩ : ByteArray)[3]'(by decide)).toNat : Int)] 5)).cell? ((⟨wx.heap.size, 0, none⟩ : Addr).add a) = some u) := fun a u ha => by
                        match a, ha with
                        | 0, ha => simp at ha; subst ha; rw [Addr.add_lit]; exact (row1 (one_alloc wx (.cells #[.int .u8 (((⟨#[10, 13, 9, 8, 7]⟩ : ByteArray)[3]'(by decide)).toNat : Int)] 5))).1
                      go_wp2_with (at_builtin; go_must (refine wpList_append_own _ rfl _ _ 43 rfl w.heap.size 5 i5 (.int .u8 0) 1 1 Tryd.underlying43 hi5 hz5 hz6 hz7 rfl (by decide) (.slice PB la kb) la (bcells acc) rfl HO2.out ⟨wx.heap.size, 0, none⟩ 1 1 [.int .u8 (((⟨#[10, 13, 9, 8, 7]⟩ : ByteArray)[3]'(by decide)).toNat : Int)] rfl rfl HNC.out ?t131 ?t132 ?t133 ?t134 ?_))
                      case t131 => first | (intro u hu; simp at hu; subst hu; rfl) | rfl
                      case t132 => unfold maxLen; omega
                      case t133 => omega
                      case t134 => have := HB.out.size; simp; omega
                      intro v9 w9 ho9 hg9 hn9
                      obtain ⟨P9, k9, hf9⟩ := own_form ho9
                      subst hf9
                      have HO9 : Hid (w9.ownsRow w.heap.size 5 1 (.slice P9 (la + 1) k9) (la + 1) (bcells (acc ++ [SP.es s[j1]]))) := by show World.ownsRow _ _ _ _ _ _ _; rw [bcells_snoc, HE.out]; exact ho9
                      have HB9 : Hid (Below w.heap.size w w9) := (HB.out.alloc HB.out.size _).grown hg9 (by have := HB.out.size; simp; omega) (fun b hb => own_block HO2.out b hb)
                      clear ho9 hg9 hn9
                      go_wp2
                      refine ⟨⟨j2, acc ++ [SP.es s[j1]], P9, k9, ⟨by omega, by omega, by rw [List.length_append, HLA.out]; simp; omega⟩, rfl, by rw [List.length_append, HLA.out]; rfl, ?_, HB9.out, ?_⟩, by simp [intOf]; omega⟩
                      · rw [List.length_append, HLA.out]; exact HO9.out
                      · rw [HQ.out, HT.out]
                    · have e9 : ((((⟨#[110, 114, 116, 98, 97]⟩ : ByteArray)[3]'(by decide)).toNat : Int) == (n1 : Int)) = false := by show (((98 : Nat) : Int) == (n1 : Int)) = false; simp; omega
                      have HNO : Hid (NoFor 4 n1) := by show NoFor _ _; unfold NoFor at hno ⊢; omega
                      clear hno hm
                      go_wp2
                      exact ⟨⟨4, ⟨by omega, HNO.out⟩, rfl, rfl, by first | trivial | rfl⟩, by simp [intOf]⟩
                  · by_cases hm : n1 = 97
                    · have HE : Hid ((SP.es s[j1]).toNat = ((⟨#[10, 13, 9, 8, 7]⟩ : ByteArray)[4]'(by decide)).toNat) := es_at (n := 97) (by rw [HN1.out, hm]) (by rfl)
                      have e9 : ((((⟨#[110, 114, 116, 98, 97]⟩ : ByteArray)[4]'(by decide)).toNat : Int) == (n1 : Int)) = true := by rw [hm]; rfl
                      clear hno hm
                      have HO2 : Hid ((wx.alloc (.cells #[.int .u8 (((⟨#[10, 13, 9, 8, 7]⟩ : ByteArray)[4]'(by decide)).toNat : Int)] 5)).ownsRow w.heap.size 5 1 (.slice PB la kb) la (bcells acc)) := own_on HO.out ((Below.refl _ _).alloc (Nat.le_refl _) _)
                      have HNC : Hid (∀ a u, [Value.int .u8 (((⟨#[10, 13, 9, 8, 7]⟩ : ByteArray)[4]'(by decide)).toNat : Int)][a]? = some u → (wx.alloc (.cells #[.int .u8 (((⟨#[10, 13, 9, 8, 7]⟩ : ByteArray)[4]'(by decide)).toNat : Int)] 5)).cell? ((⟨wx.heap.size, 0, none⟩ : Addr).add a) = some u) := fun a u ha => by
                        match a, ha with
                        | 0, ha => simp at ha; subst ha; rw [Addr.add_lit]; exact (row1 (one_alloc wx (.cells #[.int .u8 (((⟨#[10, 13, 9, 8, 7]⟩ : ByteArray)[4]'(by decide)).toNat : Int)] 5))).1
                      go_wp2_with (at_builtin; go_must (refine wpList_append_own _ rfl _ _ 43 rfl w.heap.size 5 i5 (.int .u8 0) 1 1 Tryd.underlying43 hi5 hz5 hz6 hz7 rfl (by decide) (.slice PB la kb) la (bcells acc) rfl HO2.out ⟨wx.heap.size, 0, none⟩ 1 1 [.int .u8 (((⟨#[10, 13, 9, 8, 7]⟩ : ByteArray)[4]'(by decide)).toNat : Int)] rfl rfl HNC.out ?t141 ?t142 ?t143 ?t144 ?_))
                      case t141 => first | (intro u hu; simp at hu; subst hu; rfl) | rfl
                      case t142 => unfold maxLen; omega
                      case t143 => omega
                      case t144 => have := HB.out.size; simp; omega
                      intro v9 w9 ho9 hg9 hn9
                      obtain ⟨P9, k9, hf9⟩ := own_form ho9
                      subst hf9
                      have HO9 : Hid (w9.ownsRow w.heap.size 5 1 (.slice P9 (la + 1) k9) (la + 1) (bcells (acc ++ [SP.es s[j1]]))) := by show World.ownsRow _ _ _ _ _ _ _; rw [bcells_snoc, HE.out]; exact ho9
                      have HB9 : Hid (Below w.heap.size w w9) := (HB.out.alloc HB.out.size _).grown hg9 (by have := HB.out.size; simp; omega) (fun b hb => own_block HO2.out b hb)
                      clear ho9 hg9 hn9
                      go_wp2
                      refine ⟨⟨j2, acc ++ [SP.es s[j1]], P9, k9, ⟨by omega, by omega, by rw [List.length_append, HLA.out]; simp; omega⟩, rfl, by rw [List.length_append, HLA.out]; rfl, ?_, HB9.out, ?_⟩, by simp [intOf]; omega⟩
                      · rw [List.length_append, HLA.out]; exact HO9.out
                      · rw [HQ.out, HT.out]
                    · have e9 : ((((⟨#[110, 114, 116, 98, 97]⟩ : ByteArray)[4]'(by decide)).toNat : Int) == (n1 : Int)) = false := by show (((97 : Nat) : Int) == (n1 : Int)) = false; simp; omega
                      have HNO : Hid (NoFor 5 n1) := by show NoFor _ _; unfold NoFor at hno ⊢; omega
                      clear hno hm
                      go_wp2
                      exact ⟨⟨5, ⟨by omega, HNO.out⟩, rfl, rfl, by first | trivial | rfl⟩, by simp [intOf]⟩
                  · have HE : Hid ((SP.es s[j1]).toNat = n1) := by show _ = _; rw [← HN1.out]; exact es_not (by rw [HN1.out]; exact hno)
                    clear hno
                    have HO2 : Hid ((wx.alloc (.cells #[.int .u8 (n1 : Int)] 5)).ownsRow w.heap.size 5 1 (.slice PB la kb) la (bcells acc)) := own_on HO.out ((Below.refl _ _).alloc (Nat.le_refl _) _)
                    have HNC : Hid (∀ a u, [Value.int .u8 (n1 : Int)][a]? = some u → (wx.alloc (.cells #[.int .u8 (n1 : Int)] 5)).cell? ((⟨wx.heap.size, 0, none⟩ : Addr).add a) = some u) := fun a u ha => by
                      match a, ha with
                      | 0, ha => simp at ha; subst ha; rw [Addr.add_lit]; exact (row1 (one_alloc wx (.cells #[.int .u8 (n1 : Int)] 5))).1
                    go_wp2_with (at_builtin; go_must (refine wpList_append_own _ rfl _ _ 43 rfl w.heap.size 5 i5 (.int .u8 0) 1 1 Tryd.underlying43 hi5 hz5 hz6 hz7 rfl (by decide) (.slice PB la kb) la (bcells acc) rfl HO2.out ⟨wx.heap.size, 0, none⟩ 1 1 [.int .u8 (n1 : Int)] rfl rfl HNC.out ?t1z1 ?t1z2 ?t1z3 ?t1z4 ?_))
                    case t1z1 => first | (intro u hu; simp at hu; subst hu; rfl) | rfl
                    case t1z2 => unfold maxLen; omega
                    case t1z3 => omega
                    case t1z4 => have := HB.out.size; simp; omega
                    intro v9 w9 ho9 hg9 hn9
                    obtain ⟨P9, k9, hf9⟩ := own_form ho9
                    subst hf9
                    have HO9 : Hid (w9.ownsRow w.heap.size 5 1 (.slice P9 (la + 1) k9) (la + 1) (bcells (acc ++ [SP.es s[j1]]))) := by show World.ownsRow _ _ _ _ _ _ _; rw [bcells_snoc, HE.out]; exact ho9
                    have HB9 : Hid (Below w.heap.size w w9) := (HB.out.alloc HB.out.size _).grown hg9 (by have := HB.out.size; simp; omega) (fun b hb => own_block HO2.out b hb)
                    clear ho9 hg9 hn9
                    go_wp2
                    refine ⟨⟨j2, acc ++ [SP.es s[j1]], P9, k9, ⟨by omega, by omega, by rw [List.length_append, HLA.out]; simp; omega⟩, rfl, by rw [List.length_append, HLA.out]; rfl, ?_, HB9.out, ?_⟩, by simp [intOf]; omega⟩
                    · rw [List.length_append, HLA.out]; exact HO9.out
                    · rw [HQ.out, HT.out]
              · go_upto_region 9 with fail
                go_wp2
                go_loopw [10, 7] (fun ck c7 wr => ∃ k : Nat, (k ≤ 5 ∧ NoFor k s[j1].toNat) ∧ ck = .int .i64 (k : Int) ∧ c7 = .int .u8 (s[j1].toNat : Int) ∧ wr = wx) (fun ck _ _ => 5 - (intOf ck).toNat)
                case atStart => exact ⟨0, ⟨by omega, by unfold NoFor; omega⟩, rfl, rfl, rfl⟩
                case round =>
                  obtain ⟨k, ⟨hk, hno⟩, rfl, rfl, hwr⟩ := hrel
                  obtain ⟨n1, hn1⟩ : ∃ n1, s[j1].toNat = n1 := ⟨_, rfl⟩
                  have HN1 : Hid (s[j1].toNat = n1) := hn1
                  rw [hwr]; clear hwr; rw [hn1] at hno ⊢; clear hn1
                  have h5 : k = 0 ∨ k = 1 ∨ k = 2 ∨ k = 3 ∨ k = 4 ∨ k = 5 := by omega
                  rcases h5 with rfl | rfl | rfl | rfl | rfl | rfl
                  · by_cases hm : n1 = 110
                    · have HE : Hid ((SP.es s[j1]).toNat = ((⟨#[10, 13, 9, 8, 7]⟩ : ByteArray)[0]'(by decide)).toNat) := es_at (n := 110) (by rw [HN1.out, hm]) (by rfl)
                      have e9 : ((((⟨#[110, 114, 116, 98, 97]⟩ : ByteArray)[0]'(by decide)).toNat : Int) == (n1 : Int)) = true := by rw [hm]; rfl
                      clear hno hm
                      have HO2 : Hid ((wx.alloc (.cells #[.int .u8 (((⟨#[10, 13, 9, 8, 7]⟩ : ByteArray)[0]'(by decide)).toNat : Int)] 5)).ownsRow w.heap.size 5 1 (.slice PB la kb) la (bcells acc)) := own_on HO.out ((Below.refl _ _).alloc (Nat.le_refl _) _)
                      have HNC : Hid (∀ a u, [Value.int .u8 (((⟨#[10, 13, 9, 8, 7]⟩ : ByteArray)[0]'(by decide)).toNat : Int)][a]? = some u → (wx.alloc (.cells #[.int .u8 (((⟨#[10, 13, 9, 8, 7]⟩ : ByteArray)[0]'(by decide)).toNat : Int)] 5)).cell? ((⟨wx.heap.size, 0, none⟩ : Addr).add a) = some u) := fun a u ha => by
                        match a, ha with
                        | 0, ha => simp at ha; subst ha; rw [Addr.add_lit]; exact (row1 (one_alloc wx (.cells #[.int .u8 (((⟨#[10, 13, 9, 8, 7]⟩ : ByteArray)[0]'(by decide)).toNat : Int)] 5))).1
                      go_wp2_with (at_builtin; go_must (refine wpList_append_own _ rfl _ _ 43 rfl w.heap.size 5 i5 (.int .u8 0) 1 1 Tryd.underlying43 hi5 hz5 hz6 hz7 rfl (by decide) (.slice PB la kb) la (bcells acc) rfl HO2.out ⟨wx.heap.size, 0, none⟩ 1 1 [.int .u8 (((⟨#[10, 13, 9, 8, 7]⟩ : ByteArray)[0]'(by decide)).toNat : Int)] rfl rfl HNC.out ?t201 ?t202 ?t203 ?t204 ?_))
                      case t201 => first | (intro u hu; simp at hu; subst hu; rfl) | rfl
                      case t202 => unfold maxLen; omega
                      case t203 => omega
                      case t204 => have := HB.out.size; simp; omega
                      intro v9 w9 ho9 hg9 hn9
                      obtain ⟨P9, k9, hf9⟩ := own_form ho9
                      subst hf9
                      have HO9 : Hid (w9.ownsRow w.heap.size 5 1 (.slice P9 (la + 1) k9) (la + 1) (bcells (acc ++ [SP.es s[j1]]))) := by show World.ownsRow _ _ _ _ _ _ _; rw [bcells_snoc, HE.out]; exact ho9
                      have HB9 : Hid (Below w.heap.size w w9) := (HB.out.alloc HB.out.size _).grown hg9 (by have := HB.out.size; simp; omega) (fun b hb => own_block HO2.out b hb)
                      clear ho9 hg9 hn9
                      go_wp2
                      refine ⟨⟨j2, acc ++ [SP.es s[j1]], P9, k9, ⟨by omega, by omega, by rw [List.length_append, HLA.out]; simp; omega⟩, rfl, by rw [List.length_append, HLA.out]; rfl, ?_, HB9.out, ?_⟩, by simp [intOf]; omega⟩
                      · rw [List.length_append, HLA.out]; exact HO9.out
                      · rw [HQ.out, HT.out]
                    · have e9 : ((((⟨#[110, 114, 116, 98, 97]⟩ : ByteArray)[0]'(by decide)).toNat : Int) == (n1 : Int)) = false := by show (((110 : Nat) : Int) == (n1 : Int)) = false; simp; omega
                      have HNO : Hid (NoFor 1 n1) := by show NoFor _ _; unfold NoFor at hno ⊢; omega
                      clear hno hm
                      go_wp2
                      exact ⟨⟨1, ⟨by omega, HNO.out⟩, rfl, rfl, by first | trivial | rfl⟩, by simp [intOf]⟩
                  · by_cases hm : n1 = 114
                    · have HE : Hid ((SP.es s[j1]).toNat = ((⟨#[10, 13, 9, 8, 7]⟩ : ByteArray)[1]'(by decide)).toNat) := es_at (n := 114) (by rw [HN1.out, hm]) (by rfl)
                      have e9 : ((((⟨#[110, 114, 116, 98, 97]⟩ : ByteArray)[1]'(by decide)).toNat : Int) == (n1 : Int)) = true := by rw [hm]; rfl
                      clear hno hm
                      have HO2 : Hid ((wx.alloc (.cells #[.int .u8 (((⟨#[10, 13, 9, 8, 7]⟩ : ByteArray)[1]'(by decide)).toNat : Int)] 5)).ownsRow w.heap.size 5 1 (.slice PB la kb) la (bcells acc)) := own_on HO.out ((Below.refl _ _).alloc (Nat.le_refl _) _)
                      have HNC : Hid (∀ a u, [Value.int .u8 (((⟨#[10, 13, 9, 8, 7]⟩ : ByteArray)[1]'(by decide)).toNat : Int)][a]? = some u → (wx.alloc (.cells #[.int .u8 (((⟨#[10, 13, 9, 8, 7]⟩ : ByteArray)[1]'(by decide)).toNat : Int)] 5)).cell? ((⟨wx.heap.size, 0, none⟩ : Addr).add a) = some u) := fun a u ha => by
                        match a, ha with
                        | 0, ha => simp at ha; subst ha; rw [Addr.add_lit]; exact (row1 (one_alloc wx (.cells #[.int .u8 (((⟨#[10, 13, 9, 8, 7]⟩ : ByteArray)[1]'(by decide)).toNat : Int)] 5))).1
                      go_wp2_with (at_builtin; go_must (refine wpList_append_own _ rfl _ _ 43 rfl w.heap.size 5 i5 (.int .u8 0) 1 1 Tryd.underlying43 hi5 hz5 hz6 hz7 rfl (by decide) (.slice PB la kb) la (bcells acc) rfl HO2.out ⟨wx.heap.size, 0, none⟩ 1 1 [.int .u8 (((⟨#[10, 13, 9, 8, 7]⟩ : ByteArray)[1]'(by decide)).toNat : Int)] rfl rfl HNC.out ?t211 ?t212 ?t213 ?t214 ?_))
                      case t211 => first | (intro u hu; simp at hu; subst hu; rfl) | rfl
                      case t212 => unfold maxLen; omega
                      case t213 => omega
                      case t214 => have := HB.out.size; simp; omega
                      intro v9 w9 ho9 hg9 hn9
                      obtain ⟨P9, k9, hf9⟩ := own_form ho9
                      subst hf9
                      have HO9 : Hid (w9.ownsRow w.heap.size 5 1 (.slice P9 (la + 1) k9) (la + 1) (bcells (acc ++ [SP.es s[j1]]))) := by show World.ownsRow _ _ _ _ _ _ _; rw [bcells_snoc, HE.out]; exact ho9
                      have HB9 : Hid (Below w.heap.size w w9) := (HB.out.alloc HB.out.size _).grown hg9 (by have := HB.out.size; simp; omega) (fun b hb => own_block HO2.out b hb)
                      clear ho9 hg9 hn9
                      go_wp2
                      refine ⟨⟨j2, acc ++ [SP.es s[j1]], P9, k9, ⟨by omega, by omega, by rw [List.length_append, HLA.out]; simp; omega⟩, rfl, by rw [List.length_append, HLA.out]; rfl, ?_, HB9.out, ?_⟩, by simp [intOf]; omega⟩
                      · rw [List.length_append, HLA.out]; exact HO9.out
                      · rw [HQ.out, HT.out]
                    · have e9 : ((((⟨#[110, 114, 116, 98, 97]⟩ : ByteArray)[1]'(by decide)).toNat : Int) == (n1 : Int)) = false := by show (((114 : Nat) : Int) == (n1 : Int)) = false; simp; omega
                      have HNO : Hid (NoFor 2 n1) := by show NoFor _ _; unfold NoFor at hno ⊢; omega
                      clear hno hm
                      go_wp2
                      exact ⟨⟨2, ⟨by omega, HNO.out⟩, rfl, rfl, by first | trivial | rfl⟩, by simp [intOf]⟩
                  · by_cases hm : n1 = 116
                    · have HE : Hid ((SP.es s[j1]).toNat = ((⟨#[10, 13, 9, 8, 7]⟩ : ByteArray)[2]'(by decide)).toNat) := es_at (n := 116) (by rw [HN1.out, hm]) (by rfl)
                      have e9 : ((((⟨#[110, 114, 116, 98, 97]⟩ : ByteArray)[2]'(by decide)).toNat : Int) == (n1 : Int)) = true := by rw [hm]; rfl
                      clear hno hm
                      have HO2 : Hid ((wx.alloc (.cells #[.int .u8 (((⟨#[10, 13, 9, 8, 7]⟩ : ByteArray)[2]'(by decide)).toNat : Int)] 5)).ownsRow w.heap.size 5 1 (.slice PB la kb) la (bcells acc)) := own_on HO.out ((Below.refl _ _).alloc (Nat.le_refl _) _)
                      have HNC : Hid (∀ a u, [Value.int .u8 (((⟨#[10, 13, 9, 8, 7]⟩ : ByteArray)[2]'(by decide)).toNat : Int)][a]? = some u → (wx.alloc (.cells #[.int .u8 (((⟨#[10, 13, 9, 8, 7]⟩ : ByteArray)[2]'(by decide)).toNat : Int)] 5)).cell? ((⟨wx.heap.size, 0, none⟩ : Addr).add a) = some u) := fun a u ha => by
                        match a, ha with
                        | 0, ha => simp at ha; subst ha; rw [Addr.add_lit]; exact (row1 (one_alloc wx (.cells #[.int .u8 (((⟨#[10, 13, 9, 8, 7]⟩ : ByteArray)[2]'(by decide)).toNat : Int)] 5))).1
                      go_wp2_with (at_builtin; go_must (refine wpList_append_own _ rfl _ _ 43 rfl w.heap.size 5 i5 (.int .u8 0) 1 1 Tryd.underlying43 hi5 hz5 hz6 hz7 rfl (by decide) (.slice PB la kb) la (bcells acc) rfl HO2.out ⟨wx.heap.size, 0, none⟩ 1 1 [.int .u8 (((⟨#[10, 13, 9, 8, 7]⟩ : ByteArray)[2]'(by decide)).toNat : Int)] rfl rfl HNC.out ?t221 ?t222 ?t223 ?t224 ?_))
                      case t221 => first | (intro u hu; simp at hu; subst hu; rfl) | rfl
                      case t222 => unfold maxLen; omega
                      case t223 => omega
                      case t224 => have := HB.out.size; simp; omega
                      intro v9 w9 ho9 hg9 hn9
                      obtain ⟨P9, k9, hf9⟩ := own_form ho9
                      subst hf9
                      have HO9 : Hid (w9.ownsRow w.heap.size 5 1 (.slice P9 (la + 1) k9) (la + 1) (bcells (acc ++ [SP.es s[j1]]))) := by show World.ownsRow _ _ _ _ _ _ _; rw [bcells_snoc, HE.out]; exact ho9
                      have HB9 : Hid (Below w.heap.size w w9) := (HB.out.alloc HB.out.size _).grown hg9 (by have := HB.out.size; simp; omega) (fun b hb => own_block HO2.out b hb)
                      clear ho9 hg9 hn9
                      go_wp2
                      refine ⟨⟨j2, acc ++ [SP.es s[j1]], P9, k9, ⟨by omega, by omega, by rw [List.length_append, HLA.out]; simp; omega⟩, rfl, by rw [List.length_append, HLA.out]; rfl, ?_, HB9.out, ?_⟩, by simp [intOf]; omega⟩
                      · rw [List.length_append, HLA.out]; exact HO9.out
                      · rw [HQ.out, HT.out]
                    · have e9 : ((((⟨#[110, 114, 116, 98, 97]⟩ : ByteArray)[2]'(by decide)).toNat : Int) == (n1 : Int)) = false := by show (((116 : Nat) : Int) == (n1 : Int)) = false; simp; omega
                      have HNO : Hid (NoFor 3 n1) := by show NoFor _ _; unfold NoFor at hno ⊢; omega
                      clear hno hm
                      go_wp2
                      exact ⟨⟨3, ⟨by omega, HNO.out⟩, rfl, rfl, by first | trivial | rfl⟩, by simp [intOf]⟩
                  · by_cases hm : n1 = 98
                    · have HE : Hid ((SP.es s[j1]).toNat = ((⟨#[10, 13, 9, 8, 7]⟩ : ByteArray)[3]'(by decide)).toNat) := es_at (n := 98) (by rw [HN1.out, hm]) (by rfl)
                      have e9 : ((((⟨#[110, 114, 116, 98, 97]⟩ : ByteArray)[3]'(by decide)).toNat : Int) == (n1 : Int)) = true := by rw [hm]; rfl
                      clear hno hm
                      have HO2 : Hid ((wx.alloc (.cells #[.int .u8 (((⟨#[10, 13, 9, 8, 7]⟩ : ByteArray)[3]'(by decide)).toNat : Int)] 5)).ownsRow w.heap.size 5 1 (.slice PB la kb) la (bcells acc)) := own_on HO.out ((Below.refl _ _).alloc (Nat.le_refl _) _)
                      have HNC : Hid (∀ a u, [Value.int .u8 (((⟨#[10, 13, 9, 8, 7]⟩ : ByteArray)[3]'(by decide)).toNat : Int)][a]? = some u → (wx.alloc (.cells #[.int .u8 (((⟨#[10, 13, 9, 8, 7]⟩ : ByteArray)[3]'(by decide)).toNat : Int)] 5)).cell? ((⟨wx.heap.size, 0, none⟩ : Addr).add a) = some u) := fun a u ha => by
                        match a, ha with
                        | 0, ha => simp at ha; subst ha; rw [Addr.add_lit]; exact (row1 (one_alloc wx (.cells #[.int .u8 (((⟨#[10, 13, 9, 8, 7]⟩ : ByteArray)[3]'(by decide)).toNat : Int)] 5))).1
                      go_wp2_with (at_builtin; go_must (refine wpList_append_own _ rfl _ _ 43 rfl w.heap.size 5 i5 (.int .u8 0) 1 1 Tryd.underlying43 hi5 hz5 hz6 hz7 rfl (by decide) (.slice PB la kb) la (bcells acc) rfl HO2.out ⟨wx.heap.size, 0, none⟩ 1 1 [.int .u8 (((⟨#[10, 13, 9, 8, 7]⟩ : ByteArray)[3]'(by decide)).toNat : Int)] rfl rfl HNC.out ?t231 ?t232 ?t233 ?t234 ?_))
                      case t231 => first | (intro u hu; simp at hu; subst hu; rfl) | rfl
                      case t232 => unfold maxLen; omega
                      case t233 => omega
                      case t234 => have := HB.out.size; simp; omega
                      intro v9 w9 ho9 hg9 hn9
                      obtain ⟨P9, k9, hf9⟩ := own_form ho9
                      subst hf9
                      have HO9 : Hid (w9.ownsRow w.heap.size 5 1 (.slice P9 (la + 1) k9) (la + 1) (bcells (acc ++ [SP.es s[j1]]))) := by show World.ownsRow _ _ _ _ _ _ _; rw [bcells_snoc, HE.out]; exact ho9
                      have HB9 : Hid (Below w.heap.size w w9) := (HB.out.alloc HB.out.size _).grown hg9 (by have := HB.out.size; simp; omega) (fun b hb => own_block HO2.out b hb)
                      clear ho9 hg9 hn9
                      go_wp2
                      refine ⟨⟨j2, acc ++ [SP.es s[j1]], P9, k9, ⟨by omega, by omega, by rw [List.length_append, HLA.out]; simp; omega⟩, rfl, by rw [List.length_append, HLA.out]; rfl, ?_, HB9.out, ?_⟩, by simp [intOf]; omega⟩
                      · rw [List.length_append, HLA.out]; exact HO9.out
                      · rw [HQ.out, HT.out]
                    · have e9 : ((((⟨#[110, 114, 116, 98, 97]⟩ : ByteArray)[3]'(by decide)).toNat : Int) == (n1 : Int)) = false := by show (((98 : Nat) : Int) == (n1 : Int)) = false; simp; omega
                      have HNO : Hid (NoFor 4 n1) := by show NoFor _ _; unfold NoFor at hno ⊢; omega
                      clear hno hm
                      go_wp2
                      exact ⟨⟨4, ⟨by omega, HNO.out⟩, rfl, rfl, by first | trivial | rfl⟩, by simp [intOf]⟩
                  · by_cases hm : n1 = 97
                    · have HE : Hid ((SP.es s[j1]).toNat = ((⟨#[10, 13, 9, 8, 7]⟩ : ByteArray)[4]'(by decide)).toNat) := es_at (n := 97) (by rw [HN1.out, hm]) (by rfl)
                      have e9 : ((((⟨#[110, 114, 116, 98, 97]⟩ : ByteArray)[4]'(by decide)).toNat : Int) == (n1 : Int)) = true := by rw [hm]; rfl
                      clear hno hm
                      have HO2 : Hid ((wx.alloc (.cells #[.int .u8 (((⟨#[10, 13, 9, 8, 7]⟩ : ByteArray)[4]'(by decide)).toNat : Int)] 5)).ownsRow w.heap.size 5 1 (.slice PB la kb) la (bcells acc)) := own_on HO.out ((Below.refl _ _).alloc (Nat.le_refl _) _)
                      have HNC : Hid (∀ a u, [Value.int .u8 (((⟨#[10, 13, 9, 8, 7]⟩ : ByteArray)[4]'(by decide)).toNat : Int)][a]? = some u → (wx.alloc (.cells #[.int .u8 (((⟨#[10, 13, 9, 8, 7]⟩ : ByteArray)[4]'(by decide)).toNat : Int)] 5)).cell? ((⟨wx.heap.size, 0, none⟩ : Addr).add a) = some u) := fun a u ha => by
                        match a, ha with
                        | 0, ha => simp at ha; subst ha; rw [Addr.add_lit]; exact (row1 (one_alloc wx (.cells #[.int .u8 (((⟨#[10, 13, 9, 8, 7]⟩ : ByteArray)[4]'(by decide)).toNat : Int)] 5))).1
                      go_wp2_with (at_builtin; go_must (refine wpList_append_own _ rfl _ _ 43 rfl w.heap.size 5 i5 (.int .u8 0) 1 1 Tryd.underlying43 hi5 hz5 hz6 hz7 rfl (by decide) (.slice PB la kb) la (bcells acc) rfl HO2.out ⟨wx.heap.size, 0, none⟩ 1 1 [.int .u8 (((⟨#[10, 13, 9, 8, 7]⟩ : ByteArray)[4]'(by decide)).toNat : Int)] rfl rfl HNC.out ?t241 ?t242 ?t243 ?t244 ?_))
                      case t241 => first | (intro u hu; simp at hu; subst hu; rfl) | rfl
                      case t242 => unfold maxLen; omega
                      case t243 => omega
                      case t244 => have := HB.out.size; simp; omega
                      intro v9 w9 ho9 hg9 hn9
                      obtain ⟨P9, k9, hf9⟩ := own_form ho9
                      subst hf9
                      have HO9 : Hid (w9.ownsRow w.heap.size 5 1 (.slice P9 (la + 1) k9) (la + 1) (bcells (acc ++ [SP.es s[j1]]))) := by show World.ownsRow _ _ _ _ _ _ _; rw [bcells_snoc, HE.out]; exact ho9
                      have HB9 : Hid (Below w.heap.size w w9) := (HB.out.alloc HB.out.size _).grown hg9 (by have := HB.out.size; simp; omega) (fun b hb => own_block HO2.out b hb)
                      clear ho9 hg9 hn9
                      go_wp2
                      refine ⟨⟨j2, acc ++ [SP.es s[j1]], P9, k9, ⟨by omega, by omega, by rw [List.length_append, HLA.out]; simp; omega⟩, rfl, by rw [List.length_append, HLA.out]; rfl, ?_, HB9.out, ?_⟩, by simp [intOf]; omega⟩
                      · rw [List.length_append, HLA.out]; exact HO9.out
                      · rw [HQ.out, HT.out]
                    · have e9 : ((((⟨#[110, 114, 116, 98, 97]⟩ : ByteArray)[4]'(by decide)).toNat : Int) == (n1 : Int)) = false := by show (((97 : Nat) : Int) == (n1 : Int)) = false; simp; omega
                      have HNO : Hid (NoFor 5 n1) := by show NoFor _ _; unfold NoFor at hno ⊢; omega
                      clear hno hm
                      go_wp2
                      exact ⟨⟨5, ⟨by omega, HNO.out⟩, rfl, rfl, by first | trivial | rfl⟩, by simp [intOf]⟩
                  · have HE : Hid ((SP.es s[j1]).toNat = n1) := by show _ = _; rw [← HN1.out]; exact es_not (by rw [HN1.out]; exact hno)
                    clear hno
                    have HO2 : Hid ((wx.alloc (.cells #[.int .u8 (n1 : Int)] 5)).ownsRow w.heap.size 5 1 (.slice PB la kb) la (bcells acc)) := own_on HO.out ((Below.refl _ _).alloc (Nat.le_refl _) _)
                    have HNC : Hid (∀ a u, [Value.int .u8 (n1 : Int)][a]? = some u → (wx.alloc (.cells #[.int .u8 (n1 : Int)] 5)).cell? ((⟨wx.heap.size, 0, none⟩ : Addr).add a) = some u) := fun a u ha => by
                      match a, ha with
                      | 0, ha => simp at ha; subst ha; rw [Addr.add_lit]; exact (row1 (one_alloc wx (.cells #[.int .u8 (n1 : Int)] 5))).1
                    go_wp2_with (at_builtin; go_must (refine wpList_append_own _ rfl _ _ 43 rfl w.heap.size 5 i5 (.int .u8 0) 1 1 Tryd.underlying43 hi5 hz5 hz6 hz7 rfl (by decide) (.slice PB la kb) la (bcells acc) rfl HO2.out ⟨wx.heap.size, 0, none⟩ 1 1 [.int .u8 (n1 : Int)] rfl rfl HNC.out ?t2z1 ?t2z2 ?t2z3 ?t2z4 ?_))
                    case t2z1 => first | (intro u hu; simp at hu; subst hu; rfl) | rfl
                    case t2z2 => unfold maxLen; omega
                    case t2z3 => omega
                    case t2z4 => have := HB.out.size; simp; omega
                    intro v9 w9 ho9 hg9 hn9
                    obtain ⟨P9, k9, hf9⟩ := own_form ho9
                    subst hf9
                    have HO9 : Hid (w9.ownsRow w.heap.size 5 1 (.slice P9 (la + 1) k9) (la + 1) (bcells (acc ++ [SP.es s[j1]]))) := by show World.ownsRow _ _ _ _ _ _ _; rw [bcells_snoc, HE.out]; exact ho9
                    have HB9 : Hid (Below w.heap.size w w9) := (HB.out.alloc HB.out.size _).grown hg9 (by have := HB.out.size; simp; omega) (fun b hb => own_block HO2.out b hb)
                    clear ho9 hg9 hn9
                    go_wp2
                    refine ⟨⟨j2, acc ++ [SP.es s[j1]], P9, k9, ⟨by omega, by omega, by rw [List.length_append, HLA.out]; simp; omega⟩, rfl, by rw [List.length_append, HLA.out]; rfl, ?_, HB9.out, ?_⟩, by simp [intOf]; omega⟩
                    · rw [List.length_append, HLA.out]; exact HO9.out
                    · rw [HQ.out, HT.out]
              · have hz6a : (j2 : Int) < (s.size : Int) := by omega
                go_wp2_with fail
                refine (show Calls _ _ _ _ _ from HDG.out _ _).mono ?_
                rintro e wx ⟨rfl, rfl⟩
                go_upto_region 9 with fail
                go_wp2
                go_loopw [10, 7] (fun ck c7 wr => ∃ k : Nat, (k ≤ 5 ∧ NoFor k s[j1].toNat) ∧ ck = .int .i64 (k : Int) ∧ c7 = .int .u8 (s[j1].toNat : Int) ∧ wr = wx) (fun ck _ _ => 5 - (intOf ck).toNat)
                case atStart => exact ⟨0, ⟨by omega, by unfold NoFor; omega⟩, rfl, rfl, rfl⟩
                case round =>
                  obtain ⟨k, ⟨hk, hno⟩, rfl, rfl, hwr⟩ := hrel
                  obtain ⟨n1, hn1⟩ : ∃ n1, s[j1].toNat = n1 := ⟨_, rfl⟩
                  have HN1 : Hid (s[j1].toNat = n1) := hn1
                  rw [hwr]; clear hwr; rw [hn1] at hno ⊢; clear hn1
                  have h5 : k = 0 ∨ k = 1 ∨ k = 2 ∨ k = 3 ∨ k = 4 ∨ k = 5 := by omega
                  rcases h5 with rfl | rfl | rfl | rfl | rfl | rfl
                  · by_cases hm : n1 = 110
                    · have HE : Hid ((SP.es s[j1]).toNat = ((⟨#[10, 13, 9, 8, 7]⟩ : ByteArray)[0]'(by decide)).toNat) := es_at (n := 110) (by rw [HN1.out, hm]) (by rfl)
                      have e9 : ((((⟨#[110, 114, 116, 98, 97]⟩ : ByteArray)[0]'(by decide)).toNat : Int) == (n1 : Int)) = true := by rw [hm]; rfl
                      clear hno hm
                      have HO2 : Hid ((wx.alloc (.cells #[.int .u8 (((⟨#[10, 13, 9, 8, 7]⟩ : ByteArray)[0]'(by decide)).toNat : Int)] 5)).ownsRow w.heap.size 5 1 (.slice PB la kb) la (bcells acc)) := own_on HO.out ((Below.refl _ _).alloc (Nat.le_refl _) _)
                      have HNC : Hid (∀ a u, [Value.int .u8 (((⟨#[10, 13, 9, 8, 7]⟩ : ByteArray)[0]'(by decide)).toNat : Int)][a]? = some u → (wx.alloc (.cells #[.int .u8 (((⟨#[10, 13, 9, 8, 7]⟩ : ByteArray)[0]'(by decide)).toNat : Int)] 5)).cell? ((⟨wx.heap.size, 0, none⟩ : Addr).add a) = some u) := fun a u ha => by
                        match a, ha with
                        | 0, ha => simp at ha; subst ha; rw [Addr.add_lit]; exact (row1 (one_alloc wx (.cells #[.int .u8 (((⟨#[10, 13, 9, 8, 7]⟩ : ByteArray)[0]'(by decide)).toNat : Int)] 5))).1
                      go_wp2_with (at_builtin; go_must (refine wpList_append_own _ rfl _ _ 43 rfl w.heap.size 5 i5 (.int .u8 0) 1 1 Tryd.underlying43 hi5 hz5 hz6 hz7 rfl (by decide) (.slice PB la kb) la (bcells acc) rfl HO2.out ⟨wx.heap.size, 0, none⟩ 1 1 [.int .u8 (((⟨#[10, 13, 9, 8, 7]⟩ : ByteArray)[0]'(by decide)).toNat : Int)] rfl rfl HNC.out ?t301 ?t302 ?t303 ?t304 ?_))
                      case t301 => first | (intro u hu; simp at hu; subst hu; rfl) | rfl
                      case t302 => unfold maxLen; omega
                      case t303 => omega
                      case t304 => have := HB.out.size; simp; omega
                      intro v9 w9 ho9 hg9 hn9
                      obtain ⟨P9, k9, hf9⟩ := own_form ho9
                      subst hf9
                      have HO9 : Hid (w9.ownsRow w.heap.size 5 1 (.slice P9 (la + 1) k9) (la + 1) (bcells (acc ++ [SP.es s[j1]]))) := by show World.ownsRow _ _ _ _ _ _ _; rw [bcells_snoc, HE.out]; exact ho9
                      have HB9 : Hid (Below w.heap.size w w9) := (HB.out.alloc HB.out.size _).grown hg9 (by have := HB.out.size; simp; omega) (fun b hb => own_block HO2.out b hb)
                      clear ho9 hg9 hn9
                      go_wp2
                      refine ⟨⟨j2, acc ++ [SP.es s[j1]], P9, k9, ⟨by omega, by omega, by rw [List.length_append, HLA.out]; simp; omega⟩, rfl, by rw [List.length_append, HLA.out]; rfl, ?_, HB9.out, ?_⟩, by simp [intOf]; omega⟩
                      · rw [List.length_append, HLA.out]; exact HO9.out
                      · rw [HQ.out, HT.out]
                    · have e9 : ((((⟨#[110, 114, 116, 98, 97]⟩ : ByteArray)[0]'(by decide)).toNat : Int) == (n1 : Int)) = false := by show (((110 : Nat) : Int) == (n1 : Int)) = false; simp; omega
                      have HNO : Hid (NoFor 1 n1) := by show NoFor _ _; unfold NoFor at hno ⊢; omega
                      clear hno hm
                      go_wp2
                      exact ⟨⟨1, ⟨by omega, HNO.out⟩, rfl, rfl, by first | trivial | rfl⟩, by simp [intOf]⟩
                  · by_cases hm : n1 = 114
                    · have HE : Hid ((SP.es s[j1]).toNat = ((⟨#[10, 13, 9, 8, 7]⟩ : ByteArray)[1]'(by decide)).toNat) := es_at (n := 114) (by rw [HN1.out, hm]) (by rfl)
                      have e9 : ((((⟨#[110, 114, 116, 98, 97]⟩ : ByteArray)[1]'(by decide)).toNat : Int) == (n1 : Int)) = true := by rw [hm]; rfl
                      clear hno hm
                      have HO2 : Hid ((wx.alloc (.cells #[.int .u8 (((⟨#[10, 13, 9, 8, 7]⟩ : ByteArray)[1]'(by decide)).toNat : Int)] 5)).ownsRow w.heap.size 5 1 (.slice PB la kb) la (bcells acc)) := own_on HO.out ((Below.refl _ _).alloc (Nat.le_refl _) _)
                      have HNC : Hid (∀ a u, [Value.int .u8 (((⟨#[10, 13, 9, 8, 7]⟩ : ByteArray)[1]'(by decide)).toNat : Int)][a]? = some u → (wx.alloc (.cells #[.int .u8 (((⟨#[10, 13, 9, 8, 7]⟩ : ByteArray)[1]'(by decide)).toNat : Int)] 5)).cell? ((⟨wx.heap.size, 0, none⟩ : Addr).add a) = some u) := fun a u ha => by
                        match a, ha with
                        | 0, ha => simp at ha; subst ha; rw [Addr.add_lit]; exact (row1 (one_alloc wx (.cells #[.int .u8 (((⟨#[10, 13, 9, 8, 7]⟩ : ByteArray)[1]'(by decide)).toNat : Int)] 5))).1
                      go_wp2_with (at_builtin; go_must (refine wpList_append_own _ rfl _ _ 43 rfl w.heap.size 5 i5 (.int .u8 0) 1 1 Tryd.underlying43 hi5 hz5 hz6 hz7 rfl (by decide) (.slice PB la kb) la (bcells acc) rfl HO2.out ⟨wx.heap.size, 0, none⟩ 1 1 [.int .u8 (((⟨#[10, 13, 9, 8, 7]⟩ : ByteArray)[1]'(by decide)).toNat : Int)] rfl rfl HNC.out ?t311 ?t312 ?t313 ?t314 ?_))
                      case t311 => first | (intro u hu; simp at hu; subst hu; rfl) | rfl
                      case t312 => unfold maxLen; omega
                      case t313 => omega
                      case t314 => have := HB.out.size; simp; omega
                      intro v9 w9 ho9 hg9 hn9
                      obtain ⟨P9, k9, hf9⟩ := own_form ho9
                      subst hf9
                      have HO9 : Hid (w9.ownsRow w.heap.size 5 1 (.slice P9 (la + 1) k9) (la + 1) (bcells (acc ++ [SP.es s[j1]]))) := by show World.ownsRow _ _ _ _ _ _ _; rw [bcells_snoc, HE.out]; exact ho9
                      have HB9 : Hid (Below w.heap.size w w9) := (HB.out.alloc HB.out.size _).grown hg9 (by have := HB.out.size; simp; omega) (fun b hb => own_block HO2.out b hb)
                      clear ho9 hg9 hn9
                      go_wp2
                      refine ⟨⟨j2, acc ++ [SP.es s[j1]], P9, k9, ⟨by omega, by omega, by rw [List.length_append, HLA.out]; simp; omega⟩, rfl, by rw [List.length_append, HLA.out]; rfl, ?_, HB9.out, ?_⟩, by simp [intOf]; omega⟩
                      · rw [List.length_append, HLA.out]; exact HO9.out
                      · rw [HQ.out, HT.out]
                    · have e9 : ((((⟨#[110, 114, 116, 98, 97]⟩ : ByteArray)[1]'(by decide)).toNat : Int) == (n1 : Int)) = false := by show (((114 : Nat) : Int) == (n1 : Int)) = false; simp; omega
                      have HNO : Hid (NoFor 2 n1) := by show NoFor _ _; unfold NoFor at hno ⊢; omega
                      clear hno hm
                      go_wp2
                      exact ⟨⟨2, ⟨by omega, HNO.out⟩, rfl, rfl, by first | trivial | rfl⟩, by simp [intOf]⟩
                  · by_cases hm : n1 = 116
                    · have HE : Hid ((SP.es s[j1]).toNat = ((⟨#[10, 13, 9, 8, 7]⟩ : ByteArray)[2]'(by decide)).toNat) := es_at (n := 116) (by rw [HN1.out, hm]) (by rfl)
                      have e9 : ((((⟨#[110, 114, 116, 98, 97]⟩ : ByteArray)[2]'(by decide)).toNat : Int) == (n1 : Int)) = true := by rw [hm]; rfl
                      clear hno hm
                      have HO2 : Hid ((wx.alloc (.cells #[.int .u8 (((⟨#[10, 13, 9, 8, 7]⟩ : ByteArray)[2]'(by decide)).toNat : Int)] 5)).ownsRow w.heap.size 5 1 (.slice PB la kb) la (bcells acc)) := own_on HO.out ((Below.refl _ _).alloc (Nat.le_refl _) _)
                      have HNC : Hid (∀ a u, [Value.int .u8 (((⟨#[10, 13, 9, 8, 7]⟩ : ByteArray)[2]'(by decide)).toNat : Int)][a]? = some u → (wx.alloc (.cells #[.int .u8 (((⟨#[10, 13, 9, 8, 7]⟩ : ByteArray)[2]'(by decide)).toNat : Int)] 5)).cell? ((⟨wx.heap.size, 0, none⟩ : Addr).add a) = some u) := fun a u ha => by
                        match a, ha with
                        | 0, ha => simp at ha; subst ha; rw [Addr.add_lit]; exact (row1 (one_alloc wx (.cells #[.int .u8 (((⟨#[10, 13, 9, 8, 7]⟩ : ByteArray)[2]'(by decide)).toNat : Int)] 5))).1
                      go_wp2_with (at_builtin; go_must (refine wpList_append_own _ rfl _ _ 43 rfl w.heap.size 5 i5 (.int .u8 0) 1 1 Tryd.underlying43 hi5 hz5 hz6 hz7 rfl (by decide) (.slice PB la kb) la (bcells acc) rfl HO2.out ⟨wx.heap.size, 0, none⟩ 1 1 [.int .u8 (((⟨#[10, 13, 9, 8, 7]⟩ : ByteArray)[2]'(by decide)).toNat : Int)] rfl rfl HNC.out ?t321 ?t322 ?t323 ?t324 ?_))
                      case t321 => first | (intro u hu; simp at hu; subst hu; rfl) | rfl
                      case t322 => unfold maxLen; omega
                      case t323 => omega
                      case t324 => have := HB.out.size; simp; omega
                      intro v9 w9 ho9 hg9 hn9
                      obtain ⟨P9, k9, hf9⟩ := own_form ho9
                      subst hf9
                      have HO9 : Hid (w9.ownsRow w.heap.size 5 1 (.slice P9 (la + 1) k9) (la + 1) (bcells (acc ++ [SP.es s[j1]]))) := by show World.ownsRow _ _ _ _ _ _ _; rw [bcells_snoc, HE.out]; exact ho9
                      have HB9 : Hid (Below w.heap.size w w9) := (HB.out.alloc HB.out.size _).grown hg9 (by have := HB.out.size; simp; omega) (fun b hb => own_block HO2.out b hb)
                      clear ho9 hg9 hn9
                      go_wp2
                      refine ⟨⟨j2, acc ++ [SP.es s[j1]], P9, k9, ⟨by omega, by omega, by rw [List.length_append, HLA.out]; simp; omega⟩, rfl, by rw [List.length_append, HLA.out]; rfl, ?_, HB9.out, ?_⟩, by simp [intOf]; omega⟩
                      · rw [List.length_append, HLA.out]; exact HO9.out
                      · rw [HQ.out, HT.out]
                    · have e9 : ((((⟨#[110, 114, 116, 98, 97]⟩ : ByteArray)[2]'(by decide)).toNat : Int) == (n1 : Int)) = false := by show (((116 : Nat) : Int) == (n1 : Int)) = false; simp; omega
                      have HNO : Hid (NoFor 3 n1) := by show NoFor _ _; unfold NoFor at hno ⊢; omega
                      clear hno hm
                      go_wp2
                      exact ⟨⟨3, ⟨by omega, HNO.out⟩, rfl, rfl, by first | trivial | rfl⟩, by simp [intOf]⟩
                  · by_cases hm : n1 = 98
                    · have HE : Hid ((SP.es s[j1]).toNat = ((⟨#[10, 13, 9, 8, 7]⟩ : ByteArray)[3]'(by decide)).toNat) := es_at (n := 98) (by rw [HN1.out, hm]) (by rfl)
                      have e9 : ((((⟨#[110, 114, 116, 98, 97]⟩ : ByteArray)[3]'(by decide)).toNat : Int) == (n1 : Int)) = true := by rw [hm]; rfl
                      clear hno hm
                      have HO2 : Hid ((wx.alloc (.cells #[.int .u8 (((⟨#[10, 13, 9, 8, 7]⟩ : ByteArray)[3]'(by decide)).toNat : Int)] 5)).ownsRow w.heap.size 5 1 (.slice PB la kb) la (bcells acc)) := own_on HO.out ((Below.refl _ _).alloc (Nat.le_refl _) _)
                      have HNC : Hid (∀ a u, [Value.int .u8 (((⟨#[10, 13, 9, 8, 7]⟩ : ByteArray)[3]'(by decide)).toNat : Int)][a]? = some u → (wx.alloc (.cells #[.int .u8 (((⟨#[10, 13, 9, 8, 7]⟩ : ByteArray)[3]'(by decide)).toNat : Int)] 5)).cell? ((⟨wx.heap.size, 0, none⟩ : Addr).add a) = some u) := fun a u ha => by
                        match a, ha with
                        | 0, ha => simp at ha; subst ha; rw [Addr.add_lit]; exact (row1 (one_alloc wx (.cells #[.int .u8 (((⟨#[10, 13, 9, 8, 7]⟩ : ByteArray)[3]'(by decide)).toNat : Int)] 5))).1
                      go_wp2_with (at_builtin; go_must (refine wpList_append_own _ rfl _ _ 43 rfl w.heap.size 5 i5 (.int .u8 0) 1 1 Tryd.underlying43 hi5 hz5 hz6 hz7 rfl (by decide) (.slice PB la kb) la (bcells acc) rfl HO2.out ⟨wx.heap.size, 0, none⟩ 1 1 [.int .u8 (((⟨#[10, 13, 9, 8, 7]⟩ : ByteArray)[3]'(by decide)).toNat : Int)] rfl rfl HNC.out ?t331 ?t332 ?t333 ?t334 ?_))
                      case t331 => first | (intro u hu; simp at hu; subst hu; rfl) | rfl
                      case t332 => unfold maxLen; omega
                      case t333 => omega
                      case t334 => have := HB.out.size; simp; omega
                      intro v9 w9 ho9 hg9 hn9
                      obtain ⟨P9, k9, hf9⟩ := own_form ho9
                      subst hf9
                      have HO9 : Hid (w9.ownsRow w.heap.size 5 1 (.slice P9 (la + 1) k9) (la + 1) (bcells (acc ++ [SP.es s[j1]]))) := by show World.ownsRow _ _ _ _ _ _ _; rw [bcells_snoc, HE.out]; exact ho9
                      have HB9 : Hid (Below w.heap.size w w9) := (HB.out.alloc HB.out.size _).grown hg9 (by have := HB.out.size; simp; omega) (fun b hb => own_block HO2.out b hb)
                      clear ho9 hg9 hn9
                      go_wp2
                      refine ⟨⟨j2, acc ++ [SP.es s[j1]], P9, k9, ⟨by omega, by omega, by rw [List.length_append, HLA.out]; simp; omega⟩, rfl, by rw [List.length_append, HLA.out]; rfl, ?_, HB9.out, ?_⟩, by simp [intOf]; omega⟩
                      · rw [List.length_append, HLA.out]; exact HO9.out
                      · rw [HQ.out, HT.out]
                    · have e9 : ((((⟨#[110, 114, 116, 98, 97]⟩ : ByteArray)[3]'(by decide)).toNat : Int) == (n1 : Int)) = false := by show (((98 : Nat) : Int) == (n1 : Int)) = false; simp; omega
                      have HNO : Hid (NoFor 4 n1) := by show NoFor _ _; unfold NoFor at hno ⊢; omega
                      clear hno hm
                      go_wp2
                      exact ⟨⟨4, ⟨by omega, HNO.out⟩, rfl, rfl, by first | trivial | rfl⟩, by simp [intOf]⟩
                  · by_cases hm : n1 = 97
                    · have HE : Hid ((SP.es s[j1]).toNat = ((⟨#[10, 13, 9, 8, 7]⟩ : ByteArray)[4]'(by decide)).toNat) := es_at (n := 97) (by rw [HN1.out, hm]) (by rfl)
                      have e9 : ((((⟨#[110, 114, 116, 98, 97]⟩ : ByteArray)[4]'(by decide)).toNat : Int) == (n1 : Int)) = true := by rw [hm]; rfl
                      clear hno hm
                      have HO2 : Hid ((wx.alloc (.cells #[.int .u8 (((⟨#[10, 13, 9, 8, 7]⟩ : ByteArray)[4]'(by decide)).toNat : Int)] 5)).ownsRow w.heap.size 5 1 (.slice PB la kb) la (bcells acc)) := own_on HO.out ((Below.refl _ _).alloc (Nat.le_refl _) _)
                      have HNC : Hid (∀ a u, [Value.int .u8 (((⟨#[10, 13, 9, 8, 7]⟩ : ByteArray)[4]'(by decide)).toNat : Int)][a]? = some u → (wx.alloc (.cells #[.int .u8 (((⟨#[10, 13, 9, 8, 7]⟩ : ByteArray)[4]'(by decide)).toNat : Int)] 5)).cell? ((⟨wx.heap.size, 0, none⟩ : Addr).add a) = some u) := fun a u ha => by
                        match a, ha with
                        | 0, ha => simp at ha; subst ha; rw [Addr.add_lit]; exact (row1 (one_alloc wx (.cells #[.int .u8 (((⟨#[10, 13, 9, 8, 7]⟩ : ByteArray)[4]'(by decide)).toNat : Int)] 5))).1
                      go_wp2_with (at_builtin; go_must (refine wpList_append_own _ rfl _ _ 43 rfl w.heap.size 5 i5 (.int .u8 0) 1 1 Tryd.underlying43 hi5 hz5 hz6 hz7 rfl (by decide) (.slice PB la kb) la (bcells acc) rfl HO2.out ⟨wx.heap.size, 0, none⟩ 1 1 [.int .u8 (((⟨#[10, 13, 9, 8, 7]⟩ : ByteArray)[4]'(by decide)).toNat : Int)] rfl rfl HNC.out ?t341 ?t342 ?t343 ?t344 ?_))
                      case t341 => first | (intro u hu; simp at hu; subst hu; rfl) | rfl
                      case t342 => unfold maxLen; omega
                      case t343 => omega
                      case t344 => have := HB.out.size; simp; omega
                      intro v9 w9 ho9 hg9 hn9
                      obtain ⟨P9, k9, hf9⟩ := own_form ho9
                      subst hf9
                      have HO9 : Hid (w9.ownsRow w.heap.size 5 1 (.slice P9 (la + 1) k9) (la + 1) (bcells (acc ++ [SP.es s[j1]]))) := by show World.ownsRow _ _ _ _ _ _ _; rw [bcells_snoc, HE.out]; exact ho9
                      have HB9 : Hid (Below w.heap.size w w9) := (HB.out.alloc HB.out.size _).grown hg9 (by have := HB.out.size; simp; omega) (fun b hb => own_block HO2.out b hb)
                      clear ho9 hg9 hn9
                      go_wp2
                      refine ⟨⟨j2, acc ++ [SP.es s[j1]], P9, k9, ⟨by omega, by omega, by rw [List.length_append, HLA.out]; simp; omega⟩, rfl, by rw [List.length_append, HLA.out]; rfl, ?_, HB9.out, ?_⟩, by simp [intOf]; omega⟩
                      · rw [List.length_append, HLA.out]; exact HO9.out
                      · rw [HQ.out, HT.out]
                    · have e9 : ((((⟨#[110, 114, 116, 98, 97]⟩ : ByteArray)[4]'(by decide)).toNat : Int) == (n1 : Int)) = false := by show (((97 : Nat) : Int) == (n1 : Int)) = false; simp; omega
                      have HNO : Hid (NoFor 5 n1) := by show NoFor _ _; unfold NoFor at hno ⊢; omega
                      clear hno hm
                      go_wp2
                      exact ⟨⟨5, ⟨by omega, HNO.out⟩, rfl, rfl, by first | trivial | rfl⟩, by simp [intOf]⟩
                  · have HE : Hid ((SP.es s[j1]).toNat = n1) := by show _ = _; rw [← HN1.out]; exact es_not (by rw [HN1.out]; exact hno)
                    clear hno
                    have HO2 : Hid ((wx.alloc (.cells #[.int .u8 (n1 : Int)] 5)).ownsRow w.heap.size 5 1 (.slice PB la kb) la (bcells acc)) := own_on HO.out ((Below.refl _ _).alloc (Nat.le_refl _) _)
                    have HNC : Hid (∀ a u, [Value.int .u8 (n1 : Int)][a]? = some u → (wx.alloc (.cells #[.int .u8 (n1 : Int)] 5)).cell? ((⟨wx.heap.size, 0, none⟩ : Addr).add a) = some u) := fun a u ha => by
                      match a, ha with
                      | 0, ha => simp at ha; subst ha; rw [Addr.add_lit]; exact (row1 (one_alloc wx (.cells #[.int .u8 (n1 : Int)] 5))).1
                    go_wp2_with (at_builtin; go_must (refine wpList_append_own _ rfl _ _ 43 rfl w.heap.size 5 i5 (.int .u8 0) 1 1 Tryd.underlying43 hi5 hz5 hz6 hz7 rfl (by decide) (.slice PB la kb) la (bcells acc) rfl HO2.out ⟨wx.heap.size, 0, none⟩ 1 1 [.int .u8 (n1 : Int)] rfl rfl HNC.out ?t3z1 ?t3z2 ?t3z3 ?t3z4 ?_))
                    case t3z1 => first | (intro u hu; simp at hu; subst hu; rfl) | rfl
                    case t3z2 => unfold maxLen; omega
                    case t3z3 => omega
                    case t3z4 => have := HB.out.size; simp; omega
                    intro v9 w9 ho9 hg9 hn9
                    obtain ⟨P9, k9, hf9⟩ := own_form ho9
                    subst hf9
                    have HO9 : Hid (w9.ownsRow w.heap.size 5 1 (.slice P9 (la + 1) k9) (la + 1) (bcells (acc ++ [SP.es s[j1]]))) := by show World.ownsRow _ _ _ _ _ _ _; rw [bcells_snoc, HE.out]; exact ho9
                    have HB9 : Hid (Below w.heap.size w w9) := (HB.out.alloc HB.out.size _).grown hg9 (by have := HB.out.size; simp; omega) (fun b hb => own_block HO2.out b hb)
                    clear ho9 hg9 hn9
                    go_wp2
                    refine ⟨⟨j2, acc ++ [SP.es s[j1]], P9, k9, ⟨by omega, by omega, by rw [List.length_append, HLA.out]; simp; omega⟩, rfl, by rw [List.length_append, HLA.out]; rfl, ?_, HB9.out, ?_⟩, by simp [intOf]; omega⟩
                    · rw [List.length_append, HLA.out]; exact HO9.out
                    · rw [HQ.out, HT.out]
              · have hz6a : (j2 : Int) < (s.size : Int) := by omega
                have hgx : (x : Int) ≥ 0 := by omega
                go_wp2_with fail
                refine (show Calls _ _ _ _ _ from HDG.out _ _).mono ?_
                rintro e wx ⟨rfl, rfl⟩
                go_wp2_with fail
                refine (show Calls _ _ _ _ _ from HDG.out _ _).mono ?_
                rintro e wx ⟨rfl, rfl⟩
                go_upto_region 9 with fail
                go_wp2
                go_loopw [10, 7] (fun ck c7 wr => ∃ k : Nat, (k ≤ 5 ∧ NoFor k s[j1].toNat) ∧ ck = .int .i64 (k : Int) ∧ c7 = .int .u8 (s[j1].toNat : Int) ∧ wr = wx) (fun ck _ _ => 5 - (intOf ck).toNat)
                case atStart => exact ⟨0, ⟨by omega, by unfold NoFor; omega⟩, rfl, rfl, rfl⟩
                case round =>
                  obtain ⟨k, ⟨hk, hno⟩, rfl, rfl, hwr⟩ := hrel
                  obtain ⟨n1, hn1⟩ : ∃ n1, s[j1].toNat = n1 := ⟨_, rfl⟩
                  have HN1 : Hid (s[j1].toNat = n1) := hn1
                  rw [hwr]; clear hwr; rw [hn1] at hno ⊢; clear hn1
                  have h5 : k = 0 ∨ k = 1 ∨ k = 2 ∨ k = 3 ∨ k = 4 ∨ k = 5 := by omega
                  rcases h5 with rfl | rfl | rfl | rfl | rfl | rfl
                  · by_cases hm : n1 = 110
                    · have HE : Hid ((SP.es s[j1]).toNat = ((⟨#[10, 13, 9, 8, 7]⟩ : ByteArray)[0]'(by decide)).toNat) := es_at (n := 110) (by rw [HN1.out, hm]) (by rfl)
                      have e9 : ((((⟨#[110, 114, 116, 98, 97]⟩ : ByteArray)[0]'(by decide)).toNat : Int) == (n1 : Int)) = true := by rw [hm]; rfl
                      clear hno hm
                      have HO2 : Hid ((wx.alloc (.cells #[.int .u8 (((⟨#[10, 13, 9, 8, 7]⟩ : ByteArray)[0]'(by decide)).toNat : Int)] 5)).ownsRow w.heap.size 5 1 (.slice PB la kb) la (bcells acc)) := own_on HO.out ((Below.refl _ _).alloc (Nat.le_refl _) _)
                      have HNC : Hid (∀ a u, [Value.int .u8 (((⟨#[10, 13, 9, 8, 7]⟩ : ByteArray)[0]'(by decide)).toNat : Int)][a]? = some u → (wx.alloc (.cells #[.int .u8 (((⟨#[10, 13, 9, 8, 7]⟩ : ByteArray)[0]'(by decide)).toNat : Int)] 5)).cell? ((⟨wx.heap.size, 0, none⟩ : Addr).add a) = some u) := fun a u ha => by
                        match a, ha with
                        | 0, ha => simp at ha; subst ha; rw [Addr.add_lit]; exact (row1 (one_alloc wx (.cells #[.int .u8 (((⟨#[10, 13, 9, 8, 7]⟩ : ByteArray)[0]'(by decide)).toNat : Int)] 5))).1
                      go_wp2_with (at_builtin; go_must (refine wpList_append_own _ rfl _ _ 43 rfl w.heap.size 5 i5 (.int .u8 0) 1 1 Tryd.underlying43 hi5 hz5 hz6 hz7 rfl (by decide) (.slice PB la kb) la (bcells acc) rfl HO2.out ⟨wx.heap.size, 0, none⟩ 1 1 [.int .u8 (((⟨#[10, 13, 9, 8, 7]⟩ : ByteArray)[0]'(by decide)).toNat : Int)] rfl rfl HNC.out ?t401 ?t402 ?t403 ?t404 ?_))
                      case t401 => first | (intro u hu; simp at hu; subst hu; rfl) | rfl
                      case t402 => unfold maxLen; omega
                      case t403 => omega
                      case t404 => have := HB.out.size; simp; omega
                      intro v9 w9 ho9 hg9 hn9
                      obtain ⟨P9, k9, hf9⟩ := own_form ho9
                      subst hf9
                      have HO9 : Hid (w9.ownsRow w.heap.size 5 1 (.slice P9 (la + 1) k9) (la + 1) (bcells (acc ++ [SP.es s[j1]]))) := by show World.ownsRow _ _ _ _ _ _ _; rw [bcells_snoc, HE.out]; exact ho9
                      have HB9 : Hid (Below w.heap.size w w9) := (HB.out.alloc HB.out.size _).grown hg9 (by have := HB.out.size; simp; omega) (fun b hb => own_block HO2.out b hb)
                      clear ho9 hg9 hn9
                      go_wp2
                      refine ⟨⟨j2, acc ++ [SP.es s[j1]], P9, k9, ⟨by omega, by omega, by rw [List.length_append, HLA.out]; simp; omega⟩, rfl, by rw [List.length_append, HLA.out]; rfl, ?_, HB9.out, ?_⟩, by simp [intOf]; omega⟩
                      · rw [List.length_append, HLA.out]; exact HO9.out
                      · rw [HQ.out, HT.out]
                    · have e9 : ((((⟨#[110, 114, 116, 98, 97]⟩ : ByteArray)[0]'(by decide)).toNat : Int) == (n1 : Int)) = false := by show (((110 : Nat) : Int) == (n1 : Int)) = false; simp; omega
                      have HNO : Hid (NoFor 1 n1) := by show NoFor _ _; unfold NoFor at hno ⊢; omega
                      clear hno hm
                      go_wp2
                      exact ⟨⟨1, ⟨by omega, HNO.out⟩, rfl, rfl, by first | trivial | rfl⟩, by simp [intOf]⟩
                  · by_cases hm : n1 = 114
                    · have HE : Hid ((SP.es s[j1]).toNat = ((⟨#[10, 13, 9, 8, 7]⟩ : ByteArray)[1]'(by decide)).toNat) := es_at (n := 114) (by rw [HN1.out, hm]) (by rfl)
                      have e9 : ((((⟨#[110, 114, 116, 98, 97]⟩ : ByteArray)[1]'(by decide)).toNat : Int) == (n1 : Int)) = true := by rw [hm]; rfl
                      clear hno hm
                      have HO2 : Hid ((wx.alloc (.cells #[.int .u8 (((⟨#[10, 13, 9, 8, 7]⟩ : ByteArray)[1]'(by decide)).toNat : Int)] 5)).ownsRow w.heap.size 5 1 (.slice PB la kb) la (bcells acc)) := own_on HO.out ((Below.refl _ _).alloc (Nat.le_refl _) _)
                      have HNC : Hid (∀ a u, [Value.int .u8 (((⟨#[10, 13, 9, 8, 7]⟩ : ByteArray)[1]'(by decide)).toNat : Int)][a]? = some u → (wx.alloc (.cells #[.int .u8 (((⟨#[10, 13, 9, 8, 7]⟩ : ByteArray)[1]'(by decide)).toNat : Int)] 5)).cell? ((⟨wx.heap.size, 0, none⟩ : Addr).add a) = some u) := fun a u ha => by
                        match a, ha with
                        | 0, ha => simp at ha; subst ha; rw [Addr.add_lit]; exact (row1 (one_alloc wx (.cells #[.int .u8 (((⟨#[10, 13, 9, 8, 7]⟩ : ByteArray)[1]'(by decide)).toNat : Int)] 5))).1
                      go_wp2_with (at_builtin; go_must (refine wpList_append_own _ rfl _ _ 43 rfl w.heap.size 5 i5 (.int .u8 0) 1 1 Tryd.underlying43 hi5 hz5 hz6 hz7 rfl (by decide) (.slice PB la kb) la (bcells acc) rfl HO2.out ⟨wx.heap.size, 0, none⟩ 1 1 [.int .u8 (((⟨#[10, 13, 9, 8, 7]⟩ : ByteArray)[1]'(by decide)).toNat : Int)] rfl rfl HNC.out ?t411 ?t412 ?t413 ?t414 ?_))
                      case t411 => first | (intro u hu; simp at hu; subst hu; rfl) | rfl
                      case t412 => unfold maxLen; omega
                      case t413 => omega
                      case t414 => have := HB.out.size; simp; omega
                      intro v9 w9 ho9 hg9 hn9
                      obtain ⟨P9, k9, hf9⟩ := own_form ho9
                      subst hf9
                      have HO9 : Hid (w9.ownsRow w.heap.size 5 1 (.slice P9 (la + 1) k9) (la + 1) (bcells (acc ++ [SP.es s[j1]]))) := by show World.ownsRow _ _ _ _ _ _ _; rw [bcells_snoc, HE.out]; exact ho9
                      have HB9 : Hid (Below w.heap.size w w9) := (HB.out.alloc HB.out.size _).grown hg9 (by have := HB.out.size; simp; omega) (fun b hb => own_block HO2.out b hb)
                      clear ho9 hg9 hn9
                      go_wp2
                      refine ⟨⟨j2, acc ++ [SP.es s[j1]], P9, k9, ⟨by omega, by omega, by rw [List.length_append, HLA.out]; simp; omega⟩, rfl, by rw [List.length_append, HLA.out]; rfl, ?_, HB9.out, ?_⟩, by simp [intOf]; omega⟩
                      · rw [List.length_append, HLA.out]; exact HO9.out
                      · rw [HQ.out, HT.out]
                    · have e9 : ((((⟨#[110, 114, 116, 98, 97]⟩ : ByteArray)[1]'(by decide)).toNat : Int) == (n1 : Int)) = false := by show (((114 : Nat) : Int) == (n1 : Int)) = false; simp; omega
                      have HNO : Hid (NoFor 2 n1) := by show NoFor _ _; unfold NoFor at hno ⊢; omega
                      clear hno hm
                      go_wp2
                      exact ⟨⟨2, ⟨by omega, HNO.out⟩, rfl, rfl, by first | trivial | rfl⟩, by simp [intOf]⟩
                  · by_cases hm : n1 = 116
                    · have HE : Hid ((SP.es s[j1]).toNat = ((⟨#[10, 13, 9, 8, 7]⟩ : ByteArray)[2]'(by decide)).toNat) := es_at (n := 116) (by rw [HN1.out, hm]) (by rfl)
                      have e9 : ((((⟨#[110, 114, 116, 98, 97]⟩ : ByteArray)[2]'(by decide)).toNat : Int) == (n1 : Int)) = true := by rw [hm]; rfl
                      clear hno hm
                      have HO2 : Hid ((wx.alloc (.cells #[.int .u8 (((⟨#[10, 13, 9, 8, 7]⟩ : ByteArray)[2]'(by decide)).toNat : Int)] 5)).ownsRow w.heap.size 5 1 (.slice PB la kb) la (bcells acc)) := own_on HO.out ((Below.refl _ _).alloc (Nat.le_refl _) _)
                      have HNC : Hid (∀ a u, [Value.int .u8 (((⟨#[10, 13, 9, 8, 7]⟩ : ByteArray)[2]'(by decide)).toNat : Int)][a]? = some u → (wx.alloc (.cells #[.int .u8 (((⟨#[10, 13, 9, 8, 7]⟩ : ByteArray)[2]'(by decide)).toNat : Int)] 5)).cell? ((⟨wx.heap.size, 0, none⟩ : Addr).add a) = some u) := fun a u ha => by
                        match a, ha with
                        | 0, ha => simp at ha; subst ha; rw [Addr.add_lit]; exact (row1 (one_alloc wx (.cells #[.int .u8 (((⟨#[10, 13, 9, 8, 7]⟩ : ByteArray)[2]'(by decide)).toNat : Int)] 5))).1
                      go_wp2_with (at_builtin; go_must (refine wpList_append_own _ rfl _ _ 43 rfl w.heap.size 5 i5 (.int .u8 0) 1 1 Tryd.underlying43 hi5 hz5 hz6 hz7 rfl (by decide) (.slice PB la kb) la (bcells acc) rfl HO2.out ⟨wx.heap.size, 0, none⟩ 1 1 [.int .u8 (((⟨#[10, 13, 9, 8, 7]⟩ : ByteArray)[2]'(by decide)).toNat : Int)] rfl rfl HNC.out ?t421 ?t422 ?t423 ?t424 ?_))
                      case t421 => first | (intro u hu; simp at hu; subst hu; rfl) | rfl
                      case t422 => unfold maxLen; omega
                      case t423 => omega
                      case t424 => have := HB.out.size; simp; omega
                      intro v9 w9 ho9 hg9 hn9
                      obtain ⟨P9, k9, hf9⟩ := own_form ho9
                      subst hf9
                      have HO9 : Hid (w9.ownsRow w.heap.size 5 1 (.slice P9 (la + 1) k9) (la + 1) (bcells (acc ++ [SP.es s[j1]]))) := by show World.ownsRow _ _ _ _ _ _ _; rw [bcells_snoc, HE.out]; exact ho9
                      have HB9 : Hid (Below w.heap.size w w9) := (HB.out.alloc HB.out.size _).grown hg9 (by have := HB.out.size; simp; omega) (fun b hb => own_block HO2.out b hb)
                      clear ho9 hg9 hn9
                      go_wp2
                      refine ⟨⟨j2, acc ++ [SP.es s[j1]], P9, k9, ⟨by omega, by omega, by rw [List.length_append, HLA.out]; simp; omega⟩, rfl, by rw [List.length_append, HLA.out]; rfl, ?_, HB9.out, ?_⟩, by simp [intOf]; omega⟩
                      · rw [List.length_append, HLA.out]; exact HO9.out
                      · rw [HQ.out, HT.out]
                    · have e9 : ((((⟨#[110, 114, 116, 98, 97]⟩ : ByteArray)[2]'(by decide)).toNat : Int) == (n1 : Int)) = false := by show (((116 : Nat) : Int) == (n1 : Int)) = false; simp; omega
                      have HNO : Hid (NoFor 3 n1) := by show NoFor _ _; unfold NoFor at hno ⊢; omega
                      clear hno hm
                      go_wp2
                      exact ⟨⟨3, ⟨by omega, HNO.out⟩, rfl, rfl, by first | trivial | rfl⟩, by simp [intOf]⟩
                  · by_cases hm : n1 = 98
                    · have HE : Hid ((SP.es s[j1]).toNat = ((⟨#[10, 13, 9, 8, 7]⟩ : ByteArray)[3]'(by decide)).toNat) := es_at (n := 98) (by rw [HN1.out, hm]) (by rfl)
                      have e9 : ((((⟨#[110, 114, 116, 98, 97]⟩ : ByteArray)[3]'(by decide)).toNat : Int) == (n1 : Int)) = true := by rw [hm]; rfl
                      clear hno hm
                      have HO2 : Hid ((wx.alloc (.cells #[.int .u8 (((⟨#[10, 13, 9, 8, 7]⟩ : ByteArray)[3]'(by decide)).toNat : Int)] 5)).ownsRow w.heap.size 5 1 (.slice PB la kb) la (bcells acc)) := own_on HO.out ((Below.refl _ _).alloc (Nat.le_refl _) _)
                      have HNC : Hid (∀ a u, [Value.int .u8 (((⟨#[10, 13, 9, 8, 7]⟩ : ByteArray)[3]'(by decide)).toNat : Int)][a]? = some u → (wx.alloc (.cells #[.int .u8 (((⟨#[10, 13, 9, 8, 7]⟩ : ByteArray)[3]'(by decide)).toNat : Int)] 5)).cell? ((⟨wx.heap.size, 0, none⟩ : Addr).add a) = some u) := fun a u ha => by
                        match a, ha with
                        | 0, ha => simp at ha; subst ha; rw [Addr.add_lit]; exact (row1 (one_alloc wx (.cells #[.int .u8 (((⟨#[10, 13, 9, 8, 7]⟩ : ByteArray)[3]'(by decide)).toNat : Int)] 5))).1
                      go_wp2_with (at_builtin; go_must (refine wpList_append_own _ rfl _ _ 43 rfl w.heap.size 5 i5 (.int .u8 0) 1 1 Tryd.underlying43 hi5 hz5 hz6 hz7 rfl (by decide) (.slice PB la kb) la (bcells acc) rfl HO2.out ⟨wx.heap.size, 0, none⟩ 1 1 [.int .u8 (((⟨#[10, 13, 9, 8, 7]⟩ : ByteArray)[3]'(by decide)).toNat : Int)] rfl rfl HNC.out ?t431 ?t432 ?t433 ?t434 ?_))
                      case t431 => first | (intro u hu; simp at hu; subst hu; rfl) | rfl
                      case t432 => unfold maxLen; omega
                      case t433 => omega
                      case t434 => have := HB.out.size; simp; omega
                      intro v9 w9 ho9 hg9 hn9
                      obtain ⟨P9, k9, hf9⟩ := own_form ho9
                      subst hf9
                      have HO9 : Hid (w9.ownsRow w.heap.size 5 1 (.slice P9 (la + 1) k9) (la + 1) (bcells (acc ++ [SP.es s[j1]]))) := by show World.ownsRow _ _ _ _ _ _ _; rw [bcells_snoc, HE.out]; exact ho9
                      have HB9 : Hid (Below w.heap.size w w9) := (HB.out.alloc HB.out.size _).grown hg9 (by have := HB.out.size; simp; omega) (fun b hb => own_block HO2.out b hb)
                      clear ho9 hg9 hn9
                      go_wp2
                      refine ⟨⟨j2, acc ++ [SP.es s[j1]], P9, k9, ⟨by omega, by omega, by rw [List.length_append, HLA.out]; simp; omega⟩, rfl, by rw [List.length_append, HLA.out]; rfl, ?_, HB9.out, ?_⟩, by simp [intOf]; omega⟩
                      · rw [List.length_append, HLA.out]; exact HO9.out
                      · rw [HQ.out, HT.out]
                    · have e9 : ((((⟨#[110, 114, 116, 98, 97]⟩ : ByteArray)[3]'(by decide)).toNat : Int) == (n1 : Int)) = false := by show (((98 : Nat) : Int) == (n1 : Int)) = false; simp; omega
                      have HNO : Hid (NoFor 4 n1) := by show NoFor _ _; unfold NoFor at hno ⊢; omega
                      clear hno hm
                      go_wp2
                      exact ⟨⟨4, ⟨by omega, HNO.out⟩, rfl, rfl, by first | trivial | rfl⟩, by simp [intOf]⟩
                  · by_cases hm : n1 = 97
                    · have HE : Hid ((SP.es s[j1]).toNat = ((⟨#[10, 13, 9, 8, 7]⟩ : ByteArray)[4]'(by decide)).toNat) := es_at (n := 97) (by rw [HN1.out, hm]) (by rfl)
                      have e9 : ((((⟨#[110, 114, 116, 98, 97]⟩ : ByteArray)[4]'(by decide)).toNat : Int) == (n1 : Int)) = true := by rw [hm]; rfl
                      clear hno hm
                      have HO2 : Hid ((wx.alloc (.cells #[.int .u8 (((⟨#[10, 13, 9, 8, 7]⟩ : ByteArray)[4]'(by decide)).toNat : Int)] 5)).ownsRow w.heap.size 5 1 (.slice PB la kb) la (bcells acc)) := own_on HO.out ((Below.refl _ _).alloc (Nat.le_refl _) _)
                      have HNC : Hid (∀ a u, [Value.int .u8 (((⟨#[10, 13, 9, 8, 7]⟩ : ByteArray)[4]'(by decide)).toNat : Int)][a]? = some u → (wx.alloc (.cells #[.int .u8 (((⟨#[10, 13, 9, 8, 7]⟩ : ByteArray)[4]'(by decide)).toNat : Int)] 5)).cell? ((⟨wx.heap.size, 0, none⟩ : Addr).add a) = some u) := fun a u ha => by
                        match a, ha with
                        | 0, ha => simp at ha; subst ha; rw [Addr.add_lit]; exact (row1 (one_alloc wx (.cells #[.int .u8 (((⟨#[10, 13, 9, 8, 7]⟩ : ByteArray)[4]'(by decide)).toNat : Int)] 5))).1
                      go_wp2_with (at_builtin; go_must (refine wpList_append_own _ rfl _ _ 43 rfl w.heap.size 5 i5 (.int .u8 0) 1 1 Tryd.underlying43 hi5 hz5 hz6 hz7 rfl (by decide) (.slice PB la kb) la (bcells acc) rfl HO2.out ⟨wx.heap.size, 0, none⟩ 1 1 [.int .u8 (((⟨#[10, 13, 9, 8, 7]⟩ : ByteArray)[4]'(by decide)).toNat : Int)] rfl rfl HNC.out ?t441 ?t442 ?t443 ?t444 ?_))
                      case t441 => first | (intro u hu; simp at hu; subst hu; rfl) | rfl
                      case t442 => unfold maxLen; omega
                      case t443 => omega
                      case t444 => have := HB.out.size; simp; omega
                      intro v9 w9 ho9 hg9 hn9
                      obtain ⟨P9, k9, hf9⟩ := own_form ho9
                      subst hf9
                      have HO9 : Hid (w9.ownsRow w.heap.size 5 1 (.slice P9 (la + 1) k9) (la + 1) (bcells (acc ++ [SP.es s[j1]]))) := by show World.ownsRow _ _ _ _ _ _ _; rw [bcells_snoc, HE.out]; exact ho9
                      have HB9 : Hid (Below w.heap.size w w9) := (HB.out.alloc HB.out.size _).grown hg9 (by have := HB.out.size; simp; omega) (fun b hb => own_block HO2.out b hb)
                      clear ho9 hg9 hn9
                      go_wp2
                      refine ⟨⟨j2, acc ++ [SP.es s[j1]], P9, k9, ⟨by omega, by omega, by rw [List.length_append, HLA.out]; simp; omega⟩, rfl, by rw [List.length_append, HLA.out]; rfl, ?_, HB9.out, ?_⟩, by simp [intOf]; omega⟩
                      · rw [List.length_append, HLA.out]; exact HO9.out
                      · rw [HQ.out, HT.out]
                    · have e9 : ((((⟨#[110, 114, 116, 98, 97]⟩ : ByteArray)[4]'(by decide)).toNat : Int) == (n1 : Int)) = false := by show (((97 : Nat) : Int) == (n1 : Int)) = false; simp; omega
                      have HNO : Hid (NoFor 5 n1) := by show NoFor _ _; unfold NoFor at hno ⊢; omega
                      clear hno hm
                      go_wp2
                      exact ⟨⟨5, ⟨by omega, HNO.out⟩, rfl, rfl, by first | trivial | rfl⟩, by simp [intOf]⟩
                  · have HE : Hid ((SP.es s[j1]).toNat = n1) := by show _ = _; rw [← HN1.out]; exact es_not (by rw [HN1.out]; exact hno)
                    clear hno
                    have HO2 : Hid ((wx.alloc (.cells #[.int .u8 (n1 : Int)] 5)).ownsRow w.heap.size 5 1 (.slice PB la kb) la (bcells acc)) := own_on HO.out ((Below.refl _ _).alloc (Nat.le_refl _) _)
                    have HNC : Hid (∀ a u, [Value.int .u8 (n1 : Int)][a]? = some u → (wx.alloc (.cells #[.int .u8 (n1 : Int)] 5)).cell? ((⟨wx.heap.size, 0, none⟩ : Addr).add a) = some u) := fun a u ha => by
                      match a, ha with
                      | 0, ha => simp at ha; subst ha; rw [Addr.add_lit]; exact (row1 (one_alloc wx (.cells #[.int .u8 (n1 : Int)] 5))).1
                    go_wp2_with (at_builtin; go_must (refine wpList_append_own _ rfl _ _ 43 rfl w.heap.size 5 i5 (.int .u8 0) 1 1 Tryd.underlying43 hi5 hz5 hz6 hz7 rfl (by decide) (.slice PB la kb) la (bcells acc) rfl HO2.out ⟨wx.heap.size, 0, none⟩ 1 1 [.int .u8 (n1 : Int)] rfl rfl HNC.out ?t4z1 ?t4z2 ?t4z3 ?t4z4 ?_))
                    case t4z1 => first | (intro u hu; simp at hu; subst hu; rfl) | rfl
                    case t4z2 => unfold maxLen; omega
                    case t4z3 => omega
                    case t4z4 => have := HB.out.size; simp; omega
                    intro v9 w9 ho9 hg9 hn9
                    obtain ⟨P9, k9, hf9⟩ := own_form ho9
                    subst hf9
                    have HO9 : Hid (w9.ownsRow w.heap.size 5 1 (.slice P9 (la + 1) k9) (la + 1) (bcells (acc ++ [SP.es s[j1]]))) := by show World.ownsRow _ _ _ _ _ _ _; rw [bcells_snoc, HE.out]; exact ho9
                    have HB9 : Hid (Below w.heap.size w w9) := (HB.out.alloc HB.out.size _).grown hg9 (by have := HB.out.size; simp; omega) (fun b hb => own_block HO2.out b hb)
                    clear ho9 hg9 hn9
                    go_wp2
                    refine ⟨⟨j2, acc ++ [SP.es s[j1]], P9, k9, ⟨by omega, by omega, by rw [List.length_append, HLA.out]; simp; omega⟩, rfl, by rw [List.length_append, HLA.out]; rfl, ?_, HB9.out, ?_⟩, by simp [intOf]; omega⟩
                    · rw [List.length_append, HLA.out]; exact HO9.out
                    · rw [HQ.out, HT.out]
          · have hz2 : (j1 : Int) ≥ (s.size : Int) := by omega
            have HT : Hid (SP.qT true acc (s.data.toList.drop j) = SP.qT true (acc ++ [s[j]]) (s.data.toList.drop j1)) := by
              show _ = _
              rw [qT_esc true acc s j hlt HNQ.out h92, hj1, bsl_nil true s j1 (by omega), h92v]
            clear h34 h92 hle h92v
            have HO2 : Hid ((wx.alloc (.cells #[.int .u8 ((s[j].toNat : Int) : Int)] 5)).ownsRow w.heap.size 5 1 (.slice PB la kb) la (bcells acc)) := own_on HO.out ((Below.refl _ _).alloc (Nat.le_refl _) _)
            have HNC : Hid (∀ a u, [Value.int .u8 ((s[j].toNat : Int) : Int)][a]? = some u → (wx.alloc (.cells #[.int .u8 ((s[j].toNat : Int) : Int)] 5)).cell? ((⟨wx.heap.size, 0, none⟩ : Addr).add a) = some u) := fun a u ha => by
              match a, ha with
              | 0, ha => simp at ha; subst ha; rw [Addr.add_lit]; exact (row1 (one_alloc wx (.cells #[.int .u8 ((s[j].toNat : Int) : Int)] 5))).1
            go_wp2_with (at_builtin; go_must (refine wpList_append_own _ rfl _ _ 43 rfl w.heap.size 5 i5 (.int .u8 0) 1 1 Tryd.underlying43 hi5 hz5 hz6 hz7 rfl (by decide) (.slice PB la kb) la (bcells acc) rfl HO2.out ⟨wx.heap.size, 0, none⟩ 1 1 [.int .u8 ((s[j].toNat : Int) : Int)] rfl rfl HNC.out ?tc1 ?tc2 ?tc3 ?tc4 ?_))
            case tc1 => first | (intro u hu; simp at hu; subst hu; rfl) | rfl
            case tc2 => unfold maxLen; omega
            case tc3 => omega
            case tc4 => have := HB.out.size; simp; omega
            intro v9 w9 ho9 hg9 hn9
            obtain ⟨P9, k9, hf9⟩ := own_form ho9
            subst hf9
            have HO9 : Hid (w9.ownsRow w.heap.size 5 1 (.slice P9 (la + 1) k9) (la + 1) (bcells (acc ++ [s[j]]))) := by show World.ownsRow _ _ _ _ _ _ _; rw [bcells_snoc]; exact ho9
            have HB9 : Hid (Below w.heap.size w w9) := (HB.out.alloc HB.out.size _).grown hg9 (by have := HB.out.size; simp; omega) (fun b hb => own_block HO2.out b hb)
            clear ho9 hg9 hn9
            go_wp2
            refine ⟨⟨j1, acc ++ [s[j]], P9, k9, ⟨by omega, by omega, by rw [List.length_append, HLA.out]; simp; omega⟩, rfl, by rw [List.length_append, HLA.out]; rfl, ?_, HB9.out, ?_⟩, by simp [intOf]; omega⟩
            · rw [List.length_append, HLA.out]; exact HO9.out
            · rw [HQ.out, HT.out]
        · have e2 : ((s[j].toNat : Int) != 92) = true := by simp; omega
          have HT : Hid (SP.qT true acc (s.data.toList.drop j) = SP.qT true (acc ++ [s[j]]) (s.data.toList.drop j1)) := by
            show _ = _
            rw [qT_one true acc s j hlt HNQ.out h92, hj1]
          clear h34 h92 hle
          have HO2 : Hid ((wx.alloc (.cells #[.int .u8 ((s[j].toNat : Int) : Int)] 5)).ownsRow w.heap.size 5 1 (.slice PB la kb) la (bcells acc)) := own_on HO.out ((Below.refl _ _).alloc (Nat.le_refl _) _)
          have HNC : Hid (∀ a u, [Value.int .u8 ((s[j].toNat : Int) : Int)][a]? = some u → (wx.alloc (.cells #[.int .u8 ((s[j].toNat : Int) : Int)] 5)).cell? ((⟨wx.heap.size, 0, none⟩ : Addr).add a) = some u) := fun a u ha => by
            match a, ha with
            | 0, ha => simp at ha; subst ha; rw [Addr.add_lit]; exact (row1 (one_alloc wx (.cells #[.int .u8 ((s[j].toNat : Int) : Int)] 5))).1
          go_wp2_with (at_builtin; go_must (refine wpList_append_own _ rfl _ _ 43 rfl w.heap.size 5 i5 (.int .u8 0) 1 1 Tryd.underlying43 hi5 hz5 hz6 hz7 rfl (by decide) (.slice PB la kb) la (bcells acc) rfl HO2.out ⟨wx.heap.size, 0, none⟩ 1 1 [.int .u8 ((s[j].toNat : Int) : Int)] rfl rfl HNC.out ?td1 ?td2 ?td3 ?td4 ?_))
          case td1 => first | (intro u hu; simp at hu; subst hu; rfl) | rfl
          case td2 => unfold maxLen; omega
          case td3 => omega
          case td4 => have := HB.out.size; simp; omega
          intro v9 w9 ho9 hg9 hn9
          obtain ⟨P9, k9, hf9⟩ := own_form ho9
          subst hf9
          have HO9 : Hid (w9.ownsRow w.heap.size 5 1 (.slice P9 (la + 1) k9) (la + 1) (bcells (acc ++ [s[j]]))) := by show World.ownsRow _ _ _ _ _ _ _; rw [bcells_snoc]; exact ho9
          have HB9 : Hid (Below w.heap.size w w9) := (HB.out.alloc HB.out.size _).grown hg9 (by have := HB.out.size; simp; omega) (fun b hb => own_block HO2.out b hb)
          clear ho9 hg9 hn9
          go_wp2
          refine ⟨⟨j1, acc ++ [s[j]], P9, k9, ⟨by omega, by omega, by rw [List.length_append, HLA.out]; simp; omega⟩, rfl, by rw [List.length_append, HLA.out]; rfl, ?_, HB9.out, ?_⟩, by simp [intOf]; omega⟩
          · rw [List.length_append, HLA.out]; exact HO9.out
          · rw [HQ.out, HT.out]
    · have hz1 : ¬ (j : Int) < (s.size : Int) := by omega
      have hz2 : (j : Int) ≥ (s.size : Int) := by omega
      have HE : Hid _ := qT_nil true acc s j (by omega)
      clear hle
      go_wp2
      go_returns
      exact ⟨Or.inr ⟨by rw [HQ.out]; exact HE.out, rfl⟩, HB.out⟩
end Go.Proofs.YtbmfbpcjokbjkaaDoor
