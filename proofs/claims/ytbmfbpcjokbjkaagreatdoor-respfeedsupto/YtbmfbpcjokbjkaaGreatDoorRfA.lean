import Derived.Test.YtbmfbpcjokbjkaaGreatDoorRNm
import Derived.Test.YtbmfbpcjokbjkaaGreatDoorFdZ
namespace Go.Proofs.YtbmfbpcjokbjkaaGreatDoor
open Go.RowKit Vi
set_option linter.unusedVariables false
set_option linter.unusedSimpArgs false
/-! the document's line and its errors. -/
theorem ext_take (s : ByteArray) (r : Nat) : (s.extract 0 r).data.toList = s.data.toList.take r := by rw [ext_any, List.drop_zero, Nat.sub_zero]
theorem lf_no {l : SP.Bs} {i : Nat} (h : lfAt (l.take i) = none) (b : UInt8) (hb : l[i]? = some b) (hn : b ≠ 10) : lfAt (l.take (i + 1)) = none := by
  rw [List.take_add_one, hb]
  rw [lf_app_none h]
  unfold lfAt
  rw [Option.toList_some, List.findIdx?_cons]
  have : (b == 10) = false := by simpa using hn
  rw [this]; rfl
theorem lf_yes {l : SP.Bs} {i m : Nat} (h : lfAt (l.take i) = none) (hb : l[i]? = some 10) (hm : i < m) : lfAt (l.take m) = some i := by
  have hi : i < l.length := by
    rcases Nat.lt_or_ge i l.length with h1 | h1
    · exact h1
    · rw [List.getElem?_eq_none h1] at hb; cases hb
  have e : l.take m = l.take i ++ 10 :: (l.drop (i + 1)).take (m - (i + 1)) := by
    have e1 : l = l.take i ++ 10 :: l.drop (i + 1) := by
      have h2 := List.getElem?_eq_getElem hi
      rw [hb] at h2
      have h3 : l[i] = 10 := (Option.some.inj h2).symm
      have h4 : l.drop i = l[i] :: l.drop (i + 1) := List.drop_eq_getElem_cons hi
      rw [h3] at h4
      rw [← h4, List.take_append_drop]
    have e2 : (l.take i).length = i := by rw [List.length_take]; omega
    rw [e1]
    rw [take_two _ _ _ (by rw [e2]; omega), e2]
    obtain ⟨d, hd⟩ : ∃ d, m - i = d + 1 := ⟨m - i - 1, by omega⟩
    rw [hd, List.take_succ_cons, show d = m - (i + 1) by omega]
    rw [← e1]
  rw [e, lf_app_none h]
  unfold lfAt
  rw [List.findIdx?_cons]
  have e2 : (l.take i).length = i := by rw [List.length_take]; omega
  simp [e2]
/-- what the document's line answers. -/
def lnR (most : Nat) (s : SP.Bs) : SP.Bs × Int := match lfAt (s.take (most + 1)) with
  | some k => (eol (s.take k), (k : Int) + 1)
  | none => if most < s.length then ([], -1) else ([], 0)
theorem eol_snoc (x : SP.Bs) (b : UInt8) : eol (x ++ [b]) = if b = 13 then x else x ++ [b] := by
  unfold eol Lib.trimSuffix
  by_cases hb : b = 13
  · subst hb
    have : Lib.hasSuffix (x ++ [13]) [13] = true := by simp [Lib.hasSuffix]
    rw [if_pos this, if_pos rfl]; simp
  · have : Lib.hasSuffix (x ++ [b]) [13] = false := by
      cases hs : Lib.hasSuffix (x ++ [b]) [13] with
      | false => rfl
      | true =>
        exfalso
        unfold Lib.hasSuffix at hs
        have h2 := List.isSuffixOf_iff_suffix.1 hs
        obtain ⟨y, hy⟩ := h2
        have := congrArg List.getLast? hy
        simp at this
        exact hb this.symm
    rw [this, if_neg (by simp), if_neg hb]
theorem eol_nil : eol [] = [] := by unfold eol Lib.trimSuffix; simp [Lib.hasSuffix]
set_option maxRecDepth 20000 in
set_option maxHeartbeats 2000000 in
theorem rline_any (s : ByteArray) (most : Nat) (hm : most ≤ 65536) (hs : s.size ≤ 1073741824) (w : World) :
    Calls Tryz.prog 46 #[.string s, .int .i64 (most : Int)] w fun e w' => e = .returned (.tuple #[.string (strB (lnR most s.data.toList).1), .int .i64 (lnR most s.data.toList).2]) ∧ w' = w := by
  go_enter Tryz.func46, Tryz.ntmps46
  go_wp2
  go_loopw [6] (fun ci wr => wr = w ∧ ∃ i : Nat, (i ≤ s.size ∧ i ≤ most + 1 ∧ lfAt (s.data.toList.take i) = none) ∧ ci = .int .i64 (i : Int)) (fun ci _ => s.size - (intOf ci).toNat)
  case atStart => exact ⟨rfl, 0, ⟨Nat.zero_le _, Nat.zero_le _, rfl⟩, rfl⟩
  case round =>
    obtain ⟨hwr, i, ⟨hi, him, hlf⟩, rfl⟩ := hrel
    subst hwr
    have HLF : Hid (lfAt (s.data.toList.take i) = none) := hlf
    clear hlf
    by_cases h1 : i < s.size ∧ i ≤ most
    · obtain ⟨hnn, hmm⟩ := h1
      have hi1 : (i : Int) < (s.size : Int) := by omega
      have hi2 : (i : Int) ≤ (most : Int) := by omega
      have hz0 : (0 : Int) ≤ (i : Int) := by omega
      have hget : s.data.toList[i]? = some (s[i]'hnn) := by
        rw [List.getElem?_eq_getElem (by rw [list_len]; exact hnn)]; rfl
      have HGT : Hid _ := hget
      obtain ⟨b, hb⟩ : ∃ b, s[i]'hnn = b := ⟨_, rfl⟩
      have HBB : Hid _ := hb
      rw [hb] at HGT
      clear hget
      by_cases hb10 : b = 10
      · have hc10 : ((b.toNat : Int) == 10) = true := by rw [hb10]; rfl
        have HLS : Hid (lfAt (s.data.toList.take (most + 1)) = some i) := lf_yes HLF.out (by rw [HGT.out, hb10]) (by omega)
        have HLR : Hid (lnR most s.data.toList = (eol (s.data.toList.take i), (i : Int) + 1)) := by show _ = _; unfold lnR; rw [HLS.out]
        by_cases hi0 : i = 0
        · subst hi0
          have HE : Hid (strB (eol (s.data.toList.take 0)) = ByteArray.empty) := by show _ = _; rw [List.take_zero, eol_nil]; rfl
          go_wp2
          go_returns
          exact ⟨by rw [HLR.out, HE.out]; rfl, rfl⟩
        · obtain ⟨j, hj⟩ : ∃ j, i = j + 1 := ⟨i - 1, by omega⟩
          have hip : (0 : Int) < (i : Int) := by omega
          have hsub : (i : Int) - 1 = (j : Int) := by omega
          have hj0 : (0 : Int) ≤ (j : Int) := by omega
          have hj1 : (j : Int) < (s.size : Int) := by omega
          have hjn : j < s.size := by omega
          have hjs : j ≤ s.size := by omega
          have hgj : s.data.toList[j]? = some (s[j]'hjn) := by
            rw [List.getElem?_eq_getElem (by rw [list_len]; exact hjn)]; rfl
          obtain ⟨c, hc⟩ : ∃ c, s[j]'hjn = c := ⟨_, rfl⟩
          rw [hc] at hgj
          have HTK : Hid (s.data.toList.take i = s.data.toList.take j ++ [c]) := by show _ = _; rw [hj, List.take_add_one, hgj]; rfl
          have HJ : Hid (i = j + 1) := hj
          clear hgj hj
          by_cases hc13 : c = 13
          · have hcc : ((c.toNat : Int) == 13) = true := by rw [hc13]; rfl
            have HE : Hid (strB (eol (s.data.toList.take i)) = s.extract 0 j) := by show _ = _; rw [HTK.out, eol_snoc, if_pos hc13, ← ext_take]; rfl
            go_wp2
            go_returns
            exact ⟨by rw [HLR.out, HE.out]; rfl, rfl⟩
          · have hcc : ((c.toNat : Int) == 13) = false := by
              simp only [beq_eq_false_iff_ne, ne_eq]
              intro h9
              exact hc13 (UInt8.toNat_inj.1 (by have h8 : c.toNat = 13 := by omega
                                                rw [h8]; rfl))
            have HE : Hid (strB (eol (s.data.toList.take i)) = s.extract 0 i) := by show _ = _; rw [HTK.out, eol_snoc, if_neg hc13, ← HTK.out, ← ext_take]; rfl
            go_wp2
            go_returns
            exact ⟨by rw [HLR.out, HE.out]; rfl, rfl⟩
      · have hcc : ((b.toNat : Int) == 10) = false := by
          simp only [beq_eq_false_iff_ne, ne_eq]
          intro h9
          exact hb10 (UInt8.toNat_inj.1 (by have h8 : b.toNat = 10 := by omega
                                            rw [h8]; rfl))
        have HLN : Hid (lfAt (s.data.toList.take (i + 1)) = none) := lf_no HLF.out b HGT.out hb10
        go_wp2
        go_roundw
        case rel => exact ⟨by first | rfl | trivial, i + 1, ⟨by omega, by omega, HLN.out⟩, rfl⟩
        case measure => simp [intOf]; omega
    · have HNN : Hid (lfAt (s.data.toList.take (most + 1)) = none) := by
        show _ = _
        by_cases h2 : i < s.size
        · have : i = most + 1 := by omega
          rw [← this]; exact HLF.out
        · have h3 : i = s.size := by omega
          have h4 := HLF.out
          rw [List.take_of_length_le (by rw [list_len]; omega)] at h4
          rcases Nat.le_total s.size (most + 1) with h5 | h5
          · rw [List.take_of_length_le (by rw [list_len]; exact h5)]; exact h4
          · have : i = most + 1 := by omega
            rw [← this]; exact HLF.out
      by_cases hlong : most < s.size
      · have hl1 : (most : Int) < (s.size : Int) := by omega
        have HLR : Hid (lnR most s.data.toList = ([], -1)) := by show _ = _; unfold lnR; rw [HNN.out]; exact if_pos (by rw [list_len]; exact hlong)
        by_cases h2 : i < s.size
        · have h3 : ¬ ((i : Int) ≤ (most : Int)) := by omega
          have h4 : (i : Int) < (s.size : Int) := by omega
          clear h1
          go_wp2
          go_returns
          exact ⟨by rw [HLR.out]; rfl, rfl⟩
        · have h4 : ¬ ((i : Int) < (s.size : Int)) := by omega
          clear h1
          go_wp2
          go_returns
          exact ⟨by rw [HLR.out]; rfl, rfl⟩
      · have hl1 : ¬ ((most : Int) < (s.size : Int)) := by omega
        have HLR : Hid (lnR most s.data.toList = ([], 0)) := by show _ = _; unfold lnR; rw [HNN.out]; exact if_neg (by rw [list_len]; exact hlong)
        have h4 : ¬ ((i : Int) < (s.size : Int)) := by omega
        clear h1
        go_wp2
        go_returns
        exact ⟨by rw [HLR.out]; rfl, rfl⟩
/-- an error. -/
def badR (t : ByteArray) : ByteArray := ⟨#[80, 114, 111, 116, 111, 99, 111, 108, 32, 101, 114, 114, 111, 114, 58, 32]⟩ ++ t
theorem rbad_any (t : ByteArray) (ht : t.size ≤ 1000) (w : World) :
    Calls Tryz.prog 47 #[.string t] w fun e w' => e = .returned (.tuple #[.agg #[.slice none 0 0, .string (badR t)], .int .i64 1, .bool true]) ∧ Below w.heap.size w w' := by
  obtain ⟨X, hX⟩ : ∃ X, badR t = X := ⟨_, rfl⟩
  have hjoin : (⟨#[80, 114, 111, 116, 111, 99, 111, 108, 32, 101, 114, 114, 111, 114, 58, 32]⟩ : ByteArray).size + t.size ≤ 9223372036854775807 := by show 16 + t.size ≤ _; omega
  obtain ⟨W0, hW0⟩ : ∃ W, W = w.alloc (.cells #[.slice none 0 0, .string ⟨#[]⟩] 43) := ⟨_, rfl⟩
  have hb0 : Below w.heap.size w W0 := by rw [hW0]; exact (Below.refl _ _).alloc (Nat.le_refl _) _
  have hr0 : W0.heap[w.heap.size]? = some (.cells #[.slice none 0 0, .string ⟨#[]⟩] 43) := by rw [hW0]; exact one_alloc _ _
  obtain ⟨z0, z1, zf⟩ := prow2 hr0
  have HB0 : Hid _ := hb0
  have HR0 : Hid _ := hr0
  clear hb0 hr0
  go_enter Tryz.func47, Tryz.ntmps47
  go_upto_region 1 with fail
  rw [← hW0]
  clear hW0
  go_wp2
  obtain ⟨hr2, ho2⟩ := heap_set2 W0 w.heap.size 43 _ _ (.slice none 0 0) (.string (badR t)) HR0.out
  obtain ⟨y0, y1, yf⟩ := prow2 hr2
  have HB2 : Hid _ := HB0.out.trans (ho2.below (Nat.le_refl _))
  refine bodyPost_ret (v := .tuple #[.agg #[.slice none 0 0, .string (badR t)], .int .i64 1, .bool true]) ?_ rfl ⟨rfl, HB2.out⟩
  show _ = _
  unfold badR at y0 y1 ⊢
  simp [results, Tryz.results47, go_sem, y0, y1]
end Go.Proofs.YtbmfbpcjokbjkaaGreatDoor
