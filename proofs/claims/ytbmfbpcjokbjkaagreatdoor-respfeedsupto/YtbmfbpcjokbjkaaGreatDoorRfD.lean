import Derived.Test.YtbmfbpcjokbjkaaGreatDoorRfC
namespace Go.Proofs.YtbmfbpcjokbjkaaGreatDoor
open Go.RowKit Vi
set_option linter.unusedVariables false
set_option linter.unusedSimpArgs false
theorem rd_count (s : SP.Bs) (h : s.head? = some 42) : rdG (PS0 0) s = match lfAt (s.take (64 + 1)) with
    | none => if 64 < (s.take (64 + 1)).length then ⟨{ PS0 0 with st := 1, part := s.take (64 + 1) }, [], [], longCnt.data.toList, 2⟩ else ⟨{ PS0 0 with st := 1, part := s.take (64 + 1) }, [], [], [], 0⟩
    | some k => cntO rdN (PS0 0) (s.drop (k + 1)) ((eol (s.take k)).drop 1) := by
  rw [show rdG (PS0 0) s = rdCount rdN (PS0 0) s from if_pos h]
  rfl
theorem ext_one (L : ByteArray) : (L.extract 1 L.size).data.toList = L.data.toList.drop 1 := by
  rw [ext_any, List.take_of_length_le (by rw [List.length_drop, list_len]; exact Nat.le_refl _)]
theorem num_max {s : ByteArray} (h : s.size ≤ 1073741824) : s.size ≤ maxLen := by unfold maxLen; omega
theorem eol_ne {b : UInt8} {t : SP.Bs} {k : Nat} (hb : b ≠ 13) (hk : 0 < k) : 1 ≤ (eol ((b :: t).take k)).length := by
  obtain ⟨j, rfl⟩ : ∃ j, k = j + 1 := ⟨k - 1, by omega⟩
  rw [List.take_succ_cons]
  have := eol_full (b := b) (x := t.take j) hb
  cases h : eol (b :: t.take j) with
  | nil => exact absurd h this
  | cons a l => simp
theorem lf_pos {b : UInt8} {t : SP.Bs} {n k : Nat} (hb : b ≠ 10) (h : lfAt ((b :: t).take n) = some k) : 0 < k := by
  obtain ⟨j, rfl⟩ := lf_cons hb h
  omega
set_option maxRecDepth 20000 in
set_option maxHeartbeats 8000000 in
/-- the document's first of an array. -/
theorem first_bulk (s : ByteArray) (h0 : 0 < s.size) (hs : s.size ≤ 1073741824) (hb : s[0] = 42) (w : World) :
    Calls Tryz.prog 32 #[.string s] w fun e w' => FsIs w.heap.size w' s.size (rdG (PS0 0) s.data.toList) e ∧ Below w.heap.size w w' := by
  obtain ⟨tl, htl⟩ : ∃ t, s.data.toList = 42 :: t := by
    have h1 : s.data.toList[0]? = some 42 := by
      rw [List.getElem?_eq_getElem (by rw [list_len]; exact h0)]
      exact congrArg some hb
    cases hd : s.data.toList with
    | nil => rw [hd] at h1; cases h1
    | cons a l => rw [hd] at h1; injection h1 with h1; exact ⟨l, by rw [h1]⟩
  obtain ⟨G, hG⟩ : ∃ G, rdG (PS0 0) s.data.toList = G := ⟨_, rfl⟩
  have HG : Hid (rdG (PS0 0) s.data.toList = G) := hG
  have HRL : Hid _ := rd_count s.data.toList (by rw [htl]; rfl)
  rw [hG]
  have hcb2 : ((s[0].toNat : Int) == 42) = true := by rw [hb]; rfl
  have hcb : ((s[0].toNat : Int) != 42) = false := by rw [hb]; rfl
  obtain ⟨W0, hW0⟩ : ∃ W, W = (w.alloc (.cells #[.slice none 0 0, .string ⟨#[]⟩] 43)).alloc (.cells #[.slice none 0 0, .string ⟨#[]⟩] 43) := ⟨_, rfl⟩
  obtain ⟨rb, hrb⟩ : ∃ r, w.heap.size = r := ⟨_, rfl⟩
  have hb0 : Below rb w W0 := by rw [hW0, ← hrb]; exact ((Below.refl _ _).alloc (Nat.le_refl _) _).alloc (by simp) _
  have hr0 : W0.heap[rb]? = some (.cells #[.slice none 0 0, .string ⟨#[]⟩] 43) := by
    rw [hW0, ← hrb]; exact keep_row (one_alloc _ _) ((Below.refl _ _).alloc (Nat.le_refl _) _)
  have hn0 : W0.heap[rb + 1]? = some (.cells #[.slice none 0 0, .string ⟨#[]⟩] 43) := by
    rw [hW0, ← hrb]
    have := one_alloc (w.alloc (.cells #[.slice none 0 0, .string ⟨#[]⟩] 43)) (.cells #[.slice none 0 0, .string ⟨#[]⟩] 43)
    simpa using this
  have HB0 : Hid (Below rb w W0) := hb0
  have HR0 : Hid (W0.heap[rb]? = some (.cells #[.slice none 0 0, .string ⟨#[]⟩] 43)) := hr0
  have HN0 : Hid (W0.heap[rb + 1]? = some (.cells #[.slice none 0 0, .string ⟨#[]⟩] 43)) := hn0
  have HRB : Hid (w.heap.size = rb) := hrb
  obtain ⟨z0, z1, zf⟩ := prow2 hr0
  obtain ⟨m0, m1, mf⟩ := prow2 hn0
  have HLN : Hid _ := rline_any s 64 (by decide) hs W0
  rw [hrb]
  have hrW : rb ≤ W0.heap.size := by have := hb0.size; rw [hrb] at this; exact this
  have HTL : Hid (s.data.toList = 42 :: tl) := htl
  clear hG hb0 hr0 hn0 htl hb
  go_enter Tryz.func32, Tryz.ntmps32
  go_upto_region 2 with fail
  rw [← hW0]
  clear hW0 hrb
  cases hlf : lfAt (s.data.toList.take (64 + 1)) with
  | none =>
    by_cases hlong : 64 < s.size
    · have HLR : Hid (lnR 64 s.data.toList = ([], -1)) := by show _ = _; unfold lnR; rw [hlf]; exact if_pos (by rw [list_len]; exact hlong)
      have HGE : Hid (G = ⟨{ PS0 0 with st := 1, part := s.data.toList.take (64 + 1) }, [], [], longCnt.data.toList, 2⟩) := by
        show _ = _
        rw [← HG.out, HRL.out, hlf]
        exact if_pos (by rw [List.length_take, list_len]; omega)
      rw [HLR.out] at HLN
      have HBD : Hid _ := rbad_any ⟨#[116, 111, 111, 32, 98, 105, 103, 32, 109, 98, 117, 108, 107, 32, 99, 111, 117, 110, 116, 32, 115, 116, 114, 105, 110, 103]⟩ (by decide) W0
      rw [longCnt_is] at HBD
      clear hlf z0 z1 zf m0 m1 mf
      go_wp2_with fail
      refine (show Calls _ _ _ _ _ from HLN.out).mono ?_
      rintro e w1 ⟨rfl, hw1⟩
      subst hw1
      go_wp2_with fail
      refine (show Calls _ _ _ _ _ from HBD.out).mono ?_
      rintro e w3 ⟨rfl, hb3⟩
      have HB3 : Hid (Below rb w w3) := HB0.out.trans (hb3.mono hrW)
      have HR3 : Hid (w3.heap[rb]? = some (.cells #[.slice none 0 0, .string ⟨#[]⟩] 43)) := keep_row HR0.out hb3
      obtain ⟨y0, y1, yf⟩ := prow2 HR3.out
      clear hb3
      go_wp2
      refine rf_fin HR3.out _ _ _ _ _ (fun w' ho => ⟨Or.inr (Or.inl ?_), HB3.out.trans (ho.below (Nat.le_refl _))⟩) _ rfl rfl rfl rfl
      rw [HGE.out]
      exact ⟨rfl, lc_full, rfl, rfl⟩
    · have HLR : Hid (lnR 64 s.data.toList = ([], 0)) := by show _ = _; unfold lnR; rw [hlf]; exact if_neg (by rw [list_len]; exact hlong)
      have HGE : Hid (G = ⟨{ PS0 0 with st := 1, part := s.data.toList.take (64 + 1) }, [], [], [], 0⟩) := by
        show _ = _
        rw [← HG.out, HRL.out, hlf]
        exact if_neg (by rw [List.length_take, list_len]; omega)
      rw [HLR.out] at HLN
      clear hlf
      go_wp2_with fail
      refine (show Calls _ _ _ _ _ from HLN.out).mono ?_
      rintro e w1 ⟨rfl, hw1⟩
      subst hw1
      go_wp2
      refine rf_fin HR0.out _ _ _ _ _ (fun w' ho => ⟨Or.inl ?_, HB0.out.trans (ho.below (Nat.le_refl _))⟩) _ rfl rfl rfl rfl
      rw [HGE.out]
      exact ⟨rfl, none, 0, rfl⟩
  | some k =>
    have hk := lf_len hlf
    rw [List.length_take, list_len] at hk
    have hkp : 0 < k := lf_pos (b := 42) (t := tl) (by decide) (by rw [← HTL.out]; exact hlf)
    have HLR : Hid (lnR 64 s.data.toList = (eol (s.data.toList.take k), (k : Int) + 1)) := by show _ = _; unfold lnR; rw [hlf]
    have HGE : Hid (G = cntO rdN (PS0 0) (s.data.toList.drop (k + 1)) ((eol (s.data.toList.take k)).drop 1)) := by show _ = _; rw [← HG.out, HRL.out, hlf]
    rw [HLR.out] at HLN
    dsimp only at HLN
    have hl1 : 1 ≤ (eol (s.data.toList.take k)).length := by rw [HTL.out]; exact eol_ne (by decide) hkp
    have hl2 := eol_len (s.data.toList.take k)
    rw [List.length_take, list_len] at hl2
    obtain ⟨L, hLL⟩ : ∃ L, strB (eol (s.data.toList.take k)) = L := ⟨_, rfl⟩
    rw [hLL] at HLN
    have hL1 : 1 ≤ L.size := by rw [← hLL, strB_size]; exact hl1
    have hLz : L.size ≤ 1073741824 := by rw [← hLL, strB_size]; omega
    have HNM : Hid _ := refNumber_any (L.extract 1 L.size) (num_max (by rw [ext_size _ _ _ (Nat.le_refl _)]; omega)) W0
    have hl1e : (L.extract 1 L.size).data.toList = (eol (s.data.toList.take k)).drop 1 := by rw [ext_one, ← hLL, strB_list]
    rw [hl1e] at HNM
    obtain ⟨N, hN⟩ : ∃ N, (eol (s.data.toList.take k)).drop 1 = N := ⟨_, rfl⟩
    rw [hN] at HNM HGE
    have hk1 : ¬ ((k : Int) + 1 < 0) := by omega
    have hk2 : (((k : Int) + 1) == 0) = false := by simp; omega
    have hk3 : k + 1 ≤ s.size := by omega
    clear hlf hLL hl1 hl2 hl1e hN
    go_wp2_with fail
    refine (show Calls _ _ _ _ _ from HLN.out).mono ?_
    rintro e w1 ⟨rfl, hw1⟩
    subst hw1
    go_wp2_with fail
    refine (show Calls _ _ _ _ _ from HNM.out).mono ?_
    rintro e w2 ⟨rfl, hb2⟩
    have HB2 : Hid (Below rb w w2) := HB0.out.trans (hb2.mono hrW)
    have HR2 : Hid (w2.heap[rb]? = some (.cells #[.slice none 0 0, .string ⟨#[]⟩] 43)) := keep_row HR0.out hb2
    have HN2 : Hid (w2.heap[rb + 1]? = some (.cells #[.slice none 0 0, .string ⟨#[]⟩] 43)) := keep_row HN0.out hb2
    have hrw2 : rb ≤ w2.heap.size := by have := HB2.out.size; rw [HRB.out] at this; exact this
    clear hb2 z0 z1 zf m0 m1 mf
    have HBD : Hid _ := rbad_any ⟨#[105, 110, 118, 97, 108, 105, 100, 32, 109, 117, 108, 116, 105, 98, 117, 108, 107, 32, 108, 101, 110, 103, 116, 104]⟩ (by decide) w2
    rw [badCnt_is] at HBD
    cases hno : numberOf N with
    | none =>
      rw [numT_none hno]
      have HGO : Hid (G = ⟨{ PS0 0 with st := 1, part := [], more := cntN N }, [], [], badCnt.data.toList, 2⟩) := by show _ = _; rw [HGE.out]; unfold cntO; exact if_neg (by unfold cntOk; rw [hno]; simp)
      clear hno
      go_wp2_with fail
      refine (show Calls _ _ _ _ _ from HBD.out).mono ?_
      rintro e w3 ⟨rfl, hb3⟩
      have HB3 : Hid (Below rb w w3) := HB2.out.trans (hb3.mono hrw2)
      have HR3 : Hid (w3.heap[rb]? = some (.cells #[.slice none 0 0, .string ⟨#[]⟩] 43)) := keep_row HR2.out hb3
      obtain ⟨y0, y1, yf⟩ := prow2 HR3.out
      clear hb3
      go_wp2
      refine rf_fin HR3.out _ _ _ _ _ (fun w' ho => ⟨Or.inr (Or.inl ?_), HB3.out.trans (ho.below (Nat.le_refl _))⟩) _ rfl rfl rfl rfl
      rw [HGO.out]
      exact ⟨rfl, bc_full, rfl, rfl⟩
    | some v =>
      rw [numT_some hno]
      have hvr := numberOf_some hno
      have hv0 := hvr.2.1
      have hv1 := hvr.2.2.1
      have hcn : cntN N = v := by unfold cntN; rw [hno]; rfl
      have hok : cntOk N = decide (v ≤ 1048576) := by unfold cntOk; rw [hno]
      clear hvr
      by_cases hbig : (1048576 : Int) < v
      · have HGO : Hid (G = ⟨{ PS0 0 with st := 1, part := [], more := cntN N }, [], [], badCnt.data.toList, 2⟩) := by show _ = _; rw [HGE.out]; unfold cntO; exact if_neg (by rw [hok]; simp; omega)
        clear hno hcn hok
        go_wp2_with fail
        refine (show Calls _ _ _ _ _ from HBD.out).mono ?_
        rintro e w3 ⟨rfl, hb3⟩
        have HB3 : Hid (Below rb w w3) := HB2.out.trans (hb3.mono hrw2)
        have HR3 : Hid (w3.heap[rb]? = some (.cells #[.slice none 0 0, .string ⟨#[]⟩] 43)) := keep_row HR2.out hb3
        obtain ⟨y0, y1, yf⟩ := prow2 HR3.out
        clear hb3
        go_wp2
        refine rf_fin HR3.out _ _ _ _ _ (fun w' ho => ⟨Or.inr (Or.inl ?_), HB3.out.trans (ho.below (Nat.le_refl _))⟩) _ rfl rfl rfl rfl
        rw [HGO.out]
        exact ⟨rfl, bc_full, rfl, rfl⟩
      · obtain ⟨n, hn⟩ : ∃ n : Nat, (if v < 1 then 0 else v.toNat) = n := ⟨_, rfl⟩
        have HGO : Hid ((n = 0 ∧ v < 1 ∧ G.k = 1 ∧ G.err = [] ∧ G.args = [] ∧ G.rest = s.data.toList.drop (k + 1)) ∨ (v = (n : Int) ∧ 0 < n ∧ n ≤ 1048576 ∧ ∃ S, S.part = [] ∧ S.words = [] ∧ S.more = (n : Int) ∧ S.total = 0 ∧ G = rdN S (s.data.toList.drop (k + 1)))) := by
          show _ ∨ _
          by_cases hv1 : v < 1
          · left
            rw [if_pos hv1] at hn
            have : G = ⟨{ PS0 0 with st := 1, part := [], more := v }, s.data.toList.drop (k + 1), [], [], 1⟩ := by
              rw [HGE.out]; unfold cntO
              rw [if_pos (by rw [hok]; exact decide_eq_true (by omega)), hcn, if_pos hv1]
            rw [this]
            exact ⟨hn.symm, hv1, rfl, rfl, rfl, rfl⟩
          · right
            rw [if_neg hv1] at hn
            refine ⟨by omega, by omega, by omega, { PS0 0 with st := 1, part := [], more := v }, rfl, rfl, by show v = _; omega, rfl, ?_⟩
            rw [HGE.out]; unfold cntO
            rw [if_pos (by rw [hok]; exact decide_eq_true (by omega)), hcn, if_neg hv1, ← rdN_eq]
        obtain ⟨rr, hrr⟩ : ∃ r, w2.heap.size = r := ⟨_, rfl⟩
        obtain ⟨W3, hW3⟩ : ∃ W, W = w2.alloc (.cells #[.slice none 0 0, .string ⟨#[]⟩] 43) := ⟨_, rfl⟩
        have hb3 : Below w2.heap.size w2 W3 := by rw [hW3]; exact (Below.refl _ _).alloc (Nat.le_refl _) _
        have hr3 : W3.heap[rr]? = some (.cells #[.slice none 0 0, .string ⟨#[]⟩] 43) := by rw [hW3, ← hrr]; exact one_alloc _ _
        have hlt1 : rb + 1 < rr := by rw [← hrr]; exact row_lt HN2.out
        have HFI : Hid (FI2 rb (rb + 1) rr w W3 none 0 0 []) := ⟨HB2.out.trans (hb3.mono hrw2), Nat.le_trans hrw2 hb3.size, keep_row HR2.out hb3, keep_row HN2.out hb3, hr3, ⟨rfl, Or.inl ⟨rfl, rfl⟩⟩, rfl, by omega, by omega, by omega⟩
        obtain ⟨y0, y1, yf⟩ := prow2 HN2.out
        have hnv : v < 1 ∨ v = (n : Int) := by rcases HGO.out with ⟨_, h9, _⟩ | ⟨h9, _⟩; exact Or.inl h9; exact Or.inr h9
        clear hno hcn hok hn hb3 hr3 HBD
        go_upto_region 19 with fail
        rw [← hW3]
        clear hW3 hrr y0 y1 yf
        go_wp2
        go_loopw [11, 15, 16] (fun ca cs ci wr => ∃ (i at' sm : Nat) (P : Option Addr) (c : Nat) (Wd : List SP.Bs), (i ≤ n ∧ at' ≤ s.size ∧ sm ≤ 33554432 ∧ FI2 rb (rb + 1) rr w wr P c i Wd ∧ (i < n → ∃ S, S.part = [] ∧ S.words = Wd ∧ S.more = (n : Int) - (i : Int) ∧ S.total = (sm : Int) ∧ G = rdN S (s.data.toList.drop at')) ∧ (i = n → G.k ≠ 0 ∧ decide (G.k = 2) = decide (0 < v) ∧ G.err = [] ∧ G.args = Wd ∧ G.rest = s.data.toList.drop at')) ∧ ca = .int .i64 (at' : Int) ∧ cs = .int .i64 (sm : Int) ∧ ci = .int .i64 (i : Int)) (fun _ _ ci _ => n - (intOf ci).toNat)
        case atStart =>
          refine ⟨0, k + 1, 0, none, 0, [], ⟨Nat.zero_le _, hk3, by omega, HFI.out, fun hlt => ?_, fun heq => ?_⟩, rfl, rfl, rfl⟩
          · rcases HGO.out with ⟨h9, _⟩ | ⟨_, _, _, S, a1, a2, a3, a4, a5⟩
            · omega
            · exact ⟨S, a1, a2, by rw [a3]; simp, by rw [a4]; rfl, a5⟩
          · rcases HGO.out with ⟨_, a1, a2, a3, a4, a5⟩ | ⟨_, h9, _⟩
            · exact ⟨by rw [a2]; decide, by rw [a2]; simp; omega, a3, a4, a5⟩
            · omega
        case round =>
          obtain ⟨i, pt, sm, P, c, Wd, ⟨hi, hpt, hsm, hfi, hgo, hfin⟩, rfl, rfl, rfl⟩ := hrel
          have HF : Hid (FI2 rb (rb + 1) rr w wr P c i Wd) := hfi
          have HGN : Hid _ := hgo
          have HFN : Hid _ := hfin
          obtain ⟨x0, x1, xf⟩ := prow2 hfi.res
          obtain ⟨n0, n1, nf⟩ := prow2 hfi.non
          obtain ⟨q0, q1, qf⟩ := prow2 hfi.row
          have HLD : Hid (rb ≤ wr.heap.size) := hfi.rb0
          clear hfi hgo hfin
          by_cases hin : i < n
          · have hvn : v = (n : Int) := by rcases hnv with h9 | h9; (rcases HGO.out with ⟨h8, _⟩ | ⟨h8, _⟩; omega; exact h8); exact h9
            have hiv : (i : Int) < v := by omega
            have hn20 : n ≤ 1048576 := by omega
            obtain ⟨S, s1, s2, s3, s4, s5⟩ := HGN.out hin
            have HS5 : Hid (G = rdN S (s.data.toList.drop pt)) := s5
            have HS1 : Hid (S.part = [] ∧ S.words = Wd ∧ S.more = (n : Int) - (i : Int) ∧ S.total = (sm : Int)) := ⟨s1, s2, s3, s4⟩
            clear s1 s2 s3 s4 s5 hvn
            by_cases hpe : pt = s.size
            · have hge : ¬ ((pt : Int) < (s.size : Int)) := by omega
              have hge2 : (s.size : Int) ≤ (pt : Int) := by omega
              have HGK : Hid (G.k = 0) := by
                show _ = _
                rw [HS5.out, hpe, List.drop_eq_nil_of_le (by rw [list_len]; exact Nat.le_refl _), rdN_nil]
              clear hge
              go_wp2
              refine rf_fin HF.out.res _ _ _ _ _ (fun w' ho => ⟨Or.inl ⟨HGK.out, none, 0, rfl⟩, HF.out.bel.trans (ho.below (Nat.le_refl _))⟩) _ rfl rfl rfl rfl
            · have hpl : pt < s.size := by omega
              have hge2 : ¬ ((s.size : Int) ≤ (pt : Int)) := by omega
              have hz0 : (0 : Int) ≤ (pt : Int) := by omega
              have hz1 : (pt : Int) < (s.size : Int) := by omega
              have hdrop : s.data.toList.drop pt = s[pt] :: s.data.toList.drop (pt + 1) := by
                rw [List.drop_eq_getElem_cons (by rw [list_len]; exact hpl)]; rfl
              obtain ⟨b, hbb⟩ : ∃ b, s[pt]'hpl = b := ⟨_, rfl⟩
              rw [hbb] at hdrop
              have HDR : Hid (s.data.toList.drop pt = b :: s.data.toList.drop (pt + 1)) := hdrop
              have HBB : Hid (s[pt]'hpl = b) := hbb
              clear hdrop
              by_cases hb36 : b = 36
              · have hc36 : ((b.toNat : Int) == 36) = true := by rw [hb36]; rfl
                have hc37 : ((b.toNat : Int) != 36) = false := by rw [hb36]; rfl
                obtain ⟨T, hT⟩ : ∃ T, s.extract pt s.size = T := ⟨_, rfl⟩
                have hTl : T.data.toList = 36 :: s.data.toList.drop (pt + 1) := by rw [← hT, ext_any, List.take_of_length_le (by rw [List.length_drop, list_len]; exact Nat.le_refl _), HDR.out, hb36]
                have hTs : T.size = s.size - pt := by rw [← hT, ext_size _ _ _ (Nat.le_refl _)]
                have HTL2 : Hid (T.data.toList = 36 :: s.data.toList.drop (pt + 1)) := hTl
                have HGT : Hid (G = rdN S T.data.toList) := by show _ = _; rw [HS5.out, hTl, HDR.out, hb36]
                have HLM : Hid _ := rline_any T 64 (by decide) (by omega) wr
                have HR36 : Hid _ := rdN_36 S (s.data.toList.drop (pt + 1)) HS1.out.1
                have HTT : Hid (s.extract pt s.size = T) := hT
                clear hTl hb36
                cases hlf2 : lfAt (T.data.toList.take (64 + 1)) with
                | none =>
                  by_cases hlong : 64 < T.size
                  · have HLR2 : Hid (lnR 64 T.data.toList = ([], -1)) := by show _ = _; unfold lnR; rw [hlf2]; exact if_pos (by rw [list_len]; exact hlong)
                    have HGE2 : Hid (G.k = 2 ∧ G.err = longLen.data.toList ∧ G.args = []) := by
                      show _ ∧ _
                      rw [HGT.out, HTL2.out, HR36.out, ← HTL2.out, hlf2]
                      dsimp only
                      rw [if_pos (by rw [List.length_take, list_len]; omega)]
                      exact ⟨rfl, rfl, rfl⟩
                    rw [HLR2.out] at HLM
                    have HBD2 : Hid _ := rbad_any ⟨#[116, 111, 111, 32, 98, 105, 103, 32, 98, 117, 108, 107, 32, 99, 111, 117, 110, 116, 32, 115, 116, 114, 105, 110, 103]⟩ (by decide) wr
                    rw [longLen_is] at HBD2
                    clear hlf2
                    go_wp2_with fail
                    refine (show Calls _ _ _ _ _ from HLM.out).mono ?_
                    rintro e w4 ⟨rfl, hw4⟩
                    subst hw4
                    go_wp2_with fail
                    refine (show Calls _ _ _ _ _ from HBD2.out).mono ?_
                    rintro e w5 ⟨rfl, hb5⟩
                    have HF5 : Hid _ := HF.out.on hb5
                    obtain ⟨y0, y1, yf⟩ := prow2 HF5.out.res
                    clear hb5 x0 x1 xf
                    go_wp2
                    refine rf_fin HF5.out.res _ _ _ _ _ (fun w' ho => ⟨Or.inr (Or.inl ?_), HF5.out.bel.trans (ho.below (Nat.le_refl _))⟩) _ rfl rfl rfl rfl
                    obtain ⟨a1, a2, a3⟩ := HGE2.out
                    exact ⟨a1, by rw [a2]; exact le_full, a3, by rw [a2]; rfl⟩
                  · have HLR2 : Hid (lnR 64 T.data.toList = ([], 0)) := by show _ = _; unfold lnR; rw [hlf2]; exact if_neg (by rw [list_len]; exact hlong)
                    have HGK : Hid (G.k = 0) := by
                      show _ = _
                      rw [HGT.out, HTL2.out, HR36.out, ← HTL2.out, hlf2]
                      dsimp only
                      rw [if_neg (by rw [List.length_take, list_len]; omega)]
                    rw [HLR2.out] at HLM
                    clear hlf2
                    go_wp2_with fail
                    refine (show Calls _ _ _ _ _ from HLM.out).mono ?_
                    rintro e w4 ⟨rfl, hw4⟩
                    subst hw4
                    go_wp2
                    refine rf_fin HF.out.res _ _ _ _ _ (fun w' ho => ⟨Or.inl ⟨HGK.out, none, 0, rfl⟩, HF.out.bel.trans (ho.below (Nat.le_refl _))⟩) _ rfl rfl rfl rfl
                | some k4 =>
                  have hk4 := lf_len hlf2
                  rw [List.length_take, list_len] at hk4
                  have hkp4 : 0 < k4 := lf_pos (b := 36) (t := s.data.toList.drop (pt + 1)) (by decide) (by rw [← HTL2.out]; exact hlf2)
                  have HLR2 : Hid (lnR 64 T.data.toList = (eol (T.data.toList.take k4), (k4 : Int) + 1)) := by show _ = _; unfold lnR; rw [hlf2]
                  have HGL : Hid (G = lenO rdN { S with st := 2 } (T.data.toList.drop (k4 + 1)) (lenV ((eol (T.data.toList.take k4)).drop 1))) := by
                    show _ = _
                    rw [HGT.out, HTL2.out, HR36.out, ← HTL2.out, hlf2]
                  rw [HLR2.out] at HLM
                  dsimp only at HLM
                  have hl1 : 1 ≤ (eol (T.data.toList.take k4)).length := by rw [HTL2.out]; exact eol_ne (by decide) hkp4
                  have hl2 := eol_len (T.data.toList.take k4)
                  rw [List.length_take, list_len] at hl2
                  obtain ⟨L2, hLL⟩ : ∃ L, strB (eol (T.data.toList.take k4)) = L := ⟨_, rfl⟩
                  rw [hLL] at HLM
                  have hM1 : 1 ≤ L2.size := by rw [← hLL, strB_size]; exact hl1
                  have hMz : L2.size ≤ 1073741824 := by rw [← hLL, strB_size]; omega
                  have HNM2 : Hid _ := refNumber_any (L2.extract 1 L2.size) (num_max (by rw [ext_size _ _ _ (Nat.le_refl _)]; omega)) wr
                  have hl1e : (L2.extract 1 L2.size).data.toList = (eol (T.data.toList.take k4)).drop 1 := by rw [ext_one, ← hLL, strB_list]
                  rw [hl1e] at HNM2
                  obtain ⟨N2, hN2⟩ : ∃ N, (eol (T.data.toList.take k4)).drop 1 = N := ⟨_, rfl⟩
                  rw [hN2] at HNM2 HGL
                  have hj1 : ¬ ((k4 : Int) + 1 < 0) := by omega
                  have hj2 : (((k4 : Int) + 1) == 0) = false := by simp; omega
                  clear hlf2 hLL hl1 hl2 hl1e hN2
                  go_wp2_with fail
                  refine (show Calls _ _ _ _ _ from HLM.out).mono ?_
                  rintro e w4 ⟨rfl, hw4⟩
                  subst hw4
                  go_wp2_with fail
                  refine (show Calls _ _ _ _ _ from HNM2.out).mono ?_
                  rintro e w5 ⟨rfl, hb5⟩
                  have HF5 : Hid (FI2 rb (rb + 1) rr w w5 P c i Wd) := HF.out.on hb5
                  clear hb5 x0 x1 xf n0 n1 nf q0 q1 qf
                  have HBD2 : Hid _ := rbad_any ⟨#[105, 110, 118, 97, 108, 105, 100, 32, 98, 117, 108, 107, 32, 108, 101, 110, 103, 116, 104]⟩ (by decide) w5
                  rw [badLen_is] at HBD2
                  cases hno2 : numberOf N2 with
                  | none =>
                    rw [numT_none hno2]
                    have HGE2 : Hid (G.k = 2 ∧ G.err = badLen.data.toList ∧ G.args = []) := by
                      show _ ∧ _
                      rw [HGL.out]; unfold lenV; rw [hno2]; exact ⟨rfl, rfl, rfl⟩
                    clear hno2
                    go_wp2_with fail
                    refine (show Calls _ _ _ _ _ from HBD2.out).mono ?_
                    rintro e w7 ⟨rfl, hb7⟩
                    have HF7 : Hid _ := HF5.out.on hb7
                    obtain ⟨y0, y1, yf⟩ := prow2 HF7.out.res
                    clear hb7
                    go_wp2
                    refine rf_fin HF7.out.res _ _ _ _ _ (fun w' ho => ⟨Or.inr (Or.inl ?_), HF7.out.bel.trans (ho.below (Nat.le_refl _))⟩) _ rfl rfl rfl rfl
                    obtain ⟨a1, a2, a3⟩ := HGE2.out
                    exact ⟨a1, by rw [a2]; exact be_full, a3, by rw [a2]; rfl⟩
                  | some v2 =>
                    rw [numT_some hno2]
                    by_cases hneg : v2 < 0
                    · have HGE2 : Hid (G.k = 2 ∧ G.err = badLen.data.toList ∧ G.args = []) := by
                        show _ ∧ _
                        rw [HGL.out]; unfold lenV; rw [hno2]; dsimp only; rw [if_neg (by omega)]; exact ⟨rfl, rfl, rfl⟩
                      clear hno2
                      go_wp2_with fail
                      refine (show Calls _ _ _ _ _ from HBD2.out).mono ?_
                      rintro e w7 ⟨rfl, hb7⟩
                      have HF7 : Hid _ := HF5.out.on hb7
                      obtain ⟨y0, y1, yf⟩ := prow2 HF7.out.res
                      clear hb7
                      go_wp2
                      refine rf_fin HF7.out.res _ _ _ _ _ (fun w' ho => ⟨Or.inr (Or.inl ?_), HF7.out.bel.trans (ho.below (Nat.le_refl _))⟩) _ rfl rfl rfl rfl
                      obtain ⟨a1, a2, a3⟩ := HGE2.out
                      exact ⟨a1, by rw [a2]; exact be_full, a3, by rw [a2]; rfl⟩
                    · by_cases hbig2 : (524288 : Int) < v2
                      · have HGE2 : Hid (G.k = 2 ∧ G.err = badLen.data.toList ∧ G.args = []) := by
                          show _ ∧ _
                          rw [HGL.out]; unfold lenV; rw [hno2]; dsimp only; rw [if_neg (by omega)]; exact ⟨rfl, rfl, rfl⟩
                        clear hno2
                        go_wp2_with fail
                        refine (show Calls _ _ _ _ _ from HBD2.out).mono ?_
                        rintro e w7 ⟨rfl, hb7⟩
                        have HF7 : Hid _ := HF5.out.on hb7
                        obtain ⟨y0, y1, yf⟩ := prow2 HF7.out.res
                        clear hb7
                        go_wp2
                        refine rf_fin HF7.out.res _ _ _ _ _ (fun w' ho => ⟨Or.inr (Or.inl ?_), HF7.out.bel.trans (ho.below (Nat.le_refl _))⟩) _ rfl rfl rfl rfl
                        obtain ⟨a1, a2, a3⟩ := HGE2.out
                        exact ⟨a1, by rw [a2]; exact be_full, a3, by rw [a2]; rfl⟩
                      · obtain ⟨m2, hm2⟩ : ∃ m : Nat, v2 = (m : Int) := ⟨v2.toNat, by omega⟩
                        subst hm2
                        have hlv : lenV N2 = some (m2 : Int) := by unfold lenV; rw [hno2]; exact if_pos ⟨by omega, by omega⟩
                        rw [hlv] at HGL
                        clear hno2 hlv hneg
                        by_cases hsum : (33554432 : Int) < (sm : Int) + (m2 : Int)
                        · have HGE2 : Hid (G.k = 2 ∧ G.err = badLen.data.toList ∧ G.args = []) := by
                            show _ ∧ _
                            rw [HGL.out]
                            exact lenO_big { S with st := 2 } _ _ (by show ¬ S.total + _ ≤ _; rw [HS1.out.2.2.2]; omega)
                          go_wp2_with fail
                          refine (show Calls _ _ _ _ _ from HBD2.out).mono ?_
                          rintro e w7 ⟨rfl, hb7⟩
                          have HF7 : Hid _ := HF5.out.on hb7
                          obtain ⟨y0, y1, yf⟩ := prow2 HF7.out.res
                          clear hb7
                          go_wp2
                          refine rf_fin HF7.out.res _ _ _ _ _ (fun w' ho => ⟨Or.inr (Or.inl ?_), HF7.out.bel.trans (ho.below (Nat.le_refl _))⟩) _ rfl rfl rfl rfl
                          obtain ⟨a1, a2, a3⟩ := HGE2.out
                          exact ⟨a1, by rw [a2]; exact be_full, a3, by rw [a2]; rfl⟩
                        · obtain ⟨S', b1, b2, b3, b4, b5, b6⟩ := lenO_is { S with st := 2 } (T.data.toList.drop (k4 + 1)) m2 (by omega) (by show S.total + _ ≤ _; rw [HS1.out.2.2.2]; omega)
                          have hul : (T.data.toList.drop (k4 + 1)).length = s.size - (pt + k4 + 1) := by rw [List.length_drop, list_len]; omega
                          have HUE : Hid (T.data.toList.drop (k4 + 1) = s.data.toList.drop (pt + (k4 + 1))) := by
                            show _ = _
                            rw [← HTT.out, ext_any, List.take_of_length_le (by rw [List.length_drop, list_len]; exact Nat.le_refl _), List.drop_drop]
                          rw [hul] at b5 b6
                          have hat : ((pt + (k4 + 1) : Nat) : Int) = (pt : Int) + ((k4 : Int) + 1) := by omega
                          by_cases hwait : s.size - (pt + k4 + 1) < m2 + 2
                          · have HGK : Hid (G.k = 0) := by show _ = _; rw [HGL.out]; exact b5 hwait
                            have hwc : (s.size : Int) - ((pt : Int) + ((k4 : Int) + 1)) < (m2 : Int) + 2 := by omega
                            obtain ⟨y0, y1, yf⟩ := prow2 HF5.out.res
                            obtain ⟨u0, u1, uf⟩ := prow2 HF5.out.non
                            clear b1 b2 b3 b4 b5 b6 hul hat
                            go_wp2
                            refine rf_fin HF5.out.res _ _ _ _ _ (fun w' ho => ⟨Or.inl ⟨HGK.out, none, 0, rfl⟩, HF5.out.bel.trans (ho.below (Nat.le_refl _))⟩) _ rfl rfl rfl rfl
                          · have hwc : ¬ ((s.size : Int) - ((pt : Int) + ((k4 : Int) + 1)) < (m2 : Int) + 2) := by omega
                            have hGo := HGL.out.trans (b6 hwait)
                            obtain ⟨a, ha⟩ : ∃ a : Nat, pt + (k4 + 1) = a := ⟨_, rfl⟩
                            have hai : (pt : Int) + ((k4 : Int) + 1) = (a : Int) := by omega
                            obtain ⟨b9, hb9⟩ : ∃ b : Nat, a + m2 = b := ⟨_, rfl⟩
                            have hbi : (a : Int) + (m2 : Int) = (b9 : Int) := by omega
                            have hbs : b9 ≤ s.size := by omega
                            have hab : a ≤ b9 := by omega
                            obtain ⟨X, hX⟩ : ∃ X, s.extract a b9 = X := ⟨_, rfl⟩
                            have hXl : X.data.toList = (T.data.toList.drop (k4 + 1)).take m2 := by rw [← hX, ext_any, HUE.out, ha, show b9 - a = m2 by omega]
                            have HXL : Hid _ := hXl
                            have HGO2 : Hid _ := hGo
                            have HS' : Hid (S'.part = [] ∧ S'.words = Wd ++ [X.data.toList] ∧ S'.more = (n : Int) - (i : Int) - 1 ∧ S'.total = (sm : Int) + (m2 : Int)) := ⟨b1, by rw [b2, hXl]; exact congrArg (· ++ _) HS1.out.2.1, by rw [b3]; exact congrArg (· - 1) HS1.out.2.2.1, by rw [b4]; exact congrArg (· + _) HS1.out.2.2.2⟩
                            have HA : Hid (pt + (k4 + 1) = a) := ha
                            have HXX : Hid (s.extract a b9 = X) := hX
                            clear b1 b2 b3 b4 b5 b6 hul hat hGo hXl ha hb9
                            obtain ⟨q0, q1, qf⟩ := prow2 HF5.out.row
                            have HPX : Hid (FI2 rb (rb + 1) rr w (w5.alloc (.cells #[.string X] 9)).drew P c i Wd) := (HF5.out.on ((Below.refl _ _).alloc (Nat.le_refl _) _).drew)
                            have HCX : Hid ((w5.alloc (.cells #[.string X] 9)).drew.cell? ⟨w5.heap.size, 0, none⟩ = some (.string X)) := (row1 (one_alloc w5 (.cells #[.string X] 9))).1
                            have e3 := cell_a1 q0 (.cells #[.string X] 9)
                            have hin20 : i ≤ 1099511627776 := by omega
                            have hpos : 0 < v := by omega
                            have hwb : IntKind.i64.wrap (b9 : Int) = (b9 : Int) := by rw [IntKind.wrap_i64] <;> omega
                            have hwb0 : (0 : Int) ≤ (b9 : Int) := by omega
                            have hwb1 : (b9 : Int) ≤ (s.size : Int) := by omega
                            have hwb2 : (a : Int) ≤ (b9 : Int) := by omega
                            go_upto_region 39 with fail
                            go_region_law (refine step_append_w rfl (.tmp 170) (.tmp 177) rfl rb HPX.out.rb0 (.slice P i c) i (strS Wd) rfl HPX.out.own w5.heap.size X rfl HCX.out hin20 ?_; intro v8 w8 ho8 hg8 hat8; obtain ⟨P8, k8, hf8⟩ := own_form ho8; subst hf8; obtain ⟨hr8, hp8⟩ := HPX.out.word (u := X.data.toList) ho8 hg8 hat8; have HP8 : Hid _ := hp8; clear hp8; obtain ⟨d0, d1, df⟩ := prow2 hr8)
                            all_goals
                              clear ho8 hg8 hat8 hr8 e3 q0 q1 qf
                              obtain ⟨W9, hW9⟩ : ∃ W, W = w8.setCell ⟨rr, 0, none⟩ (.slice P8 (i + 1) k8) := ⟨_, rfl⟩
                              rw [← hW9] at HP8 ⊢
                              clear hW9 d0 d1 df
                              go_wp2
                              go_roundw
                              case rel =>
                                have hdd : (T.data.toList.drop (k4 + 1)).drop (m2 + 2) = s.data.toList.drop (b9 + 2) := by rw [HUE.out, HA.out, List.drop_drop]; congr 1; omega
                                obtain ⟨c1, c2, c3, c4⟩ := HS'.out
                                refine ⟨i + 1, b9 + 2, sm + m2, P8, k8, Wd ++ [X.data.toList], ⟨hin, by omega, by omega, HP8.out, fun hlt => ⟨S', c1, c2, by rw [c3]; omega, by rw [c4]; omega, ?_⟩, fun heq => ?_⟩, by congr 1, by congr 1, rfl⟩
                                · have h9 := HGO2.out
                                  rw [if_pos (by show 0 < S.more - 1; rw [HS1.out.2.2.1]; omega), hdd] at h9
                                  exact h9
                                · have h9 := HGO2.out
                                  rw [if_neg (by show ¬ 0 < S.more - 1; rw [HS1.out.2.2.1]; omega), hdd] at h9
                                  rw [h9]
                                  exact ⟨by show (2 : Int) ≠ 0; decide, by show decide ((2 : Int) = 2) = _; rw [decide_eq_true hpos]; rfl, rfl, c2, rfl⟩
                              case measure => simp [intOf]; omega
              · have hc36 : ((b.toNat : Int) == 36) = false := by
                  simp only [beq_eq_false_iff_ne, ne_eq]
                  intro h9
                  exact hb36 (UInt8.toNat_inj.1 (by have h8 : b.toNat = 36 := by omega
                                                    rw [h8]; rfl))
                have hc37 : ((b.toNat : Int) != 36) = true := by
                  simp only [bne_iff_ne, ne_eq]
                  intro h9
                  rw [h9] at hc36
                  simp at hc36
                have HGE2 : Hid (G.k = 2 ∧ G.err = expB b ∧ G.args = []) := by
                  show _ ∧ _
                  rw [HS5.out, HDR.out, rdN_other S b _ hb36]
                  exact ⟨rfl, rfl, rfl⟩
                have hx1 : pt + 1 ≤ s.size := hpl
                have hxs : (s.extract pt (pt + 1)).size = 1 := by rw [ext_size _ _ _ hx1]; omega
                have hj1 : (⟨#[101, 120, 112, 101, 99, 116, 101, 100, 32, 39, 36, 39, 44, 32, 103, 111, 116, 32, 39]⟩ : ByteArray).size + (s.extract pt (pt + 1)).size ≤ 9223372036854775807 := by rw [hxs]; decide
                have hX1s : ((⟨#[101, 120, 112, 101, 99, 116, 101, 100, 32, 39, 36, 39, 44, 32, 103, 111, 116, 32, 39]⟩ : ByteArray) ++ s.extract pt (pt + 1)).size = 20 := by rw [ByteArray.size_append, hxs]; rfl
                have HBD2 : Hid _ := rbad_any ((⟨#[101, 120, 112, 101, 99, 116, 101, 100, 32, 39, 36, 39, 44, 32, 103, 111, 116, 32, 39]⟩ ++ s.extract pt (pt + 1)) ++ ⟨#[39]⟩) (by rw [ByteArray.size_append, hX1s]; decide) wr
                have hex := exp_is s pt hpl
                rw [HBB.out] at hex
                rw [hex] at HBD2
                have hj2 : ((⟨#[101, 120, 112, 101, 99, 116, 101, 100, 32, 39, 36, 39, 44, 32, 103, 111, 116, 32, 39]⟩ : ByteArray) ++ s.extract pt (pt + 1)).size + (⟨#[39]⟩ : ByteArray).size ≤ 9223372036854775807 := by rw [hX1s]; decide
                clear hex
                go_wp2_with fail
                refine (show Calls _ _ _ _ _ from HBD2.out).mono ?_
                rintro e w5 ⟨rfl, hb5⟩
                have HF5 : Hid _ := HF.out.on hb5
                obtain ⟨y0, y1, yf⟩ := prow2 HF5.out.res
                clear hb5 x0 x1 xf
                go_wp2
                refine rf_fin HF5.out.res _ _ _ _ _ (fun w' ho => ⟨Or.inr (Or.inl ?_), HF5.out.bel.trans (ho.below (Nat.le_refl _))⟩) _ rfl rfl rfl rfl
                obtain ⟨a1, a2, a3⟩ := HGE2.out
                exact ⟨a1, by rw [a2]; exact ex_full b, a3, by rw [a2]⟩
          · have hie : i = n := by omega
            have hiv : ¬ ((i : Int) < v) := by rcases hnv with h9 | h9 <;> omega
            obtain ⟨f1, f2, f3, f4, f5⟩ := HFN.out hie
            have HFF : Hid (G.k ≠ 0 ∧ decide (G.k = 2) = decide (0 < v) ∧ G.err = [] ∧ G.args = Wd ∧ G.rest = s.data.toList.drop pt) := ⟨f1, f2, f3, f4, f5⟩
            have HRS : Hid ((s.size : Int) - (G.rest.length : Int) = (pt : Int)) := by show _ = _; rw [f5, List.length_drop, list_len]; omega
            have HAL : Hid (G.args.length = i) := by show _ = _; rw [f4]; exact HF.out.len
            clear f1 f2 f3 f4 f5
            subst hie
            go_wp2
            refine rf_fin HF.out.res _ _ _ _ _ (fun w' ho => ⟨Or.inr (Or.inr ⟨HFF.out.1, HFF.out.2.2.1, P, c, ?_, ?_⟩), HF.out.bel.trans (ho.below (Nat.le_refl _))⟩) _ rfl rfl rfl rfl
            · rw [HRS.out, HAL.out, HFF.out.2.1]
            · rw [HAL.out, HFF.out.2.2.2.1]
              exact row_only HF.out.own ho HF.out.res
end Go.Proofs.YtbmfbpcjokbjkaaGreatDoor
