import Derived.Test.YtnnpnccnpojfmaaTbZp
import Derived.Test.YtnnpnccnpojfmaaTbZq
import Derived.Test.YtnnpnccnpojfmaaTbZr
namespace Go.Proofs.Ytnnpnccnpojfmaa
open Go.RowKit
set_option linter.unusedVariables false
set_option linter.unusedSimpArgs false
set_option maxHeartbeats 1000000 in
set_option maxRecDepth 20000 in
theorem rtrouble_any (args : List ByteArray) (va : Value) (hl : args.length ≤ 70368744177664) (h0 : (TB.name0 args).size ≤ 140737488351232) (w : World) (hA : SRow w va args) : Calls Try.prog 21 #[va] w fun e w' => e = .returned (.string (TB.trouble args)) ∧ Below w.heap.size w w' := by
  obtain ⟨i0, hi, hy0, hy1, hy2⟩ := info_parts info5
  have HC : Hid (Calls Try.prog 20 #[va] w fun e w' => e = .returned (.int .i64 (TB.err args)) ∧ Below w.heap.size w w') := rcheck_any args va hl h0 w hA
  obtain ⟨P, c, hva⟩ := hA.form
  obtain ⟨er, her⟩ : ∃ er, TB.err args = er := ⟨_, rfl⟩
  have HER : Hid (TB.err args = er) := her
  rw [her] at HC
  clear her
  by_cases h130 : er = 130
  · subst h130
    obtain ⟨sh, hsh⟩ : ∃ sh, strB (TB.shown (TB.name0 args).data.toList) = sh := ⟨_, rfl⟩
    have HSHE : Hid (strB (TB.shown (TB.name0 args).data.toList) = sh) := hsh
    have hshs : sh.size ≤ 128 := by rw [← hsh, strB_size]; exact shown_len _
    have HT : Hid (TB.trouble args = TB.t1 ++ sh ++ TB.t2) := by show _ = _; unfold TB.trouble; rw [if_pos HER.out, HSHE.out]
    rw [HT.out]
    clear hsh
    match args, hA, hva, HC, hl, HSHE, h0 with
    | [], hA, hva, HC, hl, HSHE, h0 =>
      subst hva
      obtain ⟨args, ha⟩ : ∃ args : List ByteArray, [] = args := ⟨_, rfl⟩
      rw [ha] at HSHE
      obtain ⟨s, hs⟩ : ∃ s : ByteArray, s = ⟨#[]⟩ := ⟨_, rfl⟩
      have HSL : Hid (s.data.toList.map TB.shw1 = TB.shown (TB.name0 args).data.toList) := by rw [hs, ← ha]; rfl
      have hss : s.size = 0 := by rw [hs]; rfl
      exact rt_p args P c 0 w HC sh HSHE hshs rfl s hs HSL hss
    | a :: l, hA, hva, HC, hl, HSHE, h0 =>
      subst hva
      obtain ⟨g, o, rfl, hcell0⟩ := hA.cell 0 (by simp)
      simp only [Nat.add_zero, List.getElem_cons_zero] at hcell0
      have h0 : a.size ≤ 140737488351232 := h0
      obtain ⟨args, ha⟩ : ∃ args : List ByteArray, a :: l = args := ⟨_, rfl⟩
      have hn0 : TB.name0 args = a := by rw [← ha]; rfl
      have hn1 : 0 < args.length := by rw [← ha]; simp
      rw [ha] at HSHE HC hl ⊢
      obtain ⟨n, hn⟩ : ∃ n, args.length = n := ⟨_, rfl⟩
      rw [hn] at HC hl hn1 ⊢
      have hz9 : (0 : Int) < (n : Int) := by omega
      have HN0 : Hid (TB.name0 args = a) := hn0
      clear hA ha hn hn0 HT HER
      by_cases h128 : 128 < a.size
      · have hz128 : (128 : Int) < (a.size : Int) := by omega
        have hle : 128 ≤ a.size := by omega
        obtain ⟨s, hs⟩ : ∃ s, a.extract 0 128 = s := ⟨_, rfl⟩
        have HSL : Hid (s.data.toList.map TB.shw1 = TB.shown (TB.name0 args).data.toList) := by
          show _ = _
          rw [HN0.out, ← hs, ext_any]
          unfold TB.shown
          rw [List.drop_zero]
        have hss : s.size ≤ 128 := by rw [← hs, ext_size _ _ _ hle]; omega
        exact rt_q args (some ⟨g, o, none⟩) c n w HC sh HSHE hshs g o rfl a hcell0 hn1 hz9 hz128 hle s hs HSL hss
      · have hz128 : ¬ (128 : Int) < (a.size : Int) := by omega
        have HSL : Hid (a.data.toList.map TB.shw1 = TB.shown (TB.name0 args).data.toList) := by
          show _ = _
          rw [HN0.out]
          unfold TB.shown
          rw [List.take_of_length_le (by rw [list_len]; omega)]
        exact rt_r args (some ⟨g, o, none⟩) c n w HC sh HSHE hshs g o rfl a hcell0 hn1 hz9 hz128 HSL (by omega)
  · have q1 : (er == 130) = false := by simpa using h130
    by_cases h131 : er = 131
    · subst h131
      match args, hA, hva, HC, hl, HER, h0 with
      | [], hA, hva, HC, hl, HER, h0 => exact absurd (HER.out.symm.trans (TB.err_none TB.row_nil)) (by decide)
      | a :: l, hA, hva, HC, hl, HER, h0 =>
        subst hva
        obtain ⟨g, o, rfl, hcell0⟩ := hA.cell 0 (by simp)
        simp only [Nat.add_zero, List.getElem_cons_zero] at hcell0
        have h0 : a.size ≤ 140737488351232 := h0
        have HL2 : Hid _ := rlower_any a h0
        obtain ⟨x0, hx0⟩ : ∃ x0, strB (TB.low a.data.toList) = x0 := ⟨_, rfl⟩
        rw [hx0] at HL2
        have HNM : Hid (TB.nmO (TB.row (a :: l)) = x0 ∧ x0.size ≤ 16) := by
          cases hr : TB.row (a :: l) with
          | none => exact absurd (HER.out.symm.trans (TB.err_none hr)) (by decide)
          | some r =>
            obtain ⟨h1, h2⟩ := TB.find_mem hr
            have e : r.nm = x0 := by rw [← hx0]; exact bytes_ext (by rw [strB_list]; exact h2)
            exact ⟨e, by rw [← e]; exact (TB.wf_parts (TB.wf_at h1)).2.1⟩
        have HT : Hid (TB.trouble (a :: l) = TB.t3 ++ x0 ++ TB.t4) := by show _ = _; unfold TB.trouble; rw [if_neg (by rw [HER.out]; decide), if_pos HER.out, HNM.out.1]
        rw [HT.out]
        have hx16 := HNM.out.2
        obtain ⟨n, hn⟩ : ∃ n, (a :: l).length = n := ⟨_, rfl⟩
        have hn1 : 0 < n := by rw [← hn]; simp
        rw [hn] at HC hl ⊢
        have hz9 : (0 : Int) < (n : Int) := by omega
        clear hA hn hx0
        go_enter Try.func21, Try.ntmps21
        go_wp2_with fail
        refine (show Calls _ _ _ _ _ from HC.out).mono ?_
        rintro e WB ⟨rfl, hb1⟩
        have HBB : Hid (Below w.heap.size w WB) := hb1
        have hc1 := cell_on hcell0 hb1
        clear hb1
        go_wp2_with fail
        refine (show Calls _ _ _ _ _ from HL2.out _).mono ?_
        rintro e w3 ⟨rfl, hb3⟩
        have HB3 : Hid (Below w.heap.size w w3) := bel_to HBB.out hb3 (Nat.le_refl _)
        clear hb3 hc1
        go_wp2
        go_returns
        exact ⟨rfl, HB3.out⟩
    · have q2 : (er == 131) = false := by simpa using h131
      have HT : Hid (TB.trouble args = ⟨#[]⟩) := by show _ = _; unfold TB.trouble; rw [if_neg (by rw [HER.out]; exact h130), if_neg (by rw [HER.out]; exact h131)]
      rw [HT.out]
      subst hva
      clear hA
      go_enter Try.func21, Try.ntmps21
      go_wp2_with fail
      refine (show Calls _ _ _ _ _ from HC.out).mono ?_
      rintro e WB ⟨rfl, hb1⟩
      have HBB : Hid (Below w.heap.size w WB) := hb1
      clear hb1
      go_wp2
      go_returns
      exact ⟨rfl, HBB.out⟩
end Go.Proofs.Ytnnpnccnpojfmaa
