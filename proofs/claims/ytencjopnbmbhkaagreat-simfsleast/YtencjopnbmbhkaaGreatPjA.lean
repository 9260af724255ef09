import Derived.Test.YtencjopnbmbhkaaGreatPhD
import Derived.Test.YtencjopnbmbhkaaGreatShC
namespace Go.Proofs.YtencjopnbmbhkaaGreat
open Go.RowKit Go.Maps
set_option linter.unusedVariables false
set_option linter.unusedSimpArgs false
def chkP (F : Fs) (n least : Int) : Int := if F.down then 203 else if n < least ∨ 1099511627776 < n then 1 else 0
set_option maxHeartbeats 1000000 in
theorem checkPlan_any (g : Nat) (X : Gh) (F : Fs) (n least : Int) (w : World) (h : FsC w g X F) : Calls Tryz.prog 36 #[ptr (some g), .int .i64 n, .int .i64 least] w fun e w' => e = .returned (.int .i64 (chkP F n least)) ∧ w' = w := by
  obtain ⟨c0, _⟩ := h.cells
  clear h
  unfold ptr chkP
  obtain ⟨dn, hdn⟩ : ∃ dn, F.down = dn := ⟨_, rfl⟩
  rw [hdn] at c0 ⊢
  clear hdn
  cases dn with
  | true =>
    go_enter Tryz.func36, Tryz.ntmps36
    go_wp2
    go_ret
    exact ⟨rfl, rfl⟩
  | false =>
    by_cases h1 : n < least
    · rw [if_pos (Or.inl h1)]
      go_enter Tryz.func36, Tryz.ntmps36
      go_wp2
      go_ret
      exact ⟨rfl, rfl⟩
    · by_cases h2 : 1099511627776 < n
      · rw [if_pos (Or.inr h2)]
        go_enter Tryz.func36, Tryz.ntmps36
        go_wp2
        go_ret
        exact ⟨rfl, rfl⟩
      · rw [if_neg (show ¬ (n < least ∨ 1099511627776 < n) by omega)]
        go_enter Tryz.func36, Tryz.ntmps36
        go_wp2
        go_ret
        exact ⟨rfl, rfl⟩
set_option maxHeartbeats 1000000 in
theorem Read_any (g : Nat) (X : Gh) (F : Fs) (n : ByteArray) (hn : n.size ≤ 140737488355328) (w : World) (h : FsP w g X F) :
    Calls Tryz.prog 24 #[ptr (some g), .string n] w fun e w' => e = .returned (.tuple #[.string (readM F n).1, .int .i64 (readM F n).2]) ∧ Below w.heap.size w w' := by
  have HFI : Hid _ := find0_any g X F n hn w h
  by_cases h0 : hasM F n = 0
  · obtain ⟨hd, hnm, hf⟩ := has_zero.1 h0
    obtain ⟨i, hi1, hi2, hi3, hl⟩ := h.named hf
    have hy := fnd_yes (X := X) (os := []) hd (by simpa using hnm) hf
    rw [hy, h0, hi2] at HFI
    have hM : readM F n = ((F.files.getD i ⟨⟨#[]⟩, 0⟩).d, 0) := by
      unfold readM; rw [if_pos h0, hi2]
    rw [hM]
    have HF : Hid (∀ W, Below w.heap.size w W → FileAt W (X.fb i) i (F.files.getD i ⟨⟨#[]⟩, 0⟩) (X.pv i) (X.ps i)) := fun W hb => ((h.on hb).file hl)
    generalize F.files.getD i ⟨⟨#[]⟩, 0⟩ = x at *
    generalize X.fb i = bb at *
    clear h hd hnm hf hi1 hi2 hi3 hl hy h0
    unfold ptr at HFI ⊢
    go_enter Tryz.func24, Tryz.ntmps24
    go_wp2_with fail
    refine (show Calls _ _ _ _ _ from HFI.out).mono ?_
    rintro e w1 ⟨rfl, hb1⟩
    have hf := HF.out w1 hb1
    obtain ⟨d0, d1, d2, d3, df⟩ := file_cells hf.blk
    have HC : Hid _ := hf.first x.d.size (Nat.le_refl _)
    have HE : Hid (x.d.extract 0 x.d.size = x.d) := ext_all _
    have HB1 : Hid (Below w.heap.size w w1) := hb1
    generalize x.d.size = sz at *
    unfold ptr at HC
    clear hb1 hf df
    go_wp2_with fail
    refine (show Calls _ _ _ _ _ from HC.out).mono ?_
    rintro e w2 ⟨rfl, hb⟩
    have HB2 : Hid (Below w1.heap.size w1 w2) := hb
    rw [HE.out]
    clear hb
    go_wp2
    go_returns
    exact ⟨rfl, HB1.out.trans (HB2.out.mono HB1.out.size)⟩
  · have hno := fnd_no (F := F) (X := X) (n := n) (os := []) (fun hh => h0 (has_zero.2 ⟨hh.1, by simpa using hh.2.1, hh.2.2⟩))
    rw [hno.1] at HFI
    have hM : readM F n = (⟨#[]⟩, hasM F n) := by unfold readM; rw [if_neg h0]
    rw [hM]
    obtain ⟨er, her⟩ : ∃ er, hasM F n = er := ⟨_, rfl⟩
    rw [her] at HFI h0 ⊢
    have hne : (er == 0) = false := by simpa using h0
    clear h hno hM her
    unfold ptr at HFI ⊢
    go_enter Tryz.func24, Tryz.ntmps24
    go_wp2_with fail
    refine (show Calls _ _ _ _ _ from HFI.out).mono ?_
    rintro e w1 ⟨rfl, hb1⟩
    have HB1 : Hid (Below w.heap.size w w1) := hb1
    clear hb1
    go_wp2
    go_returns
    exact ⟨rfl, HB1.out⟩
end Go.Proofs.YtencjopnbmbhkaaGreat
