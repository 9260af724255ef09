import Derived.Test.YtnnpnccnpojfmaaTbZ0
namespace Go.Proofs.Ytnnpnccnpojfmaa
open Go.RowKit
set_option linter.unusedVariables false
set_option linter.unusedSimpArgs false
set_option maxHeartbeats 4000000 in
set_option maxRecDepth 20000 in
theorem rt_p (args : List ByteArray) (P : Option Addr) (c n : Nat) (w : World) (HC : Hid (Calls Try.prog 20 #[.slice P n c] w fun e w' => e = .returned (.int .i64 130) ∧ Below w.heap.size w w')) (sh : ByteArray) (HSHE : Hid (strB (TB.shown (TB.name0 args).data.toList) = sh)) (hshs : sh.size ≤ 128) (hn0 : n = 0) (s : ByteArray) (hs : s = ⟨#[]⟩) (HSL : Hid (s.data.toList.map TB.shw1 = TB.shown (TB.name0 args).data.toList)) (hss : s.size = 0) : Calls Try.prog 21 #[.slice P n c] w fun e w' => e = .returned (.string (TB.t1 ++ sh ++ TB.t2)) ∧ Below w.heap.size w w' := by
  obtain ⟨i0, hi, hy0, hy1, hy2⟩ := info_parts info5
  subst hn0
  go_enter Try.func21, Try.ntmps21
  go_wp2_with fail
  refine (show Calls _ _ _ _ _ from HC.out).mono ?_
  rintro e WB ⟨rfl, hb1⟩
  have HBB : Hid (Below w.heap.size w WB) := hb1
  clear hb1
  go_upto_region 8 with fail
  rw [← hs]
  clear hs
  go_wp2
  go_loopw [4, 5, 6] (fun v i _ wr => ∃ k : Nat, i = .int .i64 (k : Int) ∧ k ≤ s.size ∧ wr.ownsRow WB.heap.size 5 1 v (shwL s k).length (bcells (shwL s k)) ∧ Below WB.heap.size WB wr) (fun _ i _ _ => s.size - (intOf i).toNat)
  case atStart => exact ⟨0, rfl, Nat.zero_le _, World.ownsRow_nil _ _ _ _, Below.refl _ _⟩
  case round =>
    obtain ⟨k, rfl, hk, hown, hbel⟩ := hrel
    have HW : Hid (wr.ownsRow WB.heap.size 5 1 u4 (shwL s k).length (bcells (shwL s k))) := hown
    have HB : Hid (Below WB.heap.size WB wr) := hbel
    have hbz : WB.heap.size ≤ wr.heap.size := hbel.size
    clear hbel
    by_cases hlt : k < s.size
    · exfalso; omega
    · have HE : Hid (shwL s k = s.data.toList.map TB.shw1) := by show _ = _; unfold shwL; rw [List.take_of_length_le (by rw [list_len]; omega)]
      obtain ⟨pp, cc, ev, hcv⟩ := own_text hown
      subst ev
      rw [HE.out, HSL.out, HSHE.out] at hcv
      clear hown
      obtain ⟨LN, hLN⟩ : ∃ LN, (shwL s k).length = LN := ⟨_, rfl⟩
      have hLN2 : (TB.shown (TB.name0 args).data.toList).length = LN := by rw [← hLN, HE.out, HSL.out]
      rw [hLN2] at hcv
      rw [hLN]
      clear hLN hLN2
      go_wp2
      go_returns
      exact ⟨rfl, bel_to HBB.out HB.out (Nat.le_refl _)⟩
end Go.Proofs.Ytnnpnccnpojfmaa
