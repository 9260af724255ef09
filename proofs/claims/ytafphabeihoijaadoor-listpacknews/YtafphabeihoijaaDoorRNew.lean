import Derived.Test.YtafphabeihoijaaDoorRBld
namespace Go.Proofs.YtafphabeihoijaaDoor
open Go.RowKit
set_option linter.unusedVariables false
theorem newI_nil (vs : List ByteArray) : newI [] 0 0 vs = itsOf vs := by unfold newI itsOf; simp
open Classical in
set_option maxHeartbeats 1000000 in
set_option maxRecDepth 100000 in
theorem rNew_any (v : Value) (vs : List ByteArray) (hvl : vs.length ≤ 70368744177664) (w : World) (hv : SRow w v vs) :
    Calls Tryd.prog 21 #[v] w fun e w' => e = .returned (outS (fitI [] 0 0 vs) (LM.build (newI [] 0 0 vs))) ∧ Below w.heap.size w w' := by
  have HFI : Hid (Calls Tryd.prog 30 #[v] w fun e w' => (∃ b, e = .returned (.bool b) ∧ (b = true ↔ fitI [] 0 0 vs)) ∧ Below w.heap.size w w') := rfits_any v vs hvl w hv
  have HBU : Hid (fitI [] 0 0 vs → ∀ W, SRow W v vs → Calls Tryd.prog 31 #[v] W fun e w' => e = .returned (.string (strB (LM.build (newI [] 0 0 vs)))) ∧ Below W.heap.size W w') := fun hf W hV => by
    have h := (fit_nil vs).1 hf
    rw [newI_nil]
    exact rBuild_any v vs (by omega) h.1 W hV
  have HV : Hid (SRow w v vs) := hv
  obtain ⟨P, c, rfl⟩ := hv.form
  clear hv
  go_enter Tryd.func21, Tryd.ntmps21
  go_wp2_with fail
  refine (show Calls _ _ _ _ _ from HFI.out).mono ?_
  rintro e w1 ⟨⟨b, rfl, hb⟩, hb1⟩
  have HB1 : Hid (Below w.heap.size w w1) := hb1
  clear hb1
  cases b with
  | true =>
    have hf : fitI [] 0 0 vs := hb.1 rfl
    have HO : Hid (outS (fitI [] 0 0 vs) (LM.build (newI [] 0 0 vs)) = .tuple #[.string (strB (LM.build (newI [] 0 0 vs))), .int .i64 0]) := by show _ = _; unfold outS; rw [if_pos hf]
    have HB2 : Hid _ := HBU.out hf
    clear hb hf HBU
    go_wp2_with fail
    refine (show Calls _ _ _ _ _ from HB2.out _ (HV.out.on HB1.out)).mono ?_
    rintro e w2 ⟨rfl, hb2⟩
    have HB3 : Hid (Below w.heap.size w w2) := bel_to HB1.out hb2 (Nat.le_refl _)
    clear hb2
    go_wp2
    go_ret2
    exact ⟨by rw [HO.out]; rfl, HB3.out⟩
  | false =>
    have hf : ¬ fitI [] 0 0 vs := fun h => by have := hb.2 h; cases this
    have HO : Hid (outS (fitI [] 0 0 vs) (LM.build (newI [] 0 0 vs)) = .tuple #[.string ⟨#[]⟩, .int .i64 2]) := by show _ = _; unfold outS; rw [if_neg hf]
    clear hb hf HBU
    go_wp2
    go_ret2
    exact ⟨by rw [HO.out]; rfl, HB1.out⟩
end Go.Proofs.YtafphabeihoijaaDoor
