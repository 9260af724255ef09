import Derived.Test.YtadihhngegimkaaGreatDoorRDt
import Derived.Test.YtadihhngegimkaaGreatDoorSme
import Derived.Test.YtadihhngegimkaaGreatDoorSpl2
namespace Go.Proofs.YtadihhngegimkaaGreatDoor
open Go.RowKit
set_option linter.unusedVariables false
theorem fit_nil (vs : List ByteArray) : fitI [] 0 0 vs ↔ ((∀ v ∈ vs, v.size ≤ 524288) ∧ vs.length ≤ 1048576 ∧ 7 + sumV vs ≤ 1073741824) := by
  have hb : (∀ v ∈ vs, v.size ≤ 524288) → LM.bsum (newI [] 0 0 vs) = sumV vs := fun h => by
    unfold newI; rw [LM.bsum_app, LM.bsum_app, bsum_items vs h]; simp [LM.bsum]
  unfold fitI
  constructor
  · rintro ⟨h1, h2, h3⟩; exact ⟨h1, by simpa using h2, by rw [hb h1] at h3; exact h3⟩
  · rintro ⟨h1, h2, h3⟩; exact ⟨h1, by simpa using h2, by rw [hb h1]; exact h3⟩
set_option maxHeartbeats 2000000 in
set_option maxRecDepth 100000 in
theorem rfits_any (v : Value) (vs : List ByteArray) (hvl : vs.length ≤ 70368744177664) (w : World) (hv : SRow w v vs) :
    Calls Tryz.prog 63 #[v] w fun e w' => (∃ b, e = .returned (.bool b) ∧ (b = true ↔ fitI [] 0 0 vs)) ∧ Below w.heap.size w w' := by
  obtain ⟨P, c, rfl⟩ := hv.form
  have HV : Hid (SRow w (.slice P vs.length c) vs) := hv
  have HFT : Hid _ := fit_nil vs
  clear hv
  go_enter Tryz.func63, Tryz.ntmps63
  go_wp2
  go_loopw [3, 4] (fun cx cj wr => ∃ (j : Nat) (x : Int), j ≤ vs.length ∧ cj = .int .i64 (j : Int) ∧ cx = .int .i64 x ∧ (j ≤ 1048576 → x = ((7 + sumV (vs.take j) : Nat) : Int)) ∧ (∀ y ∈ vs.take j, y.size ≤ 524288) ∧ Below w.heap.size w wr) (fun _ cj _ => vs.length - (intOf cj).toNat)
  case atStart => exact ⟨0, 7, by omega, rfl, rfl, fun _ => by simp [sumV], by simp, Below.refl _ _⟩
  case round =>
    obtain ⟨j, x, hj, rfl, rfl, hx, hall, hb⟩ := hrel
    have HB : Hid (Below w.heap.size w wr) := hb
    have HX : Hid _ := hx
    have HALL : Hid _ := hall
    clear hb hx hall
    by_cases hlt : j < vs.length
    · obtain ⟨g, o, hPe, hcell⟩ := (HV.out.on HB.out).cell j hlt
      obtain ⟨X, hX⟩ : ∃ X, vs[j] = X := ⟨_, rfl⟩
      rw [hX] at hcell
      subst hPe
      have HSZ : Hid (∀ W, Calls Tryz.prog 30 #[.string X] W fun e w' => e = .returned (.int .i64 (sizeV X : Nat)) ∧ Below W.heap.size W w') := fun W => rSize_any X W
      have hz := sizeV_le X
      have HTK : Hid (vs.take (j + 1) = vs.take j ++ [X]) := by show _ = _; rw [List.take_succ_eq_append_getElem hlt, hX]
      have HSS : Hid (sumV (vs.take (j + 1)) = sumV (vs.take j) + sizeV X) := by show _ = _; rw [sumV_snoc vs j hlt, hX]
      have HSL : Hid (sumV (vs.take j) ≤ 524296 * j) := by
        show _ ≤ _; have := sumV_le (vs.take j); rw [List.length_take] at this; exact Nat.le_trans this (Nat.mul_le_mul_left _ (by omega))
      have HMEM : Hid (X ∈ vs) := by rw [← hX]; exact List.getElem_mem hlt
      by_cases hbig : 524288 < X.size
      · have hdb : decide ((524288 : Int) < (X.size : Int)) = true := dec_t (by omega)
        have HNF : Hid (¬ fitI [] 0 0 vs) := fun h => by have := (HFT.out.1 h).1 X HMEM.out; omega
        clear hbig hX
        go_wp2
        go_ret
        exact ⟨⟨false, rfl, by simpa using HNF.out⟩, HB.out⟩
      · have hdb : decide ((524288 : Int) < (X.size : Int)) = false := dec_f (by omega)
        have HSM : Hid (X.size ≤ 524288) := by show _ ≤ _; omega
        clear hbig hX
        generalize sizeV X = z at *
        go_wp2_with fail
        refine (show Calls _ _ _ _ _ from HSZ.out _).mono ?_
        rintro e w5 ⟨rfl, hb5⟩
        have HB5 : Hid (Below w.heap.size w w5) := bel_to HB.out hb5 (Nat.le_refl _)
        clear hb5
        go_wp2
        go_roundw
        case rel =>
          refine ⟨j + 1, _, hlt, rfl, rfl, fun hj1 => ?_, ?_, HB5.out⟩
          · have h1 := HX.out (by omega)
            have h2 := HSS.out
            have h3 := HSL.out
            rw [h1, h2]
            unfold wrap64
            omega
          · rw [HTK.out]; intro y hy
            rcases List.mem_append.1 hy with hy | hy
            · exact HALL.out y hy
            · rw [List.mem_singleton.1 hy]; exact HSM.out
        case measure => simp [intOf]; omega
    · have he : j = vs.length := by omega
      subst he
      have HALL2 : Hid (∀ y ∈ vs, y.size ≤ 524288) := by
        have := HALL.out; rwa [List.take_length] at this
      have HX2 : Hid (vs.length ≤ 1048576 → x = ((7 + sumV vs : Nat) : Int)) := by
        have := HX.out; rwa [List.take_length] at this
      clear HALL HX
      by_cases hc20 : vs.length ≤ 1048576
      · have hd20 : decide ((vs.length : Int) ≤ 1048576) = true := dec_t (by omega)
        have hxx := HX2.out hc20
        by_cases hs30 : x ≤ 1073741824
        · have hd30 : decide (x ≤ 1073741824) = true := dec_t hs30
          have HF : Hid (fitI [] 0 0 vs) := HFT.out.2 ⟨HALL2.out, hc20, by omega⟩
          clear hc20 hs30 hxx
          go_wp2
          go_ret
          exact ⟨⟨true, rfl, by simpa using HF.out⟩, HB.out⟩
        · have hd30 : decide (x ≤ 1073741824) = false := dec_f hs30
          have HNF : Hid (¬ fitI [] 0 0 vs) := fun h => by have := (HFT.out.1 h).2.2; omega
          clear hc20 hs30 hxx
          go_wp2
          go_ret
          exact ⟨⟨false, rfl, by simpa using HNF.out⟩, HB.out⟩
      · have hd20 : decide ((vs.length : Int) ≤ 1048576) = false := dec_f (by omega)
        have HNF : Hid (¬ fitI [] 0 0 vs) := fun h => hc20 (HFT.out.1 h).2.1
        clear hc20
        go_wp2
        go_ret
        exact ⟨⟨false, rfl, by simpa using HNF.out⟩, HB.out⟩
end Go.Proofs.YtadihhngegimkaaGreatDoor
