import Derived.Test.YtafphabeihoijaaDoorRNew
import Derived.Test.YtafphabeihoijaaDoorWks
import Derived.Test.YtafphabeihoijaaDoorTwin
namespace Go.Proofs.YtafphabeihoijaaDoor
open Go.RowKit
set_option linter.unusedVariables false
open Classical in
theorem outS_form (P : Prop) (L : List UInt8) : ∃ Z E, (E = 0 ∨ E = 2) ∧ outS P L = .tuple #[.string Z, .int .i64 E] := by
  unfold outS
  by_cases h : P
  · rw [if_pos h]; exact ⟨_, _, Or.inl rfl, rfl⟩
  · rw [if_neg h]; exact ⟨_, _, Or.inr rfl, rfl⟩
open Classical in
set_option maxHeartbeats 2000000 in
set_option maxRecDepth 100000 in
theorem ListpackNews_walk (v : Value) (vs : List ByteArray) (hvl : vs.length * 16 ≤ 140737488351232) (hvm : ∀ x ∈ vs, x.size ≤ 281474976710656) (w : World) (hv : SRow w v vs) (hnil : ∀ c, v = .slice none 0 c → c = 0) (hw : Lay w) :
    Calls Tryd.prog 7 #[v] w fun e w' => e = .returned (.bool true) ∧ Below w.heap.size w w' := by
  have HW : Hid (Lay w) := hw
  have HV : Hid (SRow w v vs) := hv
  have HTW : Hid (Calls Tryd.prog 18 #[v] w fun e w' => ∃ v', e = .returned v' ∧ SRow w' v' vs ∧ (∀ c, v' = .slice none 0 c → c = 0) ∧ Below w.heap.size w w') := twin_any v vs hvl w hv hnil
  obtain ⟨Z, E, hE, hO⟩ := outS_form (fitI [] 0 0 vs) (LM.build (newI [] 0 0 vs))
  have HNW : Hid (∀ v' W, SRow W v' vs → Lay W → Calls Tryd.prog 10 #[v'] W fun e w' => e = .returned (.tuple #[.string Z, .int .i64 E]) ∧ Below W.heap.size W w') := fun v' W hV hW => by
    rw [← hO]; exact New_any v' vs (by omega) hvm W hV hW
  have HRN : Hid (∀ W, SRow W v vs → Calls Tryd.prog 21 #[v] W fun e w' => e = .returned (.tuple #[.string Z, .int .i64 E]) ∧ Below W.heap.size W w') := fun W hV => by
    rw [← hO]; exact rNew_any v vs (by omega) W hV
  have HSZ : Hid (∀ (X : ByteArray) (z : Int), X ∈ vs → z = (sizeV X : Nat) → ∀ W, Lay W → Calls Tryd.prog 22 #[.string X] W fun e w' => e = .returned (.int .i64 z) ∧ Below W.heap.size W w') := fun X z hX hz W hW => by
    rw [hz]; exact Size_any X (hvm X hX) W hW
  have HRS : Hid (∀ (X : ByteArray) (z : Int), z = (sizeV X : Nat) → ∀ W, Calls Tryd.prog 23 #[.string X] W fun e w' => e = .returned (.int .i64 z) ∧ Below W.heap.size W w') := fun X z hz W => by
    rw [hz]; exact rSize_any X W
  have HWK : Hid (∀ W, Lay W → Calls Tryd.prog 11 #[] W fun e w' => e = .returned (.bool true) ∧ Below W.heap.size W w') := works_any
  have HSM : Hid (∀ v' W, SRow W v' vs → SRow W v vs → Calls Tryd.prog 12 #[v', v] W fun e w' => e = .returned (.bool true) ∧ Below W.heap.size W w') := fun v' W h1 h2 => by
    refine (same_any v' v vs vs (by omega) (by omega) W h1 h2).mono ?_
    rintro e w' ⟨⟨b, rfl, hb⟩, k, rfl⟩
    exact ⟨by rw [hb.2 rfl], below_dn (Below.refl _ _) _⟩
  have hwE : IntKind.i64.wrap E = E := by rcases hE with rfl | rfl <;> rfl
  have hzz : (Z.toList == Z.toList) = true := str_same rfl
  obtain ⟨P, c, rfl⟩ := hv.form
  have HL : Hid (vs.length * 16 ≤ 140737488351232) := hvl
  clear hv hw hvl hvm hnil hO hE
  go_enter Tryd.func7, Tryd.ntmps7
  go_wp2_with fail
  refine (show Calls _ _ _ _ _ from HTW.out).mono ?_
  rintro e w1 ⟨v', rfl, hs1, hn1, hb1⟩
  obtain ⟨P', c', rfl⟩ := hs1.form
  have HS1 : Hid (SRow w1 (.slice P' vs.length c') vs) := hs1
  have HB1 : Hid (Below w.heap.size w w1) := hb1
  clear hs1 hb1 hn1
  go_wp2_with fail
  refine (show Calls _ _ _ _ _ from HNW.out _ _ HS1.out (HW.out.on HB1.out)).mono ?_
  rintro e w2 ⟨rfl, hb2⟩
  have HB2 : Hid (Below w1.heap.size w1 w2) := hb2
  clear hb2
  go_wp2_with fail
  refine (show Calls _ _ _ _ _ from HRN.out _ (HV.out.on (bel_to HB1.out HB2.out (Nat.le_refl _)))).mono ?_
  rintro e w3 ⟨rfl, hb3⟩
  have HB3 : Hid (Below w1.heap.size w1 w3) := bel_to HB2.out hb3 (Nat.le_refl _)
  clear hb3
  go_wp2
  go_loopw [8] (fun ci wr => Below w1.heap.size w1 wr ∧ ∃ i : Nat, i ≤ vs.length ∧ ci = .int .i64 (i : Int)) (fun ci _ => vs.length - (intOf ci).toNat)
  case atStart => exact ⟨HB3.out, 0, by omega, rfl⟩
  case round =>
    obtain ⟨hbr, i, hi, rfl⟩ := hrel
    have HBR : Hid (Below w1.heap.size w1 wr) := hbr
    have HBW : Hid (Below w.heap.size w wr) := bel_to HB1.out hbr (Nat.le_refl _)
    have hl := HL.out
    clear hbr
    by_cases hlt : i < vs.length
    · obtain ⟨g, o, hP, hc1⟩ := (HV.out.on HBW.out).cell i hlt
      have hz0 : (0 : Int) ≤ (i : Int) := by omega
      have hz1 : (i : Int) < (vs.length : Int) := by omega
      subst hP
      have hmem : vs[i] ∈ vs := List.getElem_mem hlt
      generalize vs[i] = X at hc1 hmem
      obtain ⟨z, hz⟩ : ∃ z : Int, z = (sizeV X : Nat) := ⟨_, rfl⟩
      have HSX : Hid (∀ W, Lay W → Calls Tryd.prog 22 #[.string X] W fun e w' => e = .returned (.int .i64 z) ∧ Below W.heap.size W w') := HSZ.out X z hmem hz
      have HRX : Hid (∀ W, Calls Tryd.prog 23 #[.string X] W fun e w' => e = .returned (.int .i64 z) ∧ Below W.heap.size W w') := HRS.out X z hz
      have hlay : Lay wr.drew := (HW.out.on HBW.out).on (below_dn (Below.refl _ wr) 1)
      have hcur : Below w1.heap.size w1 wr.drew := below_dn HBR.out 1
      have hc1 : wr.drew.cell? ⟨g, o + i, none⟩ = some (.string X) := hc1
      clear hz hmem
      go_wp2
      go_region_with (first | (go_at_call 22; refine (show Calls _ _ _ _ _ from HSX.out _ hlay).mono ?_; rintro e w4 ⟨rfl, hbx⟩; have hlay := hlay.on hbx; have hc1 := cell_on hc1 hbx; have hcur := bel_to hcur hbx (Nat.le_refl _); clear hbx) | (go_at_call 23; refine (show Calls _ _ _ _ _ from HRX.out _).mono ?_; rintro e w4 ⟨rfl, hbx⟩; have hlay := hlay.on hbx; have hc1 := cell_on hc1 hbx; have hcur := bel_to hcur hbx (Nat.le_refl _); clear hbx))
      all_goals
        go_wp2
        go_roundw
        case rel => exact ⟨hcur, i + 1, hlt, rfl⟩
        case measure => simp [intOf]; omega
    · have he : i = vs.length := by omega
      subst he
      go_wp2_with fail
      refine (show Calls _ _ _ _ _ from HWK.out _ (HW.out.on HBW.out)).mono ?_
      rintro e w5 ⟨rfl, hb5⟩
      have HB5 : Hid (Below w1.heap.size w1 w5) := bel_to HBR.out hb5 (Nat.le_refl _)
      clear hb5
      go_wp2_with fail
      refine (show Calls _ _ _ _ _ from HSM.out _ _ (HS1.out.on HB5.out) (HV.out.on (bel_to HB1.out HB5.out (Nat.le_refl _)))).mono ?_
      rintro e w6 ⟨rfl, hb6⟩
      have HB6 : Hid (Below w.heap.size w w6) := bel_to HB1.out (bel_to HB5.out hb6 (Nat.le_refl _)) (Nat.le_refl _)
      clear hb6
      go_wp2
      go_ret
      exact ⟨rfl, HB6.out⟩
end Go.Proofs.YtafphabeihoijaaDoor
