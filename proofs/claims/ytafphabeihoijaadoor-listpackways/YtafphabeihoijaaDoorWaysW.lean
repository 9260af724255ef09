import Derived.Test.YtafphabeihoijaaDoorFormM
import Derived.Test.YtafphabeihoijaaDoorFnd
namespace Go.Proofs.YtafphabeihoijaaDoor
open Go.RowKit
set_option linter.unusedVariables false
open Classical in
theorem New_no (v : Value) (vs : List ByteArray) (hvl : vs.length * 16 ≤ 140737488351232) (hvm : ∀ x ∈ vs, x.size ≤ 281474976710656) (hf : ¬ fitI [] 0 0 vs) (W : World) (hV : SRow W v vs) (hW : Lay W) :
    Calls Tryd.prog 10 #[v] W fun e w' => e = .returned (.tuple #[.string ⟨#[]⟩, .int .i64 2]) ∧ Below W.heap.size W w' := by
  have := New_any v vs (by omega) hvm W hV hW
  unfold outS at this
  rwa [if_neg hf] at this
/-- what holds of what a listpack of texts tells. -/
theorem fit_vals {vs : List ByteArray} : (vs.map (fun x => LM.itemOf x.data.toList)).map (fun it => Value.string (strB (LM.val it))) = vs.map Value.string := by
  rw [List.map_map]
  refine List.map_congr_left (fun x hx => ?_)
  simp only [Function.comp]
  rw [LM.val_itemOf, show strB x.data.toList = x from bytes_ext (strB_list _)]
theorem find_first {vs : List ByteArray} {i : Nat} (hi : i < vs.length) {r : Int} (h : FindIs (vs.map (fun x => LM.itemOf x.data.toList)) 0 1 (LM.itemOf vs[i].data.toList) r) : ∃ k : Nat, r = (k : Int) ∧ ∃ hk : k < vs.length, k ≤ i ∧ vs[k] = vs[i] := by
  have hHi : Hit 0 1 (LM.itemOf vs[i].data.toList) (vs.map (fun x => LM.itemOf x.data.toList)) i := ⟨by omega, by simp, by rw [List.getElem?_map, List.getElem?_eq_getElem hi]; rfl⟩
  rcases h with ⟨k, rfl, hk, hno⟩ | ⟨_, hno⟩
  · have hki : k ≤ i := by
      rcases Nat.lt_or_ge i k with h | h
      · exact absurd hHi (hno i h)
      · exact h
    refine ⟨k, rfl, by omega, hki, ?_⟩
    have h3 := hk.2.2
    rw [List.getElem?_map, List.getElem?_eq_getElem (by omega)] at h3
    simp only [Option.map_some, Option.some.injEq] at h3
    have h4 := congrArg LM.val h3
    rw [LM.val_itemOf, LM.val_itemOf] at h4
    exact bytes_ext h4
  · exact absurd hHi (hno i (by simpa using hi))
set_option maxHeartbeats 1000000 in
theorem Ways_no (v : Value) (vs : List ByteArray) (hvl : vs.length * 16 ≤ 140737488351232) (hvm : ∀ x ∈ vs, x.size ≤ 281474976710656) (hf : ¬ fitI [] 0 0 vs) (w : World) (hv : SRow w v vs) (hw : Lay w) :
    Calls Tryd.prog 5 #[v] w fun e w' => e = .returned (.bool true) ∧ Below w.heap.size w w' := by
  have HW : Hid (Lay w) := hw
  have HV : Hid (SRow w v vs) := hv
  have HNW : Hid (∀ W, SRow W v vs → Lay W → Calls Tryd.prog 10 #[v] W fun e w' => e = .returned (.tuple #[.string ⟨#[]⟩, .int .i64 2]) ∧ Below W.heap.size W w') := New_no v vs hvl hvm hf
  have HWK : Hid (∀ W, Lay W → Calls Tryd.prog 11 #[] W fun e w' => e = .returned (.bool true) ∧ Below W.heap.size W w') := works_any
  obtain ⟨P, c, rfl⟩ := hv.form
  clear hv hw hvl hvm hf
  go_enter Tryd.func5, Tryd.ntmps5
  go_wp2_with fail
  refine (show Calls _ _ _ _ _ from HNW.out _ HV.out HW.out).mono ?_
  rintro e w1 ⟨rfl, hb1⟩
  have HB1 : Hid (Below w.heap.size w w1) := hb1
  clear hb1
  go_wp2_with fail
  refine (show Calls _ _ _ _ _ from HWK.out _ (HW.out.on HB1.out)).mono ?_
  rintro e w2 ⟨rfl, hb2⟩
  have HB2 : Hid (Below w.heap.size w w2) := bel_to HB1.out hb2 (Nat.le_refl _)
  clear hb2
  go_wp2_with fail
  refine (show Calls _ _ _ _ _ from HWK.out _ (HW.out.on HB2.out)).mono ?_
  rintro e w3 ⟨rfl, hb3⟩
  have HB3 : Hid (Below w.heap.size w w3) := bel_to HB2.out hb3 (Nat.le_refl _)
  clear hb3
  go_wp2
  go_ret
  exact ⟨rfl, HB3.out⟩
set_option maxHeartbeats 4000000 in
set_option maxRecDepth 100000 in
theorem Ways_fit (v : Value) (vs : List ByteArray) (hvl : vs.length * 16 ≤ 140737488351232) (hvm : ∀ x ∈ vs, x.size ≤ 281474976710656) (hf : fitI [] 0 0 vs) (w : World) (hv : SRow w v vs) (hw : Lay w) :
    Calls Tryd.prog 5 #[v] w fun e w' => e = .returned (.bool true) ∧ Below w.heap.size w w' := by
  have HW : Hid (Lay w) := hw
  have HV : Hid (SRow w v vs) := hv
  obtain ⟨Z, E, hE, hN⟩ := New_form v vs hvl hvm
  rcases hE with ⟨rfl, _, hZ⟩ | ⟨_, h2⟩
  case inr => exact absurd hf h2
  have hpk : LM.Pk Z.data.toList (vs.map (fun x => LM.itemOf x.data.toList)) := by rw [hZ, strB_list]; exact fit_pk hf
  have hlen : (vs.map (fun x => LM.itemOf x.data.toList)).length = vs.length := by simp
  have hll : vs.length ≤ 1048576 := by have := hpk.len; rwa [hlen] at this
  have HNW : Hid _ := hN
  have HWF : Hid (∀ W, Lay W → Calls Tryd.prog 8 #[.string Z, .bool false] W fun e w' => (∃ g, e = .returned (.tuple #[.slice (some ⟨g, 0, none⟩) vs.length vs.length, .int .i64 0]) ∧ SRow w' (.slice (some ⟨g, 0, none⟩) vs.length vs.length) vs) ∧ Below W.heap.size W w') := fun W hW => by
    refine (Walk_f Z _ hpk W hW).mono ?_
    rintro e w' ⟨⟨g, rfl, ho⟩, hb⟩
    rw [hlen, fit_vals] at ho
    exact ⟨⟨g, by rw [hlen], srow_of_own ho rfl⟩, hb⟩
  have HWR : Hid (∀ W, Lay W → Calls Tryd.prog 8 #[.string Z, .bool true] W fun e w' => (∃ g, e = .returned (.tuple #[.slice (some ⟨g, 0, none⟩) vs.length vs.length, .int .i64 0]) ∧ SRow w' (.slice (some ⟨g, 0, none⟩) vs.length vs.length) vs.reverse) ∧ Below W.heap.size W w') := fun W hW => by
    refine (Walk_b Z _ hpk W hW).mono ?_
    rintro e w' ⟨⟨g, rfl, ho⟩, hb⟩
    rw [hlen, List.map_reverse, fit_vals, ← List.map_reverse] at ho
    exact ⟨⟨g, by rw [hlen], srow_of_own ho (by simp)⟩, hb⟩
  have HLN : Hid (∀ W, Lay W → Calls Tryd.prog 13 #[.string Z] W fun e w' => e = .returned (.tuple #[.int .i64 (vs.length : Int), .int .i64 0]) ∧ Below W.heap.size W w') := fun W hW => by
    have := Len_ok Z _ hpk W hW
    rwa [hlen] at this
  have HAT : Hid (∀ i (h : i < vs.length), ∀ W, Lay W → Calls Tryd.prog 14 #[.string Z, .int .i64 (i : Int)] W fun e w' => e = .returned (.tuple #[.string vs[i], .int .i64 0]) ∧ Below W.heap.size W w') := fun i h W hW => by
    have := At_ok Z _ hpk (i : Int) W hW
    rw [atV_at _ i (by rw [hlen]; exact h), List.getElem_map, LM.val_itemOf, show strB vs[i].data.toList = vs[i] from bytes_ext (strB_list _)] at this
    exact this
  have HFD : Hid (∀ i (h : i < vs.length), ∀ W, Lay W → Calls Tryd.prog 15 #[.string Z, .int .i64 0, .int .i64 1, .string vs[i]] W fun e w' => (∃ k : Nat, e = .returned (.tuple #[.int .i64 (k : Int), .int .i64 0]) ∧ ∃ hk : k < vs.length, k ≤ i ∧ vs[k] = vs[i]) ∧ Below W.heap.size W w') := fun i h W hW => by
    refine (Find_ok Z _ hpk 0 1 (by omega) (by omega) vs[i] (hvm _ (List.getElem_mem h)) W hW).mono ?_
    rintro e w' ⟨⟨r, rfl, hr⟩, hb⟩
    obtain ⟨k, rfl, hk⟩ := find_first h hr
    exact ⟨⟨k, rfl, hk⟩, hb⟩
  have HWK : Hid (∀ W, Lay W → Calls Tryd.prog 11 #[] W fun e w' => e = .returned (.bool true) ∧ Below W.heap.size W w') := works_any
  obtain ⟨P, c, rfl⟩ := hv.form
  have HSM : Hid (∀ g W, SRow W (.slice (some ⟨g, 0, none⟩) vs.length vs.length) vs → SRow W (.slice P vs.length c) vs → Calls Tryd.prog 12 #[.slice (some ⟨g, 0, none⟩) vs.length vs.length, .slice P vs.length c] W fun e w' => e = .returned (.bool true) ∧ Below W.heap.size W w') := fun g W hr hV => by
    obtain ⟨b, hb, hs⟩ := same_form (.slice (some ⟨g, 0, none⟩) vs.length vs.length) (.slice P vs.length c) vs vs (by omega) (by omega)
    have := hs W hr hV
    rwa [hb.2 rfl] at this
  clear hv hw hvl hvm hN hZ hpk hf hlen
  go_enter Tryd.func5, Tryd.ntmps5
  go_wp2_with fail
  refine (show Calls _ _ _ _ _ from HNW.out _ HV.out HW.out).mono ?_
  rintro e w1 ⟨rfl, hb1⟩
  have HB1 : Hid (Below w.heap.size w w1) := hb1
  clear hb1
  go_wp2_with fail
  refine (show Calls _ _ _ _ _ from HWK.out _ (HW.out.on HB1.out)).mono ?_
  rintro e w2 ⟨rfl, hb2⟩
  have HB2 : Hid (Below w.heap.size w w2) := bel_to HB1.out hb2 (Nat.le_refl _)
  clear hb2
  go_wp2_with fail
  refine (show Calls _ _ _ _ _ from HWF.out _ (HW.out.on HB2.out)).mono ?_
  rintro e w3 ⟨⟨ga, rfl, hra⟩, hb3⟩
  have HB3 : Hid (Below w.heap.size w w3) := bel_to HB2.out hb3 (Nat.le_refl _)
  have HRA : Hid (SRow w3 (.slice (some ⟨ga, 0, none⟩) vs.length vs.length) vs) := hra
  clear hb3 hra
  go_wp2_with fail
  refine (show Calls _ _ _ _ _ from HWR.out _ (HW.out.on HB3.out)).mono ?_
  rintro e w4 ⟨⟨gb, rfl, hrb⟩, hb4⟩
  have HB4 : Hid (Below w3.heap.size w3 w4) := hb4
  have HRB : Hid (SRow w4 (.slice (some ⟨gb, 0, none⟩) vs.length vs.length) vs.reverse) := hrb
  clear hb4 hrb
  go_wp2_with fail
  refine (show Calls _ _ _ _ _ from HLN.out _ (HW.out.on (bel_to HB3.out HB4.out (Nat.le_refl _)))).mono ?_
  rintro e w5 ⟨rfl, hb5⟩
  have HB5 : Hid (Below w4.heap.size w4 w5) := hb5
  clear hb5
  go_wp2_with fail
  have HB35 : Hid (Below w3.heap.size w3 w5) := bel_to HB4.out HB5.out (Nat.le_refl _)
  have HBW5 : Hid (Below w.heap.size w w5) := bel_to HB3.out HB35.out (Nat.le_refl _)
  refine (show Calls _ _ _ _ _ from HSM.out _ _ (HRA.out.on HB35.out) (HV.out.on HBW5.out)).mono ?_
  rintro e w6 ⟨rfl, hb6⟩
  have HB6 : Hid (Below w4.heap.size w4 w6) := bel_to HB5.out hb6 (Nat.le_refl _)
  have HBW6 : Hid (Below w.heap.size w w6) := bel_to HBW5.out hb6 (Nat.le_refl _)
  clear hb6
  go_wp2
  go_loopw [11] (fun ci wr => ∃ i : Nat, i ≤ vs.length ∧ ci = .int .i64 (i : Int) ∧ Below w4.heap.size w4 wr ∧ Below w.heap.size w wr) (fun ci _ => vs.length - (intOf ci).toNat)
  case atStart => exact ⟨0, by omega, rfl, HB6.out, HBW6.out⟩
  case round =>
    obtain ⟨i, hi, rfl, hbr, hbw⟩ := hrel
    have HBR : Hid (Below w4.heap.size w4 wr) := hbr
    have HBW : Hid (Below w.heap.size w wr) := hbw
    clear hbr hbw
    by_cases hlt : i < vs.length
    · have hAT := HAT.out i hlt
      have hFD := HFD.out i hlt
      have hrv : vs.reverse[vs.length - 1 - i]'(by rw [List.length_reverse]; omega) = vs[i] := by
        rw [List.getElem_reverse]; congr 1; omega
      have HRV : Hid _ := hrv
      obtain ⟨g, o, hP, hc1⟩ := (HV.out.on HBW.out).cell i hlt
      subst hP
      obtain ⟨X, hX⟩ : ∃ X, vs[i] = X := ⟨_, rfl⟩
      have HXV : Hid (vs[i] = X) := hX
      rw [hX] at hAT hc1 hFD
      have HAX : Hid _ := hAT
      have HFX : Hid _ := hFD
      clear hrv hAT hFD hX
      have hz0 : (0 : Int) ≤ (i : Int) := by omega
      have hz1 : (i : Int) < (vs.length : Int) := by omega
      have hxx : (X.toList == X.toList) = true := str_same rfl
      go_wp2_with fail
      refine (show Calls _ _ _ _ _ from HAX.out _ (HW.out.on HBW.out)).mono ?_
      rintro e w7 ⟨rfl, hb7⟩
      have HB7 : Hid (Below w4.heap.size w4 w7) := bel_to HBR.out hb7 (Nat.le_refl _)
      have HBW7 : Hid (Below w.heap.size w w7) := bel_to HBW.out hb7 (Nat.le_refl _)
      have hc7 := cell_on hc1 hb7
      clear hb7
      go_wp2_with fail
      refine (show Calls _ _ _ _ _ from HFX.out _ (HW.out.on HBW7.out)).mono ?_
      rintro e w8 ⟨⟨k, rfl, hk, hki, hke⟩, hb8⟩
      have HB8 : Hid (Below w4.heap.size w4 w8) := bel_to HB7.out hb8 (Nat.le_refl _)
      have HBW8 : Hid (Below w.heap.size w w8) := bel_to HBW7.out hb8 (Nat.le_refl _)
      have hc8 := cell_on hc7 hb8
      have hck : w8.cell? ⟨g, o + k, none⟩ = some (.string X) := by
        obtain ⟨g', o', hP', hcc⟩ := (HV.out.on HBW8.out).cell k hk
        injection hP' with hP'
        injection hP' with e1 e2
        subst e1; subst e2
        rw [hcc, hke]
      obtain ⟨q, hq⟩ : ∃ q, vs.length - 1 - i = q := ⟨_, rfl⟩
      have hcb : w8.cell? ⟨gb, q, none⟩ = some (.string X) := by
        obtain ⟨g', o', hP', hcc⟩ := (HRB.out.on HB8.out).cell (vs.length - 1 - i) (by rw [List.length_reverse]; omega)
        injection hP' with hP'
        injection hP' with e1 e2
        subst e1; subst e2
        rw [HRV.out, Nat.zero_add, hq, HXV.out] at hcc
        exact hcc
      have hqi : (vs.length : Int) - 1 - (i : Int) = (q : Int) := by omega
      have hq0 : (0 : Int) ≤ (q : Int) := by omega
      have hq1 : (q : Int) < (vs.length : Int) := by omega
      have hk0 : decide ((k : Int) < 0) = false := by simp
      have hk1 : decide ((i : Int) < (k : Int)) = false := by simp; omega
      have hk2 : (0 : Int) ≤ (k : Int) := by omega
      have hk3 : (k : Int) < (vs.length : Int) := by omega
      obtain ⟨n1, hn1⟩ : ∃ n1, vs.length - 1 = n1 := ⟨_, rfl⟩
      have hw1 : IntKind.i64.wrap ((vs.length : Int) - 1) = (n1 : Int) := by rw [IntKind.wrap_i64]; omega
      have hw2 : IntKind.i64.wrap ((n1 : Int) - (i : Int)) = (q : Int) := by rw [IntKind.wrap_i64]; omega
      have hq2 : q < vs.length := by omega
      clear hb8 hc1 hc7 hke hq hn1 hqi
      go_wp2
      go_quiet (fail)
      go_wp2
      exact ⟨⟨i + 1, hlt, rfl, below_dn HB8.out _, below_dn HBW8.out _⟩, by simp [intOf]; omega⟩
    · have he : i = vs.length := by omega
      subst he
      go_wp2
      go_ret
      exact ⟨rfl, HBW.out⟩
theorem ListpackWays_walk (v : Value) (vs : List ByteArray) (hvl : vs.length * 16 ≤ 140737488351232) (hvm : ∀ x ∈ vs, x.size ≤ 281474976710656) (w : World) (hv : SRow w v vs) (hnil : ∀ c, v = .slice none 0 c → c = 0) (hw : Lay w) :
    Calls Tryd.prog 5 #[v] w fun e w' => e = .returned (.bool true) ∧ Below w.heap.size w w' := by
  by_cases h : fitI [] 0 0 vs
  · exact Ways_fit v vs hvl hvm h w hv hw
  · exact Ways_no v vs hvl hvm h w hv hw
end Go.Proofs.YtafphabeihoijaaDoor
