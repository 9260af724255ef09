import Derived.Test.YtcnicdcjdieodaaDoorTup
import Derived.Test.YtcnicdcjdieodaaDoorWrites
import Derived.Test.YtcnicdcjdieodaaDoorDoor
namespace Go.Proofs.YtcnicdcjdieodaaDoor.varintBack
open Go.ChangeShapes Go.WideShapes Go.ChangeAt Go.RowKit Vi
open Go.ChangeMaps (open_string shut_string)
set_option linter.unusedVariables false

theorem itoaB_list' (n : Int) : (itoaB n).data.toList = Lib.itoa n := by unfold itoaB; simp
theorem app_list (a b : ByteArray) : (a ++ b).data.toList = a.data.toList ++ b.data.toList := by simp
theorem len_back (n : Int) (h0 : 0 ≤ n) (h1 : n ≤ 4611686018427387904) (t : ByteArray) (w : World) :
    Calls Tryd.prog 10 #[.string (lenB n ++ t)] w fun e w' => e = .returned (.tuple #[.int .i64 n, .int .i64 ((lenB n).size : Int), .int .i64 0, .int .i64 0]) ∧ w' = w := by
  have h := len_any (lenB n ++ t) w
  rw [app_list, lenB_list, lenT_eq (readLen_lenL n h0 h1 _), ← lenB_list n, list_len] at h
  exact h
theorem int_back (n : Int) (h0 : -2147483648 ≤ n) (h1 : n < 2147483648) (t : ByteArray) (w : World) :
    Calls Tryd.prog 12 #[.string (intB n ++ t)] w fun e w' => e = .returned (.tuple #[.int .i64 n, .int .i64 ((intB n).size : Int), .int .i64 0]) ∧ w' = w := by
  have h := int_any (intB n ++ t) w
  rw [app_list, intB_list, intT_eq (readInt_intL n ⟨h0, h1⟩ _), ← intB_list n, list_len] at h
  exact h
theorem num_back (n : Int) (h0 : -9223372036854775808 ≤ n) (h1 : n ≤ 9223372036854775807) (w : World) (hL : Laid w) :
    Calls Tryd.prog 13 #[.string (itoaB n)] w fun e w' => e = .returned (.tuple #[.int .i64 n, .bool true]) ∧ Below w.heap.size w w' := by
  have hl : (itoaB n).size ≤ 281474976710656 := by
    rw [← list_len, itoaB_list']
    have := Lib.itoa_length_le n h0 h1
    omega
  have h := number_any (itoaB n) hl w hL
  rw [itoaB_list', numT_some (numberOf_itoa n h0 h1)] at h
  exact h
theorem lenB_small (n : Int) : (lenB n).size ≤ 9 := by rw [← list_len, lenB_list]; exact lenL_le n
theorem intB_small (n : Int) : (intB n).size ≤ 5 := by rw [← list_len, intB_list]; exact (intL_le n).2
set_option maxHeartbeats 1000000 in
set_option maxRecDepth 20000 in
theorem back_c1 (n : Int) (h0 : -9223372036854775808 ≤ n) (h1 : n ≤ 9223372036854775807) (g1 : n < -2147483648) (t : ByteArray) (ht : t.size ≤ 140737488351232) (w : World) (hL : Laid w) :
    Calls Tryd.prog 3 #[.int .i64 n, .string t] w fun e w' => e = .returned (.bool true) ∧ Below w.heap.size w w' := by
  have HL : Hid (Laid w) := hL
  have hs1 := lenB_small n
  have hs2 := intB_small n
  clear hL
  go_enter Tryd.func3, Tryd.ntmps3
  go_wp2_with fail
  refine (putLen_bad n (by omega) _).mono ?_
  rintro e w1 ⟨rfl, rfl⟩
  have hb1 := Below.refl w1.heap.size w1
  go_wp2_with fail
  refine (putInt_none n (by omega) _).mono ?_
  rintro e w3 ⟨rfl, rfl⟩
  have hb3 := hb1
  go_wp2_with fail
  refine (digits_any n h0 h1 _ (HL.out.on hb3)).mono ?_
  rintro e w5 ⟨rfl, hb5⟩
  replace hb5 := hb3.trans (hb5.mono hb3.size)
  go_wp2_with fail
  refine (num_back n h0 h1 _ (HL.out.on hb5)).mono ?_
  rintro e w6 ⟨rfl, hb6⟩
  replace hb6 := hb5.trans (hb6.mono hb5.size)
  go_wp2_with fail
  refine (works_any _ (HL.out.on hb6)).mono ?_
  rintro e w7 ⟨rfl, hb7⟩
  replace hb7 := hb6.trans (hb7.mono hb6.size)
  go_wp2
  go_ret
  exact ⟨rfl, hb7⟩
set_option maxHeartbeats 1000000 in
set_option maxRecDepth 20000 in
theorem back_c2 (n : Int) (h0 : -9223372036854775808 ≤ n) (h1 : n ≤ 9223372036854775807) (g1 : -2147483648 ≤ n) (g2 : n < 0) (t : ByteArray) (ht : t.size ≤ 140737488351232) (w : World) (hL : Laid w) :
    Calls Tryd.prog 3 #[.int .i64 n, .string t] w fun e w' => e = .returned (.bool true) ∧ Below w.heap.size w w' := by
  have HL : Hid (Laid w) := hL
  have hs1 := lenB_small n
  have hs2 := intB_small n
  clear hL
  go_enter Tryd.func3, Tryd.ntmps3
  go_wp2_with fail
  refine (putLen_bad n (by omega) _).mono ?_
  rintro e w1 ⟨rfl, rfl⟩
  have hb1 := Below.refl w1.heap.size w1
  go_wp2_with fail
  refine (putInt_ok n (by omega) (by omega) _).mono ?_
  rintro e w3 ⟨rfl, hb3⟩
  replace hb3 := hb1.trans (hb3.mono hb1.size)
  go_wp2_with fail
  refine (int_back n (by omega) (by omega) t _).mono ?_
  rintro e w4 ⟨rfl, rfl⟩
  go_wp2_with fail
  refine (digits_any n h0 h1 _ (HL.out.on hb3)).mono ?_
  rintro e w5 ⟨rfl, hb5⟩
  replace hb5 := hb3.trans (hb5.mono hb3.size)
  go_wp2_with fail
  refine (num_back n h0 h1 _ (HL.out.on hb5)).mono ?_
  rintro e w6 ⟨rfl, hb6⟩
  replace hb6 := hb5.trans (hb6.mono hb5.size)
  go_wp2_with fail
  refine (works_any _ (HL.out.on hb6)).mono ?_
  rintro e w7 ⟨rfl, hb7⟩
  replace hb7 := hb6.trans (hb7.mono hb6.size)
  go_wp2
  go_ret
  exact ⟨rfl, hb7⟩
set_option maxHeartbeats 1000000 in
set_option maxRecDepth 20000 in
theorem back_c3 (n : Int) (h0 : -9223372036854775808 ≤ n) (h1 : n ≤ 9223372036854775807) (g1 : 0 ≤ n) (g2 : n < 2147483648) (t : ByteArray) (ht : t.size ≤ 140737488351232) (w : World) (hL : Laid w) :
    Calls Tryd.prog 3 #[.int .i64 n, .string t] w fun e w' => e = .returned (.bool true) ∧ Below w.heap.size w w' := by
  have HL : Hid (Laid w) := hL
  have hs1 := lenB_small n
  have hs2 := intB_small n
  clear hL
  go_enter Tryd.func3, Tryd.ntmps3
  go_wp2_with fail
  refine (putLen_ok n (by omega) (by omega) _).mono ?_
  rintro e w1 ⟨rfl, hb1⟩
  go_wp2_with fail
  refine (len_back n (by omega) (by omega) t _).mono ?_
  rintro e w2 ⟨rfl, rfl⟩
  go_wp2_with fail
  refine (putInt_ok n (by omega) (by omega) _).mono ?_
  rintro e w3 ⟨rfl, hb3⟩
  replace hb3 := hb1.trans (hb3.mono hb1.size)
  go_wp2_with fail
  refine (int_back n (by omega) (by omega) t _).mono ?_
  rintro e w4 ⟨rfl, rfl⟩
  go_wp2_with fail
  refine (digits_any n h0 h1 _ (HL.out.on hb3)).mono ?_
  rintro e w5 ⟨rfl, hb5⟩
  replace hb5 := hb3.trans (hb5.mono hb3.size)
  go_wp2_with fail
  refine (num_back n h0 h1 _ (HL.out.on hb5)).mono ?_
  rintro e w6 ⟨rfl, hb6⟩
  replace hb6 := hb5.trans (hb6.mono hb5.size)
  go_wp2_with fail
  refine (works_any _ (HL.out.on hb6)).mono ?_
  rintro e w7 ⟨rfl, hb7⟩
  replace hb7 := hb6.trans (hb7.mono hb6.size)
  go_wp2
  go_ret
  exact ⟨rfl, hb7⟩
set_option maxHeartbeats 1000000 in
set_option maxRecDepth 20000 in
theorem back_c4 (n : Int) (h0 : -9223372036854775808 ≤ n) (h1 : n ≤ 9223372036854775807) (g1 : 2147483648 ≤ n) (g2 : n ≤ 4611686018427387904) (t : ByteArray) (ht : t.size ≤ 140737488351232) (w : World) (hL : Laid w) :
    Calls Tryd.prog 3 #[.int .i64 n, .string t] w fun e w' => e = .returned (.bool true) ∧ Below w.heap.size w w' := by
  have HL : Hid (Laid w) := hL
  have hs1 := lenB_small n
  have hs2 := intB_small n
  clear hL
  go_enter Tryd.func3, Tryd.ntmps3
  go_wp2_with fail
  refine (putLen_ok n (by omega) (by omega) _).mono ?_
  rintro e w1 ⟨rfl, hb1⟩
  go_wp2_with fail
  refine (len_back n (by omega) (by omega) t _).mono ?_
  rintro e w2 ⟨rfl, rfl⟩
  go_wp2_with fail
  refine (putInt_none n (by omega) _).mono ?_
  rintro e w3 ⟨rfl, rfl⟩
  have hb3 := hb1
  go_wp2_with fail
  refine (digits_any n h0 h1 _ (HL.out.on hb3)).mono ?_
  rintro e w5 ⟨rfl, hb5⟩
  replace hb5 := hb3.trans (hb5.mono hb3.size)
  go_wp2_with fail
  refine (num_back n h0 h1 _ (HL.out.on hb5)).mono ?_
  rintro e w6 ⟨rfl, hb6⟩
  replace hb6 := hb5.trans (hb6.mono hb5.size)
  go_wp2_with fail
  refine (works_any _ (HL.out.on hb6)).mono ?_
  rintro e w7 ⟨rfl, hb7⟩
  replace hb7 := hb6.trans (hb7.mono hb6.size)
  go_wp2
  go_ret
  exact ⟨rfl, hb7⟩
set_option maxHeartbeats 1000000 in
set_option maxRecDepth 20000 in
theorem back_c5 (n : Int) (h0 : -9223372036854775808 ≤ n) (h1 : n ≤ 9223372036854775807) (g1 : 4611686018427387904 < n) (t : ByteArray) (ht : t.size ≤ 140737488351232) (w : World) (hL : Laid w) :
    Calls Tryd.prog 3 #[.int .i64 n, .string t] w fun e w' => e = .returned (.bool true) ∧ Below w.heap.size w w' := by
  have HL : Hid (Laid w) := hL
  have hs1 := lenB_small n
  have hs2 := intB_small n
  clear hL
  go_enter Tryd.func3, Tryd.ntmps3
  go_wp2_with fail
  refine (putLen_bad n (by omega) _).mono ?_
  rintro e w1 ⟨rfl, rfl⟩
  have hb1 := Below.refl w1.heap.size w1
  go_wp2_with fail
  refine (putInt_none n (by omega) _).mono ?_
  rintro e w3 ⟨rfl, rfl⟩
  have hb3 := hb1
  go_wp2_with fail
  refine (digits_any n h0 h1 _ (HL.out.on hb3)).mono ?_
  rintro e w5 ⟨rfl, hb5⟩
  replace hb5 := hb3.trans (hb5.mono hb3.size)
  go_wp2_with fail
  refine (num_back n h0 h1 _ (HL.out.on hb5)).mono ?_
  rintro e w6 ⟨rfl, hb6⟩
  replace hb6 := hb5.trans (hb6.mono hb5.size)
  go_wp2_with fail
  refine (works_any _ (HL.out.on hb6)).mono ?_
  rintro e w7 ⟨rfl, hb7⟩
  replace hb7 := hb6.trans (hb7.mono hb6.size)
  go_wp2
  go_ret
  exact ⟨rfl, hb7⟩
theorem VarintBack_walk (a0 : Int) (a1 : ByteArray) (w0 : (Lit.int .i64 a0).wf = true) (z1 : a1.size ≤ 140737488351232) (w : World) (hL : Laid w) :
    Calls Tryd.prog 3 #[.int .i64 a0, .string a1] w fun e w' => e = .returned (.bool true) ∧ Below w.heap.size w w' := by
  simp [Lit.wf, IntKind.min, IntKind.max, IntKind.signed, IntKind.bits] at w0
  have h0 : -9223372036854775808 ≤ a0 := by omega
  have h1 : a0 ≤ 9223372036854775807 := by omega
  by_cases c1 : a0 < -2147483648
  · exact back_c1 a0 h0 h1 c1 a1 z1 w hL
  by_cases c2 : a0 < 0
  · exact back_c2 a0 h0 h1 (by omega) c2 a1 z1 w hL
  by_cases c3 : a0 < 2147483648
  · exact back_c3 a0 h0 h1 (by omega) c3 a1 z1 w hL
  by_cases c4 : a0 ≤ 4611686018427387904
  · exact back_c4 a0 h0 h1 (by omega) c4 a1 z1 w hL
  · exact back_c5 a0 h0 h1 (by omega) a1 z1 w hL
set_option linter.unusedVariables false
set_option maxRecDepth 100000 in
theorem lifted (os : Os) (started : os.Started) (H : Type) (enc : TypeId × Value → H) :
    ReturnsInHanded {} Tryd.checked os 3 .any (fun w args => (Rows.varintBackSpec.pre enc Tryd.prog Tryd.f3 [] false w args ∧ laidMetH Tryd.prog laidL w) ∧ sizedMet enc Tryd.prog Tryd.f3 (OpenSpec.ofChange Rows.varintBackSpec) false w args)
      (Rows.varintBackSpec.post enc Tryd.prog Tryd.f3 false true false false) := by
  refine returnsInHanded_of_change_and (C := Tryd.checked) (X := fun w _ => laidMetH Tryd.prog laidL w) (fun _ _ _ hh h => h.of_heap hh) own started (by kernel_rfl) Tryd.func3
    (ChangeSpec.witness_shaped (enc := enc) (C := Tryd.checked) (os := os) (X := fun w _ => laidMetH Tryd.prog laidL w) false (World.doorLaid Tryd.prog 400 os) #[.int .i64 0, .string ByteArray.empty] 8 rfl (World.shaped_of_RefB (by kernel_rfl) (by kernel_rfl)) (by kernel_rfl) (by kernel_rfl) (by kernel_rfl) (door_met os _)) ?_
  intro W base args ds gs before hval0 hW hcnd hsz0 hL _
  have hval : ∀ (j : Nat) t v, Tryd.f3.params[j]? = some t → args[j]? = some v → Value.okWide Tryd.prog W .any base t v := hval0
  have hsz : (DataW.weightsEach Tryd.prog (Tryd.f3.params.toList ++ Rows.varintBackSpec.plain.varTypes Tryd.prog) (ds ++ gs)).all (· ≤ reachBytes) = true := hsz0
  have hW' := hW
  obtain ⟨p, q, hA0, hV, rfl, hfz, hnd⟩ := hW
  have hA : DataW.TrodAll enc Tryd.prog W 0 (fun _ => true) true Tryd.f3.params.toList args.toList ds p := hA0
  rw [Tryd.params3] at hA hval hsz
  obtain ⟨v0, vs0, d0, ds0, p0, q0, hargs, rfl, rfl, h0, r0⟩ := trodAll_cons hA
  obtain ⟨v1, vs1, d1, ds1, p1, q1, rfl, rfl, rfl, h1, r1⟩ := trodAll_cons r0
  obtain ⟨rfl, rfl, rfl⟩ := trodAll_nil r1
  obtain rfl : args = #[v0, v1] := by cases args; simp_all
  obtain ⟨rfl, rfl⟩ := trodVars_none hV
  obtain ⟨a0, rfl, rfl, rfl, w0⟩ := open_int Tryd.underlying3 (hval 0 3 v0 rfl rfl) h0
  obtain ⟨a1, rfl, rfl, rfl, w1⟩ := open_string Tryd.underlying9 (hval 1 9 v1 rfl rfl) h1
  have z1 : a1.size ≤ 140737488351232 := by
    have := sized_string hsz (j := 1) (t := 9) rfl rfl
    simpa [reachBytes] using this
  clear hA0 hval0 hsz0
  refine (VarintBack_walk a0 a1 w0 z1 W (of_laid hL)).mono fun e W' ⟨he, bel⟩ => ?_
  subst he
  exact ⟨_, rfl, _, _, _, [], _, [], hW', trodAll_mk1 (shut_bool Tryd.underlying4 _), (trodAll_cons_mk (shut_int Tryd.underlying3 w0) (trodAll_cons_mk (shut_string Tryd.underlying9 w1) trodAll_mk0)), rfl, bel.frame _, fun h => by cases h⟩

theorem over : Rows.VarintBackSaid :=
  OpenClaim.holds_of_wide 3 Tryd.f3 rfl rfl rfl rfl rfl rfl rfl ⟨rfl, rfl, rfl, rfl, rfl⟩ rfl rfl rfl rfl rfl (by kernel_rfl) Tryd.func3 (by kernel_rfl)
    (of_decide_eq_true (by kernel_rfl)) (by unfold Func.isWrapper; first | (rw [if_pos (by decide +kernel)]; kernel_rfl) | (rw [if_neg (by decide +kernel)]; exact ⟨rfl, rfl⟩))
    (fun os started H enc _ => lifted os started H enc)
end Go.Proofs.YtcnicdcjdieodaaDoor.varintBack
namespace Go.Proofs.YtcnicdcjdieodaaDoor
theorem varintBack_card : Rows.VarintBackCardSaid :=
  Claim7.holds_tied_plain_at .later [] [.data, .data, .data, .sentinel, .sentinel] true (true, "c1b26ca3490806f88fa1057fb4c840e37fb3bd4f046d17ad305557f559466602") true
    varintBack.over (fun _ h => by cases h) (by kernel_rfl) (fun _ h => by cases h) varintBack_row_tie rfl ⟨rfl, rfl⟩ (by kernel_rfl) rfl
    (fun f fn hf hfn => by
      obtain rfl : f = 3 := Option.some.inj ((show Tryd.prog.funcNamed "cistern/cisternlaw02.VarintBack" = some 3 by kernel_rfl).symm.trans hf) |>.symm
      obtain rfl : fn = Tryd.f3 := (Option.some.inj (Tryd.func3.symm.trans hfn)).symm
      exact ⟨by kernel_rfl, fun j t ht => by
        rw [Tryd.params3] at ht
        have hm : t ∈ [3, 9] := by simpa using Array.mem_of_getElem? ht
        have hall : ([3, 9].all fun u => !Tryd.prog.wantsStandIn u) = true := by kernel_rfl
        exact (show Tryd.prog.wantsStandIn t = false by simpa using List.all_eq_true.1 hall t hm)⟩)
    (by kernel_rfl)
#print axioms varintBack_card
end Go.Proofs.YtcnicdcjdieodaaDoor
