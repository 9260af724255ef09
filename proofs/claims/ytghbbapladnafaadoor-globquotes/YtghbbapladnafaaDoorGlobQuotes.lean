import Derived.Test.YtghbbapladnafaaDoorGWorks
import Derived.Test.YtghbbapladnafaaDoorGQuoted
import Derived.Test.YtghbbapladnafaaDoorDoor
namespace Go.Proofs.YtghbbapladnafaaDoor.globQuotes
open Go.ChangeShapes Go.WideShapes Go.ChangeAt Go.RowKit Gb Vi
open Go.ChangeMaps (open_string shut_string)
set_option linter.unusedVariables false
theorem app_list (a b : ByteArray) : (a ++ b).data.toList = a.data.toList ++ b.data.toList := by simp [ByteArray.data_append]
theorem app_size (a b : ByteArray) : (a ++ b).size = a.size + b.size := ByteArray.size_append
theorem bytes_eq (a b : ByteArray) : (a.toList == b.toList) = (a.data.toList == b.data.toList) := by rw [ByteArray.toList_eq, ByteArray.toList_eq]
def starB : ByteArray := ⟨#[42]⟩
theorem starB_list : starB.data.toList = [42] := rfl
theorem starB_size : starB.size = 1 := rfl
theorem q_lit (a : ByteArray) (h : a.size ≤ 4000) (w : World) : Calls Tryd.prog 12 #[.string (quoteB a)] w fun e w' => e = .returned (.tuple #[.string a, .bool true]) ∧ Below w.heap.size w w' := by
  have h1 := literal_any (quoteB a) (by rw [quoteB_size]; omega) w
  have h2 : litT (quoteB a).data.toList = .tuple #[.string a, .bool true] := by
    rw [litT_some (show lit (quoteB a).data.toList = some a.data.toList by rw [quoteB_list]; exact lit_quote _)]; rfl
  rw [h2] at h1
  exact h1
theorem q_1 (a t : ByteArray) (h : a.size ≤ 4000) (h' : t.size ≤ 8000) (b : Bool) (hb : (a.toList == t.toList) = b) (w : World) : Calls Tryd.prog 9 #[.string (quoteB a), .string t, .bool false] w fun e w' => e = .returned (.bool b) ∧ Below w.heap.size w w' := by
  have h1 := match_any (quoteB a) t false (by rw [quoteB_size]; omega) (by omega) w
  have h2 : match' (quoteB a).data.toList t.data.toList false = b := by rw [quoteB_list, m_quote, ← bytes_eq]; exact hb
  rw [h2] at h1
  exact h1
theorem q_3 (t : ByteArray) (h' : t.size ≤ 8000) (w : World) : Calls Tryd.prog 9 #[.string ⟨#[42]⟩, .string t, .bool false] w fun e w' => e = .returned (.bool true) ∧ Below w.heap.size w w' := by
  have h1 := match_any starB t false (by rw [starB_size]; omega) (by omega) w
  have h2 : match' starB.data.toList t.data.toList false = true := by rw [starB_list]; exact m_star _
  rw [h2] at h1
  exact h1
theorem q_b (a t : ByteArray) (h : a.size ≤ 4000) (h' : t.size ≤ 8000) (b : Bool) (hb : decide (a.data.toList.length ≤ t.data.toList.length ∧ t.data.toList.take a.data.toList.length = a.data.toList) = b) (w : World) : Calls Tryd.prog 9 #[.string (quoteB a ++ ⟨#[42]⟩), .string t, .bool false] w fun e w' => e = .returned (.bool b) ∧ Below w.heap.size w w' := by
  have h1 := match_any (quoteB a ++ starB) t false (by rw [app_size, quoteB_size, starB_size]; omega) (by omega) w
  have h2 : match' (quoteB a ++ starB).data.toList t.data.toList false = b := by rw [app_list, quoteB_list, starB_list, m_begins]; exact hb
  rw [h2] at h1
  exact h1
theorem q_e (a t : ByteArray) (h : a.size ≤ 4000) (h' : t.size ≤ 8000) (b : Bool) (hb : decide (a.data.toList.length ≤ t.data.toList.length ∧ t.data.toList.drop (t.data.toList.length - a.data.toList.length) = a.data.toList) = b) (w : World) : Calls Tryd.prog 9 #[.string (⟨#[42]⟩ ++ quoteB a), .string t, .bool false] w fun e w' => e = .returned (.bool b) ∧ Below w.heap.size w w' := by
  have h1 := match_any (starB ++ quoteB a) t false (by rw [app_size, quoteB_size, starB_size]; omega) (by omega) w
  have h2 : match' (starB ++ quoteB a).data.toList t.data.toList false = b := by rw [app_list, quoteB_list, starB_list, m_ends]; exact hb
  rw [h2] at h1
  exact h1
set_option maxHeartbeats 1000000 in
set_option maxRecDepth 20000 in
theorem GlobQuotes_walk (a0 a1 : ByteArray) (z0 : a0.size ≤ 140737488351232) (z1 : a1.size ≤ 140737488351232) (w : World) (hL : Laid w) :
    Calls Tryd.prog 7 #[.string a0, .string a1] w fun e w' => e = .returned (.bool true) ∧ Below w.heap.size w w' := by
  have HL : Hid (Laid w) := hL
  have HB0 : Hid (Below w.heap.size w w) := Below.refl _ _
  clear hL
  by_cases h1 : 4000 < a0.size
  · go_enter Tryd.func7, Tryd.ntmps7
    go_wp2_with fail
    refine (show Calls _ _ _ _ _ from works_any _ (HL.out.on HB0.out)).mono ?_
    rintro e w1 ⟨rfl, hb⟩
    have HB1 : Hid (Below w.heap.size w w1) := HB0.out.trans (hb.mono HB0.out.size)
    clear hb
    go_wp2
    go_ret
    exact ⟨rfl, HB1.out⟩
  by_cases h2 : 4000 < a1.size
  · go_enter Tryd.func7, Tryd.ntmps7
    go_wp2_with fail
    refine (show Calls _ _ _ _ _ from works_any _ (HL.out.on HB0.out)).mono ?_
    rintro e w1 ⟨rfl, hb⟩
    have HB1 : Hid (Below w.heap.size w w1) := HB0.out.trans (hb.mono HB0.out.size)
    clear hb
    go_wp2
    go_ret
    exact ⟨rfl, HB1.out⟩
  have hz : a0.size ≤ 4000 := by omega
  have hzq : (quoteB a0).size ≤ 8000 := by rw [quoteB_size]; omega
  obtain ⟨b, hb⟩ : ∃ b, (a0.toList == a1.toList) = b := ⟨_, rfl⟩
  have HQ : Hid (∀ w : World, Calls Tryd.prog 13 #[.string a0] w fun e w' => e = .returned (.string (quoteB a0)) ∧ Below w.heap.size w w') := fun w => quoted_any a0 (by omega) w
  have HLI : Hid (∀ w : World, Calls Tryd.prog 12 #[.string (quoteB a0)] w fun e w' => e = .returned (.tuple #[.string a0, .bool true]) ∧ Below w.heap.size w w') := fun w => q_lit a0 hz w
  have HM1 : Hid (∀ w : World, Calls Tryd.prog 9 #[.string (quoteB a0), .string a0, .bool false] w fun e w' => e = .returned (.bool true) ∧ Below w.heap.size w w') := fun w => q_1 a0 a0 hz (by omega) true (by simp) w
  have HM2 : Hid (∀ w : World, Calls Tryd.prog 9 #[.string (quoteB a0), .string a1, .bool false] w fun e w' => e = .returned (.bool b) ∧ Below w.heap.size w w') := fun w => q_1 a0 a1 hz (by omega) b hb w
  have HM3 : Hid (∀ w : World, Calls Tryd.prog 9 #[.string ⟨#[42]⟩, .string a1, .bool false] w fun e w' => e = .returned (.bool true) ∧ Below w.heap.size w w') := fun w => q_3 a1 (by omega) w
  have HM4 : Hid (∀ w : World, Calls Tryd.prog 9 #[.string (quoteB a0 ++ ⟨#[42]⟩), .string (a0 ++ a1), .bool false] w fun e w' => e = .returned (.bool true) ∧ Below w.heap.size w w') := fun w => q_b a0 (a0 ++ a1) hz (by rw [app_size]; omega) true (by rw [app_list]; simp) w
  have HM5 : Hid (∀ w : World, Calls Tryd.prog 9 #[.string (⟨#[42]⟩ ++ quoteB a0), .string (a1 ++ a0), .bool false] w fun e w' => e = .returned (.bool true) ∧ Below w.heap.size w w') := fun w => q_e a0 (a1 ++ a0) hz (by rw [app_size]; omega) true (by rw [app_list]; simp) w
  by_cases h3 : a0.size ≤ a1.size
  · obtain ⟨bb, hbb⟩ : ∃ b, ((a1.extract 0 a0.size).toList == a0.toList) = b := ⟨_, rfl⟩
    obtain ⟨be, hbe⟩ : ∃ b, ((a1.extract (a1.size - a0.size) a1.size).toList == a0.toList) = b := ⟨_, rfl⟩
    have HM6 : Hid (∀ w : World, Calls Tryd.prog 9 #[.string (quoteB a0 ++ ⟨#[42]⟩), .string a1, .bool false] w fun e w' => e = .returned (.bool bb) ∧ Below w.heap.size w w') := fun w => q_b a0 a1 hz (by omega) bb (by
      rw [← hbb, bytes_eq, ext_any, Bool.eq_iff_iff, decide_eq_true_iff, beq_iff_eq, list_len, list_len]
      simp [h3]) w
    have HM7 : Hid (∀ w : World, Calls Tryd.prog 9 #[.string (⟨#[42]⟩ ++ quoteB a0), .string a1, .bool false] w fun e w' => e = .returned (.bool be) ∧ Below w.heap.size w w') := fun w => q_e a0 a1 hz (by omega) be (by
      rw [← hbe, bytes_eq, ext_drop, Bool.eq_iff_iff, decide_eq_true_iff, beq_iff_eq, list_len, list_len]
      simp [h3]) w
    generalize quoteB a0 = P at *
    obtain ⟨n, hn⟩ : ∃ n, a1.size - a0.size = n := ⟨_, rfl⟩
    rw [hn] at hbe
    have hsub : n ≤ a1.size := by omega
    have hsi : (a1.size : Int) - (a0.size : Int) = (n : Int) := by omega
    clear hn
    go_enter Tryd.func7, Tryd.ntmps7
    go_wp2_with fail
    refine (show Calls _ _ _ _ _ from HQ.out _).mono ?_
    rintro e w1 ⟨rfl, hb⟩
    have HB1 : Hid (Below w.heap.size w w1) := HB0.out.trans (hb.mono HB0.out.size)
    clear hb
    go_wp2_with fail
    refine (show Calls _ _ _ _ _ from HLI.out _).mono ?_
    rintro e w2 ⟨rfl, hb⟩
    have HB2 : Hid (Below w.heap.size w w2) := HB1.out.trans (hb.mono HB1.out.size)
    clear hb
    go_wp2_with fail
    refine (show Calls _ _ _ _ _ from works_any _ (HL.out.on HB2.out)).mono ?_
    rintro e w3 ⟨rfl, hb⟩
    have HB3 : Hid (Below w.heap.size w w3) := HB2.out.trans (hb.mono HB2.out.size)
    clear hb
    go_wp2_with fail
    refine (show Calls _ _ _ _ _ from HM1.out _).mono ?_
    rintro e w4 ⟨rfl, hb⟩
    have HB4 : Hid (Below w.heap.size w w4) := HB3.out.trans (hb.mono HB3.out.size)
    clear hb
    go_wp2_with fail
    refine (show Calls _ _ _ _ _ from HM2.out _).mono ?_
    rintro e w5 ⟨rfl, hb⟩
    have HB5 : Hid (Below w.heap.size w w5) := HB4.out.trans (hb.mono HB4.out.size)
    clear hb
    go_wp2_with fail
    refine (show Calls _ _ _ _ _ from HM3.out _).mono ?_
    rintro e w6 ⟨rfl, hb⟩
    have HB6 : Hid (Below w.heap.size w w6) := HB5.out.trans (hb.mono HB5.out.size)
    clear hb
    go_wp2_with fail
    refine (show Calls _ _ _ _ _ from HM4.out _).mono ?_
    rintro e w7 ⟨rfl, hb⟩
    have HB7 : Hid (Below w.heap.size w w7) := HB6.out.trans (hb.mono HB6.out.size)
    clear hb
    go_wp2_with fail
    refine (show Calls _ _ _ _ _ from HM5.out _).mono ?_
    rintro e w8 ⟨rfl, hb⟩
    have HB8 : Hid (Below w.heap.size w w8) := HB7.out.trans (hb.mono HB7.out.size)
    clear hb
    go_wp2_with fail
    refine (show Calls _ _ _ _ _ from HM6.out _).mono ?_
    rintro e w9 ⟨rfl, hb⟩
    have HB9 : Hid (Below w.heap.size w w9) := HB8.out.trans (hb.mono HB8.out.size)
    clear hb
    go_wp2_with fail
    refine (show Calls _ _ _ _ _ from HM7.out _).mono ?_
    rintro e w10 ⟨rfl, hb⟩
    have HB10 : Hid (Below w.heap.size w w10) := HB9.out.trans (hb.mono HB9.out.size)
    clear hb
    go_wp2
    go_ret
    exact ⟨by simp, HB10.out⟩
  · have HM6 : Hid (∀ w : World, Calls Tryd.prog 9 #[.string (quoteB a0 ++ ⟨#[42]⟩), .string a1, .bool false] w fun e w' => e = .returned (.bool false) ∧ Below w.heap.size w w') := fun w => q_b a0 a1 hz (by omega) false (by rw [list_len, list_len]; simp [h3]) w
    have HM7 : Hid (∀ w : World, Calls Tryd.prog 9 #[.string (⟨#[42]⟩ ++ quoteB a0), .string a1, .bool false] w fun e w' => e = .returned (.bool false) ∧ Below w.heap.size w w') := fun w => q_e a0 a1 hz (by omega) false (by rw [list_len, list_len]; simp [h3]) w
    generalize quoteB a0 = P at *
    go_enter Tryd.func7, Tryd.ntmps7
    go_wp2_with fail
    refine (show Calls _ _ _ _ _ from HQ.out _).mono ?_
    rintro e w1 ⟨rfl, hb⟩
    have HB1 : Hid (Below w.heap.size w w1) := HB0.out.trans (hb.mono HB0.out.size)
    clear hb
    go_wp2_with fail
    refine (show Calls _ _ _ _ _ from HLI.out _).mono ?_
    rintro e w2 ⟨rfl, hb⟩
    have HB2 : Hid (Below w.heap.size w w2) := HB1.out.trans (hb.mono HB1.out.size)
    clear hb
    go_wp2_with fail
    refine (show Calls _ _ _ _ _ from works_any _ (HL.out.on HB2.out)).mono ?_
    rintro e w3 ⟨rfl, hb⟩
    have HB3 : Hid (Below w.heap.size w w3) := HB2.out.trans (hb.mono HB2.out.size)
    clear hb
    go_wp2_with fail
    refine (show Calls _ _ _ _ _ from HM1.out _).mono ?_
    rintro e w4 ⟨rfl, hb⟩
    have HB4 : Hid (Below w.heap.size w w4) := HB3.out.trans (hb.mono HB3.out.size)
    clear hb
    go_wp2_with fail
    refine (show Calls _ _ _ _ _ from HM2.out _).mono ?_
    rintro e w5 ⟨rfl, hb⟩
    have HB5 : Hid (Below w.heap.size w w5) := HB4.out.trans (hb.mono HB4.out.size)
    clear hb
    go_wp2_with fail
    refine (show Calls _ _ _ _ _ from HM3.out _).mono ?_
    rintro e w6 ⟨rfl, hb⟩
    have HB6 : Hid (Below w.heap.size w w6) := HB5.out.trans (hb.mono HB5.out.size)
    clear hb
    go_wp2_with fail
    refine (show Calls _ _ _ _ _ from HM4.out _).mono ?_
    rintro e w7 ⟨rfl, hb⟩
    have HB7 : Hid (Below w.heap.size w w7) := HB6.out.trans (hb.mono HB6.out.size)
    clear hb
    go_wp2_with fail
    refine (show Calls _ _ _ _ _ from HM5.out _).mono ?_
    rintro e w8 ⟨rfl, hb⟩
    have HB8 : Hid (Below w.heap.size w w8) := HB7.out.trans (hb.mono HB7.out.size)
    clear hb
    go_wp2_with fail
    refine (show Calls _ _ _ _ _ from HM6.out _).mono ?_
    rintro e w9 ⟨rfl, hb⟩
    have HB9 : Hid (Below w.heap.size w w9) := HB8.out.trans (hb.mono HB8.out.size)
    clear hb
    go_wp2_with fail
    refine (show Calls _ _ _ _ _ from HM7.out _).mono ?_
    rintro e w10 ⟨rfl, hb⟩
    have HB10 : Hid (Below w.heap.size w w10) := HB9.out.trans (hb.mono HB9.out.size)
    clear hb
    go_wp2
    go_ret
    exact ⟨by simp, HB10.out⟩
set_option linter.unusedVariables false
set_option maxRecDepth 100000 in
theorem lifted (os : Os) (started : os.Started) (H : Type) (enc : TypeId × Value → H) :
    ReturnsInHanded {} Tryd.checked os 7 .any (fun w args => (Rows.globQuotesSpec.pre enc Tryd.prog Tryd.f7 [] false w args ∧ laidMetH Tryd.prog laidL w) ∧ sizedMet enc Tryd.prog Tryd.f7 (OpenSpec.ofChange Rows.globQuotesSpec) false w args)
      (Rows.globQuotesSpec.post enc Tryd.prog Tryd.f7 false true false false) := by
  refine returnsInHanded_of_change_and (C := Tryd.checked) (X := fun w _ => laidMetH Tryd.prog laidL w) (fun _ _ _ hh h => h.of_heap hh) own started (by kernel_rfl) Tryd.func7
    (ChangeSpec.witness_shaped (enc := enc) (C := Tryd.checked) (os := os) (X := fun w _ => laidMetH Tryd.prog laidL w) false (World.doorLaid Tryd.prog 400 os) #[.string ByteArray.empty, .string ByteArray.empty] 8 rfl (World.shaped_of_RefB (by kernel_rfl) (by kernel_rfl)) (by kernel_rfl) (by kernel_rfl) (by kernel_rfl) (door_met os _)) ?_
  intro W base args ds gs before hval0 hW hcnd hsz0 hL _
  have hval : ∀ (j : Nat) t v, Tryd.f7.params[j]? = some t → args[j]? = some v → Value.okWide Tryd.prog W .any base t v := hval0
  have hsz : (DataW.weightsEach Tryd.prog (Tryd.f7.params.toList ++ Rows.globQuotesSpec.plain.varTypes Tryd.prog) (ds ++ gs)).all (· ≤ reachBytes) = true := hsz0
  have hW' := hW
  obtain ⟨p, q, hA0, hV, rfl, hfz, hnd⟩ := hW
  have hA : DataW.TrodAll enc Tryd.prog W 0 (fun _ => true) true Tryd.f7.params.toList args.toList ds p := hA0
  rw [Tryd.params7] at hA hval hsz
  obtain ⟨v0, vs0, d0, ds0, p0, q0, hargs, rfl, rfl, h0, r0⟩ := trodAll_cons hA
  obtain ⟨v1, vs1, d1, ds1, p1, q1, rfl, rfl, rfl, h1, r1⟩ := trodAll_cons r0
  obtain ⟨rfl, rfl, rfl⟩ := trodAll_nil r1
  obtain rfl : args = #[v0, v1] := by cases args; simp_all
  obtain ⟨rfl, rfl⟩ := trodVars_none hV
  obtain ⟨a0, rfl, rfl, rfl, w0⟩ := open_string Tryd.underlying9 (hval 0 9 v0 rfl rfl) h0
  obtain ⟨a1, rfl, rfl, rfl, w1⟩ := open_string Tryd.underlying9 (hval 1 9 v1 rfl rfl) h1
  have z0 : a0.size ≤ 140737488351232 := by
    have := sized_string hsz (j := 0) (t := 9) rfl rfl
    simpa [reachBytes] using this
  have z1 : a1.size ≤ 140737488351232 := by
    have := sized_string hsz (j := 1) (t := 9) rfl rfl
    simpa [reachBytes] using this
  clear hA0 hval0 hsz0
  refine (GlobQuotes_walk a0 a1 z0 z1 W (of_laid hL)).mono fun e W' ⟨he, bel⟩ => ?_
  subst he
  exact ⟨_, rfl, _, _, _, [], _, [], hW', trodAll_mk1 (shut_bool Tryd.underlying4 _), (trodAll_cons_mk (shut_string Tryd.underlying9 w0) (trodAll_cons_mk (shut_string Tryd.underlying9 w1) trodAll_mk0)), rfl, bel.frame _, fun h => by cases h⟩

theorem over : Rows.GlobQuotesSaid :=
  OpenClaim.holds_of_wide 7 Tryd.f7 rfl rfl rfl rfl rfl rfl rfl ⟨rfl, rfl, rfl, rfl, rfl⟩ rfl rfl rfl rfl rfl (by kernel_rfl) Tryd.func7 (by kernel_rfl)
    (of_decide_eq_true (by kernel_rfl)) (by unfold Func.isWrapper; first | (rw [if_pos (by decide +kernel)]; kernel_rfl) | (rw [if_neg (by decide +kernel)]; exact ⟨rfl, rfl⟩))
    (fun os started H enc _ => lifted os started H enc)
end Go.Proofs.YtghbbapladnafaaDoor.globQuotes
namespace Go.Proofs.YtghbbapladnafaaDoor
theorem globQuotes_card : Rows.GlobQuotesCardSaid :=
  Claim7.holds_tied_plain_at .later [] [.data, .data, .data, .sentinel, .sentinel] true (true, "67cb3ce511a953cfe77f5284fcfbed861388ddf82f555466a2470573183c3bcf") true
    globQuotes.over (fun _ h => by cases h) (by kernel_rfl) (fun _ h => by cases h) globQuotes_row_tie rfl ⟨rfl, rfl⟩ (by kernel_rfl) rfl
    (fun f fn hf hfn => by
      obtain rfl : f = 7 := Option.some.inj ((show Tryd.prog.funcNamed "cistern/cisternlaw04.GlobQuotes" = some 7 by kernel_rfl).symm.trans hf) |>.symm
      obtain rfl : fn = Tryd.f7 := (Option.some.inj (Tryd.func7.symm.trans hfn)).symm
      exact ⟨by kernel_rfl, fun j t ht => by
        rw [Tryd.params7] at ht
        have hm : t ∈ [9, 9] := by simpa using Array.mem_of_getElem? ht
        have hall : ([9, 9].all fun u => !Tryd.prog.wantsStandIn u) = true := by kernel_rfl
        exact (show Tryd.prog.wantsStandIn t = false by simpa using List.all_eq_true.1 hall t hm)⟩)
    (by kernel_rfl)
#print axioms globQuotes_card
end Go.Proofs.YtghbbapladnafaaDoor
