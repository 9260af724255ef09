import Derived.Test.YtcnicdcjdieodaaDoorForthA
import Derived.Test.YtcnicdcjdieodaaDoorForthB
import Derived.Test.YtcnicdcjdieodaaDoorForthC
import Derived.Test.YtcnicdcjdieodaaDoorDoor
namespace Go.Proofs.YtcnicdcjdieodaaDoor.varintForth
open Go.ChangeShapes Go.WideShapes Go.ChangeAt Go.RowKit Vi
open Go.ChangeMaps (open_string shut_string)
set_option linter.unusedVariables false
theorem VarintForth_walk (s : ByteArray) (z : s.size ≤ 140737488351232) (w : World) (hL : Laid w) :
    Calls Tryd.prog 4 #[.string s] w fun e w' => e = .returned (.bool true) ∧ Below w.heap.size w w' := by
  rcases len_is s with ⟨n, sz, sp, e0, hl, HC⟩ | ⟨n, sz, sp, hl, HC⟩ | ⟨n, k, h0, h1, k1, k9, ks, hl, HC⟩
  ·
    rcases int_is s with ⟨m, mz, e1, hi, HI⟩ | ⟨m, j, m0, m1, j1, j9, js, hi, HI⟩
    ·
      cases hn : Vi.numberOf s.data.toList with
      | none => exact forth_a1x s z n sz sp e0 hl HC m mz e1 hi HI hn w hL
      | some v => exact forth_a1y s z n sz sp e0 hl HC m mz e1 hi HI v hn w hL
    ·
      cases hn : Vi.numberOf s.data.toList with
      | none => exact forth_a2x s z n sz sp e0 hl HC m j m0 m1 j1 j9 js hi HI hn w hL
      | some v => exact forth_a2y s z n sz sp e0 hl HC m j m0 m1 j1 j9 js hi HI v hn w hL
  ·
    rcases int_is s with ⟨m, mz, e1, hi, HI⟩ | ⟨m, j, m0, m1, j1, j9, js, hi, HI⟩
    ·
      cases hn : Vi.numberOf s.data.toList with
      | none => exact forth_b1x s z n sz sp hl HC m mz e1 hi HI hn w hL
      | some v => exact forth_b1y s z n sz sp hl HC m mz e1 hi HI v hn w hL
    ·
      cases hn : Vi.numberOf s.data.toList with
      | none => exact forth_b2x s z n sz sp hl HC m j m0 m1 j1 j9 js hi HI hn w hL
      | some v => exact forth_b2y s z n sz sp hl HC m j m0 m1 j1 j9 js hi HI v hn w hL
  ·
    rcases int_is s with ⟨m, mz, e1, hi, HI⟩ | ⟨m, j, m0, m1, j1, j9, js, hi, HI⟩
    ·
      cases hn : Vi.numberOf s.data.toList with
      | none => exact forth_c1x s z n k h0 h1 k1 k9 ks hl HC m mz e1 hi HI hn w hL
      | some v => exact forth_c1y s z n k h0 h1 k1 k9 ks hl HC m mz e1 hi HI v hn w hL
    ·
      cases hn : Vi.numberOf s.data.toList with
      | none => exact forth_c2x s z n k h0 h1 k1 k9 ks hl HC m j m0 m1 j1 j9 js hi HI hn w hL
      | some v => exact forth_c2y s z n k h0 h1 k1 k9 ks hl HC m j m0 m1 j1 j9 js hi HI v hn w hL
set_option linter.unusedVariables false
set_option maxRecDepth 100000 in
theorem lifted (os : Os) (started : os.Started) (H : Type) (enc : TypeId × Value → H) :
    ReturnsInHanded {} Tryd.checked os 4 .any (fun w args => (Rows.varintForthSpec.pre enc Tryd.prog Tryd.f4 [] false w args ∧ laidMetH Tryd.prog laidL w) ∧ sizedMet enc Tryd.prog Tryd.f4 (OpenSpec.ofChange Rows.varintForthSpec) false w args)
      (Rows.varintForthSpec.post enc Tryd.prog Tryd.f4 false true false false) := by
  refine returnsInHanded_of_change_and (C := Tryd.checked) (X := fun w _ => laidMetH Tryd.prog laidL w) (fun _ _ _ hh h => h.of_heap hh) own started (by kernel_rfl) Tryd.func4
    (ChangeSpec.witness_shaped (enc := enc) (C := Tryd.checked) (os := os) (X := fun w _ => laidMetH Tryd.prog laidL w) false (World.doorLaid Tryd.prog 400 os) #[.string ByteArray.empty] 8 rfl (World.shaped_of_RefB (by kernel_rfl) (by kernel_rfl)) (by kernel_rfl) (by kernel_rfl) (by kernel_rfl) (door_met os _)) ?_
  intro W base args ds gs before hval0 hW hcnd hsz0 hL _
  have hval : ∀ (j : Nat) t v, Tryd.f4.params[j]? = some t → args[j]? = some v → Value.okWide Tryd.prog W .any base t v := hval0
  have hsz : (DataW.weightsEach Tryd.prog (Tryd.f4.params.toList ++ Rows.varintForthSpec.plain.varTypes Tryd.prog) (ds ++ gs)).all (· ≤ reachBytes) = true := hsz0
  have hW' := hW
  obtain ⟨p, q, hA0, hV, rfl, hfz, hnd⟩ := hW
  have hA : DataW.TrodAll enc Tryd.prog W 0 (fun _ => true) true Tryd.f4.params.toList args.toList ds p := hA0
  rw [Tryd.params4] at hA hval hsz
  obtain ⟨v0, vs0, d0, ds0, p0, q0, hargs, rfl, rfl, h0, r0⟩ := trodAll_cons hA
  obtain ⟨rfl, rfl, rfl⟩ := trodAll_nil r0
  obtain rfl : args = #[v0] := by cases args; simp_all
  obtain ⟨rfl, rfl⟩ := trodVars_none hV
  obtain ⟨a0, rfl, rfl, rfl, w0⟩ := open_string Tryd.underlying9 (hval 0 9 v0 rfl rfl) h0
  have z0 : a0.size ≤ 140737488351232 := by
    have := sized_string hsz (j := 0) (t := 9) rfl rfl
    simpa [reachBytes] using this
  clear hA0 hval0 hsz0
  refine (VarintForth_walk a0 z0 W (of_laid hL)).mono fun e W' ⟨he, bel⟩ => ?_
  subst he
  exact ⟨_, rfl, _, _, _, [], _, [], hW', trodAll_mk1 (shut_bool Tryd.underlying4 _), (trodAll_cons_mk (shut_string Tryd.underlying9 w0) trodAll_mk0), rfl, bel.frame _, fun h => by cases h⟩

theorem over : Rows.VarintForthSaid :=
  OpenClaim.holds_of_wide 4 Tryd.f4 rfl rfl rfl rfl rfl rfl rfl ⟨rfl, rfl, rfl, rfl, rfl⟩ rfl rfl rfl rfl rfl (by kernel_rfl) Tryd.func4 (by kernel_rfl)
    (of_decide_eq_true (by kernel_rfl)) (by unfold Func.isWrapper; first | (rw [if_pos (by decide +kernel)]; kernel_rfl) | (rw [if_neg (by decide +kernel)]; exact ⟨rfl, rfl⟩))
    (fun os started H enc _ => lifted os started H enc)
end Go.Proofs.YtcnicdcjdieodaaDoor.varintForth
namespace Go.Proofs.YtcnicdcjdieodaaDoor
theorem varintForth_card : Rows.VarintForthCardSaid :=
  Claim7.holds_tied_plain_at .later [] [.data, .data, .data, .sentinel, .sentinel] true (true, "c1b26ca3490806f88fa1057fb4c840e37fb3bd4f046d17ad305557f559466602") true
    varintForth.over (fun _ h => by cases h) (by kernel_rfl) (fun _ h => by cases h) varintForth_row_tie rfl ⟨rfl, rfl⟩ (by kernel_rfl) rfl
    (fun f fn hf hfn => by
      obtain rfl : f = 4 := Option.some.inj ((show Tryd.prog.funcNamed "cistern/cisternlaw02.VarintForth" = some 4 by kernel_rfl).symm.trans hf) |>.symm
      obtain rfl : fn = Tryd.f4 := (Option.some.inj (Tryd.func4.symm.trans hfn)).symm
      exact ⟨by kernel_rfl, fun j t ht => by
        rw [Tryd.params4] at ht
        have hm : t ∈ [9] := by simpa using Array.mem_of_getElem? ht
        have hall : ([9].all fun u => !Tryd.prog.wantsStandIn u) = true := by kernel_rfl
        exact (show Tryd.prog.wantsStandIn t = false by simpa using List.all_eq_true.1 hall t hm)⟩)
    (by kernel_rfl)
#print axioms varintForth_card
end Go.Proofs.YtcnicdcjdieodaaDoor
