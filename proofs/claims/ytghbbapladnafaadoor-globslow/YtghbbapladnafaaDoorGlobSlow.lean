import Derived.Test.YtghbbapladnafaaDoorGWorks
import Derived.Test.YtghbbapladnafaaDoorGLaw
import Derived.Test.YtghbbapladnafaaDoorDoor
namespace Go.Proofs.YtghbbapladnafaaDoor.globSlow
open Go.ChangeShapes Go.WideShapes Go.ChangeAt Go.RowKit Gb Vi
open Go.ChangeMaps (open_string shut_string)
set_option linter.unusedVariables false
theorem app_list (a b : ByteArray) : (a ++ b).data.toList = a.data.toList ++ b.data.toList := by simp [ByteArray.data_append]
theorem app_size (a b : ByteArray) : (a ++ b).size = a.size + b.size := ByteArray.size_append
def bB : ByteArray := ⟨#[98]⟩
theorem bB_list : bB.data.toList = [98] := rfl
theorem bB_size : bB.size = 1 := rfl
theorem size_of {s : ByteArray} {l : List UInt8} {n : Nat} (h : s.data.toList = l) (hn : l.length = n) : s.size = n := by rw [← list_len, h]; exact hn
theorem s_any (p t : ByteArray) (f r : Bool) (hp : p.size ≤ 3000) (ht : t.size ≤ 3000) (hr : match' p.data.toList t.data.toList f = r) (w : World) : Calls Tryd.prog 9 #[.string p, .string t, .bool f] w fun e w' => e = .returned (.bool r) ∧ Below w.heap.size w w' := by
  have h := match_any p t f (by omega) (by omega) w
  rw [hr] at h
  exact h
structure Sl (p t q : ByteArray) (k : Nat) : Prop where
  p : p.data.toList = rep [42, 97] k
  t : t.data.toList = rep [97, 97, 97, 97, 97, 97, 97, 97, 97, 97] k
  q : q.data.toList = rep [97, 42] k
theorem Sl.more {p t q : ByteArray} {k : Nat} (h : Sl p t q k) : Sl (p ++ ⟨#[42, 97]⟩) (t ++ ⟨#[97, 97, 97, 97, 97, 97, 97, 97, 97, 97]⟩) (q ++ ⟨#[97, 42]⟩) (k + 1) :=
  ⟨by rw [app_list, h.p]; rfl, by rw [app_list, h.t]; rfl, by rw [app_list, h.q]; rfl⟩
theorem Sl.ps {p t q : ByteArray} {k : Nat} (h : Sl p t q k) : p.size = 2 * k := by rw [← list_len, h.p, rep_len]; show k * 2 = _; omega
theorem Sl.ts {p t q : ByteArray} {k : Nat} (h : Sl p t q k) : t.size = 10 * k := by rw [← list_len, h.t, rep_len]; show k * 10 = _; omega
theorem Sl.qs {p t q : ByteArray} {k : Nat} (h : Sl p t q k) : q.size = 2 * k := by rw [← list_len, h.q, rep_len]; show k * 2 = _; omega
theorem Sl.tl {p t q : ByteArray} {k : Nat} (h : Sl p t q k) : t.data.toList = List.replicate (10 * k) 97 := by rw [h.t, rep_ten]
set_option maxHeartbeats 1000000 in
set_option maxRecDepth 20000 in
theorem GlobSlow_walk (w : World) (hL : Laid w) :
    Calls Tryd.prog 4 #[] w fun e w' => e = .returned (.bool true) ∧ Below w.heap.size w w' := by
  have HL : Hid (Laid w) := hL
  clear hL
  go_enter Tryd.func4, Tryd.ntmps4
  go_wp2
  go_loopw [1, 2, 3, 4] (fun a b c i wr => ∃ (p t q : ByteArray) (k : Nat), a = .string p ∧ b = .string t ∧ c = .string q ∧ i = .int .i64 (k : Int) ∧ k ≤ 200 ∧ Sl p t q k ∧ Below w.heap.size w wr) (fun _ _ _ i _ => 200 - (intOf i).toNat)
  case atStart => exact ⟨_, _, _, 0, rfl, rfl, rfl, rfl, by omega, ⟨rfl, rfl, rfl⟩, Below.refl _ _⟩
  case round =>
    obtain ⟨p, t, q, k, rfl, rfl, rfl, rfl, hk, hS, hbel⟩ := hrel
    have HB0 : Hid (Below w.heap.size w wr) := hbel
    clear hbel
    have HS : Hid (Sl p t q k) := hS
    have z1 : p.size ≤ 3000 := by rw [hS.ps]; omega
    have z2 : t.size ≤ 3000 := by rw [hS.ts]; omega
    have z3 : q.size ≤ 3000 := by rw [hS.qs]; omega
    clear hS
    by_cases hlt : k < 200
    · go_wp2
      go_roundw
      case rel => exact ⟨_, _, _, k + 1, rfl, rfl, rfl, by go_num, hlt, HS.out.more, HB0.out⟩
      case measure => simp [intOf]; omega
    · have hk2 : k = 200 := by omega
      subst hk2
      have y1 : p.size ≤ 400 := by rw [HS.out.ps]; omega
      have y3 : q.size ≤ 400 := by rw [HS.out.qs]; omega
      have HM1 : Hid (∀ w : World, Calls Tryd.prog 9 #[.string (p ++ ⟨#[98]⟩), .string t, .bool false] w fun e w' => e = .returned (.bool false) ∧ Below w.heap.size w w') := fun w => s_any (p ++ bB) t false false (by rw [app_size, bB_size]; omega) z2 (by rw [app_list, bB_list, HS.out.p, HS.out.tl]; exact slow_1 _ _) w
      have HM2 : Hid (∀ w : World, Calls Tryd.prog 9 #[.string p, .string t, .bool false] w fun e w' => e = .returned (.bool true) ∧ Below w.heap.size w w') := fun w => s_any p t false true z1 z2 (by rw [HS.out.p, HS.out.tl]; exact slow_2 _ _ (by omega) (by omega)) w
      have HM3 : Hid (∀ w : World, Calls Tryd.prog 9 #[.string (⟨#[98]⟩ ++ q), .string t, .bool false] w fun e w' => e = .returned (.bool false) ∧ Below w.heap.size w w') := fun w => s_any (bB ++ q) t false false (by rw [app_size, bB_size]; omega) z2 (by rw [app_list, bB_list, HS.out.tl]; exact slow_3 _ _) w
      have HM4 : Hid (∀ w : World, Calls Tryd.prog 9 #[.string q, .string t, .bool true] w fun e w' => e = .returned (.bool true) ∧ Below w.heap.size w w') := fun w => s_any q t true true z3 z2 (by rw [HS.out.q, HS.out.tl]; exact slow_4 _ _ (by omega) (by omega)) w
      clear y1 y3
      go_wp2_with fail
      refine (show Calls _ _ _ _ _ from works_any _ (HL.out.on HB0.out)).mono ?_
      rintro e w1 ⟨rfl, hb⟩
      have HB1 : Hid (Below w.heap.size w w1) := HB0.out.trans (hb.mono HB0.out.size)
      clear hb
      go_wp2_with fail
      refine (show Calls _ _ _ _ _ from HM1.out _).mono ?_
      rintro e w2 ⟨rfl, hb⟩
      have HB2 : Hid (Below w.heap.size w w2) := HB1.out.trans (hb.mono HB1.out.size)
      clear hb
      go_wp2_with fail
      refine (show Calls _ _ _ _ _ from HM2.out _).mono ?_
      rintro e w3 ⟨rfl, hb⟩
      have HB3 : Hid (Below w.heap.size w w3) := HB2.out.trans (hb.mono HB2.out.size)
      clear hb
      go_wp2_with fail
      refine (show Calls _ _ _ _ _ from HM3.out _).mono ?_
      rintro e w4 ⟨rfl, hb⟩
      have HB4 : Hid (Below w.heap.size w w4) := HB3.out.trans (hb.mono HB3.out.size)
      clear hb
      go_wp2_with fail
      refine (show Calls _ _ _ _ _ from HM4.out _).mono ?_
      rintro e w5 ⟨rfl, hb⟩
      have HB5 : Hid (Below w.heap.size w w5) := HB4.out.trans (hb.mono HB4.out.size)
      clear hb
      go_wp2
      go_ret
      exact ⟨rfl, HB5.out⟩
set_option linter.unusedVariables false
set_option maxRecDepth 100000 in
theorem lifted (os : Os) (started : os.Started) (H : Type) (enc : TypeId × Value → H) :
    ReturnsInHanded {} Tryd.checked os 4 .any (fun w args => (Rows.globSlowSpec.pre enc Tryd.prog Tryd.f4 [] false w args ∧ laidMetH Tryd.prog laidL w) ∧ sizedMet enc Tryd.prog Tryd.f4 (OpenSpec.ofChange Rows.globSlowSpec) false w args)
      (Rows.globSlowSpec.post enc Tryd.prog Tryd.f4 false true false false) := by
  refine returnsInHanded_of_change_and (C := Tryd.checked) (X := fun w _ => laidMetH Tryd.prog laidL w) (fun _ _ _ hh h => h.of_heap hh) own started (by kernel_rfl) Tryd.func4
    (ChangeSpec.witness_shaped (enc := enc) (C := Tryd.checked) (os := os) (X := fun w _ => laidMetH Tryd.prog laidL w) false (World.doorLaid Tryd.prog 400 os) #[] 8 rfl (World.shaped_of_RefB (by kernel_rfl) (by kernel_rfl)) (by kernel_rfl) (by kernel_rfl) (by kernel_rfl) (door_met os _)) ?_
  intro W base args ds gs before hval0 hW hcnd hsz0 hL _
  have hval : ∀ (j : Nat) t v, Tryd.f4.params[j]? = some t → args[j]? = some v → Value.okWide Tryd.prog W .any base t v := hval0
  have hsz : (DataW.weightsEach Tryd.prog (Tryd.f4.params.toList ++ Rows.globSlowSpec.plain.varTypes Tryd.prog) (ds ++ gs)).all (· ≤ reachBytes) = true := hsz0
  have hW' := hW
  obtain ⟨p, q, hA0, hV, rfl, hfz, hnd⟩ := hW
  have hA : DataW.TrodAll enc Tryd.prog W 0 (fun _ => true) true Tryd.f4.params.toList args.toList ds p := hA0
  rw [Tryd.params4] at hA hval hsz
  obtain ⟨hargs, rfl, rfl⟩ := trodAll_nil hA
  obtain rfl : args = #[] := by cases args; simp_all
  obtain ⟨rfl, rfl⟩ := trodVars_none hV
  clear hA0 hval0 hsz0
  refine (GlobSlow_walk   W (of_laid hL)).mono fun e W' ⟨he, bel⟩ => ?_
  subst he
  exact ⟨_, rfl, _, _, _, [], _, [], hW', trodAll_mk1 (shut_bool Tryd.underlying4 _), trodAll_mk0, rfl, bel.frame _, fun h => by cases h⟩

theorem over : Rows.GlobSlowSaid :=
  OpenClaim.holds_of_wide 4 Tryd.f4 rfl rfl rfl rfl rfl rfl rfl ⟨rfl, rfl, rfl, rfl, rfl⟩ rfl rfl rfl rfl rfl (by kernel_rfl) Tryd.func4 (by kernel_rfl)
    (of_decide_eq_true (by kernel_rfl)) (by unfold Func.isWrapper; first | (rw [if_pos (by decide +kernel)]; kernel_rfl) | (rw [if_neg (by decide +kernel)]; exact ⟨rfl, rfl⟩))
    (fun os started H enc _ => lifted os started H enc)
end Go.Proofs.YtghbbapladnafaaDoor.globSlow
namespace Go.Proofs.YtghbbapladnafaaDoor
theorem globSlow_card : Rows.GlobSlowCardSaid :=
  Claim7.holds_tied_plain_at .later [] [.data, .data, .data, .sentinel, .sentinel] true (true, "67cb3ce511a953cfe77f5284fcfbed861388ddf82f555466a2470573183c3bcf") true
    globSlow.over (fun _ h => by cases h) (by kernel_rfl) (fun _ h => by cases h) globSlow_row_tie rfl ⟨rfl, rfl⟩ (by kernel_rfl) rfl
    (fun f fn hf hfn => by
      obtain rfl : f = 4 := Option.some.inj ((show Tryd.prog.funcNamed "cistern/cisternlaw04.GlobSlow" = some 4 by kernel_rfl).symm.trans hf) |>.symm
      obtain rfl : fn = Tryd.f4 := (Option.some.inj (Tryd.func4.symm.trans hfn)).symm
      exact ⟨by kernel_rfl, fun j t ht => by
        rw [Tryd.params4] at ht
        have hm : t ∈ [] := by simpa using Array.mem_of_getElem? ht
        have hall : ([].all fun u => !Tryd.prog.wantsStandIn u) = true := by kernel_rfl
        exact (show Tryd.prog.wantsStandIn t = false by simpa using List.all_eq_true.1 hall t hm)⟩)
    (by kernel_rfl)
#print axioms globSlow_card
end Go.Proofs.YtghbbapladnafaaDoor
