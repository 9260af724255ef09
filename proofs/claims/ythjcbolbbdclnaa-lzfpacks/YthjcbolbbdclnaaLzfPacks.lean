import Derived.Test.YthjcbolbbdclnaaPack
import Derived.Test.YthjcbolbbdclnaaRUnp
import Derived.ProofKit
import Derived.OpenShut
import Derived.ShutString
import Derived.SizedLaws
namespace Go.Proofs.Ythjcbolbbdclnaa.lzfPacks
open Go.ChangeShapes Go.WideShapes Go.ChangeAt Go.RowKit Lz
open Go.ChangeMaps (open_string shut_string)
set_option linter.unusedVariables false
set_option maxHeartbeats 2000000 in
set_option maxRecDepth 20000 in
theorem LzfPacks_walk (a0 : ByteArray) (z0 : a0.size ≤ 140737488351232) (w : World) :
    Calls Try.prog 7 #[.string a0] w fun e w' => e = .returned (.bool true) ∧ Below w.heap.size w w' := by
  have hm : a0.size ≤ 140737488355328 := by omega
  have HP : Hid (∀ w : World, _) := fun w => pack_any a0 hm w
  rcases hp : packF a0.data.toList with _ | q
  · have HE : Hid (packT (packF a0.data.toList) = .tuple #[.string ⟨#[]⟩, .bool false]) := by show _ = _; rw [hp]; rfl
    clear hp
    go_enter Try.func7, Try.ntmps7
    go_wp2_with fail
    refine (HP.out w).mono ?_
    rintro e v1 ⟨rfl, hb⟩
    have HB1 : Hid (Below w.heap.size w v1) := hb
    clear hb
    rw [HE.out]
    go_wp2_with fail
    refine (HP.out v1).mono ?_
    rintro e v2 ⟨rfl, hb⟩
    have HB2 : Hid (Below w.heap.size w v2) := (HB1.out.trans (hb.mono HB1.out.size))
    clear hb
    rw [HE.out]
    go_wp2_with fail
    refine (sure_any v2).mono ?_
    rintro e v3 ⟨rfl, hb⟩
    have HB3 : Hid (Below w.heap.size w v3) := (HB2.out.trans (hb.mono HB2.out.size))
    clear hb
    go_wp2
    go_ret
    exact ⟨rfl, HB3.out⟩
  · have hbk := packF_back hp
    have HE : Hid (packT (packF a0.data.toList) = .tuple #[.string (strB q), .bool true]) := by show _ = _; rw [hp]; rfl
    obtain ⟨hb1, hb2, hb3⟩ := hbk
    rw [list_len] at hb1 hb2 hb3
    have hql : (strB q).size + 4 ≤ a0.size := by rw [strB_size]; exact hb2
    have HF : Hid (unpT q (a0.size : Int) = .tuple #[.string a0, .int .i64 0]) := pair_eq hb1
    have HR : Hid (∀ w : World, Calls Try.prog 11 #[.string (strB q), .int .i64 (a0.size : Int)] w fun e w' => e = .returned (.tuple #[.string a0, .int .i64 0]) ∧ Below w.heap.size w w') := fun w => by
      have := refUnpack_any (strB q) (a0.size : Int) (by omega) w
      rw [strB_list, HF.out] at this
      exact this
    generalize strB q = t at *
    clear hp hb1 hb2 hb3
    go_enter Try.func7, Try.ntmps7
    go_wp2_with fail
    refine (HP.out w).mono ?_
    rintro e v1 ⟨rfl, hb⟩
    have HB1 : Hid (Below w.heap.size w v1) := hb
    clear hb
    rw [HE.out]
    go_wp2_with fail
    refine (HP.out v1).mono ?_
    rintro e v2 ⟨rfl, hb⟩
    have HB2 : Hid (Below w.heap.size w v2) := (HB1.out.trans (hb.mono HB1.out.size))
    clear hb
    rw [HE.out]
    go_wp2_with fail
    refine (HR.out v2).mono ?_
    rintro e v3 ⟨rfl, hb⟩
    have HB3 : Hid (Below w.heap.size w v3) := (HB2.out.trans (hb.mono HB2.out.size))
    clear hb
    go_wp2_with fail
    refine (sure_any v3).mono ?_
    rintro e v4 ⟨rfl, hb⟩
    have HB4 : Hid (Below w.heap.size w v4) := (HB3.out.trans (hb.mono HB3.out.size))
    clear hb
    go_wp2
    go_ret
    exact ⟨rfl, HB4.out⟩
set_option linter.unusedVariables false
theorem own : ownKnob Try.prog.godebug = none := by kernel_rfl
set_option maxRecDepth 100000 in
theorem lifted (os : Os) (started : os.Started) (H : Type) (enc : TypeId × Value → H) :
    ReturnsInHanded {} Try.checked os 7 .any (Rows.lzfPacksSpec.pre6 enc Try.prog Try.f7 Rows.lzfPacksRow.domain false) (Rows.lzfPacksSpec.post enc Try.prog Try.f7 false true false false) := by
  refine returnsInHanded_of_change_sized (C := Try.checked) own started (by kernel_rfl) Try.func7
    (ChangeSpec.witness6 (enc := enc) (C := Try.checked) false ⟨#[], #[.string ByteArray.empty], []⟩ 8 (by kernel_rfl) (by kernel_rfl) (by kernel_rfl) (by kernel_rfl)) ?_
  intro W base args ds gs before hval0 hW hcnd hsz0 _
  have hval : ∀ (j : Nat) t v, Try.f7.params[j]? = some t → args[j]? = some v → Value.okWide Try.prog W .any base t v := hval0
  have hsz : (DataW.weightsEach Try.prog (Try.f7.params.toList ++ Rows.lzfPacksSpec.plain.varTypes Try.prog) (ds ++ gs)).all (· ≤ reachBytes) = true := hsz0
  have hW' := hW
  obtain ⟨p, q, hA0, hV, rfl, hfz, hnd⟩ := hW
  have hA : DataW.TrodAll enc Try.prog W 0 (fun _ => true) true Try.f7.params.toList args.toList ds p := hA0
  rw [Try.params7] at hA hval hsz
  obtain ⟨v0, vs0, d0, ds0, p0, q0, hargs, rfl, rfl, h0, r0⟩ := trodAll_cons hA
  obtain ⟨rfl, rfl, rfl⟩ := trodAll_nil r0
  obtain rfl : args = #[v0] := by cases args; simp_all
  obtain ⟨rfl, rfl⟩ := trodVars_none hV
  obtain ⟨a0, rfl, rfl, rfl, w0⟩ := open_string Try.underlying9 (hval 0 9 v0 rfl rfl) h0
  have z0 : a0.size ≤ 140737488351232 := by
    have := sized_string hsz (j := 0) (t := 9) rfl rfl
    simpa [reachBytes] using this
  clear hA0 hval0 hsz0
  refine (LzfPacks_walk a0 z0 W).mono fun e W' ⟨he, bel⟩ => ?_
  subst he
  exact ⟨_, rfl, _, _, _, [], _, [], hW', trodAll_mk1 (shut_bool Try.underlying4 _), (trodAll_cons_mk (shut_string Try.underlying9 w0) trodAll_mk0), rfl, bel.frame _, fun h => by cases h⟩

theorem over : Rows.lzfPacksRow.holds Try.pinned (OpenSpec.ofChange Rows.lzfPacksSpec) :=
  OpenClaim.holds_of_wide 7 Try.f7 rfl rfl rfl rfl rfl rfl rfl ⟨rfl, rfl, rfl, rfl, rfl⟩ rfl rfl rfl rfl rfl (by kernel_rfl) Try.func7 (by kernel_rfl)
    (of_decide_eq_true (by kernel_rfl)) (by unfold Func.isWrapper; first | (rw [if_pos (by decide +kernel)]; kernel_rfl) | (rw [if_neg (by decide +kernel)]; exact ⟨rfl, rfl⟩))
    (fun os started H enc _ => lifted os started H enc)
end Go.Proofs.Ythjcbolbbdclnaa.lzfPacks
namespace Go.Proofs.Ythjcbolbbdclnaa
theorem lzfPacks_holds : Rows.LzfPacksSaid := lzfPacks.over
#print axioms lzfPacks_holds
end Go.Proofs.Ythjcbolbbdclnaa
