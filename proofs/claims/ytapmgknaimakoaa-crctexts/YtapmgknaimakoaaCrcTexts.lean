import Derived.Test.YtapmgknaimakoaaRtxt
import Derived.ProofKit
import Derived.OpenShut
import Derived.ShutString
import Derived.SizedLaws
namespace Go.Proofs.Ytapmgknaimakoaa.crcTexts
open Go.ChangeShapes Go.WideShapes Go.ChangeAt Go.RowKit CrcM
open Go.ChangeMaps (open_string shut_string)
theorem uv_of_wf {n : Int} (h : (Lit.int .u64 n).wf = true) : ∃ v, n = uv v := by
  simp [Lit.wf, IntKind.min, IntKind.max, IntKind.signed, IntKind.bits] at h
  exact uv_of n (by omega) (by omega)
theorem read_text (c : BitVec 64) (w : World) : Calls Try.prog 16 #[.string (textB c)] w fun e w' => e = .returned (.tuple #[.int .u64 (uv c), .bool true]) ∧ w' = w := by
  have h := read_eight (textB c) (textB_size c) w
  rw [textB_list, num_bytes, Nat.mod_eq_of_lt (by have := c.isLt; exact this)] at h
  exact h

set_option maxHeartbeats 400000 in
theorem texts_eight (c : BitVec 64) (s : ByteArray) (h8 : s.size = 8) (w : World) :
    Calls Try.prog 7 #[.int .u64 (uv c), .string s] w fun e w' => e = .returned (.bool true) ∧ Below w.heap.size w w' := by
  have HR : Hid (∀ w, Calls Try.prog 16 #[.string (textB c)] w fun e w' => e = .returned (.tuple #[.int .u64 (uv c), .bool true]) ∧ w' = w) := read_text c
  have H8 : Hid (s.size = 8) := h8
  clear h8
  go_enter Try.func7, Try.ntmps7
  go_wp2_with fail
  refine (read_eight _ H8.out _).mono ?_
  rintro e w1 ⟨rfl, rfl⟩
  go_wp2_with fail
  refine (refRead_eight _ H8.out _).mono ?_
  rintro e w2 ⟨rfl, rfl⟩
  go_wp2_with fail
  refine (text_any _ _).mono ?_
  rintro e w3 ⟨rfl, hb3⟩
  go_wp2_with fail
  refine (HR.out _).mono ?_
  rintro e w4 ⟨rfl, rfl⟩
  go_wp2_with fail
  refine (text_any _ _).mono ?_
  rintro e w5 ⟨rfl, hb5⟩
  go_wp2_with fail
  refine (refText_any _ _).mono ?_
  rintro e w6 ⟨rfl, hb6⟩
  go_wp2_with fail
  refine (sure_any _).mono ?_
  rintro e w7 ⟨rfl, hb7⟩
  go_wp2
  go_ret
  have s3 := hb3.size
  have s5 := hb5.size
  have s6 := hb6.size
  exact ⟨rfl, ((hb3.trans (hb5.mono (by omega))).trans (hb6.mono (by omega))).trans (hb7.mono (by omega))⟩

set_option maxHeartbeats 400000 in
theorem texts_other (c : BitVec 64) (s : ByteArray) (h8 : ((s.size : Int) != 8) = true) (w : World) :
    Calls Try.prog 7 #[.int .u64 (uv c), .string s] w fun e w' => e = .returned (.bool true) ∧ Below w.heap.size w w' := by
  have HR : Hid (∀ w, Calls Try.prog 16 #[.string (textB c)] w fun e w' => e = .returned (.tuple #[.int .u64 (uv c), .bool true]) ∧ w' = w) := read_text c
  go_enter Try.func7, Try.ntmps7
  go_wp2_with fail
  refine (read_other _ h8 _).mono ?_
  rintro e w1 ⟨rfl, rfl⟩
  go_wp2_with fail
  refine (refRead_other _ h8 _).mono ?_
  rintro e w2 ⟨rfl, rfl⟩
  go_wp2_with fail
  refine (text_any _ _).mono ?_
  rintro e w3 ⟨rfl, hb3⟩
  go_wp2_with fail
  refine (HR.out _).mono ?_
  rintro e w4 ⟨rfl, rfl⟩
  go_wp2_with fail
  refine (text_any _ _).mono ?_
  rintro e w5 ⟨rfl, hb5⟩
  go_wp2_with fail
  refine (refText_any _ _).mono ?_
  rintro e w6 ⟨rfl, hb6⟩
  go_wp2_with fail
  refine (sure_any _).mono ?_
  rintro e w7 ⟨rfl, hb7⟩
  go_wp2
  go_ret
  have s3 := hb3.size
  have s5 := hb5.size
  have s6 := hb6.size
  exact ⟨rfl, ((hb3.trans (hb5.mono (by omega))).trans (hb6.mono (by omega))).trans (hb7.mono (by omega))⟩

theorem CrcTexts_walk (a0 : Int) (a1 : ByteArray) (w0 : (Lit.int .u64 a0).wf = true) (_w1 : a1.size ≤ 140737488351232) (w : World) :
    Calls Try.prog 7 #[.int .u64 a0, .string a1] w fun e w' => e = .returned (.bool true) ∧ Below w.heap.size w w' := by
  obtain ⟨c, rfl⟩ := uv_of_wf w0
  by_cases h8 : a1.size = 8
  · exact texts_eight c a1 h8 w
  · exact texts_other c a1 (by rw [bne_iff_ne]; omega) w
set_option linter.unusedVariables false
theorem own : ownKnob Try.prog.godebug = none := by kernel_rfl
set_option maxRecDepth 100000 in
theorem lifted (os : Os) (started : os.Started) (H : Type) (enc : TypeId × Value → H) :
    ReturnsInHanded {} Try.checked os 7 .any (Rows.crcTextsSpec.pre6 enc Try.prog Try.f7 Rows.crcTextsRow.domain false) (Rows.crcTextsSpec.post enc Try.prog Try.f7 false true false false) := by
  refine returnsInHanded_of_change_sized (C := Try.checked) own started (by kernel_rfl) Try.func7
    (ChangeSpec.witness6 (enc := enc) (C := Try.checked) false ⟨#[], #[.int .u64 0, .string ByteArray.empty], []⟩ 8 (by kernel_rfl) (by kernel_rfl) (by kernel_rfl) (by kernel_rfl)) ?_
  intro W base args ds gs before hval0 hW hcnd hsz0 _
  have hval : ∀ (j : Nat) t v, Try.f7.params[j]? = some t → args[j]? = some v → Value.okWide Try.prog W .any base t v := hval0
  have hsz : (DataW.weightsEach Try.prog (Try.f7.params.toList ++ Rows.crcTextsSpec.plain.varTypes Try.prog) (ds ++ gs)).all (· ≤ reachBytes) = true := hsz0
  have hW' := hW
  obtain ⟨p, q, hA0, hV, rfl, hfz, hnd⟩ := hW
  have hA : DataW.TrodAll enc Try.prog W 0 (fun _ => true) true Try.f7.params.toList args.toList ds p := hA0
  rw [Try.params7] at hA hval hsz
  obtain ⟨v0, vs0, d0, ds0, p0, q0, hargs, rfl, rfl, h0, r0⟩ := trodAll_cons hA
  obtain ⟨v1, vs1, d1, ds1, p1, q1, rfl, rfl, rfl, h1, r1⟩ := trodAll_cons r0
  obtain ⟨rfl, rfl, rfl⟩ := trodAll_nil r1
  obtain rfl : args = #[v0, v1] := by cases args; simp_all
  obtain ⟨rfl, rfl⟩ := trodVars_none hV
  obtain ⟨a0, rfl, rfl, rfl, w0⟩ := open_int Try.underlying22 (hval 0 22 v0 rfl rfl) h0
  obtain ⟨a1, rfl, rfl, rfl, w1⟩ := open_string Try.underlying9 (hval 1 9 v1 rfl rfl) h1
  have z1 : a1.size ≤ 140737488351232 := by
    have := sized_string hsz (j := 1) (t := 9) rfl rfl
    simpa [reachBytes] using this
  clear hA0 hval0 hsz0
  refine (CrcTexts_walk a0 a1 w0 z1 W).mono fun e W' ⟨he, bel⟩ => ?_
  subst he
  exact ⟨_, rfl, _, _, _, [], _, [], hW', trodAll_mk1 (shut_bool Try.underlying4 _), (trodAll_cons_mk (shut_int Try.underlying22 w0) (trodAll_cons_mk (shut_string Try.underlying9 w1) trodAll_mk0)), rfl, bel.frame _, fun h => by cases h⟩

theorem over : Rows.crcTextsRow.holds Try.pinned (OpenSpec.ofChange Rows.crcTextsSpec) :=
  OpenClaim.holds_of_wide 7 Try.f7 rfl rfl rfl rfl rfl rfl rfl ⟨rfl, rfl, rfl, rfl, rfl⟩ rfl rfl rfl rfl rfl (by kernel_rfl) Try.func7 (by kernel_rfl)
    (of_decide_eq_true (by kernel_rfl)) (by unfold Func.isWrapper; first | (rw [if_pos (by decide +kernel)]; kernel_rfl) | (rw [if_neg (by decide +kernel)]; exact ⟨rfl, rfl⟩))
    (fun os started H enc _ => lifted os started H enc)
end Go.Proofs.Ytapmgknaimakoaa.crcTexts
namespace Go.Proofs.Ytapmgknaimakoaa
theorem crcTexts_holds : Rows.CrcTextsSaid := crcTexts.over
#print axioms crcTexts_holds
end Go.Proofs.Ytapmgknaimakoaa
