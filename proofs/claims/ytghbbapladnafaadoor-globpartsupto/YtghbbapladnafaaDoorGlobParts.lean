import Derived.Test.YtghbbapladnafaaDoorGWorks
import Derived.Test.YtghbbapladnafaaDoorGQuoted
import Derived.Test.YtghbbapladnafaaDoorDoor
import Derived.Test.YtghbbapladnafaaDoorBulk
import Derived.Deep.RegionWith
import Derived.Deep.CutRange
import Derived.Carry
import Derived.Lib.SmallJoins
import Derived.Deep.DeepHandedRow
import Derived.Deep.DeepWitnessRowRef
namespace Go.Proofs.YtghbbapladnafaaDoor.globParts
open Go.ChangeShapes Go.WideShapes Go.ChangeAt Go.RowKit Gb Vi
open Go.ChangeMaps (open_string shut_string)
set_option linter.unusedVariables false
theorem app_list (a b : ByteArray) : (a ++ b).data.toList = a.data.toList ++ b.data.toList := by simp [ByteArray.data_append]
theorem app_size (a b : ByteArray) : (a ++ b).size = a.size + b.size := ByteArray.size_append
def qB : ByteArray := ⟨#[63]⟩
def s1B : ByteArray := ⟨#[42]⟩
def s2B : ByteArray := ⟨#[42, 42]⟩
theorem part_more (A : List UInt8) (k : Nat) : partL A k ++ [63] = partL A (k + 1) := by
  unfold partL
  rw [List.append_assoc, show ([63] : List UInt8) = List.replicate 1 63 from rfl, List.replicate_append_replicate]
theorem tm4 (n : Int) : -4 < n.tmod 4 ∧ n.tmod 4 < 4 := by
  rcases Int.lt_or_le n 0 with h | h
  · have e : n.tmod 4 = -((-n) % 4) := by
      have h1 := Int.neg_tmod (a := -n) (b := 4)
      rw [Int.neg_neg] at h1
      rw [h1, Int.tmod_eq_emod_of_nonneg (by omega)]
    rw [e]; omega
  · rw [Int.tmod_eq_emod_of_nonneg h]; omega
theorem part_len (A : List UInt8) (k : Nat) : (partL A k).length = 2 * A.length + k := by unfold partL; rw [List.length_append, quote_len, List.length_replicate]
structure Kept (w wx : World) (O : Obj) : Prop where
  row : wx.heap[w.heap.size]? = some O
  bel : Below w.heap.size w wx
theorem Kept.first {w wx : World} {O : Obj} (h : Below (w.alloc O).drew.heap.size (w.alloc O).drew wx) : Kept w wx O :=
  ⟨(h.block w.heap.size (by simp)).trans (one_alloc w O), ((Below.refl _ w).alloc (Nat.le_refl _) O).trans (below_of_drew (h.mono (by simp)))⟩
theorem Kept.on {w wx wy : World} {O : Obj} (h : Kept w wx O) (h' : Below wx.heap.size wx wy) : Kept w wy O :=
  ⟨(h'.block _ (row_lt h.row)).trans h.row, h.bel.trans (h'.mono h.bel.size)⟩
theorem p_any (p t : ByteArray) (r : Bool) (hp : p.size ≤ 6000) (ht : t.size ≤ 300) (hr : match' p.data.toList t.data.toList false = r) (w : World) : Calls Tryd.prog 9 #[.string p, .string t, .bool false] w fun e w' => e = .returned (.bool r) ∧ Below w.heap.size w w' := by
  have h := match_any p t false (by omega) (by omega) w
  rw [hr] at h
  exact h
set_option maxHeartbeats 2000000 in
set_option maxRecDepth 20000 in
theorem GlobParts_walk (A B T : ByteArray) (n : Int) (z0 : A.size ≤ 1048576) (z1 : B.size ≤ 1048576) (z3 : T.size ≤ 1048576) (hn0 : -9223372036854775808 ≤ n) (hn1 : n ≤ 9223372036854775807) (w : World) (hL : Laid w) :
    Calls Tryd.prog 6 #[.agg #[.string A, .string B, .int .i64 n, .string T]] w fun e w' => e = .returned (.bool true) ∧ Below w.heap.size w w' := by
  have HL : Hid (Laid w) := hL
  have HQA : Hid (∀ w : World, Calls Tryd.prog 13 #[.string A] w fun e w' => e = .returned (.string (quoteB A)) ∧ Below w.heap.size w w') := fun w => quoted_any A (by omega) w
  have HQB : Hid (∀ w : World, Calls Tryd.prog 13 #[.string B] w fun e w' => e = .returned (.string (quoteB B)) ∧ Below w.heap.size w w') := fun w => quoted_any B (by omega) w
  clear hL
  go_enter Tryd.func6, Tryd.ntmps6
  go_upto_region 1 with fail
  go_cut [3, 4] from 10 to 91 (fun l r wx => l = .string (quoteB A) ∧ r = .string (quoteB B) ∧ wx.heap[w.heap.size]? = some (.cells #[.string A, .string B, .int .i64 n, .string T] 30) ∧ Below w.heap.size w wx)
  case first =>
    go_region_with ((go_at_call 13; (refine (quoted_any _ (by omega) _).mono ?_); (rintro e wq ⟨rfl, hbq⟩); (first | (have K2 := K1.out.on hbq; have K2h : Hid (Kept w wq (.cells #[.string A, .string B, .int .i64 n, .string T] 30)) := K2; clear K2 hbq) | (have K1 : Hid (Kept w wq (.cells #[.string A, .string B, .int .i64 n, .string T] 30)) := Kept.first hbq; obtain ⟨c0, c1, c2, c3, cf⟩ := row4 K1.out.row; clear hbq))))
    all_goals (go_wp2_with fail; go_meet; exact ⟨rfl, rfl, K2h.out.row, K2h.out.bel⟩)
  case rest =>
    obtain ⟨rfl, rfl, hg, hbc⟩ := hcut
    obtain ⟨c0, c1, c2, c3, cf⟩ := row4 hg
    have HB0 : Hid (Below w.heap.size w wc) := hbc
    have HG : Hid _ := hg
    clear hbc hg
    by_cases h3 : 200 < T.size
    · go_wp2_with fail
      refine (show Calls _ _ _ _ _ from works_any _ (HL.out.on HB0.out)).mono ?_
      rintro e w1 ⟨rfl, hb⟩
      have HB1 : Hid (Below w.heap.size w w1) := HB0.out.trans (hb.mono HB0.out.size)
      clear hb
      go_wp2
      go_ret
      exact ⟨rfl, HB1.out⟩
    by_cases h1 : 1000 < A.size
    · go_wp2_with fail
      refine (show Calls _ _ _ _ _ from works_any _ (HL.out.on HB0.out)).mono ?_
      rintro e w1 ⟨rfl, hb⟩
      have HB1 : Hid (Below w.heap.size w w1) := HB0.out.trans (hb.mono HB0.out.size)
      clear hb
      go_wp2
      go_ret
      exact ⟨rfl, HB1.out⟩
    by_cases h2 : 1000 < B.size
    · go_wp2_with fail
      refine (show Calls _ _ _ _ _ from works_any _ (HL.out.on HB0.out)).mono ?_
      rintro e w1 ⟨rfl, hb⟩
      have HB1 : Hid (Below w.heap.size w w1) := HB0.out.trans (hb.mono HB0.out.size)
      clear hb
      go_wp2
      go_ret
      exact ⟨rfl, HB1.out⟩
    obtain ⟨R, hR⟩ : ∃ R, quoteB B = R := ⟨_, rfl⟩
    have HRl : Hid (R.data.toList = quote B.data.toList) := by show _ = _; rw [← hR, quoteB_list]
    have hRz : R.size ≤ 2000 := by rw [← hR, quoteB_size]; omega
    obtain ⟨X, hX⟩ : ∃ X, quoteB A = X := ⟨_, rfl⟩
    have HXl : Hid (X.data.toList = partL A.data.toList 0) := by show _ = _; rw [← hX, quoteB_list]; unfold partL; simp
    rw [hR, hX]
    clear hR hX
    have e1 : decide ((200 : Int) < (T.size : Int)) = false := by simp; omega
    have e2 : decide ((1000 : Int) < (A.size : Int)) = false := by simp; omega
    have e3 : decide ((1000 : Int) < (B.size : Int)) = false := by simp; omega
    obtain ⟨q, hq⟩ : ∃ q, n.tmod 4 = q := ⟨_, rfl⟩
    have hq1 : -4 < q := by rw [← hq]; exact (tm4 n).1
    have hq2 : q < 4 := by rw [← hq]; exact (tm4 n).2
    have hXz : X.size ≤ 2000 := by rw [← list_len, HXl.out, part_len, list_len]; omega
    go_wp2
    go_loopw [3, 6] (fun v i wr => ∃ (x : ByteArray) (k : Nat), v = .string x ∧ i = .int .i64 (k : Int) ∧ k ≤ 3 ∧ x.data.toList = partL A.data.toList k ∧ wr.heap[w.heap.size]? = some (.cells #[.string A, .string B, .int .i64 n, .string T] 30) ∧ Below w.heap.size w wr) (fun _ i _ => 4 - (intOf i).toNat)
    case atStart => exact ⟨X, 0, rfl, rfl, by omega, HXl.out, HG.out, HB0.out⟩
    case round =>
      obtain ⟨x, k, rfl, rfl, hk3, hx, hgw, hbw⟩ := hrel
      have HX : Hid (x.data.toList = partL A.data.toList k) := hx
      have hxz : x.size ≤ 2003 := by rw [← list_len, hx, part_len, list_len]; omega
      have HGw : Hid _ := hgw
      have HBw : Hid (Below w.heap.size w wr) := hbw
      clear c0 c1 c2 c3 cf
      obtain ⟨c0, c1, c2, c3, cf⟩ := row4 hgw
      clear hx hgw hbw
      by_cases hkq : (k : Int) < q
      · have HY : Hid ((x ++ ⟨#[63]⟩).data.toList = partL A.data.toList (k + 1)) := by
          show _ = _
          rw [app_list, HX.out, ← part_more]
        go_wp2
        go_roundw
        case rel => exact ⟨_, k + 1, rfl, by go_num, by omega, HY.out, HGw.out, HBw.out⟩
        case measure => simp [intOf]; omega
      · obtain ⟨W, hW⟩ : ∃ W, cutW A.data.toList B.data.toList T.data.toList k = W := ⟨_, rfl⟩
        have HML : Hid (∀ i : Nat, i ≤ T.size → ∀ w : World, Calls Tryd.prog 9 #[.string x, .string (T.extract 0 i), .bool false] w fun e w' => e = .returned (.bool (match' (partL A.data.toList k) (T.data.toList.take i) false)) ∧ Below w.heap.size w w') := fun i hi w => p_any x (T.extract 0 i) _ (by omega) (by rw [ext_size _ _ _ hi]; omega) (by rw [HX.out, ext_any]; simp) w
        have HMR : Hid (∀ j : Nat, ∀ w : World, Calls Tryd.prog 9 #[.string R, .string (T.extract j T.size), .bool false] w fun e w' => e = .returned (.bool (match' (quote B.data.toList) (T.data.toList.drop j) false)) ∧ Below w.heap.size w w') := fun j w => p_any R (T.extract j T.size) _ (by omega) (by rw [ext_size _ _ _ (Nat.le_refl _)]; omega) (by rw [HRl.out, ext_drop]) w
        have HWd : Hid (∀ i j : Nat, W i j = (match' (partL A.data.toList k) (T.data.toList.take i) false && match' (quote B.data.toList) (T.data.toList.drop j) false)) := fun i j => by rw [← hW]; rfl
        have HF1 : Hid (∀ w : World, Calls Tryd.prog 9 #[.string (x ++ ⟨#[42]⟩ ++ R), .string T, .bool false] w fun e w' => e = .returned (.bool (outW W T.size (T.size + 1))) ∧ Below w.heap.size w w') := fun w => p_any (x ++ s1B ++ R) T _ (by rw [app_size, app_size]; show x.size + 1 + R.size ≤ _; omega) (by omega) (by
          rw [app_list, app_list, HX.out, HRl.out, show s1B.data.toList = [42] from rfl, parts_want, hW, list_len]) w
        have HF2 : Hid (∀ w : World, Calls Tryd.prog 9 #[.string (x ++ ⟨#[42, 42]⟩ ++ R), .string T, .bool false] w fun e w' => e = .returned (.bool (outW W T.size (T.size + 1))) ∧ Below w.heap.size w w') := fun w => p_any (x ++ s2B ++ R) T _ (by rw [app_size, app_size]; show x.size + 2 + R.size ≤ _; omega) (by omega) (by
          rw [app_list, app_list, HX.out, HRl.out, show s2B.data.toList = [42, 42] from rfl, m_parts2, parts_want, hW, list_len]) w
        have z4 : (x ++ ⟨#[42]⟩).size ≤ 2010 := by show (x ++ s1B).size ≤ _; rw [app_size]; show x.size + 1 ≤ _; omega
        have z5 : (x ++ ⟨#[42, 42]⟩).size ≤ 2010 := by show (x ++ s2B).size ≤ _; rw [app_size]; show x.size + 2 ≤ _; omega
        clear hW
        go_wp2
        clear c0 c1 c2 c3 cf HXl HQA HQB
        go_loopw [7, 8, 9] (fun v a _ wi => ∃ i : Nat, a = .int .i64 (i : Int) ∧ i ≤ T.size + 1 ∧ v = .bool (outW W T.size i) ∧ Below w.heap.size w wi) (fun _ a _ _ => T.size + 1 - (intOf a).toNat)
        case atStart => exact ⟨0, rfl, Nat.zero_le _, rfl, HBw.out⟩
        case round =>
          obtain ⟨i, rfl, hi1, rfl, hbi⟩ := hrel
          have HBi : Hid (Below w.heap.size w wr) := hbi
          clear hbi
          by_cases hit : i ≤ T.size
          · have HS0 : Hid ((outW W T.size i || inn W i i) = outW W T.size i) := by show _ = _; rw [inn_self, Bool.or_false]
            go_wp2
            go_loopw [7, 9] (fun v b wj => ∃ j : Nat, b = .int .i64 (j : Int) ∧ i ≤ j ∧ j ≤ T.size + 1 ∧ v = .bool (outW W T.size i || inn W i j) ∧ Below w.heap.size w wj) (fun _ b _ => T.size + 1 - (intOf b).toNat)
            case atStart => exact ⟨i, rfl, Nat.le_refl _, by omega, by rw [HS0.out], HBi.out⟩
            case round =>
              obtain ⟨j, rfl, hji, hj1, rfl, hbj⟩ := hrel
              have HBj : Hid (Below w.heap.size w wr) := hbj
              clear hbj
              by_cases hjt : j ≤ T.size
              · have hij : decide (i ≤ j) = true := by simpa using hji
                have HIN : Hid (inn W i (j + 1) = (inn W i j || W i j)) := by
                  show _ = _
                  simp only [inn]
                  rw [hij, Bool.true_and]
                clear hij
                cases hv : (outW W T.size i || inn W i j) with
                | true =>
                  have HV : Hid ((outW W T.size i || inn W i (j + 1)) = true) := by show _ = _; rw [HIN.out, ← Bool.or_assoc, hv]; rfl
                  clear hv
                  go_wp2
                  go_roundw
                  case rel => exact ⟨j + 1, by go_num, by omega, by omega, by rw [HV.out], HBj.out⟩
                  case measure => simp [intOf]; omega
                | false =>
                  have HV : Hid ((outW W T.size i || inn W i (j + 1)) = W i j) := by show _ = _; rw [HIN.out, ← Bool.or_assoc, hv, Bool.false_or]
                  have HMLi : Hid _ := HML.out i hit
                  have HMRj : Hid _ := HMR.out j
                  clear hv
                  cases hm1 : match' (partL A.data.toList k) (T.data.toList.take i) false with
                  | false =>
                    have HVV : Hid (W i j = false) := by show _ = _; rw [HWd.out, hm1]; rfl
                    rw [hm1] at HMLi
                    clear hm1
                    go_wp2_with fail
                    refine (show Calls _ _ _ _ _ from HMLi.out _).mono ?_
                    rintro e wm ⟨rfl, hbm⟩
                    have HBm : Hid (Below w.heap.size w wm) := HBj.out.trans (hbm.mono HBj.out.size)
                    clear hbm
                    go_wp2
                    go_roundw
                    case rel => exact ⟨j + 1, by go_num, by omega, by omega, by rw [HV.out, HVV.out], HBm.out⟩
                    case measure => simp [intOf]; omega
                  | true =>
                    obtain ⟨m2, hm2⟩ : ∃ m2, match' (quote B.data.toList) (T.data.toList.drop j) false = m2 := ⟨_, rfl⟩
                    have HVV : Hid (W i j = m2) := by show _ = _; rw [HWd.out, hm1, hm2]; rfl
                    rw [hm1] at HMLi
                    rw [hm2] at HMRj
                    clear hm1 hm2
                    go_wp2_with fail
                    refine (show Calls _ _ _ _ _ from HMLi.out _).mono ?_
                    rintro e wm ⟨rfl, hbm⟩
                    have HBm : Hid (Below w.heap.size w wm) := HBj.out.trans (hbm.mono HBj.out.size)
                    clear hbm
                    go_wp2_with fail
                    refine (show Calls _ _ _ _ _ from HMRj.out _).mono ?_
                    rintro e wn ⟨rfl, hbn⟩
                    have HBn : Hid (Below w.heap.size w wn) := HBm.out.trans (hbn.mono HBm.out.size)
                    clear hbn
                    go_wp2
                    go_roundw
                    case rel => exact ⟨j + 1, by go_num, by omega, by omega, by rw [HV.out, HVV.out], HBn.out⟩
                    case measure => simp [intOf]; omega
              · have hje : j = T.size + 1 := by omega
                have HV : Hid ((outW W T.size i || inn W i j) = outW W T.size (i + 1)) := by show _ = _; rw [hje]; rfl
                clear hje
                go_wp2
                go_roundw
                case rel => exact ⟨i + 1, by go_num, by omega, by rw [HV.out], HBj.out⟩
                case measure => simp [intOf]; omega
          · have hie : i = T.size + 1 := by omega
            have HV : Hid (outW W T.size i = outW W T.size (T.size + 1)) := by show _ = _; rw [hie]
            rw [← HV.out] at HF1 HF2
            obtain ⟨v, hv⟩ : ∃ v, outW W T.size i = v := ⟨_, rfl⟩
            rw [hv] at HF1 HF2
            have HB0 : Hid (Below w.heap.size w wr) := HBi.out
            rw [hv]
            clear hv hie
            go_wp2_with fail
            refine (show Calls _ _ _ _ _ from works_any _ (HL.out.on HB0.out)).mono ?_
            rintro e w1 ⟨rfl, hb⟩
            have HB1 : Hid (Below w.heap.size w w1) := HB0.out.trans (hb.mono HB0.out.size)
            clear hb
            go_wp2_with fail
            refine (show Calls _ _ _ _ _ from HF1.out _).mono ?_
            rintro e w2 ⟨rfl, hb⟩
            have HB2 : Hid (Below w.heap.size w w2) := HB1.out.trans (hb.mono HB1.out.size)
            clear hb
            go_wp2_with fail
            refine (show Calls _ _ _ _ _ from HF2.out _).mono ?_
            rintro e w3 ⟨rfl, hb⟩
            have HB3 : Hid (Below w.heap.size w w3) := HB2.out.trans (hb.mono HB2.out.size)
            clear hb
            go_wp2
            go_ret
            exact ⟨by simp, HB3.out⟩
set_option linter.unusedVariables false
theorem laidOut : laidOutB Tryd.prog = true := by kernel_rfl
set_option maxRecDepth 100000 in
theorem contract (H : Type) (enc : TypeId × Value → H) (W : World) (base : Nat) (args : Array Value) (ds gs : List (DataW H)) (before : List MemPlace)
    (hval0 : ∀ (j : Nat) t v, Tryd.f6.params[j]? = some t → args[j]? = some v → Value.okWide Tryd.prog W .any base t v)
    (hW : DataW.Whole enc Tryd.prog Tryd.f6.params.toList Rows.globPartsSpec.vars false W args.toList ds gs before) (hk : Rows.uptoSmall H (ds ++ gs) = true) (hL : laidMetH Tryd.prog laidL W) :
    Calls Tryd.prog 6 args W fun e W' => ∃ v, e = .returned v ∧ Rows.globPartsSpec.post enc Tryd.prog Tryd.f6 false true false false W args v W' := by
  have hval : ∀ (j : Nat) t v, Tryd.f6.params[j]? = some t → args[j]? = some v → Value.okWide Tryd.prog W .any base t v := hval0
  have hW' := hW
  obtain ⟨p, q, hA0, hV, rfl, hfz, hnd⟩ := hW
  have hA : DataW.TrodAll enc Tryd.prog W 0 (fun _ => true) true Tryd.f6.params.toList args.toList ds p := hA0
  rw [Tryd.params6] at hA hval
  obtain ⟨v0, vs0, d0, ds0, p0, q0, hargs, rfl, rfl, h0, r0⟩ := trodAll_cons hA
  obtain ⟨rfl, rfl, rfl⟩ := trodAll_nil r0
  obtain rfl : args = #[v0] := by cases args; simp_all
  obtain ⟨rfl, rfl⟩ := trodVars_none hV
  have hlt : ∀ x ∈ p0, x.block < W.heap.size := fun x hx => by simpa using hW'.lt x (by simp [hx])
  have h0k := h0
  obtain ⟨x0, x1, x2, x3, y0, y1, y2, y3, m, rfl, hd, hpp, g0, g1, g2, g3⟩ := Go.Joins.open_agg4 Tryd.underlying30 (by kernel_rfl) (by kernel_rfl) (hval 0 30 v0 rfl rfl) h0
  obtain ⟨A, e0, f0, _⟩ := DataW.trod_string Tryd.underlying9 g0
  obtain ⟨B, e1, f1, _⟩ := DataW.trod_string Tryd.underlying9 g1
  obtain ⟨n, e2, f2, hw2⟩ := DataW.trod_int Tryd.underlying3 g2
  obtain ⟨T, e3, f3, _⟩ := DataW.trod_string Tryd.underlying9 g3
  obtain rfl : x0 = .string A := by simpa using e0
  obtain rfl : x1 = .string B := by simpa using e1
  obtain rfl : x2 = .int .i64 n := by simpa using e2
  obtain rfl : x3 = .string T := by simpa using e3
  subst f0 f1 f2 f3 hd
  have hb := bulk_small hk
  simp only [List.append_nil, Rows.uptoBulkAll, Rows.uptoBulk, list_len] at hb
  simp [Lit.wf, IntKind.min, IntKind.max, IntKind.signed, IntKind.bits] at hw2
  refine (GlobParts_walk A B T n (by omega) (by omega) (by omega) (by omega) (by omega) W (of_laid hL)).mono fun e W' ⟨he, bel⟩ => ?_
  subst he
  exact ⟨_, rfl, _, _, _, [], _, [], hW', trodAll_mk1 (shut_bool Tryd.underlying4 _), (trodAll_cons_mk (Below.trod laidOut (by kernel_rfl) (of_decide_eq_true (by kernel_rfl)) h0k bel hlt) trodAll_mk0), rfl, bel.frame _, fun h => by cases h⟩
theorem laid_met (os : Os) (args : Array Value) : laidMet Tryd.prog laidL ((World.doorLaid Tryd.prog 400 os).forCall (fun _ _ => 0) ⟨#[], args, []⟩).memory :=
  laidMet_of_run' 8 (by kernel_rfl) (by kernel_rfl)
theorem reads (os : Os) {H : Type} (enc : TypeId × Value → H) : ∃ places, DataW.whole enc Tryd.prog ((World.doorLaid Tryd.prog 400 os).forCall (fun _ _ => 0) ⟨#[], #[.agg #[.string ByteArray.empty, .string ByteArray.empty, .int .i64 0, .string ByteArray.empty]], []⟩).memory Tryd.f6.params.toList Rows.globPartsSpec.vars false #[.agg #[.string ByteArray.empty, .string ByteArray.empty, .int .i64 0, .string ByteArray.empty]].toList 8 = some ([.agg [.lit (.string []), .lit (.string []), .lit (.int .i64 0), .lit (.string [])]], [], places) :=
  ⟨[], by kernel_rfl⟩
set_option maxRecDepth 100000 in
theorem liftedUpto (os : Os) (started : os.Started) (H : Type) (enc : TypeId × Value → H) (F : Stop.Interp) :
    ReturnsInHanded {} Tryd.checked os 6 .any ((Rows.OpenSpec.upto Rows.globPartsSpec).preRow enc Tryd.prog Tryd.f6 Rows.globPartsUptoRow.domain false Rows.globPartsUptoRow.laid) (((Rows.OpenSpec.upto Rows.globPartsSpec).at F).post enc Tryd.prog Tryd.f6 false true false false) := by
  obtain ⟨places, hx⟩ := reads os enc
  refine returnsInHanded_of_row (C := Tryd.checked) (s := Rows.OpenSpec.upto Rows.globPartsSpec) own started (by kernel_rfl) Tryd.func6
    (witness_row_atRef (enc := enc) (C := Tryd.checked) false (World.doorLaid Tryd.prog 400 os) #[.agg #[.string ByteArray.empty, .string ByteArray.empty, .int .i64 0, .string ByteArray.empty]] rfl (by kernel_rfl) (by kernel_rfl) (by kernel_rfl)
      (OpenSpec.preRow_of_cond 8 hx (by kernel_rfl) (fun k hk => by cases hk; kernel_rfl) (by kernel_rfl) (laid_met os _))) ?_
  intro W base args ds gs before hval hW _ hc _ hL _ _
  exact contract H enc W base args ds gs before hval hW (hc _ rfl) hL
theorem over : Rows.GlobPartsUptoSaid :=
  OpenClaim.holds_of_cond 6 Tryd.f6 rfl rfl rfl rfl rfl rfl rfl ⟨rfl, rfl, rfl, rfl, rfl⟩ rfl rfl rfl rfl rfl (by kernel_rfl) Tryd.func6 (by kernel_rfl)
    (of_decide_eq_true (by kernel_rfl)) (by unfold Func.isWrapper; first | (rw [if_pos (by decide +kernel)]; kernel_rfl) | (rw [if_neg (by decide +kernel)]; exact ⟨rfl, rfl⟩))
    (fun os started H enc _ F => by rw [OpenClaim.pre_eq_preRow]; exact liftedUpto os started H enc F)
end Go.Proofs.YtghbbapladnafaaDoor.globParts
namespace Go.Proofs.YtghbbapladnafaaDoor
theorem globPartsUpto_card : Rows.GlobPartsUptoCardSaid :=
  Claim7.holds_tied_plain_at .later [] [.data, .data, .data, .sentinel, .sentinel] true (true, "67cb3ce511a953cfe77f5284fcfbed861388ddf82f555466a2470573183c3bcf") true
    globParts.over (fun _ h => by cases h) (by kernel_rfl) (fun _ h => by cases h) globPartsUpto_row_tie rfl ⟨rfl, rfl⟩ (by kernel_rfl) rfl
    (fun f fn hf hfn => by
      obtain rfl : f = 6 := Option.some.inj ((show Tryd.prog.funcNamed "cistern/cisternlaw04.GlobParts" = some 6 by kernel_rfl).symm.trans hf) |>.symm
      obtain rfl : fn = Tryd.f6 := (Option.some.inj (Tryd.func6.symm.trans hfn)).symm
      exact ⟨by kernel_rfl, fun j t ht => by
        rw [Tryd.params6] at ht
        have hm : t ∈ [30] := by simpa using Array.mem_of_getElem? ht
        have hall : ([30].all fun u => !Tryd.prog.wantsStandIn u) = true := by kernel_rfl
        exact (show Tryd.prog.wantsStandIn t = false by simpa using List.all_eq_true.1 hall t hm)⟩)
    (by kernel_rfl)
#print axioms globPartsUpto_card
end Go.Proofs.YtghbbapladnafaaDoor
