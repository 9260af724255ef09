import Derived.Test.YtghbbapladnafaaDoorGWorks
import Derived.Test.YtghbbapladnafaaDoorGLaw
import Derived.Test.YtghbbapladnafaaDoorGLit
import Derived.Test.YtghbbapladnafaaDoorDoor
import Derived.Test.YtghbbapladnafaaDoorBulk
import Derived.Carry
import Derived.Deep.DeepHandedRow
import Derived.Deep.DeepWitnessRowRef
namespace Go.Proofs.YtghbbapladnafaaDoor.globFolds
open Go.ChangeShapes Go.WideShapes Go.ChangeAt Go.RowKit Gb Vi
open Go.ChangeMaps (open_string shut_string)
set_option linter.unusedVariables false
theorem up_of {c : UInt8} (h1 : 97 ≤ c.toNat) (h2 : c.toNat ≤ 122) : (upB c).toNat = c.toNat - 32 := by
  have h : 97 ≤ c ∧ c ≤ 122 := ⟨UInt8.le_iff_toNat_le.2 h1, UInt8.le_iff_toNat_le.2 h2⟩
  unfold upB
  rw [if_pos h, UInt8.toNat_sub_of_le _ _ (UInt8.le_iff_toNat_le.2 (by show 32 ≤ c.toNat; omega))]; rfl
theorem up_not {c : UInt8} (h : ¬ (97 ≤ c.toNat ∧ c.toNat ≤ 122)) : upB c = c := by
  unfold upB
  rw [if_neg]
  rintro ⟨h1, h2⟩
  exact h ⟨UInt8.le_iff_toNat_le.1 h1, UInt8.le_iff_toNat_le.1 h2⟩
def upL (s : ByteArray) (k : Nat) : List UInt8 := (s.data.toList.take k).map upB
theorem upL_more (s : ByteArray) (k : Nat) (h : k < s.size) : upL s (k + 1) = upL s k ++ [upB s[k]] := by
  unfold upL
  rw [List.take_add_one, at_list s k h, List.map_append]; rfl
theorem upL_len (s : ByteArray) (k : Nat) (h : k ≤ s.size) : (upL s k).length = k := by unfold upL; rw [List.length_map, List.length_take, list_len]; omega
theorem upL_all (s : ByteArray) : upL s s.size = s.data.toList.map upB := by unfold upL; rw [List.take_of_length_le (by rw [list_len]; exact Nat.le_refl _)]
def setB (s : ByteArray) (k : Nat) : Bool := (s.data.toList.take k).any (fun c => c == 91)
theorem setB_more (s : ByteArray) (k : Nat) (h : k < s.size) : setB s (k + 1) = (setB s k || (s[k].toNat == 91)) := by
  unfold setB
  rw [List.take_add_one, at_list s k h, List.any_append]
  have e : (s[k] == 91) = (s[k].toNat == 91) := by
    rw [Bool.eq_iff_iff, beq_iff_eq, beq_iff_eq]
    exact ⟨fun h => by rw [h]; rfl, fun h => UInt8.toNat_inj.1 h⟩
  simp [e]
theorem setB_no {s : ByteArray} (h : setB s s.size = false) : ¬ (91 : UInt8) ∈ s.data.toList := by
  unfold setB at h
  rw [List.take_of_length_le (by rw [list_len]; exact Nat.le_refl _)] at h
  intro hh
  have : s.data.toList.any (fun c => c == 91) = true := List.any_eq_true.2 ⟨91, hh, by simp⟩
  rw [this] at h; cases h
theorem f_any (p t : ByteArray) (f r : Bool) (hp : p.size ≤ 1048576) (ht : t.size ≤ 1048576) (hr : match' p.data.toList t.data.toList f = r) (w : World) : Calls Tryd.prog 9 #[.string p, .string t, .bool f] w fun e w' => e = .returned (.bool r) ∧ Below w.heap.size w w' := by
  have h := match_any p t f (by omega) (by omega) w
  rw [hr] at h
  exact h
set_option maxHeartbeats 2000000 in
set_option maxRecDepth 20000 in
theorem GlobFolds_walk (a0 a1 : ByteArray) (z0 : a0.size ≤ 1048576) (z1 : a1.size ≤ 1048576) (w : World) (hL : Laid w) :
    Calls Tryd.prog 3 #[.string a0, .string a1] w fun e w' => e = .returned (.bool true) ∧ Below w.heap.size w w' := by
  obtain ⟨i0, hi, hz0, hz1, hz2⟩ := info_parts info5
  have HL : Hid (Laid w) := hL
  obtain ⟨m, hm⟩ : ∃ m, match' a0.data.toList a1.data.toList true = m := ⟨_, rfl⟩
  obtain ⟨U, hU⟩ : ∃ U, a1.data.toList.map upB = U := ⟨_, rfl⟩
  have hUl : U.length ≤ 1048576 := by rw [← hU, List.length_map, list_len]; exact z1
  have HM0 : Hid (∀ w : World, Calls Tryd.prog 9 #[.string a0, .string a1, .bool true] w fun e w' => e = .returned (.bool m) ∧ Below w.heap.size w w') := fun w => f_any a0 a1 true m z0 z1 hm w
  have HM1 : Hid (∀ w : World, Calls Tryd.prog 9 #[.string a0, .string (strB U), .bool true] w fun e w' => e = .returned (.bool m) ∧ Below w.heap.size w w') := fun w => f_any a0 (strB U) true m z0 (by rw [strB_size]; exact hUl) (by
    rw [strB_list, ← hU, ← hm]
    show mt (parse (fold a0.data.toList)) (fold (a1.data.toList.map upB)) = _
    rw [fold_up]; rfl) w
  have HFo : Hid (∀ w : World, Calls Tryd.prog 11 #[.string a1] w fun e w' => e = .returned (.string (foldB a1)) ∧ Below w.heap.size w w') := fun w => fold_any a1 (by omega) w
  have HM2 : Hid (∀ w : World, Calls Tryd.prog 9 #[.string a0, .string (foldB a1), .bool true] w fun e w' => e = .returned (.bool m) ∧ Below w.heap.size w w') := fun w => f_any a0 (foldB a1) true m z0 (by rw [foldB_size]; exact z1) (by
    rw [foldB_list, ← hm]
    show mt (parse (fold a0.data.toList)) (fold (fold a1.data.toList)) = _
    rw [fold_fold]; rfl) w
  have HM3 : Hid (setB a0 a0.size = false → m = false → ∀ w : World, Calls Tryd.prog 9 #[.string a0, .string a1, .bool false] w fun e w' => e = .returned (.bool false) ∧ Below w.heap.size w w') := fun h1 h2 w => f_any a0 a1 false false z0 z1 (by
    apply Bool.eq_false_iff.2
    intro hh
    have := m_folds _ _ (setB_no h1) hh
    rw [hm, h2] at this; cases this) w
  have HU : Hid _ := hU
  clear hL hm hU
  go_enter Tryd.func3, Tryd.ntmps3
  go_wp2
  go_loopw [5, 6, 7] (fun v i _ wr => ∃ k : Nat, i = .int .i64 (k : Int) ∧ k ≤ a1.size ∧ wr.ownsRow w.heap.size 5 1 v (upL a1 k).length (bcells (upL a1 k)) ∧ Below w.heap.size w wr) (fun _ i _ _ => a1.size - (intOf i).toNat)
  case atStart => exact ⟨0, rfl, Nat.zero_le _, World.ownsRow_nil _ _ _ _, Below.refl _ _⟩
  case round =>
    obtain ⟨k, rfl, hk, hown, hbel⟩ := hrel
    have HW : Hid (wr.ownsRow w.heap.size 5 1 u5 (upL a1 k).length (bcells (upL a1 k))) := hown
    have HB : Hid (Below w.heap.size w wr) := hbel
    have hbz : w.heap.size ≤ wr.heap.size := hbel.size
    clear hbel
    by_cases hlt : k < a1.size
    · obtain ⟨q, hq⟩ : ∃ q, upL a1 k = q := ⟨_, rfl⟩
      have hql : q.length ≤ 1048576 := by rw [← hq, upL_len _ _ hk]; omega
      obtain ⟨x, hx⟩ : ∃ x, upB a1[k] = x := ⟨_, rfl⟩
      have HQ : Hid (upL a1 (k + 1) = q ++ [x]) := by show _ = _; rw [upL_more a1 k hlt, hq, hx]
      rw [hq] at HW hown
      obtain ⟨pv, cv, ev⟩ := own_form hown
      subst ev
      clear hown hq
      have hc8 := a1[k].toNat_lt
      obtain ⟨c, ec⟩ : ∃ c, a1[k].toNat = c := ⟨_, rfl⟩
      rw [ec] at hc8
      by_cases h1 : 97 ≤ c
      · by_cases h2 : c ≤ 122
        · have HX : Hid ((x.toNat : Int) = (c : Int) - 32) := by show _ = _; rw [← hx, up_of (by omega) (by omega), ec]; omega
          clear hx
          go_upto_region 8 with fail
          go_wp2_with (at_builtin; refine wpList_append_own _ rfl _ _ 22 rfl w.heap.size 5 i0 (.int .u8 0) 1 1 Tryd.underlying22 hi hz0 hz1 hz2 rfl (by decide) _ _ _ rfl (World.ownsRow.alloc HW.out _) ⟨wr.heap.size, 0, none⟩ 1 1 [.int .u8 ((c : Int) - 32)] rfl rfl ?ta1 ?ta2 ?ta3 ?ta4 ?ta5 ?_)
          case ta1 =>
            intro t u hj
            match t, hj with
            | 0, hj => simp at hj; subst hj; simp [Addr.add]
          case ta2 => first | rfl | (intro u hu; simp at hu; subst hu; rfl)
          case ta3 => unfold maxLen; omega
          case ta4 => omega
          case ta5 => first | omega | (simp; omega)
          · intro v' w4 hown' hgrow _
            have HW4 : Hid (w4.ownsRow w.heap.size 5 1 v' (q ++ [x]).length (bcells (q ++ [x]))) := by
              show w4.ownsRow _ _ _ _ _ _
              rw [bcells_snoc, List.length_append, HX.out]
              exact hown'
            have HB4 : Hid (Below w.heap.size w w4) := (HB.out.alloc hbz _).grown hgrow (by simp; omega) (fun k hk => (World.ownsRow.lt HW.out k hk).1)
            clear hown' hgrow
            go_wp2
            go_roundw
            case rel => exact ⟨k + 1, by go_num, hlt, by rw [HQ.out]; exact HW4.out, HB4.out⟩
            case measure => simp [intOf]; omega
        · have HX : Hid ((x.toNat : Int) = (c : Int)) := by show _ = _; rw [← hx, up_not (by omega), ec]
          clear hx
          go_upto_region 8 with fail
          go_wp2_with (at_builtin; refine wpList_append_own _ rfl _ _ 22 rfl w.heap.size 5 i0 (.int .u8 0) 1 1 Tryd.underlying22 hi hz0 hz1 hz2 rfl (by decide) _ _ _ rfl (World.ownsRow.alloc HW.out _) ⟨wr.heap.size, 0, none⟩ 1 1 [.int .u8 (c : Int)] rfl rfl ?tb1 ?tb2 ?tb3 ?tb4 ?tb5 ?_)
          case tb1 =>
            intro t u hj
            match t, hj with
            | 0, hj => simp at hj; subst hj; simp [Addr.add]
          case tb2 => first | rfl | (intro u hu; simp at hu; subst hu; rfl)
          case tb3 => unfold maxLen; omega
          case tb4 => omega
          case tb5 => first | omega | (simp; omega)
          · intro v' w4 hown' hgrow _
            have HW4 : Hid (w4.ownsRow w.heap.size 5 1 v' (q ++ [x]).length (bcells (q ++ [x]))) := by
              show w4.ownsRow _ _ _ _ _ _
              rw [bcells_snoc, List.length_append, HX.out]
              exact hown'
            have HB4 : Hid (Below w.heap.size w w4) := (HB.out.alloc hbz _).grown hgrow (by simp; omega) (fun k hk => (World.ownsRow.lt HW.out k hk).1)
            clear hown' hgrow
            go_wp2
            go_roundw
            case rel => exact ⟨k + 1, by go_num, hlt, by rw [HQ.out]; exact HW4.out, HB4.out⟩
            case measure => simp [intOf]; omega
      · have HX : Hid ((x.toNat : Int) = (c : Int)) := by show _ = _; rw [← hx, up_not (by omega), ec]
        clear hx
        go_upto_region 8 with fail
        go_wp2_with (at_builtin; refine wpList_append_own _ rfl _ _ 22 rfl w.heap.size 5 i0 (.int .u8 0) 1 1 Tryd.underlying22 hi hz0 hz1 hz2 rfl (by decide) _ _ _ rfl (World.ownsRow.alloc HW.out _) ⟨wr.heap.size, 0, none⟩ 1 1 [.int .u8 (c : Int)] rfl rfl ?tc1 ?tc2 ?tc3 ?tc4 ?tc5 ?_)
        case tc2 => first | rfl | (intro u hu; simp at hu; subst hu; rfl)
        case tc3 => unfold maxLen; omega
        case tc4 => omega
        case tc5 => first | omega | (simp; omega)
        · intro v' w4 hown' hgrow _
          have HW4 : Hid (w4.ownsRow w.heap.size 5 1 v' (q ++ [x]).length (bcells (q ++ [x]))) := by
            show w4.ownsRow _ _ _ _ _ _
            rw [bcells_snoc, List.length_append, HX.out]
            exact hown'
          have HB4 : Hid (Below w.heap.size w w4) := (HB.out.alloc hbz _).grown hgrow (by simp; omega) (fun k hk => (World.ownsRow.lt HW.out k hk).1)
          clear hown' hgrow
          go_wp2
          go_roundw
          case rel => exact ⟨k + 1, by go_num, hlt, by rw [HQ.out]; exact HW4.out, HB4.out⟩
          case measure => simp [intOf]; omega
    · have hke : k = a1.size := by omega
      subst hke
      rw [upL_all, HU.out] at HW hown
      obtain ⟨pv, cv, ev⟩ := own_form hown
      subst ev
      clear hown
      go_wp2_with fail
      refine (show Calls _ _ _ _ _ from HM0.out _).mono ?_
      rintro e w3 ⟨rfl, hb3⟩
      have HB3 : Hid (Below w.heap.size w w3) := HB.out.trans (hb3.mono HB.out.size)
      have HW3 : Hid (w3.ownsRow w.heap.size 5 1 (.slice pv U.length cv) U.length (bcells U)) := own_keep HW.out (fun k _ h => hb3.block k h)
      clear hb3
      go_wp2
      go_loopw [9, 10] (fun b i w5 => ∃ k : Nat, i = .int .i64 (k : Int) ∧ k ≤ a0.size ∧ b = .bool (setB a0 k) ∧ w5.ownsRow w.heap.size 5 1 (.slice pv U.length cv) U.length (bcells U) ∧ Below w.heap.size w w5) (fun _ i _ => a0.size - (intOf i).toNat)
      case atStart => exact ⟨0, rfl, Nat.zero_le _, rfl, HW3.out, HB3.out⟩
      case round =>
        obtain ⟨k, rfl, hk, rfl, hown5, hbel5⟩ := hrel
        have HW5 : Hid (wr.ownsRow w.heap.size 5 1 (.slice pv U.length cv) U.length (bcells U)) := hown5
        have HB5 : Hid (Below w.heap.size w wr) := hbel5
        clear hown5 hbel5
        by_cases hlt : k < a0.size
        · have hsm := setB_more a0 k hlt
          obtain ⟨c, ec⟩ : ∃ c, a0[k].toNat = c := ⟨_, rfl⟩
          rw [ec] at hsm
          cases hs : setB a0 k with
          | true =>
            have HE : Hid (setB a0 (k + 1) = true) := by show _ = _; rw [hsm, hs]; rfl
            clear hsm hs
            go_wp2
            go_roundw
            case rel => exact ⟨k + 1, by go_num, hlt, by rw [HE.out], HW5.out, HB5.out⟩
            case measure => simp [intOf]; omega
          | false =>
            have HE : Hid (setB a0 (k + 1) = ((c : Int) == 91)) := by
              show _ = _
              rw [hsm, hs, Bool.false_or, Bool.eq_iff_iff, beq_iff_eq, beq_iff_eq]; omega
            clear hsm hs
            go_wp2
            go_roundw
            case rel => exact ⟨k + 1, by go_num, hlt, by rw [HE.out], HW5.out, HB5.out⟩
            case measure => simp [intOf]; omega
        · have hke : k = a0.size := by omega
          subst hke
          cases hs : setB a0 a0.size with
          | true =>
            clear HM3
            go_wp2_with fail
            refine (show Calls _ _ _ _ _ from works_any _ (HL.out.on HB5.out)).mono ?_
            rintro e w6 ⟨rfl, hb⟩
            have HB6 : Hid (Below w.heap.size w w6) := HB5.out.trans (hb.mono HB5.out.size)
            have hbw : Below wr.heap.size wr w6 := hb
            clear hb
            have HW6 : Hid (w6.ownsRow w.heap.size 5 1 (.slice pv U.length cv) U.length (bcells U)) := own_keep HW5.out (fun k _ h => hbw.block k h)
            obtain ⟨pp, cc, ev2, hcv⟩ := own_text HW6.out
            obtain ⟨rfl, rfl⟩ : pv = pp ∧ cv = cc := by simpa using ev2
            clear ev2 hbw
            go_wp2_with fail
            refine (show Calls _ _ _ _ _ from HM1.out _).mono ?_
            rintro e w7 ⟨rfl, hb⟩
            have HB7 : Hid (Below w.heap.size w w7) := HB6.out.trans (hb.mono HB6.out.size)
            clear hb
            go_wp2_with fail
            refine (show Calls _ _ _ _ _ from HFo.out _).mono ?_
            rintro e w8 ⟨rfl, hb⟩
            have HB8 : Hid (Below w.heap.size w w8) := HB7.out.trans (hb.mono HB7.out.size)
            clear hb
            go_wp2_with fail
            refine (show Calls _ _ _ _ _ from HM2.out _).mono ?_
            rintro e w9 ⟨rfl, hb⟩
            have HB9 : Hid (Below w.heap.size w w9) := HB8.out.trans (hb.mono HB8.out.size)
            clear hb
            go_wp2
            go_ret
            exact ⟨rfl, HB9.out⟩
          | false =>
            cases hmm : m with
            | true =>
              rw [hmm] at HM1 HM2
              clear HM3
              go_wp2_with fail
              refine (show Calls _ _ _ _ _ from works_any _ (HL.out.on HB5.out)).mono ?_
              rintro e w6 ⟨rfl, hb⟩
              have HB6 : Hid (Below w.heap.size w w6) := HB5.out.trans (hb.mono HB5.out.size)
              have hbw : Below wr.heap.size wr w6 := hb
              clear hb
              have HW6 : Hid (w6.ownsRow w.heap.size 5 1 (.slice pv U.length cv) U.length (bcells U)) := own_keep HW5.out (fun k _ h => hbw.block k h)
              obtain ⟨pp, cc, ev2, hcv⟩ := own_text HW6.out
              obtain ⟨rfl, rfl⟩ : pv = pp ∧ cv = cc := by simpa using ev2
              clear ev2 hbw
              go_wp2_with fail
              refine (show Calls _ _ _ _ _ from HM1.out _).mono ?_
              rintro e w7 ⟨rfl, hb⟩
              have HB7 : Hid (Below w.heap.size w w7) := HB6.out.trans (hb.mono HB6.out.size)
              clear hb
              go_wp2_with fail
              refine (show Calls _ _ _ _ _ from HFo.out _).mono ?_
              rintro e w8 ⟨rfl, hb⟩
              have HB8 : Hid (Below w.heap.size w w8) := HB7.out.trans (hb.mono HB7.out.size)
              clear hb
              go_wp2_with fail
              refine (show Calls _ _ _ _ _ from HM2.out _).mono ?_
              rintro e w9 ⟨rfl, hb⟩
              have HB9 : Hid (Below w.heap.size w w9) := HB8.out.trans (hb.mono HB8.out.size)
              clear hb
              go_wp2
              go_ret
              exact ⟨rfl, HB9.out⟩
            | false =>
              have HM3 : Hid _ := HM3.out hs hmm
              rw [hmm] at HM1 HM2
              go_wp2_with fail
              refine (show Calls _ _ _ _ _ from works_any _ (HL.out.on HB5.out)).mono ?_
              rintro e w6 ⟨rfl, hb⟩
              have HB6 : Hid (Below w.heap.size w w6) := HB5.out.trans (hb.mono HB5.out.size)
              have hbw : Below wr.heap.size wr w6 := hb
              clear hb
              have HW6 : Hid (w6.ownsRow w.heap.size 5 1 (.slice pv U.length cv) U.length (bcells U)) := own_keep HW5.out (fun k _ h => hbw.block k h)
              obtain ⟨pp, cc, ev2, hcv⟩ := own_text HW6.out
              obtain ⟨rfl, rfl⟩ : pv = pp ∧ cv = cc := by simpa using ev2
              clear ev2 hbw
              go_wp2_with fail
              refine (show Calls _ _ _ _ _ from HM1.out _).mono ?_
              rintro e w7 ⟨rfl, hb⟩
              have HB7 : Hid (Below w.heap.size w w7) := HB6.out.trans (hb.mono HB6.out.size)
              clear hb
              go_wp2_with fail
              refine (show Calls _ _ _ _ _ from HFo.out _).mono ?_
              rintro e w8 ⟨rfl, hb⟩
              have HB8 : Hid (Below w.heap.size w w8) := HB7.out.trans (hb.mono HB7.out.size)
              clear hb
              go_wp2_with fail
              refine (show Calls _ _ _ _ _ from HM2.out _).mono ?_
              rintro e w9 ⟨rfl, hb⟩
              have HB9 : Hid (Below w.heap.size w w9) := HB8.out.trans (hb.mono HB8.out.size)
              clear hb
              go_wp2_with fail
              refine (show Calls _ _ _ _ _ from HM3.out _).mono ?_
              rintro e w10 ⟨rfl, hb⟩
              have HB10 : Hid (Below w.heap.size w w10) := HB9.out.trans (hb.mono HB9.out.size)
              clear hb
              go_wp2
              go_ret
              exact ⟨rfl, HB10.out⟩
set_option linter.unusedVariables false
set_option maxRecDepth 100000 in
theorem contract (H : Type) (enc : TypeId × Value → H) (W : World) (base : Nat) (args : Array Value) (ds gs : List (DataW H)) (before : List MemPlace)
    (hval0 : ∀ (j : Nat) t v, Tryd.f3.params[j]? = some t → args[j]? = some v → Value.okWide Tryd.prog W .any base t v)
    (hW : DataW.Whole enc Tryd.prog Tryd.f3.params.toList Rows.globFoldsSpec.vars false W args.toList ds gs before) (hk : Rows.uptoSmall H (ds ++ gs) = true) (hL : laidMetH Tryd.prog laidL W) :
    Calls Tryd.prog 3 args W fun e W' => ∃ v, e = .returned v ∧ Rows.globFoldsSpec.post enc Tryd.prog Tryd.f3 false true false false W args v W' := by
  have hval : ∀ (j : Nat) t v, Tryd.f3.params[j]? = some t → args[j]? = some v → Value.okWide Tryd.prog W .any base t v := hval0
  have hW' := hW
  obtain ⟨p, q, hA0, hV, rfl, hfz, hnd⟩ := hW
  have hA : DataW.TrodAll enc Tryd.prog W 0 (fun _ => true) true Tryd.f3.params.toList args.toList ds p := hA0
  rw [Tryd.params3] at hA hval
  obtain ⟨v0, vs0, d0, ds0, p0, q0, hargs, rfl, rfl, h0, r0⟩ := trodAll_cons hA
  obtain ⟨v1, vs1, d1, ds1, p1, q1, rfl, rfl, rfl, h1, r1⟩ := trodAll_cons r0
  obtain ⟨rfl, rfl, rfl⟩ := trodAll_nil r1
  obtain rfl : args = #[v0, v1] := by cases args; simp_all
  obtain ⟨rfl, rfl⟩ := trodVars_none hV
  obtain ⟨a0, rfl, rfl, rfl, w0⟩ := open_string Tryd.underlying9 (hval 0 9 v0 rfl rfl) h0
  obtain ⟨a1, rfl, rfl, rfl, w1⟩ := open_string Tryd.underlying9 (hval 1 9 v1 rfl rfl) h1
  have hb := bulk_small hk
  simp only [List.append_nil, Rows.uptoBulkAll, Rows.uptoBulk, list_len] at hb
  have z0 : a0.size ≤ 1048576 := by omega
  have z1 : a1.size ≤ 1048576 := by omega
  clear hA0 hval0 hk hb
  refine (GlobFolds_walk a0 a1 z0 z1 W (of_laid hL)).mono fun e W' ⟨he, bel⟩ => ?_
  subst he
  exact ⟨_, rfl, _, _, _, [], _, [], hW', trodAll_mk1 (shut_bool Tryd.underlying4 _), (trodAll_cons_mk (shut_string Tryd.underlying9 w0) (trodAll_cons_mk (shut_string Tryd.underlying9 w1) trodAll_mk0)), rfl, bel.frame _, fun h => by cases h⟩
theorem laid_met (os : Os) (args : Array Value) : laidMet Tryd.prog laidL ((World.doorLaid Tryd.prog 400 os).forCall (fun _ _ => 0) ⟨#[], args, []⟩).memory :=
  laidMet_of_run' 8 (by kernel_rfl) (by kernel_rfl)
theorem reads (os : Os) {H : Type} (enc : TypeId × Value → H) : ∃ places, DataW.whole enc Tryd.prog ((World.doorLaid Tryd.prog 400 os).forCall (fun _ _ => 0) ⟨#[], #[.string ByteArray.empty, .string ByteArray.empty], []⟩).memory Tryd.f3.params.toList Rows.globFoldsSpec.vars false #[.string ByteArray.empty, .string ByteArray.empty].toList 8 = some ([.lit (.string []), .lit (.string [])], [], places) :=
  ⟨[], by kernel_rfl⟩
set_option maxRecDepth 100000 in
theorem liftedUpto (os : Os) (started : os.Started) (H : Type) (enc : TypeId × Value → H) (F : Stop.Interp) :
    ReturnsInHanded {} Tryd.checked os 3 .any ((Rows.OpenSpec.upto Rows.globFoldsSpec).preRow enc Tryd.prog Tryd.f3 Rows.globFoldsUptoRow.domain false Rows.globFoldsUptoRow.laid) (((Rows.OpenSpec.upto Rows.globFoldsSpec).at F).post enc Tryd.prog Tryd.f3 false true false false) := by
  obtain ⟨places, hx⟩ := reads os enc
  refine returnsInHanded_of_row (C := Tryd.checked) (s := Rows.OpenSpec.upto Rows.globFoldsSpec) own started (by kernel_rfl) Tryd.func3
    (witness_row_atRef (enc := enc) (C := Tryd.checked) false (World.doorLaid Tryd.prog 400 os) #[.string ByteArray.empty, .string ByteArray.empty] rfl (by kernel_rfl) (by kernel_rfl) (by kernel_rfl)
      (OpenSpec.preRow_of_cond 8 hx (by kernel_rfl) (fun k hk => by cases hk; kernel_rfl) (by kernel_rfl) (laid_met os _))) ?_
  intro W base args ds gs before hval hW _ hc _ hL _ _
  exact contract H enc W base args ds gs before hval hW (hc _ rfl) hL
theorem over : Rows.GlobFoldsUptoSaid :=
  OpenClaim.holds_of_cond 3 Tryd.f3 rfl rfl rfl rfl rfl rfl rfl ⟨rfl, rfl, rfl, rfl, rfl⟩ rfl rfl rfl rfl rfl (by kernel_rfl) Tryd.func3 (by kernel_rfl)
    (of_decide_eq_true (by kernel_rfl)) (by unfold Func.isWrapper; first | (rw [if_pos (by decide +kernel)]; kernel_rfl) | (rw [if_neg (by decide +kernel)]; exact ⟨rfl, rfl⟩))
    (fun os started H enc _ F => by rw [OpenClaim.pre_eq_preRow]; exact liftedUpto os started H enc F)
end Go.Proofs.YtghbbapladnafaaDoor.globFolds
namespace Go.Proofs.YtghbbapladnafaaDoor
theorem globFoldsUpto_card : Rows.GlobFoldsUptoCardSaid :=
  Claim7.holds_tied_plain_at .later [] [.data, .data, .data, .sentinel, .sentinel] true (true, "67cb3ce511a953cfe77f5284fcfbed861388ddf82f555466a2470573183c3bcf") true
    globFolds.over (fun _ h => by cases h) (by kernel_rfl) (fun _ h => by cases h) globFoldsUpto_row_tie rfl ⟨rfl, rfl⟩ (by kernel_rfl) rfl
    (fun f fn hf hfn => by
      obtain rfl : f = 3 := Option.some.inj ((show Tryd.prog.funcNamed "cistern/cisternlaw04.GlobFolds" = some 3 by kernel_rfl).symm.trans hf) |>.symm
      obtain rfl : fn = Tryd.f3 := (Option.some.inj (Tryd.func3.symm.trans hfn)).symm
      exact ⟨by kernel_rfl, fun j t ht => by
        rw [Tryd.params3] at ht
        have hm : t ∈ [9, 9] := by simpa using Array.mem_of_getElem? ht
        have hall : ([9, 9].all fun u => !Tryd.prog.wantsStandIn u) = true := by kernel_rfl
        exact (show Tryd.prog.wantsStandIn t = false by simpa using List.all_eq_true.1 hall t hm)⟩)
    (by kernel_rfl)
#print axioms globFoldsUpto_card
end Go.Proofs.YtghbbapladnafaaDoor
