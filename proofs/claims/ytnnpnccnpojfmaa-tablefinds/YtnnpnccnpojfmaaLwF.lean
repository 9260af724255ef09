import Derived.Test.YtnnpnccnpojfmaaOpenT
import Derived.Test.YtnnpnccnpojfmaaTbH
import Derived.Laws.StructEq
namespace Go.Proofs.Ytnnpnccnpojfmaa
open Go.RowKit
set_option linter.unusedVariables false
set_option linter.unusedSimpArgs false
set_option maxHeartbeats 4000000 in
set_option maxRecDepth 20000 in
theorem TableFinds_walk (a : ByteArray) (z : a.size ≤ 140737488351232) (w : World) : Calls Try.prog 5 #[.string a] w fun e w' => e = .returned (.bool true) ∧ Below w.heap.size w w' := by
  have HF1 : Hid _ := find_any a z
  have HF2 : Hid _ := rfind_any a z
  have HA : Hid _ := all_any
  have HRA : Hid _ := rall_any
  have HL1 : Hid _ := lower_any a (by omega)
  have HL2 : Hid _ := rlower_any a z
  have HSU : Hid _ := sure_any
  obtain ⟨fo, hfo⟩ : ∃ fo, TB.find (TB.low a.data.toList) = fo := ⟨_, rfl⟩
  rw [hfo] at HF1 HF2
  obtain ⟨x0, x1, x2, x3, x4, x5, x6, x7, x8, x9, hsp, e0, e1, e2, e6, e7, e8, e9⟩ := TB.spec_form fo
  rw [hsp] at HF1 HF2
  obtain ⟨ok, hok⟩ : ∃ ok, fo.isSome = ok := ⟨_, rfl⟩
  rw [hok] at HF1 HF2
  obtain ⟨lo, hlo⟩ : ∃ lo, strB (TB.low a.data.toList) = lo := ⟨_, rfl⟩
  rw [hlo] at HL1 HL2
  obtain ⟨NM, hNM⟩ : ∃ NM, TB.names = NM := ⟨_, rfl⟩
  have HNL : Hid (NM.length = 161) := by show _ = _; rw [← hNM]; exact TB.names_len
  rw [hNM] at HA HRA
  clear hfo hsp e0 e1 e2 e6 e7 e8 e9 hok hlo hNM z
  go_enter Try.func5, Try.ntmps5
  go_wp2_with fail
  refine (show Calls _ _ _ _ _ from HF1.out _).mono ?_
  rintro e w1 ⟨rfl, hb1⟩
  have HB1 : Hid (Below w.heap.size w w1) := hb1
  clear hb1
  go_upto_region 2 with fail
  obtain ⟨W1, hW1⟩ : ∃ W, w1.alloc (.cells #[.string x0, .int .i64 x1, .int .i64 x2, .bool x3, .bool x4, .bool x5, .int .i64 x6, .int .i64 x7, .int .i64 x8, .int .i64 x9] 28) = W := ⟨_, rfl⟩
  have HSA : Hid (W1.heap[w1.heap.size]? = some (.cells #[.string x0, .int .i64 x1, .int .i64 x2, .bool x3, .bool x4, .bool x5, .int .i64 x6, .int .i64 x7, .int .i64 x8, .int .i64 x9] 28)) := by rw [← hW1]; exact one_alloc w1 _
  have HBA : Hid (Below w.heap.size w W1) := by rw [← hW1]; exact bel_to HB1.out ((Below.refl _ _).alloc (Nat.le_refl _) _) (Nat.le_refl _)
  rw [hW1]
  obtain ⟨SA, hSA⟩ : ∃ SA, w1.heap.size = SA := ⟨_, rfl⟩
  rw [hSA] at HSA ⊢
  clear hW1 hSA
  go_wp2_with fail
  refine (show Calls _ _ _ _ _ from HF2.out _).mono ?_
  rintro e w2 ⟨rfl, hb2⟩
  have HSA2 : Hid _ := keep_row HSA.out hb2
  have HB2 : Hid (Below w.heap.size w w2) := bel_to HBA.out hb2 (Nat.le_refl _)
  clear hb2
  go_upto_region 3 with fail
  obtain ⟨W2, hW2⟩ : ∃ W, w2.alloc (.cells #[.string x0, .int .i64 x1, .int .i64 x2, .bool x3, .bool x4, .bool x5, .int .i64 x6, .int .i64 x7, .int .i64 x8, .int .i64 x9] 28) = W := ⟨_, rfl⟩
  have HSB : Hid (W2.heap[w2.heap.size]? = some (.cells #[.string x0, .int .i64 x1, .int .i64 x2, .bool x3, .bool x4, .bool x5, .int .i64 x6, .int .i64 x7, .int .i64 x8, .int .i64 x9] 28)) := by rw [← hW2]; exact one_alloc w2 _
  have HSA3 : Hid _ := keep_row HSA2.out (by rw [← hW2]; exact (Below.refl _ _).alloc (Nat.le_refl _) _ : Below w2.heap.size w2 W2)
  have HBB : Hid (Below w.heap.size w W2) := by rw [← hW2]; exact bel_to HB2.out ((Below.refl _ _).alloc (Nat.le_refl _) _) (Nat.le_refl _)
  rw [hW2]
  obtain ⟨SB, hSB⟩ : ∃ SB, w2.heap.size = SB := ⟨_, rfl⟩
  rw [hSB] at HSB ⊢
  clear hW2 hSB
  go_wp2_with fail
  refine (show Calls _ _ _ _ _ from HA.out _).mono ?_
  rintro e w3 ⟨rfl, hr3, hb3⟩
  have HR3 : Hid (w3.heap[W2.heap.size]? = some (.cells (sv NM).toArray 9)) := hr3
  have HB3 : Hid (Below W2.heap.size W2 w3) := hb3
  clear hb3 hr3
  go_wp2_with fail
  refine (show Calls _ _ _ _ _ from HA.out _).mono ?_
  rintro e w4 ⟨rfl, hr4, hb4⟩
  have HR4 : Hid (w4.heap[W2.heap.size]? = some (.cells (sv NM).toArray 9)) := keep_row HR3.out hb4
  have HM4 : Hid (w4.heap[w3.heap.size]? = some (.cells (sv NM).toArray 9)) := hr4
  have HB4 : Hid (Below W2.heap.size W2 w4) := bel_to HB3.out hb4 (Nat.le_refl _)
  have HLT : Hid (W2.heap.size < w3.heap.size) := row_lt HR3.out
  clear hb4 hr4
  obtain ⟨GL, hGL⟩ : ∃ GL, W2.heap.size = GL := ⟨_, rfl⟩
  obtain ⟨GM, hGM⟩ : ∃ GM, w3.heap.size = GM := ⟨_, rfl⟩
  rw [hGL] at HR4 HLT ⊢
  rw [hGM] at HM4 HLT ⊢
  have HGL : Hid (W2.heap.size = GL) := hGL
  clear hGL hGM
  go_wp2
  go_loopw [9] (fun ci wr => ∃ i : Nat, ci = .int .i64 (i : Int) ∧ i ≤ 161 ∧ Below W2.heap.size W2 wr ∧ wr.heap[GM]? = some (.cells (sv NM).toArray 9) ∧ ∃ l : List Value, wr.heap[GL]? = some (.cells l.toArray 9) ∧ l.length = 161) (fun ci _ => 161 - (intOf ci).toNat)
  case atStart => exact ⟨0, rfl, by omega, HB4.out, HM4.out, sv NM, HR4.out, by rw [sv_len]; exact HNL.out⟩
  case round =>
    obtain ⟨i, rfl, hi, hbel, hm, l, hrow, hlen⟩ := hrel
    have HB : Hid (Below W2.heap.size W2 wr) := hbel
    have HM : Hid (wr.heap[GM]? = some (.cells (sv NM).toArray 9)) := hm
    have HL : Hid (l.length = 161) := hlen
    clear hbel hm hlen
    by_cases hlt : i < 161
    · obtain ⟨y, hy⟩ : ∃ y, l[i]? = some y := ⟨_, List.getElem?_eq_getElem (by rw [HL.out]; exact hlt)⟩
      have hcell : wr.cell? ⟨GL, i, none⟩ = some y := by rw [cell_of_row _ _ _ _ _ _ hrow, List.getElem?_toArray]; exact hy
      have hfz : wr.frozen? ⟨GL, i, none⟩ = false := frozen_of_row _ _ _ _ _ hrow
      have HR5 : Hid ((wr.setCell ⟨GL, i, none⟩ (.string ⟨#[115, 112, 111, 105, 108, 116]⟩)).heap[GL]? = some (.cells (l.set i (.string ⟨#[115, 112, 111, 105, 108, 116]⟩)).toArray 9)) := set_row hrow i _
      have HM5 : Hid ((wr.setCell ⟨GL, i, none⟩ (.string ⟨#[115, 112, 111, 105, 108, 116]⟩)).heap[GM]? = some (.cells (sv NM).toArray 9)) := by show _ = _; rw [heap_setCell_other _ _ _ _ (by have := HLT.out; show GM ≠ GL; omega)]; exact HM.out
      have HB5 : Hid (Below W2.heap.size W2 (wr.setCell ⟨GL, i, none⟩ (.string ⟨#[115, 112, 111, 105, 108, 116]⟩))) := HB.out.trans (((Only.refl wr GL).set i _).below (Nat.le_of_eq HGL.out))
      have hz0 : (0 : Int) ≤ (i : Int) := by omega
      have hz1 : (i : Int) < 161 := by omega
      clear hy hrow
      go_wp2
      go_roundw
      case rel => exact ⟨i + 1, by go_num, by omega, HB5.out, HM5.out, _, HR5.out, by rw [List.length_set]; exact HL.out⟩
      case measure => simp [intOf]; omega
    · have hz1 : ¬ (i : Int) < 161 := by omega
      obtain ⟨c0, c1, c2, c3, c4, c5, c6, c7, c8, c9, cf⟩ := row10 (keep_row HSA3.out HB.out)
      obtain ⟨d0, d1, d2, d3, d4, d5, d6, d7, d8, d9, df⟩ := row10 (keep_row HSB.out HB.out)
      clear hrow
      go_wp2_with fail
      refine (show Calls _ _ _ _ _ from HL1.out _).mono ?_
      rintro e w5 ⟨rfl, hb5⟩
      have HB5 : Hid (Below W2.heap.size W2 w5) := bel_to HB.out hb5 (Nat.le_refl _)
      have HM5 : Hid (w5.heap[GM]? = some (.cells (sv NM).toArray 9)) := keep_row HM.out hb5
      clear hb5 c0 c1 c2 c3 c4 c5 c6 c7 c8 c9 cf d0 d1 d2 d3 d4 d5 d6 d7 d8 d9 df
      go_wp2_with fail
      refine (show Calls _ _ _ _ _ from HL2.out _).mono ?_
      rintro e w6 ⟨rfl, hb6⟩
      have HB6 : Hid (Below W2.heap.size W2 w6) := bel_to HB5.out hb6 (Nat.le_refl _)
      have HM6 : Hid (w6.heap[GM]? = some (.cells (sv NM).toArray 9)) := keep_row HM5.out hb6
      clear hb6
      go_wp2_with fail
      refine (show Calls _ _ _ _ _ from HRA.out _).mono ?_
      rintro e w7 ⟨⟨v, rfl, hrow7⟩, hb7⟩
      have HB7 : Hid (Below W2.heap.size W2 w7) := bel_to HB6.out hb7 (Nat.le_refl _)
      have HRM : Hid (SRow w7 (.slice (some ⟨GM, 0, none⟩) 161 161) NM) := by
        have := srow_of (c := 161) NM (keep_row HM6.out hb7)
        rw [HNL.out] at this
        exact this
      have HS7 : Hid _ := same_any (.slice (some ⟨GM, 0, none⟩) 161 161) v NM NM (by rw [HNL.out]; omega) (by rw [HNL.out]; omega) w7 HRM.out hrow7
      obtain ⟨PV, kv, hfv⟩ := hrow7.form
      rw [HNL.out] at hfv
      subst hfv
      clear hb7 hrow7
      go_wp2_with fail
      refine (show Calls _ _ _ _ _ from HS7.out).mono ?_
      rintro e w8 ⟨⟨b, rfl, hb⟩, k, hw8⟩
      have hbt : b = true := hb.2 (by first | trivial | rfl)
      subst hbt
      have HB8 : Hid (Below w.heap.size w w8) := by rw [hw8]; exact below_dn (bel_to HBB.out HB7.out (Nat.le_refl _)) k
      clear hb hw8
      go_wp2_with fail
      refine (show Calls _ _ _ _ _ from HSU.out _).mono ?_
      rintro e w9 ⟨rfl, hb9⟩
      have HB9 : Hid (Below w.heap.size w w9) := bel_to HB8.out hb9 (Nat.le_refl _)
      clear hb9
      go_wp2
      go_returns
      exact ⟨rfl, HB9.out⟩
end Go.Proofs.Ytnnpnccnpojfmaa
