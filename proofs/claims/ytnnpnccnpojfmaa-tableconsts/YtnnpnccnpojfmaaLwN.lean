import Derived.Test.YtnnpnccnpojfmaaOpenT
import Derived.Test.YtnnpnccnpojfmaaTbH
import Derived.Laws.StructEq
namespace Go.Proofs.Ytnnpnccnpojfmaa
open Go.RowKit
set_option linter.unusedVariables false
set_option linter.unusedSimpArgs false
set_option maxRecDepth 100000 in
theorem names_found : TB.names.all (fun x => (TB.find (TB.low x.data.toList)).isSome && decide (x.size ≤ 16)) = true := by decide +kernel
set_option maxHeartbeats 4000000 in
set_option maxRecDepth 20000 in
theorem TableConsts_walk (w : World) : Calls Try.prog 4 #[] w fun e w' => e = .returned (.bool true) ∧ Below w.heap.size w w' := by
  have HN : Hid _ := num_any
  have HA : Hid _ := all_any
  have HRA : Hid _ := rall_any
  have HSU : Hid _ := sure_any
  have HFA : Hid (∀ x ∈ TB.names, (TB.find (TB.low x.data.toList)).isSome = true ∧ x.size ≤ 16) := fun x hx => by
    have := List.all_eq_true.1 names_found x hx
    simpa using this
  obtain ⟨NM, hNM⟩ : ∃ NM, TB.names = NM := ⟨_, rfl⟩
  have HNL : Hid (NM.length = 161) := by show _ = _; rw [← hNM]; exact TB.names_len
  rw [hNM] at HA HRA HFA
  clear hNM
  go_enter Try.func4, Try.ntmps4
  go_wp2_with fail
  refine (show Calls _ _ _ _ _ from HRA.out _).mono ?_
  rintro e W1 ⟨⟨v, rfl, hrow1⟩, hb1⟩
  have HR1 : Hid (SRow W1 v NM) := hrow1
  have HB1 : Hid (Below w.heap.size w W1) := hb1
  obtain ⟨PV, kv, hfv⟩ := hrow1.form
  rw [HNL.out] at hfv
  subst hfv
  clear hb1 hrow1
  go_wp2_with fail
  refine (show Calls _ _ _ _ _ from HN.out _ _).mono ?_
  rintro e Wx ⟨rfl, rfl⟩
  go_wp2_with fail
  refine (show Calls _ _ _ _ _ from HN.out _ _).mono ?_
  rintro e Wy ⟨rfl, rfl⟩
  go_wp2_with fail
  refine (show Calls _ _ _ _ _ from HN.out _ _).mono ?_
  rintro e Wx ⟨rfl, rfl⟩
  go_wp2_with fail
  refine (show Calls _ _ _ _ _ from HA.out _).mono ?_
  rintro e W2 ⟨rfl, hr2, hb2⟩
  have HB2 : Hid (Below Wx.heap.size Wx W2) := hb2
  have HRM : Hid (SRow W2 (.slice (some ⟨Wx.heap.size, 0, none⟩) 161 161) NM) := by
    have := srow_of (c := 161) NM hr2
    rw [HNL.out] at this
    exact this
  have HS2 : Hid _ := same_any (.slice (some ⟨Wx.heap.size, 0, none⟩) 161 161) (.slice PV 161 kv) NM NM (by rw [HNL.out]; omega) (by rw [HNL.out]; omega) W2 HRM.out (HR1.out.on hb2)
  clear hr2 hb2
  go_wp2_with fail
  refine (show Calls _ _ _ _ _ from HS2.out).mono ?_
  rintro e W3 ⟨⟨b, rfl, hb⟩, k, hw3⟩
  have hbt : b = true := hb.2 (by first | trivial | rfl)
  subst hbt
  have HB3 : Hid (Below Wx.heap.size Wx W3) := by rw [hw3]; exact below_dn HB2.out k
  clear hb hw3
  go_wp2
  go_loopw [2, 3, 4, 5, 6] (fun ci _ _ _ _ wr => ∃ i : Nat, ci = .int .i64 (i : Int) ∧ i ≤ 161 ∧ Below Wx.heap.size Wx wr) (fun ci _ _ _ _ _ => 161 - (intOf ci).toNat)
  case atStart => exact ⟨0, rfl, by omega, HB3.out⟩
  case round =>
    obtain ⟨i, rfl, hi, hbel⟩ := hrel
    have HB : Hid (Below Wx.heap.size Wx wr) := hbel
    clear hbel
    by_cases hlt : i < 161
    · obtain ⟨g, o, hP, hc0⟩ := HR1.out.cell i (by rw [HNL.out]; exact hlt)
      subst hP
      obtain ⟨x, hx⟩ : ∃ x, NM[i]'(by rw [HNL.out]; exact hlt) = x := ⟨_, rfl⟩
      rw [hx] at hc0
      have hmem : x ∈ NM := by rw [← hx]; exact List.getElem_mem _
      obtain ⟨hsome, hx16⟩ := HFA.out x hmem
      have HF1 : Hid _ := find_any x (by omega)
      have HF2 : Hid _ := rfind_any x (by omega)
      rw [hsome] at HF1 HF2
      obtain ⟨fo, hfo⟩ : ∃ fo, TB.find (TB.low x.data.toList) = fo := ⟨_, rfl⟩
      rw [hfo] at HF1 HF2
      obtain ⟨x0, x1, x2, x3, x4, x5, x6, x7, x8, x9, hsp, e0, e1, e2, e6, e7, e8, e9⟩ := TB.spec_form fo
      rw [hsp] at HF1 HF2
      have HC0 : Hid _ := hc0
      have hc1 := cell_on hc0 HB.out
      have hz0 : (0 : Int) ≤ (i : Int) := by omega
      have hz1 : (i : Int) < 161 := by omega
      clear hx hmem hsome hfo hsp e0 e1 e2 e6 e7 e8 e9 hc0
      go_wp2_with fail
      refine (show Calls _ _ _ _ _ from HF1.out _).mono ?_
      rintro e w1 ⟨rfl, hb1⟩
      have HB4 : Hid (Below Wx.heap.size Wx w1) := bel_to HB.out hb1 (Nat.le_refl _)
      clear hb1 hc1
      go_upto_region 8 with fail
      obtain ⟨W5, hW5⟩ : ∃ W, w1.alloc (.cells #[.string x0, .int .i64 x1, .int .i64 x2, .bool x3, .bool x4, .bool x5, .int .i64 x6, .int .i64 x7, .int .i64 x8, .int .i64 x9] 28) = W := ⟨_, rfl⟩
      have HSA : Hid (W5.heap[w1.heap.size]? = some (.cells #[.string x0, .int .i64 x1, .int .i64 x2, .bool x3, .bool x4, .bool x5, .int .i64 x6, .int .i64 x7, .int .i64 x8, .int .i64 x9] 28)) := by rw [← hW5]; exact one_alloc w1 _
      have HB5 : Hid (Below Wx.heap.size Wx W5) := by rw [← hW5]; exact bel_to HB4.out ((Below.refl _ _).alloc (Nat.le_refl _) _) (Nat.le_refl _)
      rw [hW5]
      obtain ⟨SA, hSA⟩ : ∃ SA, w1.heap.size = SA := ⟨_, rfl⟩
      rw [hSA] at HSA ⊢
      clear hW5 hSA
      have hc2 := cell_on HC0.out HB5.out
      go_wp2_with fail
      refine (show Calls _ _ _ _ _ from HF2.out _).mono ?_
      rintro e w2 ⟨rfl, hb2⟩
      have HSA2 : Hid _ := keep_row HSA.out hb2
      have HB6 : Hid (Below Wx.heap.size Wx w2) := bel_to HB5.out hb2 (Nat.le_refl _)
      clear hb2 hc2
      go_upto_region 9 with fail
      obtain ⟨W6, hW6⟩ : ∃ W, w2.alloc (.cells #[.string x0, .int .i64 x1, .int .i64 x2, .bool x3, .bool x4, .bool x5, .int .i64 x6, .int .i64 x7, .int .i64 x8, .int .i64 x9] 28) = W := ⟨_, rfl⟩
      have HSB : Hid (W6.heap[w2.heap.size]? = some (.cells #[.string x0, .int .i64 x1, .int .i64 x2, .bool x3, .bool x4, .bool x5, .int .i64 x6, .int .i64 x7, .int .i64 x8, .int .i64 x9] 28)) := by rw [← hW6]; exact one_alloc w2 _
      have HSA3 : Hid _ := keep_row HSA2.out (by rw [← hW6]; exact (Below.refl _ _).alloc (Nat.le_refl _) _ : Below w2.heap.size w2 W6)
      have HB7 : Hid (Below Wx.heap.size Wx W6) := by rw [← hW6]; exact bel_to HB6.out ((Below.refl _ _).alloc (Nat.le_refl _) _) (Nat.le_refl _)
      rw [hW6]
      obtain ⟨SB, hSB⟩ : ∃ SB, w2.heap.size = SB := ⟨_, rfl⟩
      rw [hSB] at HSB ⊢
      clear hW6 hSB
      obtain ⟨c0, c1, c2, c3, c4, c5, c6, c7, c8, c9, cf⟩ := row10 HSA3.out
      obtain ⟨d0, d1, d2, d3, d4, d5, d6, d7, d8, d9, df⟩ := row10 HSB.out
      go_wp2
      go_roundw
      case rel => exact ⟨i + 1, by go_num, by omega, HB7.out⟩
      case measure => simp [intOf]; omega
    · have hz1 : ¬ (i : Int) < 161 := by omega
      go_wp2_with fail
      refine (show Calls _ _ _ _ _ from HSU.out _).mono ?_
      rintro e w9 ⟨rfl, hb9⟩
      have HB9 : Hid (Below w.heap.size w w9) := bel_to (bel_to HB1.out HB.out (Nat.le_refl _)) hb9 (Nat.le_refl _)
      clear hb9
      go_wp2
      go_returns
      exact ⟨rfl, HB9.out⟩
end Go.Proofs.Ytnnpnccnpojfmaa
