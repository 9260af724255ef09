import Derived.Test.YtnnpnccnpojfmaaTbV
import Derived.Test.YtnnpnccnpojfmaaSme
namespace Go.Proofs.Ytnnpnccnpojfmaa
open Go.RowKit
set_option linter.unusedVariables false
set_option linter.unusedSimpArgs false
abbrev sGET : ByteArray := ⟨#[71, 69, 84]⟩
abbrev sget : ByteArray := ⟨#[103, 101, 116]⟩
abbrev sMs : List ByteArray := [⟨#[109, 115, 101, 116]⟩, ⟨#[97]⟩, ⟨#[49]⟩, ⟨#[98]⟩, ⟨#[50]⟩]
abbrev sAB : List ByteArray := [⟨#[97]⟩, ⟨#[98]⟩]
theorem srow_of {W : World} {g c : Nat} (l : List ByteArray) (h : W.heap[g]? = some (.cells (sv l).toArray 9)) : SRow W (.slice (some ⟨g, 0, none⟩) l.length c) l := by
  right
  refine ⟨g, 0, c, rfl, fun j hj => ?_⟩
  rw [cell_of_row _ _ _ _ _ _ h, Nat.zero_add, List.getElem?_toArray]
  unfold sv
  rw [List.getElem?_map, List.getElem?_eq_getElem hj]; rfl
theorem cap_of {P : Option Addr} {n c : Nat} (h : n ≤ c) : CapOk (.slice P n c) := fun P' n' c' e => by injection e with _ e1 e2; omega
theorem fact_get : (TB.find (TB.low sGET.data.toList)).isSome = true ∧ TB.nmO (TB.find (TB.low sGET.data.toList)) = sget ∧ TB.leO (TB.find (TB.low sGET.data.toList)) = 2 := by decide +kernel
theorem fact_keys : TB.keys sMs = (sAB, 0) := by decide +kernel
theorem fact_err : TB.err [sget] = 131 := by decide +kernel
set_option maxHeartbeats 2000000 in
set_option maxRecDepth 20000 in
theorem sure_any (w : World) : Calls Try.prog 10 #[] w fun e w' => e = .returned (.bool true) ∧ Below w.heap.size w w' := by
  have HF : Hid _ := find_any sGET (by decide)
  obtain ⟨f1, f2, f3⟩ := fact_get
  rw [f1] at HF
  obtain ⟨x0, x1, x2, x3, x4, x5, x6, x7, x8, x9, hsp, e0, e1, e2, e6, e7, e8, e9⟩ := TB.spec_form (TB.find (TB.low sGET.data.toList))
  rw [hsp] at HF
  rw [f2] at e0
  rw [f3] at e1
  subst e0
  subst e1
  have HK : Hid (∀ W g, W.heap[g]? = some (.cells (sv sMs).toArray 9) → Calls Try.prog 14 #[.slice (some ⟨g, 0, none⟩) 5 5] W fun e w' => (∃ v, e = .returned (.tuple #[v, .int .i64 0]) ∧ SRow w' v sAB) ∧ Below W.heap.size W w') := fun W g hg => by
    refine (keys_any sMs (.slice (some ⟨g, 0, none⟩) 5 5) (by decide) (by decide) W (srow_of sMs hg) (cap_of (Nat.le_refl _))).mono ?_
    rintro e w' ⟨⟨v, rfl, ho⟩, hb⟩
    rw [fact_keys] at ho
    exact ⟨⟨v, by rw [fact_keys], own_srow ho rfl⟩, hb⟩
  have HC : Hid (∀ W g, W.heap[g]? = some (.cells (sv [sget]).toArray 9) → Calls Try.prog 9 #[.slice (some ⟨g, 0, none⟩) 1 1] W fun e w' => e = .returned (.int .i64 131) ∧ Below W.heap.size W w') := fun W g hg => by
    have := check_any [sget] (.slice (some ⟨g, 0, none⟩) 1 1) (by decide) (by decide) W (srow_of [sget] hg)
    rw [fact_err] at this
    exact this
  have HN : Hid _ := num_any
  clear f1 f2 f3 hsp e2 e6 e7 e8 e9
  go_enter Try.func10, Try.ntmps10
  go_wp2_with fail
  refine (show Calls _ _ _ _ _ from HF.out _).mono ?_
  rintro e w1 ⟨rfl, hb1⟩
  have HB1 : Hid (Below w.heap.size w w1) := hb1
  clear hb1
  go_upto_region 2 with fail
  obtain ⟨W2, hW2⟩ : ∃ W, w1.alloc (.cells #[.string sget, .int .i64 2, .int .i64 x2, .bool x3, .bool x4, .bool x5, .int .i64 x6, .int .i64 x7, .int .i64 x8, .int .i64 x9] 28) = W := ⟨_, rfl⟩
  have HS2 : Hid (W2.heap[w1.heap.size]? = some (.cells #[.string sget, .int .i64 2, .int .i64 x2, .bool x3, .bool x4, .bool x5, .int .i64 x6, .int .i64 x7, .int .i64 x8, .int .i64 x9] 28)) := by rw [← hW2]; exact one_alloc w1 _
  have HB2 : Hid (Below w.heap.size w W2) := by rw [← hW2]; exact bel_to HB1.out ((Below.refl _ _).alloc (Nat.le_refl _) _) (Nat.le_refl _)
  rw [hW2]
  obtain ⟨SB, hSB⟩ : ∃ SB, w1.heap.size = SB := ⟨_, rfl⟩
  rw [hSB] at HS2 ⊢
  clear hW2 hSB
  go_wp2_with fail
  refine (show Calls _ _ _ _ _ from HK.out _ W2.heap.size (one_alloc W2 _)).mono ?_
  rintro e w3 ⟨⟨v, rfl, hrow⟩, hb3⟩
  have HR3 : Hid (SRow w3 v sAB) := hrow
  have HB3 : Hid (Below w.heap.size w w3) := bel_to (bel_to HB2.out ((Below.refl _ _).alloc (Nat.le_refl _) _) (Nat.le_refl _)) hb3 (Nat.le_refl _)
  obtain ⟨c0, c1, c2, c3, c4, c5, c6, c7, c8, c9, cf⟩ := row10 (keep_row (keep_row HS2.out ((Below.refl _ _).alloc (Nat.le_refl _) _)) hb3)
  obtain ⟨PV, kv, hfv⟩ := hrow.form
  subst hfv
  clear hb3 hrow
  go_wp2_with fail
  refine (show Calls _ _ _ _ _ from HN.out _ _).mono ?_
  rintro e wx ⟨rfl, rfl⟩
  have HBA : Hid (Below wx.heap.size wx (wx.alloc (.cells (sv sAB).toArray 9))) := (Below.refl _ _).alloc (Nat.le_refl _) _
  have HS4 : Hid _ := same_any (.slice PV 2 kv) (.slice (some ⟨wx.heap.size, 0, none⟩) 2 2) sAB sAB (by decide) (by decide) (wx.alloc (.cells (sv sAB).toArray 9)) (HR3.out.on HBA.out) (srow_of sAB (one_alloc wx _))
  go_wp2_with fail
  refine (show Calls _ _ _ _ _ from HS4.out).mono ?_
  rintro e w5 ⟨⟨b, rfl, hb⟩, k, hw5⟩
  have hbt : b = true := hb.2 (by first | trivial | rfl)
  subst hbt
  have HB5 : Hid (Below w.heap.size w w5) := by rw [hw5]; exact below_dn (bel_to HB3.out HBA.out (Nat.le_refl _)) k
  clear hb hw5 c0 c1 c2 c3 c4 c5 c6 c7 c8 c9 cf
  go_wp2_with fail
  refine (show Calls _ _ _ _ _ from HC.out _ w5.heap.size (one_alloc w5 _)).mono ?_
  rintro e w6 ⟨rfl, hb6⟩
  have HB6 : Hid (Below w.heap.size w w6) := bel_to (bel_to HB5.out ((Below.refl _ _).alloc (Nat.le_refl _) _) (Nat.le_refl _)) hb6 (Nat.le_refl _)
  clear hb6
  go_wp2_with fail
  refine (show Calls _ _ _ _ _ from HN.out _ _).mono ?_
  rintro e wy ⟨rfl, rfl⟩
  go_wp2
  go_returns
  exact ⟨rfl, HB6.out⟩
end Go.Proofs.Ytnnpnccnpojfmaa
