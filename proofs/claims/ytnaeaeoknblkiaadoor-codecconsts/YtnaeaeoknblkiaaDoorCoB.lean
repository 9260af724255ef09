import Derived.Test.YtnaeaeoknblkiaaDoorCoA
import Derived.Deep.Cut
import Derived.Deep.RegionWith
namespace Go.Proofs.YtnaeaeoknblkiaaDoor
open Go.RowKit
set_option linter.unusedVariables false
set_option linter.unusedSimpArgs false
def MetP (e : Ending) : Prop := ∃ v, e = .returned (.iface 41 v)
set_option maxHeartbeats 1000000 in
theorem met_any (s : ByteArray) (w : World) : Calls Tryd.prog 9 #[.string s, .int .i64 210] w fun e w' => MetP e ∧ Below w.heap.size w w' := by
  go_enter Tryd.func9, Tryd.ntmps9
  go_wp2
  go_returns
  exact ⟨⟨_, rfl⟩, Below.refl _ _⟩
/-- What layoutOf answers. -/
def LofP (t : Int) (e : Ending) : Prop := (∃ i, i < 9 ∧ typAt i = t ∧ (∀ k, k < i → typAt k ≠ t) ∧ e = .returned (.tuple #[.agg (rowC i), .nilIface])) ∨ ((∀ k, k < 9 → typAt k ≠ t) ∧ ∃ v, e = .returned (.tuple #[.agg zR, .iface 41 v]))
set_option maxHeartbeats 4000000 in
set_option maxRecDepth 20000 in
theorem layoutOf_any (t : Int) (w : World) (hl : Lay w) : Calls Tryd.prog 7 #[.int .i64 t] w fun e w' => LofP t e ∧ Below w.heap.size w w' := by
  have HL : Hid (Lay w) := hl
  clear hl
  obtain ⟨Z, hZ⟩ : ∃ Z, Z = zR := ⟨_, rfl⟩
  have HZ : Hid (Z = zR) := hZ
  have HZS : Hid (Z.size = 6) := by show _ = _; rw [hZ]; rfl
  have HZ1 : Hid (Z.all (·.oneCell') = true) := by show _ = _; rw [hZ]; kernel_rfl
  obtain ⟨L, hL⟩ : ∃ L, L = Lc := ⟨_, rfl⟩
  have HLC : Hid (L = Lc) := hL
  clear hZ hL
  go_enter Tryd.func7, Tryd.ntmps7
  go_upto_region 1 with (refine alR rfl rfl Z HZ.out ?_)
  obtain ⟨W0, hW0⟩ : ∃ W0, w.alloc (.cells Z 27) = W0 := ⟨_, rfl⟩
  obtain ⟨R, hR⟩ : ∃ R, w.heap.size = R := ⟨_, rfl⟩
  have HR0 : Hid (W0.heap[R]? = some (.cells Z 27)) := by show _ = _; rw [← hW0, ← hR]; exact one_alloc _ _
  have HB0 : Hid (Below w.heap.size w W0) := by show Below _ _ _; rw [← hW0]; exact (Below.refl _ _).alloc (Nat.le_refl _) _
  have HL0 : Hid (Lay W0) := HL.out.on HB0.out
  have HRR : Hid (w.heap.size = R) := hR
  have HWR : Hid (R < W0.heap.size) := row_lt HR0.out
  rw [hW0, hR]
  clear hW0 hR
  go_wp2_with (first
    | (refine ldL L HLC.out _ rfl rfl rfl HL0.out ?_)
    | go_in)
  go_loopw [7] (fun ci wr => ∃ j : Nat, j ≤ 9 ∧ ci = .int .i64 (j : Int) ∧ (∀ k, k < j → typAt k ≠ t) ∧ Below W0.heap.size W0 wr) (fun ci _ => 9 - (intOf ci).toNat)
  case atStart => exact ⟨0, Nat.zero_le _, rfl, fun k hk => absurd hk (Nat.not_lt_zero _), Below.refl _ _⟩
  case round =>
    obtain ⟨j, hj, rfl, hno, hbj⟩ := hrel
    have HNO : Hid (∀ k, k < j → typAt k ≠ t) := hno
    have HBJ : Hid (Below W0.heap.size W0 wr) := hbj
    clear hno hbj
    by_cases hlt : j < 9
    · have HLT : Hid (j < 9) := hlt
      have hz1 : (j : Int) < 9 := by omega
      have hjw : IntKind.i64.wrap ((j : Int) + 1) = (j : Int) + 1 := by rw [IntKind.wrap_i64] <;> omega
      obtain ⟨C, hC⟩ : ∃ C, C = rowC j := ⟨_, rfl⟩
      have HC : Hid (C = rowC j) := hC
      have HCS : Hid (C.size = 6) := by show _ = _; rw [hC]; exact rowC_size j hlt
      have HC1 : Hid (C.all (·.oneCell') = true) := by show _ = _; rw [hC]; exact rowC_one j hlt
      have HCT : Hid (C[0]? = some (.int .i64 (typAt j))) := by show _ = _; rw [hC]; exact (rowC_typ j hlt).1
      clear hC hj hlt
      go_upto_region 4 with (first
        | (refine ixR L HLC.out j HLT.out C HC.out _ _ rfl rfl rfl rfl ?_)
        | (refine alR rfl rfl Z HZ.out ?_)
        | (refine stR rfl _ _ rfl wr.heap.size C Z rfl rfl HCS.out HC1.out HZS.out (one_alloc _ _) ?_; intro Wo hro hoo))
      have hbo : Below wr.heap.size wr Wo := ((Below.refl _ wr).alloc (Nat.le_refl _) _).trans (hoo.below (Nat.le_refl _))
      have HBO : Hid (Below W0.heap.size W0 Wo) := HBJ.out.trans (hbo.mono HBJ.out.size)
      obtain ⟨S, hS⟩ : ∃ S, wr.heap.size = S := ⟨_, rfl⟩
      have HSS : Hid (wr.heap.size = S) := hS
      rw [hS] at hro
      rw [hS]
      have HRO : Hid (Wo.heap[S]? = some (.cells C 27)) := hro
      have x0 : Wo.cell? ⟨S, 0, none⟩ = some (.int .i64 (typAt j)) := by rw [cellC hro]; exact HCT.out
      have HR1 : Hid (Wo.heap[R]? = some (.cells Z 27)) := (HBO.out.block R HWR.out).trans HR0.out
      clear hbo hoo hro hS
      obtain ⟨ty, hty⟩ : ∃ ty, typAt j = ty := ⟨_, rfl⟩
      rw [hty] at x0
      have HTY : Hid (typAt j = ty) := hty
      clear hty
      by_cases he : ty = t
      · subst he
        go_wp2_with (first
          | (refine ldR C S _ rfl rfl rfl HRO.out HCS.out ?_)
          | (refine stR rfl _ _ rfl R C Z rfl rfl HCS.out HC1.out HZS.out HR1.out ?_; intro W2 hr2 ho2)
          | go_in)
        have hlv := run_loadVar_mid (P := Tryd.prog) W2 R 0 27 C.toList _ (fun j v hv => by rw [cellC hr2, Nat.zero_add]; simpa using hv) Tryd.underlying27 rfl (by rw [Array.length_toList, HCS.out]; exact szR)
        rw [Array.toArray_toList] at hlv
        refine bodyPost_ret (v := .tuple #[.agg C, .nilIface]) (by simp [results, Tryd.results7, asAddr, hlv, Result.andThen]) rfl ⟨?_, ?_⟩
        · exact Or.inl ⟨j, HLT.out, HTY.out, HNO.out, by rw [HC.out]⟩
        · have hb2 : Below w.heap.size w Wo := HB0.out.trans (HBO.out.mono HB0.out.size)
          exact hb2.trans (ho2.below (by rw [HRR.out]; exact Nat.le_refl _))
      · have n0 : (ty == t) = false := by simpa using he
        have HNN : Hid (∀ k, k < j + 1 → typAt k ≠ t) := fun k hk => by
          by_cases hkj : k = j
          · rw [hkj, HTY.out]; exact he
          · exact HNO.out k (by omega)
        clear he
        go_wp2
        go_roundw
        case rel => exact ⟨j + 1, HLT.out, rfl, HNN.out, HBO.out⟩
        case measure => have := HLT.out; simp [intOf]; omega
    · have hq : j = 9 := by omega
      subst hq
      have HM : Hid (Calls Tryd.prog 9 #[.string ⟨#[116, 104, 101, 32, 116, 121, 112, 101]⟩, .int .i64 210] wr fun e w' => MetP e ∧ Below wr.heap.size wr w') := met_any _ wr
      clear hlt hj
      go_wp2_with fail
      refine (show Calls _ _ _ _ _ from HM.out).mono ?_
      rintro e w3 ⟨⟨v, rfl⟩, hb3⟩
      have HB3 : Hid (Below W0.heap.size W0 w3) := HBJ.out.trans (hb3.mono HBJ.out.size)
      have HR3 : Hid (w3.heap[R]? = some (.cells Z 27)) := (HB3.out.block R HWR.out).trans HR0.out
      clear HM hb3
      have HZZ : Hid (zR = Z) := HZ.out.symm
      go_wp2_with (first
        | (refine stR rfl _ _ rfl R zR Z rfl rfl rfl (by kernel_rfl) HZS.out HR3.out ?_; intro W4 hr4 ho4)
        | go_in)
      have hlv := run_loadVar_mid (P := Tryd.prog) W4 R 0 27 zR.toList _ (fun j v hv => by rw [cellC hr4, Nat.zero_add]; simpa using hv) Tryd.underlying27 rfl szR
      rw [Array.toArray_toList] at hlv
      refine bodyPost_ret (v := .tuple #[.agg zR, .iface 41 v]) (by simp [results, Tryd.results7, asAddr, hlv, Result.andThen]) rfl ⟨?_, ?_⟩
      · exact Or.inr ⟨HNO.out, v, rfl⟩
      · have hb2 : Below w.heap.size w w3 := HB0.out.trans (HB3.out.mono HB0.out.size)
        exact hb2.trans (ho4.below (by rw [HRR.out]; exact Nat.le_refl _))
set_option maxHeartbeats 4000000 in
set_option maxRecDepth 20000 in
theorem Kind_any (t : Int) (w : World) (hl : Lay w) : Calls Tryd.prog 4 #[.int .i64 t] w fun e w' => e = .returned (.int .i64 (kindF t)) ∧ Below w.heap.size w w' := by
  have HLO : Hid _ := layoutOf_any t w hl
  clear hl
  obtain ⟨Z, hZ⟩ : ∃ Z, Z = zR := ⟨_, rfl⟩
  have HZ : Hid (Z = zR) := hZ
  have HZS : Hid (Z.size = 6) := by show _ = _; rw [hZ]; rfl
  have HZ1 : Hid (zR.all (·.oneCell') = true) := by show _ = _; kernel_rfl
  clear hZ
  go_enter Tryd.func4, Tryd.ntmps4
  go_wp2_with fail
  refine (show Calls _ _ _ _ _ from HLO.out).mono ?_
  rintro e w1 ⟨hp, hb⟩
  have HB : Hid (Below w.heap.size w w1) := hb
  clear hb HLO
  rcases hp with ⟨i, hi, hty, hno, rfl⟩ | ⟨hno, v, rfl⟩
  · have HK : Hid (kindF t = kinAt i) := kind_at i hi t hno hty
    obtain ⟨C, hC⟩ : ∃ C, C = rowC i := ⟨_, rfl⟩
    have HCS : Hid (C.size = 6) := by show _ = _; rw [hC]; exact rowC_size i hi
    have HC1 : Hid (C.all (·.oneCell') = true) := by show _ = _; rw [hC]; exact rowC_one i hi
    have HCT : Hid (C[1]? = some (.int .i64 (kinAt i))) := by show _ = _; rw [hC]; exact (rowC_typ i hi).2
    rw [← hC]
    clear hC hi hty hno
    go_upto_region 2 with (first
      | (refine alR rfl rfl Z HZ.out ?_)
      | (refine stR rfl _ _ rfl w1.heap.size C Z rfl rfl HCS.out HC1.out HZS.out (one_alloc _ _) ?_; intro Wo hro hoo))
    have x1 : Wo.cell? ⟨w1.heap.size, 1, none⟩ = some (.int .i64 (kinAt i)) := by rw [cellC hro]; exact HCT.out
    have HBO : Hid (Below w.heap.size w Wo) := HB.out.trans ((((Below.refl _ w1).alloc (Nat.le_refl _) _).trans (hoo.below (Nat.le_refl _))).mono HB.out.size)
    clear hro hoo
    go_wp2
    go_returns
    exact ⟨by rw [HK.out]; rfl, HBO.out⟩
  · have HK : Hid (kindF t = 0) := kind_none t hno
    clear hno
    go_upto_region 2 with (first
      | (refine alR rfl rfl Z HZ.out ?_)
      | (refine stR rfl _ _ rfl w1.heap.size zR Z rfl rfl rfl HZ1.out HZS.out (one_alloc _ _) ?_; intro Wo hro hoo))
    have HBO : Hid (Below w.heap.size w Wo) := HB.out.trans ((((Below.refl _ w1).alloc (Nat.le_refl _) _).trans (hoo.below (Nat.le_refl _))).mono HB.out.size)
    clear hro hoo
    go_wp2
    go_returns
    exact ⟨by rw [HK.out]; rfl, HBO.out⟩
end Go.Proofs.YtnaeaeoknblkiaaDoor
