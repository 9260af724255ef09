import Derived.Test.YtgbplghokciimaaDoorSpB
import Derived.Test.YtgbplghokciimaaDoorOpnC
namespace Go.Proofs.YtgbplghokciimaaDoor.I
open Go.RowKit
set_option linter.unusedVariables false
theorem sel_pick (T : List Tw) (back : Bool) (r c : Nat) : selE T (wkL back T.length r c) = pick (ens T) back r c := by
  unfold selE wkL pick trn
  rw [List.map_map, ens_len]
  rfl
set_option maxHeartbeats 2000000 in
set_option maxRecDepth 100000 in
theorem ByScore_any (g : Nat) (S : SkS) (N : Nat) (lo hi : SBd) (back : Bool) (skip most : Int) (hsk : i64B skip) (hmo : i64B most) (w : World) (h : Bd w g S N) (hN : N ≤ 1000000) : Calls Tryd.prog 21 #[.pointer (some ⟨g, 0, none⟩), bdV lo, bdV hi, .bool back, .int .i64 skip, .int .i64 most] w fun e w' => ∃ r, e = .returned r ∧ w'.ownsRow w.heap.size 39 3 r (cutE (turnE (rngS (ens S.T) lo hi) back) skip most).length (flatV (cutE (turnE (rngS (ens S.T) lo hi) back) skip most)) ∧ Below w.heap.size w w' := by
  have hbr := h.brd
  have hlen := h.len
  have hk1 := kLo_le (ens S.T) lo
  have hk2 := kHi_le (ens S.T) hi
  obtain ⟨s, hs⟩ : ∃ s : Nat, max skip 0 = (s : Int) := ⟨(max skip 0).toNat, by omega⟩
  have HCP : Hid (∀ cc, cc = (if most < 0 then kHi (ens S.T) hi - kLo (ens S.T) lo - s else min (kHi (ens S.T) hi - kLo (ens S.T) lo - s) most.toNat) → cutE (turnE (rngS (ens S.T) lo hi) back) skip most = pick (ens S.T) back ((if back then S.T.length - kHi (ens S.T) hi else kLo (ens S.T) lo) + s) cc) := fun cc hcc => by
    rw [rngS_eq hbr, cut_pick (ens S.T) (kLo (ens S.T) lo) (kHi (ens S.T) hi) hk2 back skip most s cc hs hcc, ens_len]
  rw [ens_len] at hk1 hk2
  obtain ⟨l0, l1, l2⟩ := lo
  obtain ⟨h0, h1, h2⟩ := hi
  obtain ⟨W0, hW0⟩ : ∃ W0, W0 = (w.alloc (.cells #[.int .i64 l0, .int .i64 l1, .bool l2] 28)).alloc (.cells #[.int .i64 h0, .int .i64 h1, .bool h2] 28) := ⟨_, rfl⟩
  have hbW : Below w.heap.size w W0 := by
    rw [hW0]
    repeat (refine Below.alloc ?_ (by simp <;> omega) _)
    exact Below.refl _ _
  have HBW : Hid (Below w.heap.size w W0) := hbW
  have HBD : Hid (Bd w g S N) := h
  have HSP : Hid _ := span_any g S N (l0, l1, l2) (h0, h1, h2) W0 (h.below hbW) hN
  clear h hbW hbr
  generalize hK1 : kLo (ens S.T) (l0, l1, l2) = K1 at *
  generalize hK2 : kHi (ens S.T) (h0, h1, h2) = K2 at *
  obtain ⟨CL, hCL⟩ : ∃ CL, cutE (turnE (rngS (ens S.T) (l0, l1, l2) (h0, h1, h2)) back) skip most = CL := ⟨_, rfl⟩
  rw [hCL] at HCP ⊢
  obtain ⟨n, hn⟩ : ∃ n, S.T.length = n := ⟨_, rfl⟩
  have HNL : Hid (S.T.length = n) := hn
  rw [hn] at hk1 hk2 hlen HCP
  have HSK : Hid (max skip 0 = (s : Int)) := hs
  have hmx : (if skip < 0 then (0 : Int) else skip) = (s : Int) := by split <;> omega
  have hmx2 : (if (0 : Int) < skip then skip else 0) = (s : Int) := by split <;> omega
  have hmx3 : max skip 0 = (s : Int) := hs
  have hw1 : IntKind.i64.wrap ((K2 : Int) - (K1 : Int)) = (K2 : Int) - (K1 : Int) := by rw [IntKind.wrap_i64] <;> omega
  clear hK1 hK2 hCL hn hs
  by_cases hc : (K2 : Int) - (K1 : Int) ≤ (s : Int)
  · have HCE : Hid (CL = []) := by
      have := HCP.out 0 (by split <;> omega)
      show _ = _
      rw [this]; rfl
    go_enter Tryd.func21, Tryd.ntmps21
    go_wp2_with fail
    rw [← hW0]
    clear hW0
    refine (show Calls _ _ _ _ _ from HSP.out).mono ?_
    rintro e w1 ⟨rfl, hb1⟩
    have HB1 : Hid (Below w.heap.size w w1) := bel_to HBW.out hb1 (Nat.le_refl _)
    clear hb1
    go_wp2
    go_returns
    refine ⟨_, rfl, ?_, HB1.out⟩
    rw [HCE.out]
    exact ⟨rfl, Or.inl ⟨rfl, rfl⟩⟩
  · have hgt : ¬ (K2 : Int) - (K1 : Int) ≤ (s : Int) := hc
    obtain ⟨D, hD⟩ : ∃ D : Nat, K2 - K1 - s = D := ⟨_, rfl⟩
    have hDi : (K2 : Int) - (K1 : Int) - (s : Int) = (D : Int) := by omega
    have hw2 : IntKind.i64.wrap ((K2 : Int) - (K1 : Int) - (s : Int)) = (D : Int) := by rw [IntKind.wrap_i64] <;> omega
    have hnn : S.T.length = n := HNL.out
    rw [hD] at HCP
    by_cases hm : most < 0 <;> cases back
    · have hge : ¬ (0 : Int) ≤ most := by omega
      have hcc : D = if most < 0 then D else min D most.toNat := by rw [if_pos hm]
      have HTK : Hid (∀ W, Below w.heap.size w W → Calls Tryd.prog 31 #[.pointer (some ⟨g, 0, none⟩), .int .i64 ((K1 + s : Nat) : Int), .int .i64 ((D : Nat) : Int), .bool false] W fun e w' => ∃ q, e = .returned (.slice (some ⟨q, 0, none⟩) D D) ∧ w'.ownsRow W.heap.size 39 3 (.slice (some ⟨q, 0, none⟩) D D) D (flatV (selE S.T (wkL false S.T.length (K1 + s) D))) ∧ Below W.heap.size W w') := fun W hW => take_any g (K1 + s) D false S N W (HBD.out.below hW) hN (by rw [HNL.out]; omega) (by rw [HNL.out]; omega)
      have HCE : Hid (CL = selE S.T (wkL false S.T.length (K1 + s) D)) := by
        show _ = _
        rw [sel_pick]
        exact HCP.out D hcc
      have HCL : Hid (CL.length = D) := by show _ = _; rw [HCE.out, selE_len]; unfold wkL; simp
      obtain ⟨F, hF⟩ : ∃ F : Nat, K1 + s = F := ⟨_, rfl⟩
      rw [hF] at HTK HCE
      have hw5 : IntKind.i64.wrap ((K1 : Int) + (s : Int)) = (F : Int) := by rw [IntKind.wrap_i64] <;> omega
      have hw6 : (K1 : Int) + (s : Int) = (F : Int) := by omega
      clear hF
      clear hcc
      go_enter Tryd.func21, Tryd.ntmps21
      go_wp2_with fail
      rw [← hW0]
      clear hW0
      refine (show Calls _ _ _ _ _ from HSP.out).mono ?_
      rintro e w1 ⟨rfl, hb1⟩
      have HB1 : Hid (Below w.heap.size w w1) := bel_to HBW.out hb1 (Nat.le_refl _)
      clear hb1
      go_wp2_with fail
      refine (show Calls _ _ _ _ _ from HTK.out _ HB1.out).mono ?_
      rintro e w5 ⟨q, rfl, ho5, hb5⟩
      have HB5 : Hid (Below w.heap.size w w5) := bel_to HB1.out hb5 (Nat.le_refl _)
      have HO5 : Hid (w5.ownsRow w.heap.size 39 3 (.slice (some ⟨q, 0, none⟩) D D) CL.length (flatV CL)) := by
        show World.ownsRow _ _ _ _ _ _ _
        rw [HCL.out, HCE.out]
        refine ⟨ho5.1, ?_⟩
        rcases ho5.2 with q | ⟨a1, a2, a3, a4, a5, a6⟩
        · exact Or.inl q
        · exact Or.inr ⟨a1, a2, a3, a4, Nat.le_trans HB1.out.size a5, a6⟩
      clear ho5 hb5
      go_wp2
      go_returns
      exact ⟨_, rfl, HO5.out, HB5.out⟩
    · have hge : ¬ (0 : Int) ≤ most := by omega
      have hcc : D = if most < 0 then D else min D most.toNat := by rw [if_pos hm]
      have HTK : Hid (∀ W, Below w.heap.size w W → Calls Tryd.prog 31 #[.pointer (some ⟨g, 0, none⟩), .int .i64 (((n - K2) + s : Nat) : Int), .int .i64 ((D : Nat) : Int), .bool true] W fun e w' => ∃ q, e = .returned (.slice (some ⟨q, 0, none⟩) D D) ∧ w'.ownsRow W.heap.size 39 3 (.slice (some ⟨q, 0, none⟩) D D) D (flatV (selE S.T (wkL true S.T.length ((n - K2) + s) D))) ∧ Below W.heap.size W w') := fun W hW => take_any g ((n - K2) + s) D true S N W (HBD.out.below hW) hN (by rw [HNL.out]; omega) (by rw [HNL.out]; omega)
      have HCE : Hid (CL = selE S.T (wkL true S.T.length ((n - K2) + s) D)) := by
        show _ = _
        rw [sel_pick]
        exact HCP.out D hcc
      have HCL : Hid (CL.length = D) := by show _ = _; rw [HCE.out, selE_len]; unfold wkL; simp
      have HLN : Hid _ := fun W hW => Len_any g S N W (HBD.out.below hW)
      rw [HNL.out] at HLN
      obtain ⟨M, hM⟩ : ∃ M : Nat, n - K2 = M := ⟨_, rfl⟩
      rw [hM] at HTK HCE
      obtain ⟨F, hF⟩ : ∃ F : Nat, M + s = F := ⟨_, rfl⟩
      rw [hF] at HTK HCE
      have hw4 : IntKind.i64.wrap ((n : Int) - (K2 : Int)) = (M : Int) := by rw [IntKind.wrap_i64] <;> omega
      have hw5 : IntKind.i64.wrap ((M : Int) + (s : Int)) = (F : Int) := by rw [IntKind.wrap_i64] <;> omega
      have hw6 : (M : Int) + (s : Int) = (F : Int) := by omega
      have hw7 : (n : Int) - (K2 : Int) = (M : Int) := by omega
      clear hM hF
      clear hcc
      go_enter Tryd.func21, Tryd.ntmps21
      go_wp2_with fail
      rw [← hW0]
      clear hW0
      refine (show Calls _ _ _ _ _ from HSP.out).mono ?_
      rintro e w1 ⟨rfl, hb1⟩
      have HB1 : Hid (Below w.heap.size w w1) := bel_to HBW.out hb1 (Nat.le_refl _)
      clear hb1
      go_wp2_with fail
      refine (show Calls _ _ _ _ _ from HLN.out _ HB1.out).mono ?_
      rintro e w3 ⟨rfl, hw3⟩
      have hw3' := hw3.symm
      subst hw3'
      go_wp2_with fail
      refine (show Calls _ _ _ _ _ from HTK.out _ HB1.out).mono ?_
      rintro e w5 ⟨q, rfl, ho5, hb5⟩
      have HB5 : Hid (Below w.heap.size w w5) := bel_to HB1.out hb5 (Nat.le_refl _)
      have HO5 : Hid (w5.ownsRow w.heap.size 39 3 (.slice (some ⟨q, 0, none⟩) D D) CL.length (flatV CL)) := by
        show World.ownsRow _ _ _ _ _ _ _
        rw [HCL.out, HCE.out]
        refine ⟨ho5.1, ?_⟩
        rcases ho5.2 with q | ⟨a1, a2, a3, a4, a5, a6⟩
        · exact Or.inl q
        · exact Or.inr ⟨a1, a2, a3, a4, Nat.le_trans HB1.out.size a5, a6⟩
      clear ho5 hb5
      go_wp2
      go_returns
      exact ⟨_, rfl, HO5.out, HB5.out⟩
    · have hge : (0 : Int) ≤ most := by omega
      obtain ⟨c, hc2⟩ : ∃ c, min D most.toNat = c := ⟨_, rfl⟩
      have hmn : min (D : Int) most = (c : Int) := by omega
      have hcc : c = if most < 0 then D else min D most.toNat := by rw [if_neg hm, hc2]
      have hcD : c ≤ D := by omega
      clear hc2
      have HTK : Hid (∀ W, Below w.heap.size w W → Calls Tryd.prog 31 #[.pointer (some ⟨g, 0, none⟩), .int .i64 ((K1 + s : Nat) : Int), .int .i64 ((c : Nat) : Int), .bool false] W fun e w' => ∃ q, e = .returned (.slice (some ⟨q, 0, none⟩) c c) ∧ w'.ownsRow W.heap.size 39 3 (.slice (some ⟨q, 0, none⟩) c c) c (flatV (selE S.T (wkL false S.T.length (K1 + s) c))) ∧ Below W.heap.size W w') := fun W hW => take_any g (K1 + s) c false S N W (HBD.out.below hW) hN (by rw [HNL.out]; omega) (by rw [HNL.out]; omega)
      have HCE : Hid (CL = selE S.T (wkL false S.T.length (K1 + s) c)) := by
        show _ = _
        rw [sel_pick]
        exact HCP.out c hcc
      have HCL : Hid (CL.length = c) := by show _ = _; rw [HCE.out, selE_len]; unfold wkL; simp
      obtain ⟨F, hF⟩ : ∃ F : Nat, K1 + s = F := ⟨_, rfl⟩
      rw [hF] at HTK HCE
      have hw5 : IntKind.i64.wrap ((K1 : Int) + (s : Int)) = (F : Int) := by rw [IntKind.wrap_i64] <;> omega
      have hw6 : (K1 : Int) + (s : Int) = (F : Int) := by omega
      clear hF
      clear hcc
      go_enter Tryd.func21, Tryd.ntmps21
      go_wp2_with fail
      rw [← hW0]
      clear hW0
      refine (show Calls _ _ _ _ _ from HSP.out).mono ?_
      rintro e w1 ⟨rfl, hb1⟩
      have HB1 : Hid (Below w.heap.size w w1) := bel_to HBW.out hb1 (Nat.le_refl _)
      clear hb1
      go_wp2_with fail
      refine (show Calls _ _ _ _ _ from HTK.out _ HB1.out).mono ?_
      rintro e w5 ⟨q, rfl, ho5, hb5⟩
      have HB5 : Hid (Below w.heap.size w w5) := bel_to HB1.out hb5 (Nat.le_refl _)
      have HO5 : Hid (w5.ownsRow w.heap.size 39 3 (.slice (some ⟨q, 0, none⟩) c c) CL.length (flatV CL)) := by
        show World.ownsRow _ _ _ _ _ _ _
        rw [HCL.out, HCE.out]
        refine ⟨ho5.1, ?_⟩
        rcases ho5.2 with q | ⟨a1, a2, a3, a4, a5, a6⟩
        · exact Or.inl q
        · exact Or.inr ⟨a1, a2, a3, a4, Nat.le_trans HB1.out.size a5, a6⟩
      clear ho5 hb5
      go_wp2
      go_returns
      exact ⟨_, rfl, HO5.out, HB5.out⟩
    · have hge : (0 : Int) ≤ most := by omega
      obtain ⟨c, hc2⟩ : ∃ c, min D most.toNat = c := ⟨_, rfl⟩
      have hmn : min (D : Int) most = (c : Int) := by omega
      have hcc : c = if most < 0 then D else min D most.toNat := by rw [if_neg hm, hc2]
      have hcD : c ≤ D := by omega
      clear hc2
      have HTK : Hid (∀ W, Below w.heap.size w W → Calls Tryd.prog 31 #[.pointer (some ⟨g, 0, none⟩), .int .i64 (((n - K2) + s : Nat) : Int), .int .i64 ((c : Nat) : Int), .bool true] W fun e w' => ∃ q, e = .returned (.slice (some ⟨q, 0, none⟩) c c) ∧ w'.ownsRow W.heap.size 39 3 (.slice (some ⟨q, 0, none⟩) c c) c (flatV (selE S.T (wkL true S.T.length ((n - K2) + s) c))) ∧ Below W.heap.size W w') := fun W hW => take_any g ((n - K2) + s) c true S N W (HBD.out.below hW) hN (by rw [HNL.out]; omega) (by rw [HNL.out]; omega)
      have HCE : Hid (CL = selE S.T (wkL true S.T.length ((n - K2) + s) c)) := by
        show _ = _
        rw [sel_pick]
        exact HCP.out c hcc
      have HCL : Hid (CL.length = c) := by show _ = _; rw [HCE.out, selE_len]; unfold wkL; simp
      have HLN : Hid _ := fun W hW => Len_any g S N W (HBD.out.below hW)
      rw [HNL.out] at HLN
      obtain ⟨M, hM⟩ : ∃ M : Nat, n - K2 = M := ⟨_, rfl⟩
      rw [hM] at HTK HCE
      obtain ⟨F, hF⟩ : ∃ F : Nat, M + s = F := ⟨_, rfl⟩
      rw [hF] at HTK HCE
      have hw4 : IntKind.i64.wrap ((n : Int) - (K2 : Int)) = (M : Int) := by rw [IntKind.wrap_i64] <;> omega
      have hw5 : IntKind.i64.wrap ((M : Int) + (s : Int)) = (F : Int) := by rw [IntKind.wrap_i64] <;> omega
      have hw6 : (M : Int) + (s : Int) = (F : Int) := by omega
      have hw7 : (n : Int) - (K2 : Int) = (M : Int) := by omega
      clear hM hF
      clear hcc
      go_enter Tryd.func21, Tryd.ntmps21
      go_wp2_with fail
      rw [← hW0]
      clear hW0
      refine (show Calls _ _ _ _ _ from HSP.out).mono ?_
      rintro e w1 ⟨rfl, hb1⟩
      have HB1 : Hid (Below w.heap.size w w1) := bel_to HBW.out hb1 (Nat.le_refl _)
      clear hb1
      go_wp2_with fail
      refine (show Calls _ _ _ _ _ from HLN.out _ HB1.out).mono ?_
      rintro e w3 ⟨rfl, hw3⟩
      have hw3' := hw3.symm
      subst hw3'
      go_wp2_with fail
      refine (show Calls _ _ _ _ _ from HTK.out _ HB1.out).mono ?_
      rintro e w5 ⟨q, rfl, ho5, hb5⟩
      have HB5 : Hid (Below w.heap.size w w5) := bel_to HB1.out hb5 (Nat.le_refl _)
      have HO5 : Hid (w5.ownsRow w.heap.size 39 3 (.slice (some ⟨q, 0, none⟩) c c) CL.length (flatV CL)) := by
        show World.ownsRow _ _ _ _ _ _ _
        rw [HCL.out, HCE.out]
        refine ⟨ho5.1, ?_⟩
        rcases ho5.2 with q | ⟨a1, a2, a3, a4, a5, a6⟩
        · exact Or.inl q
        · exact Or.inr ⟨a1, a2, a3, a4, Nat.le_trans HB1.out.size a5, a6⟩
      clear ho5 hb5
      go_wp2
      go_returns
      exact ⟨_, rfl, HO5.out, HB5.out⟩
end Go.Proofs.YtgbplghokciimaaDoor.I
