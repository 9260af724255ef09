import Derived.Test.YtgbplghokciimaaDoorQkI
import Derived.BigRegion
namespace Go.Proofs.YtgbplghokciimaaDoor.S
open Go.RowKit
set_option linter.unusedVariables false
theorem flat2_take (c : Nat → Lk) (h h' : Nat) (hh : h' ≤ h) : (flat2 c h).take (h' * 2) = flat2 c h' := by
  refine List.ext_getElem? (fun j => ?_)
  rw [List.getElem?_take, flat2_at, flat2_at]
  by_cases hj : j < h' * 2
  · rw [if_pos hj, if_pos (by omega), if_pos hj]
  · rw [if_neg hj, if_neg hj]
theorem Rw.cut {W : World} {P : Option Addr} {H H' kk : Nat} {c : Nat → Lk} (h : Rw W (.slice P H kk) H c) (hh : H' ≤ H) : Rw W (.slice P H' kk) H' c := by
  refine ⟨by rw [flat2_len], ?_⟩
  rcases h.2 with ⟨e, h0⟩ | ⟨g, cap, cur, e, h1, h2, h3, h4, h5, h6⟩
  · cases e
    have : H' = 0 := by omega
    subst this
    exact Or.inl ⟨rfl, rfl⟩
  · cases e
    refine Or.inr ⟨g, kk, cur, rfl, h1, h2, by omega, h4, h5, ?_⟩
    rw [← flat2_take c H H' hh, ← h6, List.take_take]
    congr 1
    omega
theorem Sk.lowered {W W' : World} {g : Nat} {S : SkS} {C : Nat → Nat} {n : Nat} {c : Nat → Nat → Lk} {pv : Nat → Option Nat} {P : Option Addr} {H' kk : Nat} (h : Sk W g S C n c pv) (hv : S.hv = .slice P S.H kk) (hh : H' ≤ S.H) (e : W' = W.setCell ⟨S.hb, 3, none⟩ (.slice P H' kk)) : Sk W' g (S.setH (.slice P H' kk) H') C n c pv ∧ Moved W W' (sblk g S) (sblk g (S.setH (.slice P H' kk) H')) := by
  have ho : Only W W' S.hb := by rw [e]; exact only_set _ _ _ _
  have hob : (Value.slice P H' kk).ownBlock = S.hv.ownBlock := by rw [hv]; cases P <;> rfl
  have hr := h.hrow
  rw [hv] at hr
  have hr2 := hr.cut hh
  refine ⟨⟨h.brd.to (ho.other _ (h.brd.ne h.head (by decide))), ?_, hr2.to (fun K hK => ho.other _ (fun e => hr2.ne hK h.head (by decide) e.symm)), fun i hi => (h.tow i hi).to (ho.other _ (h.neH hi)), fun i hi => (h.row i hi).to (fun K hK => ho.other _ (fun e => (h.row i hi).ne hK h.head (by decide) e.symm)), h.ndB, ?_⟩, ?_⟩
  · rw [e]; exact h.head.set 3 (.slice P H' kk)
  · show ((Value.slice P H' kk).ownBlock.toList ++ S.T.map Tw.k).Nodup
    rw [hob]; exact h.ndK
  · have : sblk g (S.setH (.slice P H' kk) H') = sblk g S := by
      unfold sblk
      show _ :: _ :: ((Value.slice P H' kk).ownBlock.toList ++ _) = _
      rw [hob]
    rw [this]
    exact Moved.only ho (by simp [sblk])
set_option maxHeartbeats 4000000 in
set_option maxRecDepth 100000 in
theorem lower_any (g : Nat) (S : SkS) (C : Nat → Nat) (n : Nat) (c : Nat → Nat → Lk) (pv : Nat → Option Nat) (w : World) (h : Sk w g S C n c pv) (hH : S.H ≤ 24) : Calls Tryd.prog 87 #[.pointer (some ⟨g, 0, none⟩)] w fun e w' => e = .returned (.tuple #[]) ∧ ∃ v H', H' ≤ S.H ∧ (H' = 0 ∨ C (H' - 1) ≠ 0) ∧ (∀ j, H' ≤ j → j < S.H → C j = 0) ∧ Sk w' g (S.setH v H') C n c pv ∧ Moved w w' (sblk g S) (sblk g (S.setH v H')) := by
  obtain ⟨P, kk, hf⟩ := h.hrow.form
  have HSK : Hid (Sk w g S C n c pv) := h
  have HF : Hid (S.hv = .slice P S.H kk) := hf
  have c2 : w.cell? ⟨g, 2, none⟩ = some (.pointer (some ⟨S.hb, 0, none⟩)) := by rw [h.brd.cell]; rfl
  have c3 : w.cell? ⟨S.hb, 3, none⟩ = some (.slice P S.H kk) := by rw [h.head.cell]; exact congrArg some hf
  have f3 : w.frozen? ⟨S.hb, 3, none⟩ = false := h.head.frozen 3
  have HC : Hid (∀ j, j < 24 → w.cell? ⟨g, 3 + j, none⟩ = some (.int .i64 (C j : Nat))) := fun j hj => by rw [h.brd.cell]; exact boardL_at _ _ _ _ _ _ hj
  have hkk : S.H ≤ kk := by
    have := h.hrow.2
    rw [hf] at this
    rcases this with ⟨e, h0⟩ | ⟨g', cap, cur, e, _, _, h3, _⟩
    · injection e with e1 e2 e3; omega
    · injection e with e1 e2 e3; omega
  clear h hf
  go_enter Tryd.func87, Tryd.ntmps87
  go_wp2
  go_loopw [2] (fun ch wr => wr = w ∧ ∃ hh : Nat, hh ≤ S.H ∧ ch = .int .i64 (hh : Int) ∧ ∀ j, hh ≤ j → j < S.H → C j = 0) (fun ch _ => (intOf ch).toNat)
  case atStart => exact ⟨rfl, S.H, Nat.le_refl _, rfl, fun j h1 h2 => by omega⟩
  case round =>
    obtain ⟨rfl, hh, hle, rfl, hz⟩ := hrel
    have HZ : Hid (∀ j, hh ≤ j → j < S.H → C j = 0) := hz
    clear hz
    have hhk : (hh : Int) ≤ (kk : Int) := by omega
    have hh0 : (0 : Int) ≤ (hh : Int) := by omega
    rcases Nat.eq_zero_or_pos hh with h0 | h0
    · subst h0
      go_upto_region 3 with fail
      go_region
      go_wp2
      go_returns
      obtain ⟨r1, r2⟩ := HSK.out.lowered (H' := 0) HF.out (Nat.zero_le _) rfl
      exact ⟨rfl, _, 0, Nat.zero_le _, Or.inl rfl, HZ.out, r1.to (fun q hq => rfl), r2.trans (Moved.of_below (Below.refl _ _).drew)⟩
    · obtain ⟨j, rfl⟩ : ∃ j, hh = j + 1 := ⟨hh - 1, by omega⟩
      have cj := HC.out j (by omega)
      have jw : IntKind.i64.wrap (((j + 1 : Nat) : Int) - 1) = (j : Int) := by rw [IntKind.wrap_i64] <;> omega
      have jb : (j : Int) < 24 := by omega
      have j0 : (0 : Int) ≤ (j : Int) := by omega
      have hp : (0 : Int) < ((j + 1 : Nat) : Int) := by omega
      by_cases hcz : C j = 0
      · have HCZ : Hid (C j = 0) := hcz
        rw [hcz] at cj
        clear hcz
        go_wp2
        go_roundw
        case rel => exact ⟨by trivial, j, by omega, by go_num, fun i h1 h2 => by
          rcases Nat.lt_or_ge j i with q | q
          · exact HZ.out i q h2
          · have : i = j := by omega
            rw [this]; exact HCZ.out⟩
        case measure => first | (simp [intOf]; done) | (simp [intOf]; omega)
      · have HCZ : Hid (C j ≠ 0) := hcz
        have cne : ¬ ((C j : Nat) : Int) = 0 := by omega
        generalize C j = cj0 at cj cne
        clear hcz
        go_upto_region 3 with fail
        go_region
        go_wp2
        go_returns
        obtain ⟨r1, r2⟩ := HSK.out.lowered (H' := j + 1) HF.out hle rfl
        exact ⟨rfl, _, j + 1, hle, Or.inr HCZ.out, HZ.out, r1.to (fun q hq => rfl), r2.trans (Moved.of_below (Below.refl _ _).drew)⟩
end Go.Proofs.YtgbplghokciimaaDoor.S
