import Derived.Test.YtgbplghokciimaaDoorQA
import Derived.Deep.RegionHeld3
import Derived.Deep.RegionLaw
namespace Go.Proofs.YtgbplghokciimaaDoor.S
open Go.RowKit
set_option linter.unusedVariables false
theorem grown_cell {W W' : World} {o : Option Nat} (h : W.grownBy W' o) {b i : Nat} {v : Value} (hc : W.cell? ⟨b, i, none⟩ = some v) (hn : o ≠ some b) : W'.cell? ⟨b, i, none⟩ = some v :=
  (World.cell?_of_block (a := ⟨b, i, none⟩) (h.block b (lt_of_cell hc) (fun e => hn e.symm))).trans hc
theorem sblk_setH_mem {g : Nat} {S : SkS} {v : Value} {H : Nat} {q : Nat} (h : q ∈ sblk g S) (hn : q ∉ S.hv.ownBlock.toList) : q ∈ sblk g (S.setH v H) := by
  unfold sblk at h ⊢
  simp only [List.mem_cons, List.mem_append] at h ⊢
  rcases h with h | h | h | h
  · exact Or.inl h
  · exact Or.inr (Or.inl h)
  · exact absurd h hn
  · exact Or.inr (Or.inr (Or.inr h))
theorem raise_next {W W' : World} {g : Nat} {S : SkS} {v : Value} {H k' : Nat} {C : Nat → Nat} {pv : Nat → Option Nat} {Q : Option Addr} (h : Sk W g (S.setH v H) C S.T.length (lnk S.hb S.T) pv) (htop : ∀ x ∈ hts S.T, x ≤ H) (hown : W'.ownsRow 0 151 2 (.slice Q (H + 1) k') (H + 1) (flat2 (lnk S.hb S.T 0) H ++ [.pointer none, .int .i64 ((S.T.length : Int) + 1)])) (hg : W.grownBy W' v.ownBlock) (hl : (Value.slice Q (H + 1) k').ownBlock = v.ownBlock ∨ (Value.slice Q (H + 1) k').ownBlock = some W.heap.size) : Sk (W'.setCell ⟨S.hb, 3, none⟩ (.slice Q (H + 1) k')) g (S.setH (.slice Q (H + 1) k') (H + 1)) C S.T.length (lnk S.hb S.T) pv ∧ Moved W (W'.setCell ⟨S.hb, 3, none⟩ (.slice Q (H + 1) k')) (sblk g (S.setH v H)) (sblk g (S.setH (.slice Q (H + 1) k') (H + 1))) ∧ lenOf (W'.setCell ⟨S.hb, 3, none⟩ (.slice Q (H + 1) k')) S.hb = H + 1 := by
  obtain ⟨q1, q2⟩ := h.grow htop hown hg (by
    rcases hl with e | e
    · exact Or.inl e
    · exact Or.inr ⟨_, Nat.le_refl _, e⟩)
  refine ⟨q1, q2, ?_⟩
  have c3 : (W'.setCell ⟨S.hb, 3, none⟩ (.slice Q (H + 1) k')).cell? ⟨S.hb, 3, none⟩ = some (.slice Q (H + 1) k') := by rw [q1.head.cell]; rfl
  unfold lenOf; rw [c3]
set_option maxHeartbeats 4000000 in
set_option maxRecDepth 100000 in
theorem raise_any (g : Nat) (S : SkS) (C : Nat → Nat) (pv : Nat → Option Nat) (high : Nat) (hh : high ≤ 24) (w : World) (h : Sk w g S C S.T.length (lnk S.hb S.T) pv) (htop : ∀ x ∈ hts S.T, x ≤ S.H) (hH : S.H ≤ 24) (hn : S.T.length ≤ 1099511627776) : Calls Tryd.prog 86 #[.pointer (some ⟨g, 0, none⟩), .int .i64 (high : Int)] w fun e w' => e = .returned (.tuple #[]) ∧ ∃ v, Sk w' g (S.setH v (max S.H high)) C S.T.length (lnk S.hb S.T) pv ∧ Moved w w' (sblk g S) (sblk g (S.setH v (max S.H high))) := by
  have HS : Hid (Sk w g S C S.T.length (lnk S.hb S.T) pv) := h
  have HT : Hid (∀ x ∈ hts S.T, x ≤ S.H) := htop
  clear h htop
  go_enter Tryd.func86, Tryd.ntmps86
  go_wp2
  go_loopw [] (fun wr => ∃ v H', S.H ≤ H' ∧ H' ≤ max S.H high ∧ Sk wr g (S.setH v H') C S.T.length (lnk S.hb S.T) pv ∧ Moved w wr (sblk g S) (sblk g (S.setH v H'))) (fun wr => high - lenOf wr S.hb)
  case atStart => exact ⟨S.hv, S.H, Nat.le_refl _, by omega, HS.out, Moved.refl _ _⟩
  case round =>
    obtain ⟨v, H', h1, h2, hsk, hmv⟩ := hrel
    have HSK : Hid (Sk wr g (S.setH v H') C S.T.length (lnk S.hb S.T) pv) := hsk
    have HMV : Hid (Moved w wr (sblk g S) (sblk g (S.setH v H'))) := hmv
    obtain ⟨P, kk, hf⟩ := hsk.hrow.form
    have hf : v = .slice P H' kk := hf
    subst hf
    have c2 : wr.cell? ⟨g, 2, none⟩ = some (.pointer (some ⟨S.hb, 0, none⟩)) := by rw [hsk.brd.cell]; rfl
    have c27 : wr.cell? ⟨g, 27, none⟩ = some (.int .i64 (S.T.length : Int)) := by rw [hsk.brd.cell]; rfl
    have c3 : wr.cell? ⟨S.hb, 3, none⟩ = some (.slice P H' kk) := by rw [hsk.head.cell]; rfl
    have f3 : wr.frozen? ⟨S.hb, 3, none⟩ = false := hsk.head.frozen 3
    have HLO : Hid (lenOf wr S.hb = H') := by
      show _ = _
      unfold lenOf; rw [c3]
    by_cases hlt : H' < high
    · have hzn : IntKind.i64.wrap ((S.T.length : Int) + 1) = (S.T.length : Int) + 1 := by rw [IntKind.wrap_i64] <;> omega
      have hl1 : (H' : Int) < (high : Int) := by omega
      obtain ⟨W1, hW1⟩ : ∃ W1, W1 = (wr.alloc (.cells #[.pointer none, .int .i64 ((S.T.length : Int) + 1)] 151)).drew := ⟨_, rfl⟩
      have hbd : Below wr.heap.size wr W1 := by rw [hW1]; exact ((Below.refl _ wr).alloc (Nat.le_refl _) _).drew
      have hs1 := hsk.below hbd
      have HS1 : Hid (Sk W1 g (S.setH (.slice P H' kk) H') C S.T.length (lnk S.hb S.T) pv) := hs1
      have HBD : Hid (Below wr.heap.size wr W1) := hbd
      have HB1 : Hid (W1.heap[wr.heap.size]? = some (.cells #[.pointer none, .int .i64 ((S.T.length : Int) + 1)] 151)) := by
        show W1.heap[wr.heap.size]? = _
        rw [hW1]; exact one_alloc wr _
      have HOW : Hid (W1.ownsRow 0 151 2 (.slice P H' kk) H' (flat2 (lnk S.hb S.T 0) H')) := hs1.hrow
      have e2 := cell_on c2 hbd
      have e27 := cell_on c27 hbd
      have e3 := cell_on c3 hbd
      have ef : W1.frozen? ⟨S.hb, 3, none⟩ = false := hs1.head.frozen 3
      have HNB : Hid ((Value.slice P H' kk).ownBlock ≠ some g ∧ (Value.slice P H' kk).ownBlock ≠ some S.hb) := ⟨fun e => hs1.hrow.ne e hs1.brd (by decide) rfl, fun e => hs1.hrow.ne e hs1.head (by decide) rfl⟩
      have HGH : Hid (g ≠ S.hb) := hs1.brd.ne hs1.head (by decide)
      have hSA := And.intro c2 c27
      have hSB := And.intro e2 e27
      have HFZ : Hid (∀ W' : World, W1.grownBy W' (Value.slice P H' kk).ownBlock → W'.frozen? ⟨S.hb, 3, none⟩ = false) := fun W' hg => (hs1.head.to (hg.block _ hs1.head.lt (fun e => HNB.out.2 e.symm))).frozen 3
      clear hsk hmv hbd hs1 e2 e27 e3 ef
      have hhl : S.hb < wr.heap.size := lt_of_cell c3
      have hgl : g < wr.heap.size := lt_of_cell c2
      rw [hW1] at HB1 HOW
      clear hSA hSB
      go_upto_region 1 with fail
      go_region_law (refine step_append_lk rfl _ _ rfl (.slice P H' kk) H' _ (by simp [Act.eval]) HOW.out wr.heap.size none _ (by simp [Act.eval]) HB1.out (by omega) ?_; intro v2 w2 ho2 hg2 hl2; rw [← hW1] at hg2 hl2; obtain ⟨P2, k2, hf2⟩ := own_form ho2; subst hf2; have g2 := grown_cell hg2 (cell_on c2 HBD.out) HNB.out.1; have g3 := grown_cell hg2 (cell_on c3 HBD.out) HNB.out.2; have gf := HFZ.out w2 hg2)
      all_goals
        have HG2 : Hid (W1.grownBy w2 (Value.slice P H' kk).ownBlock) := hg2
        have HL2 : Hid _ := hl2
        have HO2 : Hid (w2.ownsRow 0 151 2 (.slice P2 (H' + 1) k2) (H' + 1) (flat2 (lnk S.hb S.T 0) H' ++ [.pointer none, .int .i64 ((S.T.length : Int) + 1)])) := ho2
        have HNX : Hid _ := raise_next HS1.out (fun x hx => Nat.le_trans (HT.out x hx) h1) HO2.out HG2.out hl2
        clear hg2 hl2 ho2
        go_wp2
        go_roundw
        case rel => exact ⟨_, H' + 1, by omega, by omega, HNX.out.1, HMV.out.trans ((Moved.of_below HBD.out).trans HNX.out.2.1)⟩
        case measure => first | (rw [HNX.out.2.2, HLO.out]; omega) | (simp only [HLO.out]; rw [HNX.out.2.2]; omega)
    · have hl1 : ¬ (H' : Int) < (high : Int) := by omega
      have : H' = max S.H high := by omega
      subst this
      clear hsk hmv
      go_wp2
      go_returns
      exact ⟨rfl, _, HSK.out, HMV.out⟩
end Go.Proofs.YtgbplghokciimaaDoor.S
