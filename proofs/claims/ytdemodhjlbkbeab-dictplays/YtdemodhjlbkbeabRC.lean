import Derived.Test.YtdemodhjlbkbeabRB
import Derived.Deep.RegionWith
import Derived.Deep.CutRange
namespace Go.Proofs.Ytdemodhjlbkbeab
open Go.RowKit
set_option linter.unusedVariables false
theorem BV.same {W W' : World} {b0 : Nat} {bv : Value} {es : List Ent} (h : BV W b0 bv es) (hb : ∀ E, bv.ownBlock = some E → W'.heap[E]? = W.heap[E]?) : BV W' b0 bv es := by
  rcases h with h | ⟨E, c, rfl, h2, h3⟩
  · exact Or.inl h
  · exact Or.inr ⟨E, c, rfl, h2, h3.same (hb E rfl)⟩
theorem BV.lt {W : World} {b0 : Nat} {bv : Value} {es : List Ent} (h : BV W b0 bv es) (E : Nat) (he : bv.ownBlock = some E) : E < W.heap.size ∧ ∃ cur, W.heap[E]? = some (.cells cur 70) := by
  rcases h with ⟨rfl, _⟩ | ⟨E', c, rfl, h2, h3⟩
  · cases he
  · have : E' = E := by simpa [Value.ownBlock] using he
    subst this
    obtain ⟨cur, h4, _⟩ := h3.row
    exact ⟨h3.lt, cur, h4⟩
theorem BV.form {W : World} {b0 : Nat} {bv : Value} {es : List Ent} (h : BV W b0 bv es) : ∃ P l c, bv = .slice P l c := by
  rcases h with ⟨rfl, _⟩ | ⟨E, c, rfl, _⟩
  · exact ⟨_, _, _, rfl⟩
  · exact ⟨_, _, _, rfl⟩
/-- what an add or a drop does to memory: the dict's own cell row, the row of buckets, the bucket. -/
structure Touch (w w' : World) (g B : Nat) (bv : Value) : Prop where
  os : w'.os = w.os
  tape : w'.tape = w.tape
  output : w'.output = w.output
  size : w.heap.size ≤ w'.heap.size
  rest : ∀ q, q < w.heap.size → q ≠ g → q ≠ B → bv.ownBlock ≠ some q → w'.heap[q]? = w.heap[q]?
theorem Touch.of_below {w w' : World} {g B : Nat} {bv : Value} (h : Below w.heap.size w w') : Touch w w' g B bv := ⟨h.os, h.tape, h.output, h.size, fun q hq _ _ _ => h.block q hq⟩
theorem Touch.of_grown {w w' : World} {g B : Nat} {bv : Value} (h : w.grownBy w' bv.ownBlock) : Touch w w' g B bv := ⟨h.os, h.tape, h.output, h.size, fun q hq _ _ hn => h.block q hq (fun e => hn e.symm)⟩
theorem Touch.trans {a b c : World} {g B : Nat} {bv : Value} (h1 : Touch a b g B bv) (h2 : Touch b c g B bv) : Touch a c g B bv :=
  ⟨h2.os.trans h1.os, h2.tape.trans h1.tape, h2.output.trans h1.output, Nat.le_trans h1.size h2.size, fun q hq a1 a2 a3 => (h2.rest q (Nat.lt_of_lt_of_le hq h1.size) a1 a2 a3).trans (h1.rest q hq a1 a2 a3)⟩
theorem Touch.set {w w' : World} {g B : Nat} {bv : Value} (h : Touch w w' g B bv) (a : Addr) (v : Value) (ha : a.block = g ∨ a.block = B) : Touch w (w'.setCell a v) g B bv :=
  ⟨h.os, h.tape, h.output, by rw [World.size_setCell]; exact h.size, fun q hq a1 a2 a3 => (heap_setCell_other _ _ _ _ (by rcases ha with e | e <;> (rw [e]; assumption))).trans (h.rest q hq a1 a2 a3)⟩
set_option maxHeartbeats 8000000 in
set_option maxRecDepth 100000 in
theorem add_any (b0 g o B n i : Nat) (hn : 0 < n) (hn4 : n ≤ 4398046511104) (hi : i < n) (h : Int) (hh : bits .and .i64 h ((n : Int) - 1) = (i : Int)) (k : ByteArray) (v : Int) (bv : Value) (es : List Ent) (hr : Rising es) (hl : es.length ≤ 4398046511000) (cnt : Nat) (hcnt : cnt ≤ 4398046511104) (dc : Array Value) (bvs : Array Value) (w : World) (hb0 : b0 ≤ w.heap.size)
    (hg : w.heap[g]? = some (.cells dc 56)) (hc0 : dc[o]? = some (.slice (some ⟨B, 0, none⟩) n n)) (hc1 : dc[o + 1]? = some (.int .i64 (cnt : Int))) (hB : w.heap[B]? = some (.cells bvs 83)) (hbi : bvs[i]? = some bv) (hbk : BV w b0 bv es) :
    Calls Try.prog 33 #[.pointer (some ⟨g, o, none⟩), .int .i64 h, .agg #[.string k, .int .i64 v]] w fun e w' => e = .returned (.tuple #[]) ∧ ∃ bv', w'.heap[g]? = some (.cells (dc.setIfInBounds (o + 1) (.int .i64 ((cnt : Int) + 1))) 56) ∧ w'.heap[B]? = some (.cells (bvs.setIfInBounds i bv') 83) ∧ BV w' b0 bv' (insL es (lb es k) (k, v)) ∧ (∀ E, bv'.ownBlock = some E → bv.ownBlock = some E ∨ w.heap.size ≤ E) ∧ Touch w w' g B bv := by
  have HGB : Hid (g ≠ B) := fun e => by subst e; have := hg.symm.trans hB; simp at this
  have HEG : Hid (∀ E, bv.ownBlock = some E → E ≠ g ∧ E ≠ B ∧ E < w.heap.size) := fun E hE => by
    obtain ⟨h1, cur, h2⟩ := hbk.lt E hE
    refine ⟨fun e => ?_, fun e => ?_, h1⟩
    · subst e; have := hg.symm.trans h2; simp at this
    · subst e; have := hB.symm.trans h2; simp at this
  have hlb : lb es k ≤ es.length := (List.takeWhile_prefix _).length_le
  have HPL : Hid (∀ W, Below w.heap.size w W → Calls Try.prog 54 #[.pointer (some ⟨g, o, none⟩), .int .i64 h, .string k] W fun e w' => e = .returned (.tuple #[.int .i64 (i : Int), .int .i64 (lb es k : Nat), .bool (hit es k)]) ∧ Below W.heap.size W w') := fun W hW =>
    place_any g o B n i hn hn4 hi h hh k bv es hr (by omega) W (by rw [cell_of_row _ _ _ _ _ _ (keep_row hg hW)]; exact hc0) (by rw [cell_of_row _ _ _ _ _ _ (keep_row hB hW)]; exact hbi) (hbk.same (fun E hE => hW.block E (HEG.out E hE).2.2)).bkt
  have HIN : Hid (∀ X W, Below w.heap.size w W → w.heap.size ≤ X → W.heap[X]? = some (.cells #[.string k, .int .i64 v] 70) → Calls Try.prog 55 #[bv, .int .i64 (lb es k : Nat), .slice (some ⟨X, 0, none⟩) 1 1] W fun r w' => ∃ bv', r = .returned bv' ∧ Became W w' b0 bv bv' (insL es (lb es k) (k, v))) := fun X W hW hX1 hX2 =>
    ins_any b0 X (lb es k) (k, v) bv es (by omega) hlb W (Nat.le_trans hb0 hW.size) (hbk.same (fun E hE => hW.block E (HEG.out E hE).2.2)) (fun E hE => by have := (HEG.out E hE).2.2; omega) hX2
  have HC0 : Hid _ := hc0
  have HC1 : Hid _ := hc1
  have HBI : Hid _ := hbi
  have HG : Hid _ := hg
  have HB : Hid _ := hB
  have HX : Hid _ := one_alloc w (.cells #[.string k, .int .i64 v] 70)
  obtain ⟨W0, hW0⟩ : ∃ W0, W0 = w.alloc (.cells #[.string k, .int .i64 v] 70) := ⟨_, rfl⟩
  have HBL : Hid (Below w.heap.size w W0) := by rw [hW0]; exact (Below.refl _ w).alloc (Nat.le_refl _) _
  rw [← hW0] at HX
  generalize insL es (lb es k) (k, v) = ES at *
  generalize lb es k = L at *
  generalize hit es k = T at *
  have hz0 : (0 : Int) ≤ (i : Int) := by omega
  have hz1 : (i : Int) < (n : Int) := by omega
  clear hg hB hbk hr hbi hc0 hc1
  go_enter Try.func33, Try.ntmps33
  go_upto_region 1 with fail
  rw [← hW0]
  clear hW0
  obtain ⟨x0, x1, xf⟩ := row2 HX.out
  go_wp2_with fail
  refine (show Calls _ _ _ _ _ from HPL.out _ HBL.out).mono ?_
  rintro e w1 ⟨rfl, hb1⟩
  have HBL1 : Hid (Below w.heap.size w w1) := bel_to HBL.out hb1 (Nat.le_refl _)
  have HX1 : Hid _ := keep_row HX.out hb1
  have HG1 : Hid _ := keep_row HG.out HBL1.out
  have HB1 : Hid _ := keep_row HB.out HBL1.out
  clear hb1 x0 x1 xf
  go_upto_region 2 with fail
  go_cut [6] from 18 to 34 (fun sv wx => sv = .int .i64 (i : Int) ∧ ∃ bv', wx.heap[g]? = some (.cells dc 56) ∧ wx.heap[B]? = some (.cells (bvs.setIfInBounds i bv') 83) ∧ BV wx b0 bv' ES ∧ (∀ E, bv'.ownBlock = some E → bv.ownBlock = some E ∨ w.heap.size ≤ E) ∧ Touch w wx g B bv)
  case first =>
    have hgl := row_lt HG.out
    have hBl := row_lt HB.out
    have HT : Hid (Calls Try.prog 55 #[bv, .int .i64 (L : Int), .slice (some ⟨w1.heap.size, 0, none⟩) 1 1] (w1.alloc (.cells #[.string k, .int .i64 v] 70)).drew fun r w' => ∃ P2 l2 c2, r = .returned (.slice P2 l2 c2) ∧ w'.heap[g]? = some (.cells dc 56) ∧ w'.heap[B]? = some (.cells bvs 83) ∧ BV w' b0 (.slice P2 l2 c2) ES ∧ (∀ E, (Value.slice P2 l2 c2).ownBlock = some E → bv.ownBlock = some E ∨ w.heap.size ≤ E) ∧ Touch w w' g B bv) := by
      have hbb : Below w.heap.size w (w1.alloc (.cells #[.string k, .int .i64 v] 70)).drew := (HBL1.out.alloc HBL1.out.size _).drew
      refine Calls.mono (HIN.out w1.heap.size _ hbb HBL1.out.size (one_alloc w1 _)) ?_
      rintro r w2 ⟨bv', rfl, hbec⟩
      have hne : ∀ q, q = g ∨ q = B → some q ≠ bv.ownBlock := fun q hq e => by
        have := HEG.out q e.symm
        rcases hq with rfl | rfl
        · exact this.1 rfl
        · exact this.2.1 rfl
      obtain ⟨P2, l2, c2, hfm⟩ := hbec.now.form
      subst hfm
      refine ⟨P2, l2, c2, rfl, ?_, ?_, hbec.now, fun E hE => ?_, (Touch.of_below hbb).trans (Touch.of_grown hbec.grown)⟩
      · exact (hbec.grown.block g (Nat.lt_of_lt_of_le hgl hbb.size) (hne g (Or.inl rfl))).trans (keep_row HG.out hbb)
      · exact (hbec.grown.block B (Nat.lt_of_lt_of_le hBl hbb.size) (hne B (Or.inr rfl))).trans (keep_row HB.out hbb)
      · rcases hbec.blk E hE with h1 | h1
        · exact Or.inl h1
        · exact Or.inr (Nat.le_trans hbb.size h1)
    have hba : Below w1.heap.size w1 (w1.alloc (.cells #[.string k, .int .i64 v] 70)) := (Below.refl _ w1).alloc (Nat.le_refl _) _
    have c0 : w1.cell? ⟨g, o, none⟩ = some (.slice (some ⟨B, 0, none⟩) n n) := by rw [cell_of_row _ _ _ _ _ _ HG1.out]; exact HC0.out
    have cf : ∀ j, w1.frozen? ⟨g, j, none⟩ = false := fun j => frozen_of_row _ _ _ _ _ HG1.out
    have b0' : w1.cell? ⟨B, i, none⟩ = some bv := by rw [cell_of_row _ _ _ _ _ _ HB1.out]; exact HBI.out
    have bf : ∀ j, w1.frozen? ⟨B, j, none⟩ = false := fun j => frozen_of_row _ _ _ _ _ HB1.out
    have p0 := cell_on c0 hba
    have q0 := cell_on b0' hba
    have pf : ∀ j, (w1.alloc (.cells #[.string k, .int .i64 v] 70)).frozen? ⟨g, j, none⟩ = false := fun j => frozen_of_row _ _ _ _ _ (keep_row HG1.out hba)
    have qf : ∀ j, (w1.alloc (.cells #[.string k, .int .i64 v] 70)).frozen? ⟨B, j, none⟩ = false := fun j => frozen_of_row _ _ _ _ _ (keep_row HB1.out hba)
    obtain ⟨x0, x1, xf⟩ := row2 HX1.out
    obtain ⟨y0, y1, yf⟩ := row2 (keep_row HX1.out hba)
    clear hba
    go_region_with (go_at_call 55; refine (show Calls _ _ _ _ _ from HT.out).mono ?_; rintro e w2 ⟨P2, l2, c2, rfl, hg2, hB2, hv2, hk2, ht2⟩; have d0 : w2.cell? ⟨g, o, none⟩ = some (.slice (some ⟨B, 0, none⟩) n n) := (by rw [cell_of_row _ _ _ _ _ _ hg2]; exact HC0.out); have e0 : w2.cell? ⟨B, i, none⟩ = some bv := (by rw [cell_of_row _ _ _ _ _ _ hB2]; exact HBI.out); have df : ∀ j, w2.frozen? ⟨g, j, none⟩ = false := (fun j => frozen_of_row _ _ _ _ _ hg2); have ef : ∀ j, w2.frozen? ⟨B, j, none⟩ = false := (fun j => frozen_of_row _ _ _ _ _ hB2))
    all_goals
      go_wp2_with fail
      go_meet
      refine ⟨rfl, .slice P2 l2 c2, ?_, ?_, ?_, hk2, ht2.set _ _ (Or.inr rfl)⟩
      · rw [heap_setCell_other _ _ _ _ HGB.out]; exact hg2
      · rw [heap_setCell_same _ _ _ _ _ _ hB2]
      · refine hv2.same (fun E hE => heap_setCell_other _ _ _ _ ?_)
        show E ≠ B
        rcases hk2 E hE with h1 | h1
        · exact (HEG.out E h1).2.1
        · omega
  case rest =>
    obtain ⟨rfl, bv', hg3, hB3, hv3, hk3, ht3⟩ := hcut
    have HG3 : Hid _ := hg3
    have HB3 : Hid _ := hB3
    have HV3 : Hid (BV wc b0 bv' ES) := hv3
    have HK3 : Hid _ := hk3
    have HT3 : Hid (Touch w wc g B bv) := ht3
    have c1 : wc.cell? ⟨g, o + 1, none⟩ = some (.int .i64 (cnt : Int)) := by rw [cell_of_row _ _ _ _ _ _ hg3]; exact HC1.out
    have cf : ∀ j, wc.frozen? ⟨g, j, none⟩ = false := fun j => frozen_of_row _ _ _ _ _ hg3
    clear hg3 hB3 hv3 hk3 ht3
    go_wp2
    go_returns
    have hgl := row_lt HG.out
    refine ⟨rfl, bv', ?_, ?_, ?_, HK3.out, HT3.out.set _ _ (Or.inl rfl)⟩
    · rw [heap_setCell_same _ _ _ _ _ _ HG3.out]
    · rw [heap_setCell_other _ _ _ _ (Ne.symm HGB.out)]; exact HB3.out
    · refine HV3.out.same (fun E hE => heap_setCell_other _ _ _ _ ?_)
      show E ≠ g
      rcases HK3.out E hE with h1 | h1
      · exact (HEG.out E h1).1
      · omega
end Go.Proofs.Ytdemodhjlbkbeab
