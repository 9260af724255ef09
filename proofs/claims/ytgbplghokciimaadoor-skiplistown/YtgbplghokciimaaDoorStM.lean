import Derived.Test.YtgbplghokciimaaDoorWB
import Derived.Test.YtgbplghokciimaaDoorSkI
import Derived.Test.YtgbplghokciimaaDoorRA
import Derived.Test.YtgbplghokciimaaDoorSkT
import Derived.Test.YtgbplghokciimaaDoorIB
import Derived.Test.YtgbplghokciimaaDoorOrdK
namespace Go.Proofs.YtgbplghokciimaaDoor
open Go.RowKit I
set_option linter.unusedVariables false
def StepPost (g : Nat) (S : SkS) (N : Nat) (w : World) (e : Ending) (w' : World) : Prop := ∃ (S' : SkS) (r : Value), e = .returned (.tuple #[bval S.seed r, .bool true]) ∧ Bd w' g S' (N + 1) ∧ S'.seed = S.seed ∧ ERow (fun q => q ∉ bblk g S') w' r (ens S'.T) ∧ Moved w w' (bblk g S) (bblk g S')
/-- what a step is given. -/
structure OpOk (o : OpD) : Prop where
  t : o.t.size ≤ 140737488351232
  fr : o.fr.1.size ≤ 140737488351232
  tt : o.to.1.size ≤ 140737488351232
  a : i64B o.a
  b : i64B o.b
theorem quiet_post {g : Nat} {S : SkS} {N : Nat} {w W : World} {v : Value} (h : Bd w g S N) (he : ERow (fun q => q ∉ bblk g S) w v (ens S.T)) (hb : Below w.heap.size w W) : StepPost g S N w (.returned (.tuple #[bval S.seed v, .bool true])) W :=
  ⟨S, v, rfl, (h.below hb).mono (by omega), rfl, he.on hb, Moved.of_below hb⟩
theorem move_post {g : Nat} {S S' : SkS} {N : Nat} {w A B C : World} {rb B0 : Nat} {r : Value} (hlt : ∀ q ∈ bblk g S, q < w.heap.size) (hA : Below w.heap.size w A) (hm : Moved A B (bblk g S) (bblk g S')) (hbd : Bd B g S' (N + 1)) (hs : S'.seed = S.seed) (ho : Only B C rb) (hrb : w.heap.size ≤ rb) (hrA : rb < A.heap.size) (hr0 : rb < B0) (hB0 : w.heap.size ≤ B0) (he : ERow (fun q => B0 ≤ q) A r (ens S'.T)) : StepPost g S N w (.returned (.tuple #[bval S.seed r, .bool true])) C := by
  have hrn : rb ∉ bblk g S' := fun hq => by
    rcases hm.new rb hq with q | q
    · have := hlt rb q; omega
    · omega
  refine ⟨S', r, rfl, hbd.to (fun q hq => ho.other q (fun e => hrn (by rw [← e]; exact hq))), hs, ?_, ?_⟩
  · rcases he with e | ⟨q, cap, e, hq, hcp, hql, hc⟩
    · exact Or.inl e
    · have hqF : q ∉ bblk g S := fun hm' => by have := hlt q hm'; omega
      have hqn : q ∉ bblk g S' := fun hm' => by
        rcases hm.new q hm' with z | z
        · exact hqF z
        · omega
      have hqr : q ≠ rb := by omega
      refine Or.inr ⟨q, cap, e, hqn, hcp, by have := hm.size; rw [ho.size]; omega, fun j u hu => ?_⟩
      exact ((World.cell?_of_block (a := ⟨q, j, none⟩) (ho.other q hqr)).trans (World.cell?_of_block (a := ⟨q, j, none⟩) (hm.rest q hql hqF))).trans (hc j u hu)
  · refine ⟨ho.os.trans (hm.os.trans hA.os), ho.tape.trans (hm.tape.trans hA.tape), ho.output.trans (hm.output.trans hA.output), by rw [ho.size]; exact Nat.le_trans hA.size hm.size, fun q hq hn => ?_, fun q hq => ?_⟩
    · exact (ho.other q (by omega)).trans ((hm.rest q (Nat.lt_of_lt_of_le hq hA.size) hn).trans (hA.block q hq))
    · rcases hm.new q hq with z | z
      · exact Or.inl z
      · exact Or.inr (Nat.le_trans hA.size z)
theorem op17 {W : World} {b : Nat} {o : OpD} (h : W.heap[b]? = some (.cells (opA o) 32)) : ∀ j u, (opC o)[j]? = some u → W.cell? ⟨b, j, none⟩ = some u := fun j u hu => by
  rw [cell_of_row _ _ _ _ _ _ h]
  simpa [opA, opC] using hu
theorem ens_sz {W : World} {g : Nat} {S : SkS} {N : Nat} (h : Bd W g S N) : ∀ e ∈ ens S.T, e.1.size ≤ 281474976710656 := fun e he => by
  obtain ⟨t, ht, rfl⟩ := List.mem_map.1 he
  exact h.sz t ht
theorem tal_doc {W : World} {g : Nat} {S : SkS} {N : Nat} (h : Bd W g S N) : talL S = cl ((ens S.T).map fun e => hgM S.seed e.1) (mxH ((ens S.T).map fun e => hgM S.seed e.1)) := by
  have e1 : ((ens S.T).map fun e => hgM S.seed e.1) = hts S.T := by
    have := hts_of (f := fun e => hgM S.seed e.1) h.hg
    rw [this]
  have e2 : mxH (hts S.T) = S.H := by
    have a1 : ∀ x ∈ hts S.T, x ≤ S.H := h.top.le
    have a2 : S.H = 0 ∨ S.H ∈ hts S.T := by
      rcases h.top.at_ with q | ⟨t, ht, q⟩
      · exact Or.inl q
      · exact Or.inr (List.mem_map.2 ⟨t, ht, q⟩)
    have b1 : ∀ x ∈ hts S.T, x ≤ mxH (hts S.T) := mxH_le
    have b2 := mxH_mem (hs := hts S.T)
    rcases a2 with q | q <;> rcases b2 with r | r
    · omega
    · have := a1 _ r; omega
    · have := b1 _ q; omega
    · have := a1 _ r; have := b1 _ q; omega
  rw [e1, e2]
  unfold talL cl cntT hts
  refine List.map_congr_left (fun j _ => ?_)
  rw [List.countP_map]
  rfl
end Go.Proofs.YtgbplghokciimaaDoor
