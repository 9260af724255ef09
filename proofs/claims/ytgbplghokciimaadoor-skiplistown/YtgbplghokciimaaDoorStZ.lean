import Derived.Test.YtgbplghokciimaaDoorSA
import Derived.Test.YtgbplghokciimaaDoorSt7
import Derived.Test.YtgbplghokciimaaDoorSt8
import Derived.Test.YtgbplghokciimaaDoorSt9
namespace Go.Proofs.YtgbplghokciimaaDoor
open Go.RowKit I
set_option linter.unusedVariables false
theorem step_any (g : Nat) (S : SkS) (N : Nat) (v : Value) (o : OpD) (w : World) (h : Bd w g S N) (hN : N < 1000000) (he : ERow (fun q => q ∉ bblk g S) w v (ens S.T)) (hT : Tab w) (ho : OpOk o) : Calls Tryd.prog 20 #[.pointer (some ⟨g, 0, none⟩), bval S.seed v, .agg (opA o)] w (StepPost g S N w) := by
  by_cases h0 : o.k < 1 ∨ 10 < o.k
  · exact step_0 g S N v o w h0 h hN he hT ho
  · have : o.k = 1 ∨ o.k = 2 ∨ o.k = 3 ∨ o.k = 4 ∨ o.k = 5 ∨ o.k = 6 ∨ o.k = 7 ∨ o.k = 8 ∨ o.k = 9 ∨ o.k = 10 := by omega
    rcases this with q | q | q | q | q | q | q | q | q | q
    · exact step_1 g S N v o w q h hN he hT ho
    · exact step_2 g S N v o w q h hN he hT ho
    · exact step_3 g S N v o w q h hN he hT ho
    · exact step_4 g S N v o w q h hN he hT ho
    · exact step_5 g S N v o w q h hN he hT ho
    · exact step_6 g S N v o w q h hN he hT ho
    · exact step_7 g S N v o w q h hN he hT ho
    · exact step_8 g S N v o w q h hN he hT ho
    · exact step_9 g S N v o w q h hN he hT ho
    · exact step_10 g S N v o w q h hN he hT ho
theorem ERow.box {Q : Nat → Prop} {w w' : World} {v : Value} {l : List En} {X : Nat} {a : Int} {vv : Value} {T : Nat} (h : ERow Q w v l) (hx : w.heap[X]? = some (.cells #[.int .i64 a, vv] T)) (ho : Only w w' X) : ERow Q w' v l := by
  rcases h with h | ⟨g, cap, e, hq, hcp, hg, hc⟩
  · exact Or.inl h
  · refine Or.inr ⟨g, cap, e, hq, hcp, by rw [ho.size]; exact hg, fun j u hu => ?_⟩
    by_cases hgx : g = X
    · subst hgx
      exfalso
      cases l with
      | nil => simp [flat3] at hu
      | cons x l =>
        have h1 := hc 0 (.string x.1) rfl
        rw [cell_of_row _ _ _ _ _ _ hx] at h1
        simp at h1
    · exact (World.cell?_of_block (a := ⟨g, j, none⟩) (ho.other g hgx)).trans (hc j u hu)
/-- a step's end, a box written behind it. -/
theorem StepPost.box {g : Nat} {S S' : SkS} {N : Nat} {w W a B : World} {X : Nat} {v0 : Int} {vv r : Value} {T : Nat} (hlt : ∀ q ∈ bblk g S, q < w.heap.size) (hW : Below w.heap.size w W) (hbd : Bd a g S' (N + 1)) (he : ERow (fun q => q ∉ bblk g S') a r (ens S'.T)) (hm : Moved W a (bblk g S) (bblk g S')) (hx : a.heap[X]? = some (.cells #[.int .i64 v0, vv] T)) (hX : w.heap.size ≤ X) (hXW : X < W.heap.size) (ho : Only a B X) : Bd B g S' (N + 1) ∧ ERow (fun q => q ∉ bblk g S') B r (ens S'.T) ∧ Moved w B (bblk g S) (bblk g S') := by
  have hXn : X ∉ bblk g S' := fun hq => by
    rcases hm.new X hq with q | q
    · have := hlt X q; omega
    · omega
  refine ⟨hbd.to (fun q hq => ho.other q (fun e => hXn (by rw [← e]; exact hq))), he.box hx ho, ?_⟩
  refine ⟨ho.os.trans (hm.os.trans hW.os), ho.tape.trans (hm.tape.trans hW.tape), ho.output.trans (hm.output.trans hW.output), by rw [ho.size]; exact Nat.le_trans hW.size hm.size, fun q hq hn => ?_, fun q hq => ?_⟩
  · exact (ho.other q (by omega)).trans ((hm.rest q (Nat.lt_of_lt_of_le hq hW.size) hn).trans (hW.block q hq))
  · rcases hm.new q hq with z | z
    · exact Or.inl z
    · exact Or.inr (Nat.le_trans hW.size z)
end Go.Proofs.YtgbplghokciimaaDoor
