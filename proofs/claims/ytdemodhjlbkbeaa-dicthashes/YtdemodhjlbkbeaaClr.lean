import Derived.Test.YtdemodhjlbkbeaaSetO
namespace Go.Proofs.Ytdemodhjlbkbeaa
open Go.RowKit
set_option linter.unusedVariables false
set_option linter.unusedSimpArgs false
set_option maxHeartbeats 1000000 in
set_option maxRecDepth 100000 in
theorem run_clr (E c : Nat) (ty : TypeId) (W : World) (x y : Value) (h0 : W.cell? ⟨E, 0, none⟩ = some x) (h1 : W.cell? ⟨E, 1, none⟩ = some y) (hf : ∀ j, W.frozen? ⟨E, j, none⟩ = false) :
    Sem.run Try.prog (Builtin.clear_ #[71] ty #[.slice (some ⟨E, 0, none⟩) 1 c]) W = .ok (.tuple #[]) ((W.setCell ⟨E, 0, none⟩ (.string ⟨#[]⟩)).setCell ⟨E, 1, none⟩ (.int .i64 0)) := by
  obtain ⟨i0, hi, hz0, hz1, hz2⟩ := info_parts infoE
  have hzc : (Builtin.zeroCells #[.string ⟨#[]⟩, .int .i64 0] 1).toList = [.string ⟨#[]⟩, .int .i64 0] := by kernel_rfl
  have g1 : (W.setCell ⟨E, 0, none⟩ (.string ⟨#[]⟩)).cell? ⟨E, 1, none⟩ = some y := by rw [World.cell?_setCell_other]; exact h1; simp
  have g2 : (W.setCell ⟨E, 0, none⟩ (.string ⟨#[]⟩)).frozen? ⟨E, 1, none⟩ = false := by rw [World.frozen?_setCell]; exact hf 1
  simp only [Builtin.clear_]
  simp [go_sem]
  rw [hzc]
  simp [go_sem, storeCells, h0, h1, hf, g1, g2]
end Go.Proofs.Ytdemodhjlbkbeaa
