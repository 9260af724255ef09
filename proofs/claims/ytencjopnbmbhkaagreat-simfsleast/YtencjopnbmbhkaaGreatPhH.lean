import Derived.Test.YtencjopnbmbhkaaGreatPhD
namespace Go.Proofs.YtencjopnbmbhkaaGreat
open Go.RowKit Go.Maps
set_option linter.unusedVariables false
set_option linter.unusedSimpArgs false
set_option maxHeartbeats 2000000 in
set_option maxRecDepth 100000 in
theorem mclone_any (b k : Nat) (f : ByteArray → Option Nat) (w : World) (h : MapIs w b k f) : Calls Tryz.prog 50 #[.map (some b)] w fun e w' => e = .returned (.map (some w.heap.size)) ∧ MapIs w' w.heap.size k f ∧ Below w.heap.size w w' := by
  obtain ⟨D, ⟨es, clock, hb, hF⟩, hm⟩ := h
  have hq := fun w => run_eql_map_nil_sl (P := Tryz.prog) w 56 _ _ (some b) Tryz.underlying56
  have HFIN : Hid (MapIs (w.alloc (.map es clock)) w.heap.size k f) := ⟨D, ⟨es, clock, one_alloc _ _, hF⟩, hm⟩
  clear hF hm
  go_enter Tryz.func50, Tryz.ntmps50
  go_wp2
  rw [run_callFunc_extern Tryz.func92 (by kernel_rfl) (by kernel_rfl) (by kernel_rfl) (e := Extern.MapsClone.clone) (by kernel_rfl), run_maps_clone_sl w 56 hb]
  simp only [Result.andThen]
  rw [Oper.upon_value]
  go_wp2
  rw [run_typeAssert_map_sl _ 56 20 _ _ _ Tryz.underlying56]
  simp only [Result.andThen]
  rw [Oper.upon_value]
  go_wp2
  go_ret
  exact ⟨rfl, HFIN.out, (Below.refl _ _).alloc (Nat.le_refl _) _⟩
end Go.Proofs.YtencjopnbmbhkaaGreat
