import Derived.Test.YtghgdekdbbogkaaIGrowA
namespace Go.Proofs.Ytghgdekdbbogkaa
open Go.RowKit IM
set_option linter.unusedVariables false
set_option maxHeartbeats 1000000 in
set_option maxRecDepth 1000000 in
theorem Grow_fresh (B b n : Nat) (W : Int) (w : World) (hB : B ≤ b) (hbk : w.heap[b]? = some (.cells #[.pointer none, .slice none 0 0, .int .i64 W] 54 (0, 0))) (hBw : B ≤ w.heap.size) (hn0 : 0 < n) (hn : n ≤ 281474976710656) :
    Calls Try.prog 43 #[.pointer (some ⟨b, 0, none⟩), .int .i64 n] w fun e w' => e = .returned (.tuple #[]) ∧ (MakerAt B b W [] w' ∧ Below B w w') := by
  have hc := copyCheck_fresh b w (by rw [cell_heap hbk]; rfl) (by simp [World.shape?, hbk]) (Lib.frozen_of_heap hbk 0)
  have hbk1 : (w.setCell ⟨b, 0, none⟩ (.pointer (some ⟨b, 0, none⟩))).heap[b]? = some (.cells (mcells b (.slice none 0 0) W) 54 (0, 0)) := by
    simp [World.setCell, Array.getElem?_modify, hbk, mcells]
  have hb1 : Below B w (w.setCell ⟨b, 0, none⟩ (.pointer (some ⟨b, 0, none⟩))) := (Below.refl B w).setCell (p := ⟨b, 0, none⟩) hB _
  have hsz : (w.setCell ⟨b, 0, none⟩ (.pointer (some ⟨b, 0, none⟩))).heap.size = w.heap.size := by simp [World.setCell]
  generalize w.setCell ⟨b, 0, none⟩ (.pointer (some ⟨b, 0, none⟩)) = W1 at *
  have c1 : W1.cell? ⟨b, 1, none⟩ = some (.slice none 0 0) := by rw [cell_heap hbk1]; rfl
  have HGR : Hid (∀ k, Calls Try.prog 57 #[.pointer (some ⟨b, 0, none⟩), .int .i64 n] (W1.drewN k) fun e w' => e = .returned (.tuple #[]) ∧ (MakerAt B b W [] w' ∧ Below B (W1.drewN k) w')) := fun k => grow_fresh B b n W (W1.drewN k) hB hbk1 (by show B ≤ W1.heap.size; omega) hn
  have HB1 : Hid (Below B w W1) := hb1
  have hnz : (0 : Int) < (n : Int) := by omega
  have hcap : ∀ x : Int, x < (n : Int) → True := fun _ _ => trivial
  clear hbk1 hb1 hbk hcap
  go_enter Try.func43, Try.ntmps43
  go_wp2_with fail
  refine hc.mono ?_
  rintro e w1 ⟨rfl, hw1⟩
  subst w1
  go_wp2
  go_quiet (fail)
  go_wp2_with fail
  refine (HGR.out _).mono ?_
  rintro e w2 ⟨rfl, hm, hb2⟩
  have HM : Hid (MakerAt B b W [] w2) := hm
  have HBB : Hid (Below B w w2) := (below_dn HB1.out _).trans hb2
  clear hm hb2
  go_wp2
  go_end0
  exact ⟨rfl, HM.out, HBB.out⟩
end Go.Proofs.Ytghgdekdbbogkaa
