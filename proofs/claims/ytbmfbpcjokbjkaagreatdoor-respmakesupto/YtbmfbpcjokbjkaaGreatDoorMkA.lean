import Derived.Test.YtbmfbpcjokbjkaaGreatDoorWkA
import Derived.Test.YtbmfbpcjokbjkaaGreatDoorRNm
import Derived.Test.YtbmfbpcjokbjkaaGreatDoorCmA
namespace Go.Proofs.YtbmfbpcjokbjkaaGreatDoor
open Go.RowKit Vi
set_option linter.unusedVariables false
set_option linter.unusedSimpArgs false
theorem heap_set4 (w : World) (g T : Nat) (a b c d v0 v1 v2 v3 : Value) (h : w.heap[g]? = some (.cells #[a, b, c, d] T)) :
    ((((w.setCell ⟨g, 0, none⟩ v0).setCell ⟨g, 1, none⟩ v1).setCell ⟨g, 2, none⟩ v2).setCell ⟨g, 3, none⟩ v3).heap[g]? = some (.cells #[v0, v1, v2, v3] T) ∧ Only w ((((w.setCell ⟨g, 0, none⟩ v0).setCell ⟨g, 1, none⟩ v1).setCell ⟨g, 2, none⟩ v2).setCell ⟨g, 3, none⟩ v3) g := by
  refine ⟨?_, ((((Only.refl w g).set _ _).set _ _).set _ _).set _ _⟩
  rw [heap_setCell_same _ _ _ _ _ _ (heap_setCell_same _ _ _ _ _ _ (heap_setCell_same _ _ _ _ _ _ (heap_setCell_same _ _ _ _ _ _ h)))]; rfl
theorem prow4 {w : World} {g T : Nat} {v0 v1 v2 v3 : Value} (h : w.heap[g]? = some (.cells #[v0, v1, v2, v3] T)) :
    w.cell? ⟨g, 0, none⟩ = some v0 ∧ w.cell? ⟨g, 1, none⟩ = some v1 ∧ w.cell? ⟨g, 2, none⟩ = some v2 ∧ w.cell? ⟨g, 3, none⟩ = some v3 ∧ ∀ j, w.frozen? ⟨g, j, none⟩ = false := by
  refine ⟨?_, ?_, ?_, ?_, fun j => frozen_of_row _ _ _ _ _ h⟩ <;> rw [cell_of_row _ _ _ _ _ _ h] <;> rfl
/-- a reply that is stored as the answer, and the return. -/
theorem rp_fin (f : Func) (k : Nat) (hres : f.results = #[.cell k 24]) {W : World} {rb : Nat} {x0 x1 x2 x3 : Value} (hr : W.heap[rb]? = some (.cells #[x0, x1, x2, x3] 24)) (v0 v1 v2 v3 : Value) (post : Ending → World → Prop)
    (hpost : ∀ w', Only W w' rb → post (.returned (.agg #[v0, v1, v2, v3])) w')
    (a : Act) (hdf : a.defers = []) (h2 : a.tmps.getD k undef = .pointer (some ⟨rb, 0, none⟩)) :
    bodyPost Tryz.prog f post .ret a ((((W.setCell ⟨rb, 0, none⟩ v0).setCell ⟨rb, 1, none⟩ v1).setCell ⟨rb, 2, none⟩ v2).setCell ⟨rb, 3, none⟩ v3) := by
  obtain ⟨hr9, ho9⟩ := heap_set4 W rb 24 _ _ _ _ v0 v1 v2 v3 hr
  obtain ⟨y0, y1, y2, y3, yf⟩ := prow4 hr9
  generalize (((W.setCell ⟨rb, 0, none⟩ v0).setCell ⟨rb, 1, none⟩ v1).setCell ⟨rb, 2, none⟩ v2).setCell ⟨rb, 3, none⟩ v3 = W9 at *
  refine bodyPost_ret (v := .agg #[v0, v1, v2, v3]) ?_ hdf (hpost W9 ho9)
  rw [Array.getD_eq_getD_getElem?] at h2
  simp [results, hres, go_sem, y0, y1, y2, y3, h2]
theorem sClone_any (s : ByteArray) (hs : s.size ≤ 1099511627776) (w : World) : Calls Tryz.prog 57 #[.string s] w fun e w' => e = .returned (.string s) ∧ Below w.heap.size w w' := by
  go_enter Tryz.func57, Tryz.ntmps57
  go_wp2_with fail
  refine (Tryz.stringslite_Clone s w (by omega)).mono ?_
  rintro e w1 ⟨rfl, hb1⟩
  have HB1 : Hid _ := hb1
  clear hb1
  go_wp2
  go_returns
  exact ⟨rfl, HB1.out⟩
/-- a reply of no list. -/
def rpV (k : Int) (s : ByteArray) (n : Int) : Value := .agg #[.int .i64 k, .string s, .int .i64 n, .slice none 0 0]
theorem worded_any (k : Int) (s : ByteArray) (hs : s.size ≤ 1099511627776) (w : World) : Calls Tryz.prog 35 #[.int .i64 k, .string s] w fun e w' => e = .returned (rpV k s 0) ∧ Below w.heap.size w w' := by
  obtain ⟨W0, hW0⟩ : ∃ W, W = w.alloc (.cells #[.int .i64 0, .string ⟨#[]⟩, .int .i64 0, .slice none 0 0] 24) := ⟨_, rfl⟩
  obtain ⟨b, hb⟩ : ∃ b, w.heap.size = b := ⟨_, rfl⟩
  have hb0 : Below b w W0 := by rw [hW0, ← hb]; exact (Below.refl _ _).alloc (Nat.le_refl _) _
  have hr0 : W0.heap[b]? = some (.cells #[.int .i64 0, .string ⟨#[]⟩, .int .i64 0, .slice none 0 0] 24) := by rw [hW0, ← hb]; exact one_alloc _ _
  have HB0 : Hid (Below b w W0) := hb0
  have HR0 : Hid _ := hr0
  have HW : Hid (b ≤ W0.heap.size) := by have := hb0.size; rw [hb] at this; exact this
  have HCL : Hid _ := sClone_any s hs W0
  rw [hb]
  clear hb0 hr0
  go_enter Tryz.func35, Tryz.ntmps35
  go_wp2_with fail
  rw [← hW0]
  clear hW0 hb
  refine (show Calls _ _ _ _ _ from HCL.out).mono ?_
  rintro e w1 ⟨rfl, hb1⟩
  have HB1 : Hid (Below b w w1) := HB0.out.trans (hb1.mono HW.out)
  have HR1 : Hid _ := keep_row HR0.out hb1
  obtain ⟨z0, z1, z2, z3, zf⟩ := prow4 HR1.out
  clear hb1
  go_wp2
  exact rp_fin _ 4 Tryz.results35 HR1.out _ _ _ _ _ (fun w' ho => ⟨rfl, HB1.out.trans (ho.below (Nat.le_refl _))⟩) _ rfl rfl
end Go.Proofs.YtbmfbpcjokbjkaaGreatDoor
