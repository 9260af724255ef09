import Derived.Test.YtghgdekdbbogkaaISearch
namespace Go.Proofs.Ytghgdekdbbogkaa
open Go.RowKit IM
set_option linter.unusedVariables false
theorem enters_my {f : FuncId} {fn : Func} {c : Code} (hf : Try.prog.funcs[f]? = some fn) (hname : (fn.name == "runtime.NumGoroutine") = false) (hb : fn.body = some c) : ∀ args w, (callFunc f args).run Try.prog w = .ok (.enter f args) w := by
  intro args w
  have h1 : fn.name ≠ "runtime.NumGoroutine" := by simpa using hname
  simp [callFunc, hf, h1, hb, mark]
set_option maxHeartbeats 400000 in
set_option maxRecDepth 100000 in
theorem first_any (g : Nat) (cb2 : Array Value) (p : ByteArray) (W C : Nat) (f : Int → Bool) (h3 : W3 W) (hc : C ≤ 1048576) (hs : p.size = 8 + C * W) (w : World) (eg : ∀ args w, (callFunc g args).run Try.prog w = .ok (.enter g args) w)
    (hg : ∀ (m : Int) W', Below w.heap.size w W' → Calls Try.prog g (#[.int .i64 m] ++ cb2) W' fun e w' => e = .returned (.bool (f m)) ∧ Below W'.heap.size W' w')
    (hm : ∀ a b, a ≤ b → b < C → f (numAt W p.data.toList a) = true → f (numAt W p.data.toList b) = true) :
    Calls Try.prog 40 #[setV p W C, .func (.func g) #[] cb2] w fun e w' => ∃ r : Nat, e = .returned (.int .i64 r) ∧ r ≤ C ∧ (∀ t, t < r → f (numAt W p.data.toList t) = false) ∧ (∀ t, r ≤ t → t < C → f (numAt W p.data.toList t) = true) ∧ Below w.heap.size w w' := by
  have hp : p.size ≤ 4294967296 := by
    have : C * W ≤ 1048576 * 8 := Nat.mul_le_mul hc (by rcases h3 with rfl | rfl | rfl <;> omega)
    omega
  have HA : Hid (∀ i, i < C → ∀ W', Calls Try.prog 34 #[setV p W C, .int .i64 i] W' fun e w' => e = .returned (.int .i64 (numAt W p.data.toList i)) ∧ Below W'.heap.size W' w') := fun i hi W' => at_any p W C i h3 (place_le hi hs) hp W'
  have HG : Hid _ := hg
  have HM : Hid _ := hm
  clear hs h3 hp hg hm
  unfold setV at *
  obtain ⟨W0, hW0⟩ : ∃ W0, W0 = (w.alloc (.cells #[.string p, .int .i64 (W : Int), .int .i64 (C : Int)] 58)).alloc (.cells #[.func (.func g) #[] cb2] 69) := ⟨_, rfl⟩
  have hz : W0.heap.size = w.heap.size + 1 + 1 := by rw [hW0]; simp
  have c0 : W0.cell? ⟨w.heap.size, 0, none⟩ = some (.string p) := by rw [hW0]; simp [go_sem]
  have c1 : W0.cell? ⟨w.heap.size, 1, none⟩ = some (.int .i64 (W : Int)) := by rw [hW0]; simp [go_sem]
  have c2 : W0.cell? ⟨w.heap.size, 2, none⟩ = some (.int .i64 (C : Int)) := by rw [hW0]; simp [go_sem]
  have cf : W0.cell? ⟨w.heap.size + 1, 0, none⟩ = some (.func (.func g) #[] cb2) := by rw [hW0]; simp [go_sem]
  have hB0 : Below w.heap.size w W0 := by rw [hW0]; exact ((Below.refl _ w).alloc (Nat.le_refl _) _).alloc (by simp) _
  have K0 : Hid (W0.cell? ⟨w.heap.size, 0, none⟩ = some (.string p)) := c0
  have K1 : Hid (W0.cell? ⟨w.heap.size, 1, none⟩ = some (.int .i64 (W : Int))) := c1
  have K2 : Hid (W0.cell? ⟨w.heap.size, 2, none⟩ = some (.int .i64 (C : Int))) := c2
  have KF : Hid (W0.cell? ⟨w.heap.size + 1, 0, none⟩ = some (.func (.func g) #[] cb2)) := cf
  have HB0 : Hid (Below w.heap.size w W0) := hB0
  clear c0 c1 c2 cf hB0
  go_enter Try.func40, Try.ntmps40
  go_wp2_with fail
  rw [← hW0]
  have hS := search_any 55 #[.pointer (some ⟨w.heap.size + 1, 0, none⟩), .pointer (some ⟨w.heap.size, 0, none⟩)] C (fun i => f (numAt W p.data.toList i)) W0 (enters_my Try.func55 (by kernel_rfl) rfl) (by omega)
    (fun X i hi hX => closure_any (w.heap.size + 1) w.heap.size g cb2 p W C i _ _ X eg ((cell_below hX (by rw [hz]; show w.heap.size + 1 < _; omega)).trans KF.out) ((cell_below hX (by rw [hz]; show w.heap.size < _; omega)).trans K0.out) ((cell_below hX (by rw [hz]; show w.heap.size < _; omega)).trans K1.out) ((cell_below hX (by rw [hz]; show w.heap.size < _; omega)).trans K2.out) (fun W' => HA.out i hi W')
      (fun W' hW' => HG.out _ W' ((HB0.out.trans (hX.mono (by omega))).trans (hW'.mono (by have := hX.size; omega)))))
    HM.out
  refine hS.mono ?_
  rintro e w1 ⟨r, rfl, hr, h1, h2, hb⟩
  have HH : Hid ((∀ t, t < r → f (numAt W p.data.toList t) = false) ∧ (∀ t, r ≤ t → t < C → f (numAt W p.data.toList t) = true)) := ⟨h1, h2⟩
  have HB : Hid (Below w.heap.size w w1) := HB0.out.trans (hb.mono (by omega))
  clear h1 h2 hb hS
  go_wp2
  go_ret
  exact ⟨r, rfl, hr, HH.out.1, HH.out.2, HB.out⟩
end Go.Proofs.Ytghgdekdbbogkaa
