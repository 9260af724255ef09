import Derived.Test.YtdemodhjlbkbeaaPlc
import Derived.Laws.AppendOwn
import Derived.Deep.Cut
namespace Go.Proofs.Ytdemodhjlbkbeaa
open Go.RowKit
set_option linter.unusedVariables false
theorem infoE : (Try.prog.info? 62).map (fun i => (i.zero, i.size, i.bytes)) = some (some (.agg #[.string ⟨#[]⟩, .int .i64 0]), 2, 24) := by kernel_rfl
theorem info_parts {P : Program} {t : TypeId} {z : Value} {s b : Nat} (h : (P.info? t).map (fun i => (i.zero, i.size, i.bytes)) = some (some z, s, b)) : ∃ i, P.info? t = some i ∧ i.zero = some z ∧ i.size = s ∧ i.bytes = b := by
  obtain ⟨i, hi, hz⟩ := Option.map_eq_some_iff.1 h
  simp only [Prod.mk.injEq] at hz
  exact ⟨i, hi, hz.1, hz.2.1, hz.2.2⟩
theorem row2 {w : World} {g T : Nat} {v0 v1 : Value} (h : w.heap[g]? = some (.cells #[v0, v1] T)) :
    w.cell? ⟨g, 0, none⟩ = some v0 ∧ w.cell? ⟨g, 1, none⟩ = some v1 ∧ ∀ j, w.frozen? ⟨g, j, none⟩ = false := by
  refine ⟨?_, ?_, fun j => frozen_of_row _ _ _ _ _ h⟩ <;> rw [cell_of_row _ _ _ _ _ _ h] <;> rfl
/-- a bucket of one key. -/
def One (W : World) (E c : Nat) (v : Int) : Prop := ∃ cur, W.heap[E]? = some (.cells cur 62) ∧ cur.size = c * 2 ∧ 1 ≤ c ∧ cur.toList.take 2 = [.string ⟨#[97]⟩, .int .i64 v]
theorem One.cells {W : World} {E c : Nat} {v : Int} (h : One W E c v) : W.cell? ⟨E, 0, none⟩ = some (.string ⟨#[97]⟩) ∧ W.cell? ⟨E, 1, none⟩ = some (.int .i64 v) ∧ ∀ j, W.frozen? ⟨E, j, none⟩ = false := by
  obtain ⟨cur, h1, h2, h3, h4⟩ := h
  have g0 : cur[0]? = some (.string ⟨#[97]⟩) := by
    have := congrArg (fun l => l[0]?) h4
    simpa [List.getElem?_take] using this
  have g1 : cur[1]? = some (.int .i64 v) := by
    have := congrArg (fun l => l[1]?) h4
    simpa [List.getElem?_take] using this
  refine ⟨?_, ?_, fun j => frozen_of_row _ _ _ _ _ h1⟩ <;> rw [cell_of_row _ _ _ _ _ _ h1] <;> assumption
theorem One.lt {W : World} {E c : Nat} {v : Int} (h : One W E c v) : E < W.heap.size := by obtain ⟨cur, h1, _⟩ := h; exact row_lt h1
theorem One.on {W W' : World} {E c : Nat} {v : Int} (h : One W E c v) (hb : Below W.heap.size W W') : One W' E c v := by
  obtain ⟨cur, h1, h2⟩ := h; exact ⟨cur, keep_row h1 hb, h2⟩
theorem One.same {W W' : World} {E c : Nat} {v : Int} (h : One W E c v) (hb : W'.heap[E]? = W.heap[E]?) : One W' E c v := by
  obtain ⟨cur, h1, h2⟩ := h; exact ⟨cur, hb.trans h1, h2⟩
theorem One.of {W : World} {base : Nat} {r : Value} {v : Int} (h : W.ownsRow base 62 2 r 1 [.string ⟨#[97]⟩, .int .i64 v]) : ∃ E c, r = .slice (some ⟨E, 0, none⟩) 1 c ∧ base ≤ E ∧ One W E c v := by
  obtain ⟨_, ⟨_, h2⟩ | ⟨g, cap, cur, h1, hb, hg, q1, q2, q3, q4⟩⟩ := h
  · omega
  · exact ⟨g, cap, h1, hb, cur, hg, q3, q1, q4⟩
set_option maxHeartbeats 1000000 in
set_option maxRecDepth 100000 in
theorem ins_nil (X : Nat) (v : Int) (w : World) (hX : w.heap[X]? = some (.cells #[.string ⟨#[97]⟩, .int .i64 v] 62)) : Calls Try.prog 46 #[.slice none 0 0, .int .i64 0, .slice (some ⟨X, 0, none⟩) 1 1] w fun e w' => (∃ E c, e = .returned (.slice (some ⟨E, 0, none⟩) 1 c) ∧ w.heap.size ≤ E ∧ One w' E c v) ∧ Below w.heap.size w w' := by
  obtain ⟨i0, hi, hz0, hz1, hz2⟩ := info_parts infoE
  obtain ⟨x0, x1, xf⟩ := row2 hX
  have HO : Hid (w.ownsRow w.heap.size 62 2 (.slice none 0 0) 0 []) := ⟨rfl, Or.inl ⟨rfl, rfl⟩⟩
  have HN : Hid (∀ j u, [Value.string ⟨#[97]⟩, .int .i64 v][j]? = some u → w.cell? ((⟨X, 0, none⟩ : Addr).add j) = some u) := by
    intro j u hj
    match j, hj with
    | 0, hj => simp at hj; subst hj; simpa [Addr.add] using x0
    | 1, hj => simp at hj; subst hj; simpa [Addr.add] using x1
  clear hX
  go_enter Try.func46, Try.ntmps46
  go_upto_region 7 with fail
  go_wp2_with (at_builtin; go_must (refine wpList_append_own _ rfl _ _ 71 rfl w.heap.size 62 i0 (.agg #[.string ⟨#[]⟩, .int .i64 0]) 2 24 Try.underlying71 hi hz0 hz1 hz2 rfl (by decide) _ _ _ rfl HO.out ⟨X, 0, none⟩ 1 1 [.string ⟨#[97]⟩, .int .i64 v] rfl rfl HN.out ?t1 ?t2 ?t3 (Nat.le_refl _) ?_))
  case t1 => intro u hu; simp at hu; rcases hu with rfl | rfl <;> rfl
  case t2 => unfold maxLen; omega
  case t3 => omega
  intro v' w1 hown' hgrow hiff
  have HB : Hid (Below w.heap.size w w1) := (Below.refl _ w).grown hgrow (Nat.le_refl _) (fun k hk => by cases hk)
  obtain ⟨E, c, rfl, hE, hOne⟩ := One.of hown'
  have HE : Hid _ := hE
  have HONE : Hid _ := hOne
  clear hown' hgrow hiff hE hOne
  go_wp2
  go_returns
  exact ⟨⟨E, c, rfl, HE.out, HONE.out⟩, HB.out⟩
end Go.Proofs.Ytdemodhjlbkbeaa
