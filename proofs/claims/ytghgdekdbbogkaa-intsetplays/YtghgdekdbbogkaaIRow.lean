import Derived.Test.YtghgdekdbbogkaaIMath
import Derived.Deep.OwnRows
namespace Go.Proofs.Ytghgdekdbbogkaa
open Go.RowKit IM
set_option linter.unusedVariables false
def icells (l : List Int) : List Value := l.map fun n => Value.int .i64 n
theorem icells_snoc (l : List Int) (n : Int) : icells (l ++ [n]) = icells l ++ [.int .i64 n] := by unfold icells; rw [List.map_append]; rfl
theorem icells_len (l : List Int) : (icells l).length = l.length := by unfold icells; rw [List.length_map]
theorem info3 : (Try.prog.info? 3).map (fun i => (i.zero, i.size, i.bytes)) = some (some (.int .i64 0), 1, 8) := by kernel_rfl
/-- a slice that holds these numbers. -/
def HoldsI (w : World) (v : Value) (l : List Int) : Prop := ∃ q cap, v = .slice q l.length cap ∧ (l ≠ [] → ∃ g, q = some ⟨g, 0, none⟩ ∧ ∀ j, (hj : j < l.length) → w.cell? ⟨g, j, none⟩ = some (.int .i64 l[j]))
theorem HoldsI.nil (w : World) : HoldsI w (.slice none 0 0) [] := ⟨none, 0, rfl, fun h => absurd rfl h⟩
theorem HoldsI.keep {w w' : World} {v : Value} {l : List Int} (h : HoldsI w v l) (hb : Below w.heap.size w w') : HoldsI w' v l := by
  obtain ⟨q, cap, e, h2⟩ := h
  refine ⟨q, cap, e, fun hl => ?_⟩
  obtain ⟨g, eq, hc⟩ := h2 hl
  refine ⟨g, eq, fun j hj => ?_⟩
  have h1 := hc j hj
  have hlt := World.block_lt_of_cell? _ _ h1
  rw [World.cell?_of_block (hb.block _ hlt)]
  exact h1
theorem HoldsI.own {w : World} {base : Nat} {v : Value} {l : List Int} (h : w.ownsRow base 3 1 v l.length (icells l)) : HoldsI w v l := by
  rcases h.2 with ⟨e, hn⟩ | ⟨g, cap, cur, hv, _, hg, hn, _, hs, ht⟩
  · have hl : l = [] := List.length_eq_zero_iff.1 hn
    subst hl
    exact ⟨none, 0, e, fun h => absurd rfl h⟩
  · refine ⟨_, cap, hv, fun _ => ⟨g, rfl, fun j hj => ?_⟩⟩
    rw [cell_of_row _ _ _ _ _ _ hg]
    have h2 := congrArg (fun x => x[j]?) ht
    simp only [Nat.mul_one, icells] at h2
    rw [List.getElem?_take_of_lt hj, List.getElem?_map, List.getElem?_eq_getElem hj] at h2
    simpa using h2
theorem cell_newN (w : World) (n : Nat) (v : Value) (t : TypeId) : ((w.drewN n).alloc (.cells #[v] t)).cell? ((⟨w.heap.size, 0, none⟩ : Addr).add 0) = some v := by
  show ((w.drewN n).alloc (.cells #[v] t)).cell? ⟨(w.drewN n).heap.size, 0, none⟩ = some v
  rw [World.cell?_alloc_at _ _ _ _ rfl]; rfl
theorem own_at {w : World} {base : Nat} {v : Value} {k : Nat} {l : List Int} (h : w.ownsRow base 3 1 v k (icells l)) (hk : l.length = k) (j : Nat) (hj : j < k) (x : Int) (hx : l[j]? = some x) :
    ∃ g cap, v = .slice (some ⟨g, 0, none⟩) k cap ∧ w.cell? ⟨g, j, none⟩ = some (.int .i64 x) := by
  rcases h.2 with ⟨e, hn⟩ | ⟨g, cap, cur, hv, _, hg, hn, _, hs, ht⟩
  · omega
  · refine ⟨g, cap, hv, ?_⟩
    rw [cell_of_row _ _ _ _ _ _ hg]
    have h2 := congrArg (fun x => x[j]?) ht
    simp only [Nat.mul_one, icells] at h2
    rw [List.getElem?_take_of_lt hj, List.getElem?_map, hx] at h2
    simpa using h2
end Go.Proofs.Ytghgdekdbbogkaa
