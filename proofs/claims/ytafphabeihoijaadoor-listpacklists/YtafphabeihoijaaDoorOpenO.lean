import Derived.Test.YtafphabeihoijaaDoorOpenS
import Derived.Test.YtafphabeihoijaaDoorLstM
import Derived.Deep.Slices
import Derived.Lib.ItoaMem
namespace Go.Proofs.YtafphabeihoijaaDoor
open Go.ChangeShapes Go.WideShapes Go.RowKit
set_option linter.unusedVariables false
theorem cellsTx : Tryd.prog.cellsOf 22 = 1 := by kernel_rfl
theorem cellsOx : Tryd.prog.cellsOf 39 = 4 := by kernel_rfl
theorem bytesOx : Tryd.prog.bytesOf 39 = 48 := by kernel_rfl
theorem weights_elem {H : Type} (P : Program) (e : TypeId) (l : List (DataW H)) (d : DataW H) (hd : d ∈ l) (n : Nat) (hn : n ∈ d.weights P e) : n ∈ DataW.weightsAll P e l := by
  induction l with
  | nil => cases hd
  | cons y l ih =>
    simp only [DataW.weightsAll, List.mem_append]
    rcases List.mem_cons.1 hd with rfl | h
    · exact Or.inl hn
    · exact Or.inr (ih h)
set_option maxRecDepth 100000 in
theorem open_ops {H : Type} {enc : TypeId × Value → H} {W : World} {fuel : Nat} {ad : Option Addr} {len cap : Nat} {x : DataW H × List MemPlace} {ts : List TypeId} {ds : List (DataW H)} {j : Nat}
    (h : DataW.trod enc Tryd.prog W 0 (fun _ => true) true fuel 37 [.slice ad len cap] = some x)
    (hsz : (DataW.weightsEach Tryd.prog ts ds).all (· ≤ reachBytes) = true) (ht : ts[j]? = some 37) (hd : ds[j]? = some x.1) :
    ∃ g off, (len ≠ 0 → ad = some ⟨g, off, none⟩) ∧ len ≤ 70368744177664 ∧ ∀ i, i < len → ∃ kd I N tv txs, OpIs W g off i kd I N tv txs := by
  rcases Go.Deep.open_slice Tryd.underlying37 h with ⟨hcs, hx⟩ | ⟨a, len', cap', m, n, D, Pl, hcs, _, hl, hm, hmm, hx, hcell⟩
  · simp at hcs
    obtain ⟨rfl, rfl, rfl⟩ := hcs
    exact ⟨0, 0, fun h => absurd rfl h, Nat.zero_le _, fun i hi => by omega⟩
  · simp at hcs
    obtain ⟨rfl, rfl, rfl⟩ := hcs
    subst hx
    simp only [if_true] at hmm
    subst hmm
    have hw : ∀ i, i < len → ∀ z, z ∈ (D i).weights Tryd.prog 39 → z ≤ reachBytes := by
      intro i hi z hz
      have hmem : z ∈ DataW.weightsEach Tryd.prog ts ds := by
        refine DataW.weights_mem_each ht hd _ ?_
        simp only [DataW.weights, Tryd.underlying37, List.mem_cons, List.mem_append]
        exact Or.inr (Or.inl (weights_elem _ _ _ (D i) (List.mem_map.2 ⟨i, List.mem_range.2 hi, rfl⟩) z hz))
      have := List.all_eq_true.1 hsz _ hmem
      exact of_decide_eq_true this
    have hlen : len ≤ 70368744177664 := by
      have := sized_slice hsz ht hd Tryd.underlying37
      rw [bytesOx] at this
      simp only [List.length_map, List.length_range, reachBytes] at this
      omega
    obtain ⟨g, off, spot⟩ := a
    have hsp : len ≠ 0 → spot = none := fun h => by
      obtain ⟨cs', h1, h2⟩ := hcell 0 (by omega)
      rw [cellsOx] at h1
      obtain ⟨_, hlen4, hc4⟩ := World.cells?_some h1
      have c0 := hc4 0 (by omega)
      obtain ⟨v0, hv0⟩ : ∃ v0, cs'[0]? = some v0 := ⟨_, List.getElem?_eq_getElem (by omega)⟩
      rw [hv0] at c0
      simpa [Addr.add] using World.cell?_spot c0
    refine ⟨g, off, fun h => by rw [hsp h], hlen, fun i hi => ?_⟩
    obtain ⟨cs', h1, h2⟩ := hcell i (by omega)
    have hs := hsp (by omega)
    subst hs
    rw [cellsOx] at h1
    obtain ⟨_, hlen4, hc4⟩ := World.cells?_some h1
    obtain ⟨xs, k, hk, hxy, _, hxl, hf⟩ := DataW.trod_struct Tryd.underlying39 h2
    match xs, hxl, cs', hlen4 with
    | [y0, y1, y2, y3], _, [v0, v1, v2, v3], _ =>
      have g0 := hf 0 _ rfl
      have g1 := hf 1 _ rfl
      have g2 := hf 2 _ rfl
      have g3 := hf 3 _ rfl
      simp [cells3, cellsTx] at g0 g1 g2 g3
      have c0 := hc4 0 (by omega)
      have c1 := hc4 1 (by omega)
      have c2 := hc4 2 (by omega)
      have c3 := hc4 3 (by omega)
      rw [Go.Deep.add_add] at c0 c1 c2 c3
      simp only [Prod.mk.injEq] at hxy
      obtain ⟨z0, e0, _, _⟩ := DataW.trod_int Tryd.underlying3 g0
      obtain ⟨z1, e1, _, hw1⟩ := DataW.trod_int Tryd.underlying3 g1
      obtain ⟨z2, e2, _, hw2⟩ := DataW.trod_int Tryd.underlying3 g2
      simp at e0 e1 e2
      simp [Lit.wf, IntKind.min, IntKind.max, IntKind.signed, IntKind.bits] at hw1 hw2
      have hy3 : (DataW.weightsEach Tryd.prog [22] [y3.1]).all (· ≤ reachBytes) = true := by
        refine List.all_eq_true.2 (fun z hz => ?_)
        have hz' : z ∈ (D i).weights Tryd.prog 39 := by
          rw [hxy.1]
          simp only [DataW.weights, Tryd.underlying39]
          simp only [DataW.weightsEach, List.append_nil] at hz
          exact DataW.weights_mem_each (j := 3) rfl rfl z hz
        exact decide_eq_true (hw i hi z hz')
      obtain ⟨txs, r1, r2, r3, r4⟩ := open_row (ts := [22]) (ds := [y3.1]) (j := 0) g3 hy3 rfl rfl
      subst e0; subst e1; subst e2
      rw [Lib.add_plain] at c0 c1 c2 c3
      refine ⟨z0, z1, z2, v3, txs, ?_, ?_, ?_, ?_, r1, r2, r3, r4, ⟨by omega, by omega, by omega, by omega⟩⟩
      · simpa using c0
      · simpa [Nat.add_assoc] using c1
      · simpa [Nat.add_assoc] using c2
      · simpa [Nat.add_assoc] using c3
end Go.Proofs.YtafphabeihoijaaDoor
