import Derived.Test.YtgbplghokciimaaDoorSml
import Derived.Test.YtgbplghokciimaaDoorRows
import Derived.ProofKit
import Derived.OpenShut
import Derived.ShutString
import Derived.SizedLaws
import Derived.ChangeArms
import Derived.Deep.Slices
import Derived.Deep.Grids
import Derived.Carry
import Derived.Lib.ItoaMem
namespace Go.Proofs.YtgbplghokciimaaDoor
open Go.ChangeShapes Go.WideShapes Go.RowKit
set_option linter.unusedVariables false
/-- a step of a script. -/
structure OpD where
  k : Int
  a : Int
  b : Int
  t : ByteArray
  bk : Bool
  lo : Int × Int × Bool
  hi : Int × Int × Bool
  fr : ByteArray × Int × Bool
  to : ByteArray × Int × Bool
def opC (o : OpD) : List Value := [.int .i64 o.k, .int .i64 o.a, .int .i64 o.b, .string o.t, .bool o.bk, .int .i64 o.lo.1, .int .i64 o.lo.2.1, .bool o.lo.2.2, .int .i64 o.hi.1, .int .i64 o.hi.2.1, .bool o.hi.2.2, .string o.fr.1, .int .i64 o.fr.2.1, .bool o.fr.2.2, .string o.to.1, .int .i64 o.to.2.1, .bool o.to.2.2]
abbrev i64B (x : Int) : Prop := -9223372036854775808 ≤ x ∧ x ≤ 9223372036854775807
structure OpAt (W : World) (g off i : Nat) (o : OpD) : Prop where
  cells : ∀ j u, (opC o)[j]? = some u → W.cell? ⟨g, off + i * 17 + j, none⟩ = some u
  t : o.t.size ≤ 140737488351232
  fr : o.fr.1.size ≤ 140737488351232
  to : o.to.1.size ≤ 140737488351232
  a : i64B o.a
  b : i64B o.b
  los : i64B o.lo.1
  his : i64B o.hi.1
theorem OpAt.keep {W W' : World} {g off i : Nat} {o : OpD} (h : OpAt W g off i o) (hb : Below W.heap.size W W') : OpAt W' g off i o :=
  ⟨fun j u hu => cell_on (h.cells j u hu) hb, h.t, h.fr, h.to, h.a, h.b, h.los, h.his⟩
theorem cellsI : Tryd.prog.cellsOf 3 = 1 := by kernel_rfl
theorem cellsS : Tryd.prog.cellsOf 9 = 1 := by kernel_rfl
theorem cellsBo : Tryd.prog.cellsOf 4 = 1 := by kernel_rfl
theorem cellsBd : Tryd.prog.cellsOf 28 = 3 := by kernel_rfl
theorem cellsLx : Tryd.prog.cellsOf 30 = 3 := by kernel_rfl
theorem cellsOx : Tryd.prog.cellsOf 32 = 17 := by kernel_rfl
theorem cellsCs : Tryd.prog.cellsOf 24 = 2 := by kernel_rfl
theorem cellsSl : Tryd.prog.cellsOf 22 = 1 := by kernel_rfl
theorem weights_elem {H : Type} (P : Program) (e : TypeId) (l : List (DataW H)) (d : DataW H) (hd : d ∈ l) (n : Nat) (hn : n ∈ d.weights P e) : n ∈ DataW.weightsAll P e l := by
  induction l with
  | nil => cases hd
  | cons y l ih =>
    simp only [DataW.weightsAll, List.mem_append]
    rcases List.mem_cons.1 hd with rfl | h
    · exact Or.inl hn
    · exact Or.inr (ih h)
section
variable {H : Type} {enc : TypeId × Value → H} {W : World} {fuel : Nat}
set_option maxRecDepth 100000 in
theorem open_bd {cs : List Value} {x : DataW H × List MemPlace} (hc : cs.length = 3) (h : DataW.trod enc Tryd.prog W 0 (fun _ => true) true fuel 28 cs = some x) : ∃ (s i : Int) (b : Bool), cs = [.int .i64 s, .int .i64 i, .bool b] ∧ i64B s := by
  obtain ⟨xs, k, hk, hxy, _, hxl, hf⟩ := DataW.trod_struct Tryd.underlying28 h
  match xs, hxl, cs, hc with
  | [y0, y1, y2], _, [v0, v1, v2], _ =>
    have g0 := hf 0 _ rfl
    have g1 := hf 1 _ rfl
    have g2 := hf 2 _ rfl
    simp [cellsI, cellsBo] at g0 g1 g2
    obtain ⟨z0, e0, _, hw0⟩ := DataW.trod_int Tryd.underlying3 g0
    obtain ⟨z1, e1, _, hw1⟩ := DataW.trod_int Tryd.underlying3 g1
    obtain ⟨z2, e2, _⟩ := DataW.trod_bool Tryd.underlying4 g2
    simp at e0 e1 e2
    simp [Lit.wf, IntKind.min, IntKind.max, IntKind.signed, IntKind.bits] at hw0 hw1
    subst e0; subst e1; subst e2
    exact ⟨z0, z1, z2, rfl, by omega, by omega⟩
set_option maxRecDepth 100000 in
theorem open_lx {cs : List Value} {x : DataW H × List MemPlace} (hc : cs.length = 3) (h : DataW.trod enc Tryd.prog W 0 (fun _ => true) true fuel 30 cs = some x) : ∃ (s : ByteArray) (i : Int) (b : Bool), cs = [.string s, .int .i64 i, .bool b] ∧ s.size ∈ x.1.weights Tryd.prog 30 := by
  obtain ⟨xs, k, hk, hxy, _, hxl, hf⟩ := DataW.trod_struct Tryd.underlying30 h
  match xs, hxl, cs, hc with
  | [y0, y1, y2], _, [v0, v1, v2], _ =>
    have g0 := hf 0 _ rfl
    have g1 := hf 1 _ rfl
    have g2 := hf 2 _ rfl
    simp [cellsI, cellsBo, cellsS] at g0 g1 g2
    obtain ⟨z0, e0, hy0, _⟩ := DataW.trod_string Tryd.underlying9 g0
    obtain ⟨z1, e1, _, hw1⟩ := DataW.trod_int Tryd.underlying3 g1
    obtain ⟨z2, e2, _⟩ := DataW.trod_bool Tryd.underlying4 g2
    simp at e0 e1 e2
    subst e0; subst e1; subst e2
    refine ⟨z0, z1, z2, rfl, ?_⟩
    rw [hxy]
    simp only [DataW.weights, Tryd.underlying30]
    refine DataW.weights_mem_each (j := 0) (t := 9) rfl (show _ = some y0.1 from rfl) _ ?_
    rw [hy0]
    simp [DataW.weights]
set_option maxRecDepth 100000 in
theorem open_op {cs : List Value} {x : DataW H × List MemPlace} (hc : cs.length = 17) (h : DataW.trod enc Tryd.prog W 0 (fun _ => true) true fuel 32 cs = some x) (hw : ∀ z, z ∈ x.1.weights Tryd.prog 32 → z ≤ reachBytes) : ∃ o : OpD, cs = opC o ∧ o.t.size ≤ 140737488351232 ∧ o.fr.1.size ≤ 140737488351232 ∧ o.to.1.size ≤ 140737488351232 ∧ i64B o.a ∧ i64B o.b ∧ i64B o.lo.1 ∧ i64B o.hi.1 := by
  obtain ⟨xs, k, hk, hxy, _, hxl, hf⟩ := DataW.trod_struct Tryd.underlying32 h
  match xs, hxl, cs, hc with
  | [y0, y1, y2, y3, y4, y5, y6, y7, y8], _, [v0, v1, v2, v3, v4, v5, v6, v7, v8, v9, v10, v11, v12, v13, v14, v15, v16], _ =>
    have g0 := hf 0 _ rfl
    have g1 := hf 1 _ rfl
    have g2 := hf 2 _ rfl
    have g3 := hf 3 _ rfl
    have g4 := hf 4 _ rfl
    have g5 := hf 5 _ rfl
    have g6 := hf 6 _ rfl
    have g7 := hf 7 _ rfl
    have g8 := hf 8 _ rfl
    simp [cellsI, cellsS, cellsBo, cellsBd, cellsLx] at g0 g1 g2 g3 g4 g5 g6 g7 g8
    obtain ⟨z0, e0, _, hw0⟩ := DataW.trod_int Tryd.underlying3 g0
    obtain ⟨z1, e1, _, hw1⟩ := DataW.trod_int Tryd.underlying3 g1
    obtain ⟨z2, e2, _, hw2⟩ := DataW.trod_int Tryd.underlying3 g2
    obtain ⟨z3, e3, hy3, _⟩ := DataW.trod_string Tryd.underlying9 g3
    obtain ⟨z4, e4, _⟩ := DataW.trod_bool Tryd.underlying4 g4
    obtain ⟨s5, i5, b5, e5, hb5⟩ := open_bd rfl g5
    obtain ⟨s6, i6, b6, e6, hb6⟩ := open_bd rfl g6
    obtain ⟨s7, i7, b7, e7, hb7⟩ := open_lx rfl g7
    obtain ⟨s8, i8, b8, e8, hb8⟩ := open_lx rfl g8
    simp at e0 e1 e2 e3 e4 e5 e6 e7 e8
    simp [Lit.wf, IntKind.min, IntKind.max, IntKind.signed, IntKind.bits] at hw0 hw1 hw2
    have hz3 : z3.size ≤ reachBytes := hw _ (by
      rw [hxy]
      simp only [DataW.weights, Tryd.underlying32]
      refine DataW.weights_mem_each (j := 3) (t := 9) rfl (show _ = some y3.1 from rfl) _ ?_
      rw [hy3]
      simp [DataW.weights])
    have hz7 : s7.size ≤ reachBytes := hw _ (by
      rw [hxy]
      simp only [DataW.weights, Tryd.underlying32]
      exact DataW.weights_mem_each (j := 7) (t := 30) rfl (show _ = some y7.1 from rfl) _ hb7)
    have hz8 : s8.size ≤ reachBytes := hw _ (by
      rw [hxy]
      simp only [DataW.weights, Tryd.underlying32]
      exact DataW.weights_mem_each (j := 8) (t := 30) rfl (show _ = some y8.1 from rfl) _ hb8)
    have h10 : reachBytes = 140737488351232 := rfl
    have r3 : z3.size ≤ 140737488351232 := by omega
    have r7 : s7.size ≤ 140737488351232 := by omega
    have r8 : s8.size ≤ 140737488351232 := by omega
    have r1 : i64B z1 := ⟨by omega, by omega⟩
    have r2 : i64B z2 := ⟨by omega, by omega⟩
    obtain ⟨rfl, rfl, rfl⟩ := e5
    obtain ⟨rfl, rfl, rfl⟩ := e6
    obtain ⟨rfl, rfl, rfl⟩ := e7
    obtain ⟨rfl, rfl, rfl⟩ := e8
    subst e0; subst e1; subst e2; subst e3; subst e4
    exact ⟨⟨z0, z1, z2, z3, z4, (s5, i5, b5), (s6, i6, b6), (s7, i7, b7), (s8, i8, b8)⟩, rfl, r3, r7, r8, r1, r2, hb5, hb6⟩
set_option maxRecDepth 100000 in
theorem open_case {cs : List Value} {x : DataW H × List MemPlace} {ts : List TypeId} {ds : List (DataW H)} {j : Nat} (hc : cs.length = 2)
    (h : DataW.trod enc Tryd.prog W 0 (fun _ => true) true fuel 24 cs = some x)
    (hsz : (DataW.weightsEach Tryd.prog ts ds).all (· ≤ reachBytes) = true) (ht : ts[j]? = some 24) (hd : ds[j]? = some x.1) :
    ∃ (seed : Int) (ad : Option Addr) (len cap : Nat), cs = [.int .i64 seed, .slice ad len cap] ∧ i64B seed ∧ ∃ g off, (len ≠ 0 → ad = some ⟨g, off, none⟩) ∧ len ≤ 9223372036854775807 ∧ ∀ i, i < len → ∃ o, OpAt W g off i o := by
  obtain ⟨xs, k, hk, hxy, _, hxl, hf⟩ := DataW.trod_struct Tryd.underlying24 h
  match xs, hxl, cs, hc with
  | [y0, y1], _, [v0, v1], _ =>
    have g0 := hf 0 _ rfl
    have g1 := hf 1 _ rfl
    simp [cellsI, cellsSl] at g0 g1
    obtain ⟨z0, e0, _, hw0⟩ := DataW.trod_int Tryd.underlying3 g0
    simp at e0
    subst e0
    simp [Lit.wf, IntKind.min, IntKind.max, IntKind.signed, IntKind.bits] at hw0
    rcases Go.Deep.open_slice Tryd.underlying22 g1 with ⟨hcs, hx⟩ | ⟨a, len, cap, m, n, D, Pl, hcs, _, hl, hm, hmm, hx, hcell⟩
    · simp at hcs
      subst hcs
      exact ⟨z0, none, 0, 0, rfl, ⟨by omega, by omega⟩, 0, 0, fun h => absurd rfl h, Nat.zero_le _, fun i hi => by omega⟩
    · simp at hcs
      subst hcs
      simp only [if_true] at hmm
      subst hmm
      have hw : ∀ i, i < len → ∀ z, z ∈ (D i).weights Tryd.prog 32 → z ≤ reachBytes := by
        intro i hi z hz
        have hmem : z ∈ DataW.weightsEach Tryd.prog ts ds := by
          refine DataW.weights_mem_each ht hd _ ?_
          rw [hxy]
          simp only [DataW.weights, Tryd.underlying24]
          refine DataW.weights_mem_each (j := 1) (t := 22) rfl (show _ = some y1.1 from rfl) _ ?_
          rw [hx]
          simp only [DataW.weights, Tryd.underlying22, List.mem_cons, List.mem_append]
          exact Or.inr (Or.inl (weights_elem _ _ _ (D i) (List.mem_map.2 ⟨i, List.mem_range.2 hi, rfl⟩) z hz))
        have := List.all_eq_true.1 hsz _ hmem
        exact of_decide_eq_true this
      obtain ⟨g, off, spot⟩ := a
      have hsp : len ≠ 0 → spot = none := fun h => by
        obtain ⟨cs', h1, h2⟩ := hcell 0 (by omega)
        rw [cellsOx] at h1
        obtain ⟨_, hlen4, hc4⟩ := World.cells?_some h1
        have c0 := hc4 0 (by omega)
        obtain ⟨v0, hv0⟩ : ∃ v0, cs'[0]? = some v0 := ⟨_, List.getElem?_eq_getElem (by omega)⟩
        rw [hv0] at c0
        simpa [Addr.add] using World.cell?_spot c0
      refine ⟨z0, some ⟨g, off, spot⟩, len, m, rfl, ⟨by omega, by omega⟩, g, off, fun h => by rw [hsp h], by unfold maxLen at hm; omega, fun i hi => ?_⟩
      obtain ⟨cs', h1, h2⟩ := hcell i (by omega)
      have hs := hsp (by omega)
      subst hs
      rw [cellsOx] at h1
      obtain ⟨_, hlen4, hc4⟩ := World.cells?_some h1
      obtain ⟨o, rfl, q1, q2, q3, q4, q5, q6, q7⟩ := open_op hlen4 h2 (hw i hi)
      refine ⟨o, fun j u hu => ?_, q1, q2, q3, q4, q5, q6, q7⟩
      have hj : j < 17 := by
        obtain ⟨h1, _⟩ := List.getElem?_eq_some_iff.1 hu
        exact h1
      have c0 := hc4 j hj
      rw [hu, Go.Deep.add_add, Lib.add_plain] at c0
      rw [← c0]
      congr 2
      omega
end
end Go.Proofs.YtgbplghokciimaaDoor
