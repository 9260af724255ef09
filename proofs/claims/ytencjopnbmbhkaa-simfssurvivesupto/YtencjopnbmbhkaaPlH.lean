import Derived.Test.YtencjopnbmbhkaaPlG
import Derived.Test.YtencjopnbmbhkaaRows
import Derived.JoinedCond
import Derived.ChangeArms
namespace Go.Proofs.Ytencjopnbmbhkaa
open Go.ChangeShapes Go.WideShapes Go.RowKit
set_option linter.unusedVariables false
theorem bulk_small {H : Type} {l : List (DataW H)} (hk : Rows.uptoSmall H l = true) : Rows.uptoBulkAll l ≤ 1048576 := of_decide_eq_true hk
theorem bulk_one {H : Type} (d : DataW H) : 1 ≤ Rows.uptoBulk d := by
  cases d with
  | lit l => cases l <;> simp [Rows.uptoBulk]
  | nil => simp [Rows.uptoBulk]
  | ptr d => simp [Rows.uptoBulk]
  | slice elems spare => simp [Rows.uptoBulk]
  | agg parts => simp [Rows.uptoBulk]
  | iface t d => simp [Rows.uptoBulk]
  | map entries => simp [Rows.uptoBulk]
  | held h => simp [Rows.uptoBulk]
theorem bulk_part {H : Type} {d : DataW H} {l : List (DataW H)} (h : d ∈ l) : Rows.uptoBulk d ≤ Rows.uptoBulkAll l := by
  induction l with
  | nil => cases h
  | cons x r ih =>
    simp only [Rows.uptoBulkAll]
    cases List.mem_cons.1 h with
    | inl e => subst e; omega
    | inr e => have := ih e; omega
theorem bulk_len {H : Type} (l : List (DataW H)) : l.length ≤ Rows.uptoBulkAll l := by
  induction l with
  | nil => simp [Rows.uptoBulkAll]
  | cons x r ih => have := bulk_one x; simp only [Rows.uptoBulkAll, List.length_cons]; omega
theorem openU_picks {H : Type} {enc : TypeId × Value → H} {W : World} {fuel : Nat} {v : Value} {y : DataW H × List MemPlace}
    (h : DataW.trod enc Try.prog W 0 (fun _ => true) true fuel 23 [v] = some y) (hb : Rows.uptoBulk y.1 ≤ 1048576) :
    ∃ p : List Int, KR pinE W v p ∧ p.length ≤ 1048576 ∧ (p ≠ [] → ∀ b x n c, v = .slice (some ⟨b, x, none⟩) n c → b < W.heap.size) := by
  rcases open_ints Try.underlying23 Try.underlying3 cellsI h with ⟨hcs, hx⟩ | ⟨a, len, cap, zs, hcs, _, hl, hm, hz, hx, hcell, hwz⟩
  · have e : v = .slice none 0 0 := by simpa using hcs
    subst e
    exact ⟨[], KR.nil, by simp, fun h => absurd rfl h⟩
  · have e : v = .slice (some a) len cap := by simpa using hcs
    subst e
    simp only [if_true] at hz
    have hlen : (zs.take len).length = len := by rw [List.length_take]; omega
    have hr : len ≤ 1048576 := by
      rw [hx] at hb
      simp only [Rows.uptoBulk] at hb
      have h1 := bulk_len (H := H) (lits .i64 (zs.take len))
      have h2 : (lits (H := H) .i64 (zs.take len)).length = len := by unfold lits; rw [List.length_map, hlen]
      omega
    refine ⟨zs.take len, ?_, by omega, fun hne b x n c e => ?_⟩
    · by_cases h0 : len = 0
      · subst h0
        exact Or.inl ⟨by simp, some a, cap, rfl, fun h => by cases h⟩
      · obtain ⟨b, off, spot⟩ := a
        have hspot : spot = none := by simpa [Addr.add] using World.cell?_spot (hcell 0 (by omega))
        subst hspot
        refine Or.inr ⟨b, off, cap, by rw [hlen], fun j u hu => ?_⟩
        rw [pin_fl, List.getElem?_map] at hu
        have hj : j < len := by
          rcases hq : (zs.take len)[j]? with _ | z
          · rw [hq] at hu; cases hu
          · have := (List.getElem?_eq_some_iff.1 hq).1; omega
        have := hcell j (by omega)
        rw [Lib.add_plain] at this
        rw [this, List.getD_eq_getElem?_getD, ← hu, List.getElem?_take_of_lt hj, List.getElem?_eq_getElem (by omega)]
        rfl
    · injection e with e _ _
      injection e with e
      subst e
      have h0 : 0 < len := by
        have := List.length_pos_iff.2 hne
        omega
      have := hcell 0 (by omega)
      exact lt_of_cell this
set_option maxRecDepth 100000 in
theorem openU_ops {H : Type} {enc : TypeId × Value → H} {W : World} {fuel : Nat} {ad : Option Addr} {len cap : Nat} {x : DataW H × List MemPlace}
    (h : DataW.trod enc Try.prog W 0 (fun _ => true) true fuel 22 [.slice ad len cap] = some x) (hb : Rows.uptoBulk x.1 ≤ 1048576) :
    ∃ g off, (len ≠ 0 → ad = some ⟨g, off, none⟩) ∧ len ≤ 1048576 ∧ ∀ i, i < len → ∃ o pv, OpA W.heap.size W g (off + i * 7) o pv := by
  rcases Go.Deep.open_slice Try.underlying22 h with ⟨hcs, hx⟩ | ⟨a, len', cap', m, n, D, Pl, hcs, _, hl, hm, hmm, hx, hcell⟩
  · simp at hcs
    obtain ⟨rfl, rfl, rfl⟩ := hcs
    exact ⟨0, 0, fun h => absurd rfl h, Nat.zero_le _, fun i hi => by omega⟩
  · simp at hcs
    obtain ⟨rfl, rfl, rfl⟩ := hcs
    subst hx
    simp only [if_true] at hmm
    subst hmm
    have hel : ∀ i, i < len → Rows.uptoBulk (D i) ≤ 1048576 := by
      intro i hi
      have h1 := bulk_part (List.mem_map.2 ⟨i, List.mem_range.2 hi, rfl⟩ : D i ∈ (List.range len).map D)
      simp only [Rows.uptoBulk] at hb
      omega
    have hlen : len ≤ 1048576 := by
      have h1 := bulk_len ((List.range len).map D)
      simp only [List.length_map, List.length_range] at h1
      simp only [Rows.uptoBulk] at hb
      omega
    obtain ⟨g, off, spot⟩ := a
    have hsp : len ≠ 0 → spot = none := fun h => by
      obtain ⟨cs', h1, h2⟩ := hcell 0 (by omega)
      rw [cellsOx] at h1
      obtain ⟨_, hlen4, hc4⟩ := World.cells?_some h1
      have c0 := hc4 0 (by omega)
      obtain ⟨v0, hv0⟩ : ∃ v0, cs'[0]? = some v0 := ⟨_, List.getElem?_eq_getElem (by omega)⟩
      rw [hv0] at c0
      simpa [Addr.add] using World.cell?_spot c0
    refine ⟨g, off, fun h => by rw [hsp h], hlen, fun i hi => ?_⟩
    obtain ⟨cs', h1, h2⟩ := hcell i (by omega)
    have hs := hsp (by omega)
    subst hs
    rw [cellsOx] at h1
    obtain ⟨_, hlen4, hc4⟩ := World.cells?_some h1
    obtain ⟨xs, k, hk, hxy, _, hxl, hf⟩ := DataW.trod_struct Try.underlying29 h2
    match xs, hxl, cs', hlen4 with
    | [y0, y1, y2, y3, y4, y5, y6], _, [v0, v1, v2, v3, v4, v5, v6], _ =>
      have g0 := hf 0 _ rfl
      have g1 := hf 1 _ rfl
      have g2 := hf 2 _ rfl
      have g3 := hf 3 _ rfl
      have g4 := hf 4 _ rfl
      have g5 := hf 5 _ rfl
      have g6 := hf 6 _ rfl
      simp [cellsI, cellsS, cellsPk] at g0 g1 g2 g3 g4 g5 g6
      simp only [Prod.mk.injEq] at hxy
      obtain ⟨z0, e0, _, _⟩ := DataW.trod_int Try.underlying3 g0
      obtain ⟨z1, e1, hy1, _⟩ := DataW.trod_string Try.underlying9 g1
      obtain ⟨z2, e2, hy2, _⟩ := DataW.trod_string Try.underlying9 g2
      obtain ⟨z3, e3, hy3, _⟩ := DataW.trod_string Try.underlying9 g3
      obtain ⟨z4, e4, _, _⟩ := DataW.trod_int Try.underlying3 g4
      obtain ⟨z5, e5, _, _⟩ := DataW.trod_int Try.underlying3 g5
      simp at e0 e1 e2 e3 e4 e5
      have q := hel i hi
      rw [hxy.1] at q
      simp only [List.map_cons, List.map_nil, Rows.uptoBulk, Rows.uptoBulkAll] at q
      rw [hy1, hy2, hy3] at q
      simp only [Rows.uptoBulk, list_len] at q
      have hs1 : z1.size ≤ 140737488355328 := by omega
      have hs2 : z2.size ≤ 140737488355328 := by omega
      have hs3 : z3.size ≤ 140737488355328 := by omega
      obtain ⟨p, hp1, hp2, hp3⟩ := openU_picks (y := (y6.1, y6.2)) g6 (by show Rows.uptoBulk y6.1 ≤ _; omega)
      subst e0; subst e1; subst e2; subst e3; subst e4; subst e5
      have hall : ∀ j u, (opCells ⟨z0, z1, z2, z3, z4, z5, p⟩ v6)[j]? = some u → W.cell? ⟨g, off + i * 7 + j, none⟩ = some u := fun q u hu => by
        have hj : q < 7 := (List.getElem?_eq_some_iff.1 hu).1
        have c0 := hc4 q hj
        rw [show [Value.int .i64 z0, .string z1, .string z2, .string z3, .int .i64 z4, .int .i64 z5, v6][q]? = some u from hu, Go.Deep.add_add, Lib.add_plain] at c0
        rw [← c0]
        congr 2
        omega
      exact ⟨⟨z0, z1, z2, z3, z4, z5, p⟩, v6, hall, ⟨hs1, hs2, hs3, by show p.length ≤ _; omega⟩, hp1, hp3, lt_of_cell (hall 0 _ rfl)⟩
end Go.Proofs.Ytencjopnbmbhkaa
