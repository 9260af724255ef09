import Derived.Test.YtcnicdcjdieodaaDoorLawW
import Derived.Test.YtcnicdcjdieodaaDoorBulk
import Derived.Deep.Slices
import Derived.Lib.ItoaMem
namespace Go.Proofs.YtcnicdcjdieodaaDoor
open Go.ChangeShapes Go.WideShapes
set_option linter.unusedVariables false

theorem bulk_part {H : Type} {d : DataW H} {l : List (DataW H)} (h : d ∈ l) : Rows.uptoBulk d ≤ Rows.uptoBulkAll l := by
  induction l with
  | nil => cases h
  | cons x r ih =>
    simp only [Rows.uptoBulkAll]
    rcases List.mem_cons.1 h with e | e
    · subst e; omega
    · have := ih e; omega
theorem bulk_one {H : Type} (d : DataW H) : 1 ≤ Rows.uptoBulk d := by
  cases d with
  | lit l => cases l <;> simp [Rows.uptoBulk]
  | _ => simp [Rows.uptoBulk]
theorem bulk_len {H : Type} (l : List (DataW H)) : l.length ≤ Rows.uptoBulkAll l := by
  induction l with
  | nil => simp [Rows.uptoBulkAll]
  | cons x r ih => have := bulk_one x; simp only [Rows.uptoBulkAll, List.length_cons]; omega
theorem bulk_cat {H : Type} (ss : List ByteArray) (k : Nat) (hk : k ≤ ss.length) : (cat (fun i => ss.getD i ByteArray.empty) k).length + k ≤ Rows.uptoBulkAll (strs (H := H) (ss.take k)) := by
  induction k with
  | zero => exact Nat.zero_le _
  | succ k ih =>
    have h1 := ih (by omega)
    have e : ss.take (k + 1) = ss.take k ++ [ss.getD k ByteArray.empty] := by
      rw [List.take_add_one, List.getElem?_eq_getElem (by omega), List.getD_eq_getElem?_getD, List.getElem?_eq_getElem (by omega)]; rfl
    have e2 : strs (H := H) (ss.take (k + 1)) = strs (ss.take k) ++ [.lit (.string (ss.getD k ByteArray.empty).data.toList)] := by
      rw [e]; unfold strs; rw [List.map_append]; rfl
    rw [e2, bulk_snoc, bulk_str, cat_len]
    omega
theorem cells9x : Tryd.prog.cellsOf 9 = 1 := by kernel_rfl
theorem cells3x : Tryd.prog.cellsOf 3 = 1 := by kernel_rfl
theorem cells4x : Tryd.prog.cellsOf 4 = 1 := by kernel_rfl
theorem cellsTx : Tryd.prog.cellsOf 44 = 1 := by kernel_rfl
theorem cellsPx : Tryd.prog.cellsOf 46 = 3 := by kernel_rfl
/-- one piece, as it is read. -/
structure OneP (W : World) (v0 v1 v2 : Value) (bk : Nat) (b : Bool) (n : Int) (A : Option Addr) (M C G O : Nat) (S : Nat → ByteArray) : Prop where
  e0 : v0 = .bool b
  e1 : v1 = .int .i64 n
  e2 : v2 = .slice A M C
  nr : -9223372036854775808 ≤ n ∧ n ≤ 9223372036854775807
  a : M ≠ 0 → A = some ⟨G, O, none⟩ ∧ G < W.heap.size
  s : ∀ j, j < M → W.cell? ⟨G, O + j, none⟩ = some (.string (S j))
  m : (cat S M).length + M ≤ bk
theorem open_texts {H : Type} {enc : TypeId × Value → H} {W : World} {fuel : Nat} {v : Value} {y : DataW H × List MemPlace} (h : DataW.trod enc Tryd.prog W 0 (fun _ => true) true fuel 44 [v] = some y) :
    ∃ A M C G O S, v = .slice A M C ∧ (M ≠ 0 → A = some ⟨G, O, none⟩ ∧ G < W.heap.size) ∧ (∀ j, j < M → W.cell? ⟨G, O + j, none⟩ = some (.string (S j))) ∧ (cat S M).length + M ≤ Rows.uptoBulk y.1 := by
  rcases open_strings Tryd.underlying44 Tryd.underlying9 cells9x h with ⟨hcs, hx⟩ | ⟨a, len, cap, ss, hcs, _, hl, hm, hz, hx, hcell, hws⟩
  · have e : v = .slice none 0 0 := by simpa using hcs
    exact ⟨none, 0, 0, 0, 0, fun _ => ByteArray.empty, e, fun h => absurd rfl h, fun j hj => by omega, by rw [cat_zero]; exact Nat.zero_le _⟩
  · have e : v = .slice (some a) len cap := by simpa using hcs
    subst hx
    simp only [if_true] at hz
    obtain ⟨b, off, spot⟩ := a
    have hsp : len ≠ 0 → spot = none := fun h => by simpa [Addr.add] using World.cell?_spot (hcell 0 (by omega))
    refine ⟨some ⟨b, off, spot⟩, len, cap, b, off, fun i => ss.getD i ByteArray.empty, e, fun h => ⟨by rw [hsp h], ?_⟩, fun j hj => ?_, ?_⟩
    · have := World.block_lt_of_cell? _ _ (hcell 0 (by omega))
      simpa [Addr.add] using this
    · have hs := hsp (by omega)
      subst hs
      have := hcell j (by omega)
      rw [Lib.add_plain] at this
      exact this
    · have := bulk_cat (H := H) ss len (by omega)
      simp only [Rows.uptoBulk]
      omega
set_option maxRecDepth 100000 in
theorem open_pieces {H : Type} {enc : TypeId × Value → H} {W : World} {fuel : Nat} {ad : Option Addr} {len cap : Nat} {x : DataW H × List MemPlace} (h : DataW.trod enc Tryd.prog W 0 (fun _ => true) true fuel 40 [.slice ad len cap] = some x) :
    ∃ g off B N A M C G O S, (len ≠ 0 → ad = some ⟨g, off, none⟩) ∧ len ≤ Rows.uptoBulk x.1 ∧ (Rows.uptoBulk x.1 ≤ 1048576 → Lies W g off len B N A M C G O S) ∧ (∀ i, i < len → -9223372036854775808 ≤ N i ∧ N i ≤ 9223372036854775807) := by
  rcases Go.Deep.open_slice Tryd.underlying40 h with ⟨hcs, hx⟩ | ⟨a, len', cap', m, n, D, Pl, hcs, _, hl, hm, hmm, hx, hcell⟩
  · simp at hcs
    obtain ⟨rfl, rfl, rfl⟩ := hcs
    exact ⟨0, 0, fun _ => false, fun _ => 0, fun _ => none, fun _ => 0, fun _ => 0, fun _ => 0, fun _ => 0, fun _ _ => ByteArray.empty, fun h => absurd rfl h, Nat.zero_le _,
      fun _ => ⟨fun h => absurd rfl h, fun i hi => by omega, fun i hi => by omega, fun i hi => by omega, fun i hi => by omega, fun i hi => by omega, fun i hi => by omega⟩, fun i hi => by omega⟩
  · simp at hcs
    obtain ⟨rfl, rfl, rfl⟩ := hcs
    subst hx
    simp only [if_true] at hmm
    subst hmm
    have hlenb : len ≤ Rows.uptoBulkAll ((List.range len).map D) := by
      have := bulk_len ((List.range len).map D)
      simpa using this
    have each : ∀ i, ∃ q : Value × Value × Value × Bool × Int × Option Addr × Nat × Nat × Nat × Nat × (Nat → ByteArray), i < len →
        W.cell? (a.add (i * 3)) = some q.1 ∧ W.cell? (a.add (i * 3 + 1)) = some q.2.1 ∧ W.cell? (a.add (i * 3 + 2)) = some q.2.2.1 ∧
        OneP W q.1 q.2.1 q.2.2.1 (Rows.uptoBulk (D i)) q.2.2.2.1 q.2.2.2.2.1 q.2.2.2.2.2.1 q.2.2.2.2.2.2.1 q.2.2.2.2.2.2.2.1 q.2.2.2.2.2.2.2.2.1 q.2.2.2.2.2.2.2.2.2.1 q.2.2.2.2.2.2.2.2.2.2 := by
      intro i
      by_cases hi : i < len
      · obtain ⟨cs', h1, h2⟩ := hcell i (by omega)
        rw [cellsPx] at h1
        obtain ⟨_, hlen3, hc3⟩ := World.cells?_some h1
        obtain ⟨xs, k, hk, hxy, _, hxl, hf⟩ := DataW.trod_struct Tryd.underlying46 h2
        match xs, hxl, cs', hlen3 with
        | [y0, y1, y2], _, [v0, v1, v2], _ =>
          have g0 := hf 0 _ rfl
          have g1 := hf 1 _ rfl
          have g2 := hf 2 _ rfl
          simp [cells4x, cells3x, cellsTx] at g0 g1 g2
          have c0 := hc3 0 (by omega)
          have c1 := hc3 1 (by omega)
          have c2 := hc3 2 (by omega)
          rw [Go.Deep.add_add] at c0 c1 c2
          simp only [Prod.mk.injEq] at hxy
          obtain ⟨b, e0, _⟩ := DataW.trod_bool Tryd.underlying4 g0
          obtain ⟨z, e1, _, hw1⟩ := DataW.trod_int Tryd.underlying3 g1
          obtain ⟨A, M, C, G, O, S, e2, ha, hs, hb⟩ := open_texts g2
          simp at e0 e1
          simp [Lit.wf, IntKind.min, IntKind.max, IntKind.signed, IntKind.bits] at hw1
          refine ⟨(v0, v1, v2, b, z, A, M, C, G, O, S), fun _ => ⟨by simpa using c0, by simpa using c1, by simpa using c2, e0, e1, e2, by omega, ha, hs, ?_⟩⟩
          rw [hxy.1]
          simp only [List.map, Rows.uptoBulk, Rows.uptoBulkAll]
          omega
      · exact ⟨(.bool false, .bool false, .bool false, false, 0, none, 0, 0, 0, 0, fun _ => ByteArray.empty), fun h => absurd h hi⟩
    obtain ⟨q, hq⟩ := Classical.skolem.1 each
    obtain ⟨g, off, spot⟩ := a
    have hsp : len ≠ 0 → spot = none := fun h => by simpa [Addr.add] using World.cell?_spot (hq 0 (by omega)).1
    refine ⟨g, off, fun i => (q i).2.2.2.1, fun i => (q i).2.2.2.2.1, fun i => (q i).2.2.2.2.2.1, fun i => (q i).2.2.2.2.2.2.1, fun i => (q i).2.2.2.2.2.2.2.1, fun i => (q i).2.2.2.2.2.2.2.2.1, fun i => (q i).2.2.2.2.2.2.2.2.2.1, fun i => (q i).2.2.2.2.2.2.2.2.2.2, fun h => by rw [hsp h], ?_, fun hbd => ?_, fun i hi => (hq i hi).2.2.2.nr⟩
    · simp only [Rows.uptoBulk]; omega
    · have cell : ∀ i j v, i < len → W.cell? ((⟨g, off, spot⟩ : Addr).add (i * 3 + j)) = some v → W.cell? ⟨g, off + (i * 3 + j), none⟩ = some v := by
        intro i j v hi hc
        have hs := hsp (by omega)
        subst hs
        rw [Lib.add_plain] at hc
        exact hc
      refine ⟨fun h => ?_, fun i hi => ?_, fun i hi => ?_, fun i hi => ?_, fun i hi => (hq i hi).2.2.2.a, fun i hi => (hq i hi).2.2.2.s, fun i hi => ?_⟩
      · have := World.block_lt_of_cell? _ _ (cell 0 0 _ (by omega) (hq 0 (by omega)).1)
        exact this
      · have := cell i 0 _ hi (hq i hi).1
        rw [(hq i hi).2.2.2.e0] at this
        exact this
      · have := cell i 1 _ hi (hq i hi).2.1
        rw [(hq i hi).2.2.2.e1] at this
        exact this
      · have := cell i 2 _ hi (hq i hi).2.2.1
        rw [(hq i hi).2.2.2.e2] at this
        exact this
      · have h1 := (hq i hi).2.2.2.m
        have h2 : Rows.uptoBulk (D i) ≤ Rows.uptoBulkAll ((List.range len).map D) := bulk_part (List.mem_map.2 ⟨i, List.mem_range.2 hi, rfl⟩)
        simp only [Rows.uptoBulk] at hbd
        omega
end Go.Proofs.YtcnicdcjdieodaaDoor
