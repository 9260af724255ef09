import Derived.Test.YtgiicfgekicfcaaGreatDoorBkD
import Derived.Test.YtgiicfgekicfcaaGreatDoorSzA
namespace Go.Proofs.YtgiicfgekicfcaaGreatDoor
open Go.ChangeShapes Go.WideShapes Go.ChangeAt Go.RowKit Vi
set_option linter.unusedVariables false
set_option linter.unusedSimpArgs false
theorem bytesRp : Tryz.prog.bytesOf 24 = 56 := by kernel_rfl
section
variable {H : Type} {enc : TypeId × Value → H} {W : World}
set_option maxRecDepth 100000 in
theorem open_head1 {fuel : Nat} {cs : List Value} {x : DataW H × List MemPlace} (hc : cs.length = 4) (h : DataW.trod enc Tryz.prog W 0 (fun _ => true) true fuel 24 cs = some x) :
    ∃ (kd n : Int) (s : ByteArray) (v : Value) (y : DataW H × List MemPlace) (m : Nat), fuel = m + 1 ∧ cs = [.int .i64 kd, .string s, .int .i64 n, v] ∧ (-9223372036854775808 ≤ n ∧ n ≤ 9223372036854775807) ∧ x.1 = .agg [.lit (.int .i64 kd), .lit (.string s.data.toList), .lit (.int .i64 n), y.1] ∧ DataW.trod enc Tryz.prog W 0 (fun _ => true) true m 22 [v] = some y := by
  obtain ⟨xs, m, hk, hxy, _, hxl, hf⟩ := DataW.trod_struct Tryz.underlying24 h
  match xs, hxl, cs, hc with
  | [y0, y1, y2, y3], _, [v0, v1, v2, v3], _ =>
    have g0 := hf 0 _ rfl
    have g1 := hf 1 _ rfl
    have g2 := hf 2 _ rfl
    have g3 := hf 3 _ rfl
    simp [cellsRI, cellsRS, cellsRL] at g0 g1 g2 g3
    obtain ⟨z0, e0, q0, hw0⟩ := DataW.trod_int Tryz.underlying3 g0
    obtain ⟨z1, e1, q1, _⟩ := DataW.trod_string Tryz.underlying9 g1
    obtain ⟨z2, e2, q2, hw2⟩ := DataW.trod_int Tryz.underlying3 g2
    simp at e0 e1 e2
    simp [Lit.wf, IntKind.min, IntKind.max, IntKind.signed, IntKind.bits] at hw2
    subst e0; subst e1; subst e2
    refine ⟨z0, z2, z1, v3, y3, m, hk, rfl, ⟨by omega, by omega⟩, ?_, g3⟩
    rw [hxy]
    simp only [List.map_cons, List.map_nil, q0, q1, q2]
theorem rep_text {d y : DataW H} {kd n : Int} {s : List UInt8} (h : d = .agg [.lit (.int .i64 kd), .lit (.string s), .lit (.int .i64 n), y]) : s.length ∈ DataW.weights Tryz.prog 24 d := by
  subst h
  simp only [DataW.weights, Tryz.underlying24]
  simp [DataW.weightsEach, DataW.weights]
theorem rep_list {d y : DataW H} {kd n : Int} {s : List UInt8} (h : d = .agg [.lit (.int .i64 kd), .lit (.string s), .lit (.int .i64 n), y]) {z : Nat} (hz : z ∈ DataW.weights Tryz.prog 22 y) : z ∈ DataW.weights Tryz.prog 24 d := by
  subst h
  simp only [DataW.weights, Tryz.underlying24]
  simp [DataW.weightsEach, DataW.weights]
  exact Or.inr hz
theorem weights_at (e : TypeId) : ∀ (l : List (DataW H × List MemPlace)) (i : Nat) (h : i < l.length) (z : Nat), z ∈ DataW.weights Tryz.prog e l[i].1 → z ∈ DataW.weightsAll Tryz.prog e (l.map (·.1))
  | [], i, h, _, _ => absurd h (Nat.not_lt_zero _)
  | x :: l, 0, h, z, hz => by simp only [List.map_cons, DataW.weightsAll, List.mem_append]; exact Or.inl hz
  | x :: l, i + 1, h, z, hz => by simp only [List.map_cons, DataW.weightsAll, List.mem_append]; exact Or.inr (weights_at e l i (by simpa using h) z hz)
theorem rep_elem {d y : DataW H} {kd n : Int} {s : List UInt8} {elems : List (DataW H × List MemPlace)} {rest : List (DataW H)} (h : d = .agg [.lit (.int .i64 kd), .lit (.string s), .lit (.int .i64 n), y]) (hy : y = .slice (elems.map (·.1)) rest) (i : Nat) (hi : i < elems.length) {z : Nat} (hz : z ∈ DataW.weights Tryz.prog 24 elems[i].1) : z ∈ DataW.weights Tryz.prog 24 d := by
  refine rep_list h ?_
  subst hy
  simp only [DataW.weights, Tryz.underlying22, List.mem_cons, List.mem_append]
  exact Or.inr (Or.inl (weights_at _ elems i hi z hz))
theorem rep_len {d y : DataW H} {kd n : Int} {s : List UInt8} {elems : List (DataW H × List MemPlace)} {rest : List (DataW H)} (h : d = .agg [.lit (.int .i64 kd), .lit (.string s), .lit (.int .i64 n), y]) (hy : y = .slice (elems.map (·.1)) rest) : (elems.length + rest.length) * 56 ∈ DataW.weights Tryz.prog 24 d := by
  refine rep_list h ?_
  subst hy
  simp only [DataW.weights, Tryz.underlying22, List.mem_cons, List.length_map, bytesRp]
  exact Or.inl trivial
/-- a reply as an argument. -/
theorem open_rep1 : ∀ (k fuel : Nat) (cs : List Value) (x : DataW H × List MemPlace), fuel ≤ 2 * k + 2 → cs.length = 4 → DataW.trod enc Tryz.prog W 0 (fun _ => true) true fuel 24 cs = some x → (∀ z ∈ DataW.weights Tryz.prog 24 x.1, z ≤ 140737488351232) →
    ∃ (t : Rn (Rp k)) (v : Value), (cs = [.int .i64 t.kind, .string (strB t.text), .int .i64 t.n, v] ∧ RpL (fun _ => True) k W v t.list) ∧ Rg k t ∧ Wz k t
  | 0, fuel, cs, x, hfu, hc, h, hwt => by
    obtain ⟨kd, n, s, v, y, m, hm, rfl, hn, hb, hy⟩ := open_head1 hc h
    have hz : s.data.toList.length ≤ 140737488351232 := hwt _ (rep_text hb)
    rcases DataW.trod_slice Tryz.underlying22 hy with ⟨hcs, _⟩ | ⟨a, len, cap, elems, rest, j, hj, hcs, hx, _, hl, hmx, hlen, hel, hsp, hns⟩
    · have e : v = .slice none 0 0 := by simpa using hcs
      subst e
      exact ⟨⟨kd, s.data.toList, n, []⟩, _, ⟨rfl, ⟨_, _, rfl⟩⟩, hn, hz⟩
    · have e : v = .slice (some a) len cap := by simpa using hcs
      subst e
      have hj0 : j = 0 := by omega
      have hl0 : len = 0 := by
        by_cases h0 : len = 0
        · exact h0
        · have h1 := hel 0 (by omega)
          rw [List.getElem?_eq_getElem (by omega)] at h1
          obtain ⟨cs', h2, h3⟩ := Option.bind_eq_some_iff.1 h1
          rw [hj0] at h3
          simp [DataW.trod] at h3
      subst hl0
      exact ⟨⟨kd, s.data.toList, n, []⟩, _, ⟨rfl, ⟨_, _, rfl⟩⟩, hn, hz⟩
  | k + 1, fuel, cs, x, hfu, hc, h, hwt => by
    obtain ⟨kd, n, s, v, y, m, hm, rfl, hn, hb, hy⟩ := open_head1 hc h
    rcases DataW.trod_slice Tryz.underlying22 hy with ⟨hcs, _⟩ | ⟨a, len, cap, elems, rest, j, hj, hcs, hx, _, hl, hmx, hlen, hel, hsp, hns⟩
    · have e : v = .slice none 0 0 := by simpa using hcs
      subst e
      refine ⟨⟨kd, s.data.toList, n, []⟩, _, ⟨rfl, ⟨_, _, rfl, fun i h => absurd h (Nat.not_lt_zero i)⟩⟩, ⟨hn, fun x hx => by cases hx⟩, ⟨hwt _ (rep_text hb), Nat.zero_le _, fun x hx => by cases hx⟩⟩
    · have e : v = .slice (some a) len cap := by simpa using hcs
      subst e
      rw [cellsRp] at hel
      have hspa : len ≠ 0 → a.spot = none := fun h0 => by
        have h1 := hel 0 (by omega)
        rw [List.getElem?_eq_getElem (by omega)] at h1
        obtain ⟨cs', h2, h3⟩ := Option.bind_eq_some_iff.1 h1
        obtain ⟨_, hlen4, hc4⟩ := World.cells?_some h2
        have c0 := hc4 0 (by omega)
        obtain ⟨v0, hv0⟩ : ∃ v0, cs'[0]? = some v0 := ⟨_, List.getElem?_eq_getElem (by omega)⟩
        rw [hv0] at c0
        simpa [Addr.add] using World.cell?_spot c0
      have key : ∀ i, i < len → ∃ t : Rn (Rp k), ∃ g o l2, (some a = some (⟨g, o, none⟩ : Addr) ∧
          W.cell? ⟨g, o + i * 4, none⟩ = some (.int .i64 t.kind) ∧ W.cell? ⟨g, o + i * 4 + 1, none⟩ = some (.string (strB t.text)) ∧
          W.cell? ⟨g, o + i * 4 + 2, none⟩ = some (.int .i64 t.n) ∧ W.cell? ⟨g, o + i * 4 + 3, none⟩ = some l2 ∧ RpL (fun _ => True) k W l2 t.list) ∧ Rg k t ∧ Wz k t := by
        intro i hi
        have h1 := hel i hi
        have hie : i < elems.length := by omega
        rw [List.getElem?_eq_getElem hie] at h1
        obtain ⟨cs', h2, h3⟩ := Option.bind_eq_some_iff.1 h1
        obtain ⟨_, hlen4, hc4⟩ := World.cells?_some h2
        obtain ⟨t, l2, ⟨rfl, ht⟩, hr, hbz⟩ := open_rep1 k j cs' elems[i] (by omega) hlen4 h3 (fun z hz => hwt z (rep_elem hb (congrArg Prod.fst hx) i hie hz))
        have c0 := hc4 0 (by omega)
        have c1 := hc4 1 (by omega)
        have c2 := hc4 2 (by omega)
        have c3 := hc4 3 (by omega)
        obtain ⟨g, o, spot⟩ := a
        have hspot : spot = none := hspa (by omega)
        subst hspot
        rw [Go.Deep.add_add, Lib.add_plain] at c0 c1 c2 c3
        refine ⟨t, g, o, l2, ⟨rfl, ?_, ?_, ?_, ?_, ht⟩, hr, hbz⟩
        · exact c0
        · rw [Nat.add_assoc]; exact c1
        · rw [Nat.add_assoc]; exact c2
        · rw [Nat.add_assoc]; exact c3
      obtain ⟨ts, hts, hP⟩ := choice_list _ len key
      refine ⟨⟨kd, s.data.toList, n, ts⟩, _, ⟨rfl, ⟨some a, cap, congrArg (fun q => Value.slice (some a) q cap) hts.symm, fun i hi => ?_⟩⟩, ⟨hn, fun t ht => ?_⟩, ?_⟩
      · obtain ⟨g, o, l2, ⟨q1, q2, q3, q4, q5, q6⟩, _, _⟩ := hP i hi
        exact ⟨g, o, l2, q1, trivial, q2, q3, q4, q5, q6⟩
      · obtain ⟨i, hi, e⟩ := List.getElem_of_mem (show t ∈ ts from ht)
        obtain ⟨g, o, l2, _, hr, _⟩ := hP i hi
        rw [e] at hr
        exact hr
      · refine ⟨hwt _ (rep_text hb), ?_, fun t ht => ?_⟩
        · have h9 := hwt _ (rep_len hb (congrArg Prod.fst hx))
          show ts.length ≤ _
          omega
        · obtain ⟨i, hi, e⟩ := List.getElem_of_mem (show t ∈ ts from ht)
          obtain ⟨g, o, l2, _, _, hz⟩ := hP i hi
          rw [e] at hz
          exact hz
end
end Go.Proofs.YtgiicfgekicfcaaGreatDoor
