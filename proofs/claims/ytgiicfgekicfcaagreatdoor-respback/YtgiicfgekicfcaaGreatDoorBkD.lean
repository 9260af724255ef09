import Derived.Test.YtgiicfgekicfcaaGreatDoorBkC
import Derived.Test.YtgiicfgekicfcaaGreatDoorBulk
import Derived.ChangeArms
import Derived.Deep.Slices
import Derived.OpenShut
namespace Go.Proofs.YtgiicfgekicfcaaGreatDoor
open Go.ChangeShapes Go.WideShapes Go.ChangeAt Go.RowKit Vi
set_option linter.unusedVariables false
set_option linter.unusedSimpArgs false
theorem laidOut : laidOutB Tryz.prog = true := by kernel_rfl
theorem cellsRI : Tryz.prog.cellsOf 3 = 1 := by kernel_rfl
theorem cellsRS : Tryz.prog.cellsOf 9 = 1 := by kernel_rfl
theorem cellsRL : Tryz.prog.cellsOf 22 = 1 := by kernel_rfl
theorem cellsRp : Tryz.prog.cellsOf 24 = 4 := by kernel_rfl
theorem choice_list {α : Type} (P : Nat → α → Prop) : ∀ (n : Nat), (∀ i, i < n → ∃ t, P i t) → ∃ ts : List α, ts.length = n ∧ ∀ i (h : i < ts.length), P i ts[i]
  | 0, _ => ⟨[], rfl, fun i h => absurd h (Nat.not_lt_zero i)⟩
  | n + 1, h => by
    obtain ⟨ts, e, ht⟩ := choice_list P n (fun i hi => h i (by omega))
    obtain ⟨t, h1⟩ := h n (by omega)
    refine ⟨ts ++ [t], by simp [e], fun i hi => ?_⟩
    by_cases hin : i < ts.length
    · rw [List.getElem_append_left hin]; exact ht i hin
    · have hin : i = ts.length := by simp at hi; omega
      subst hin
      rw [List.getElem_append_right (Nat.le_refl _)]
      simp only [Nat.sub_self, List.getElem_cons_zero]
      rw [e]; exact h1
theorem bulk_sum {H α : Type} (f : α → Nat) : ∀ (ts : List α) (es : List (DataW H × List MemPlace)), ts.length = es.length → (∀ i (h : i < ts.length) (h2 : i < es.length), f ts[i] ≤ Rows.uptoBulk es[i].1) → (ts.map f).sum ≤ Rows.uptoBulkAll (es.map (·.1))
  | [], [], _, _ => Nat.le_refl _
  | [], _ :: _, h, _ => by simp at h
  | _ :: _, [], h, _ => by simp at h
  | t :: ts, e :: es, h, hp => by
    have h0 := hp 0 (by simp) (by simp)
    have ih := bulk_sum f ts es (by simpa using h) (fun i h1 h2 => hp (i + 1) (by simpa using h1) (by simpa using h2))
    simp only [List.map_cons, List.sum_cons, Rows.uptoBulkAll]
    exact Nat.add_le_add h0 ih
section
variable {H : Type} {enc : TypeId × Value → H} {W : World}
set_option maxRecDepth 100000 in
/-- a reply's first three cells. -/
theorem open_head {fuel : Nat} {cs : List Value} {x : DataW H × List MemPlace} (hc : cs.length = 4) (h : DataW.trod enc Tryz.prog W 0 (fun _ => true) true fuel 24 cs = some x) :
    ∃ (kd n : Int) (s : ByteArray) (v : Value) (y : DataW H × List MemPlace) (m : Nat), fuel = m + 1 ∧ cs = [.int .i64 kd, .string s, .int .i64 n, v] ∧ (-9223372036854775808 ≤ n ∧ n ≤ 9223372036854775807) ∧ 1 + s.size + 2 + Rows.uptoBulk y.1 ≤ Rows.uptoBulk x.1 ∧ DataW.trod enc Tryz.prog W 0 (fun _ => true) true m 22 [v] = some y := by
  obtain ⟨xs, m, hk, hxy, _, hxl, hf⟩ := DataW.trod_struct Tryz.underlying24 h
  match xs, hxl, cs, hc with
  | [y0, y1, y2, y3], _, [v0, v1, v2, v3], _ =>
    have g0 := hf 0 _ rfl
    have g1 := hf 1 _ rfl
    have g2 := hf 2 _ rfl
    have g3 := hf 3 _ rfl
    simp [cellsRI, cellsRS, cellsRL] at g0 g1 g2 g3
    obtain ⟨z0, e0, q0, hw0⟩ := DataW.trod_int Tryz.underlying3 g0
    obtain ⟨z1, e1, q1, _⟩ := DataW.trod_string Tryz.underlying9 g1
    obtain ⟨z2, e2, q2, hw2⟩ := DataW.trod_int Tryz.underlying3 g2
    simp at e0 e1 e2
    simp [Lit.wf, IntKind.min, IntKind.max, IntKind.signed, IntKind.bits] at hw2
    subst e0; subst e1; subst e2
    refine ⟨z0, z2, z1, v3, y3, m, hk, rfl, ⟨by omega, by omega⟩, ?_, g3⟩
    rw [hxy, q0, q1, q2]
    simp only [List.map_cons, List.map_nil, Rows.uptoBulk, Rows.uptoBulkAll, list_len]
    omega
theorem strB_id (s : ByteArray) : strB s.data.toList = s := rfl
/-- a reply as an argument. -/
theorem open_rep : ∀ (k fuel : Nat) (cs : List Value) (x : DataW H × List MemPlace), fuel ≤ 2 * k + 2 → cs.length = 4 → DataW.trod enc Tryz.prog W 0 (fun _ => true) true fuel 24 cs = some x →
    ∃ (t : Rn (Rp k)) (v : Value), (cs = [.int .i64 t.kind, .string (strB t.text), .int .i64 t.n, v] ∧ RpL (fun _ => True) k W v t.list) ∧ Rg k t ∧ bz k t ≤ Rows.uptoBulk x.1
  | 0, fuel, cs, x, hfu, hc, h => by
    obtain ⟨kd, n, s, v, y, m, hm, rfl, hn, hb, hy⟩ := open_head hc h
    have hz : 1 + s.data.toList.length ≤ Rows.uptoBulk x.1 := by rw [list_len]; omega
    rcases DataW.trod_slice Tryz.underlying22 hy with ⟨hcs, _⟩ | ⟨a, len, cap, elems, rest, j, hj, hcs, hx, _, hl, hmx, hlen, hel, hsp, hns⟩
    · have e : v = .slice none 0 0 := by simpa using hcs
      subst e
      exact ⟨⟨kd, s.data.toList, n, []⟩, _, ⟨rfl, ⟨_, _, rfl⟩⟩, hn, hz⟩
    · have e : v = .slice (some a) len cap := by simpa using hcs
      subst e
      have hj0 : j = 0 := by omega
      have hl0 : len = 0 := by
        by_cases h0 : len = 0
        · exact h0
        · have h1 := hel 0 (by omega)
          rw [List.getElem?_eq_getElem (by omega)] at h1
          obtain ⟨cs', h2, h3⟩ := Option.bind_eq_some_iff.1 h1
          rw [hj0] at h3
          simp [DataW.trod] at h3
      subst hl0
      exact ⟨⟨kd, s.data.toList, n, []⟩, _, ⟨rfl, ⟨_, _, rfl⟩⟩, hn, hz⟩
  | k + 1, fuel, cs, x, hfu, hc, h => by
    obtain ⟨kd, n, s, v, y, m, hm, rfl, hn, hb, hy⟩ := open_head hc h
    rcases DataW.trod_slice Tryz.underlying22 hy with ⟨hcs, _⟩ | ⟨a, len, cap, elems, rest, j, hj, hcs, hx, _, hl, hmx, hlen, hel, hsp, hns⟩
    · have e : v = .slice none 0 0 := by simpa using hcs
      subst e
      refine ⟨⟨kd, s.data.toList, n, []⟩, _, ⟨rfl, ⟨_, _, rfl, fun i h => absurd h (Nat.not_lt_zero i)⟩⟩, ⟨hn, fun x hx => by cases hx⟩, ?_⟩
      show 1 + s.data.toList.length + 0 ≤ _
      rw [list_len]; omega
    · have e : v = .slice (some a) len cap := by simpa using hcs
      subst e
      rw [cellsRp] at hel
      have hspa : len ≠ 0 → a.spot = none := fun h0 => by
        have h1 := hel 0 (by omega)
        rw [List.getElem?_eq_getElem (by omega)] at h1
        obtain ⟨cs', h2, h3⟩ := Option.bind_eq_some_iff.1 h1
        obtain ⟨_, hlen4, hc4⟩ := World.cells?_some h2
        have c0 := hc4 0 (by omega)
        obtain ⟨v0, hv0⟩ : ∃ v0, cs'[0]? = some v0 := ⟨_, List.getElem?_eq_getElem (by omega)⟩
        rw [hv0] at c0
        simpa [Addr.add] using World.cell?_spot c0
      have key : ∀ i, i < len → ∃ t : Rn (Rp k), ∃ g o l2, (some a = some (⟨g, o, none⟩ : Addr) ∧
          W.cell? ⟨g, o + i * 4, none⟩ = some (.int .i64 t.kind) ∧ W.cell? ⟨g, o + i * 4 + 1, none⟩ = some (.string (strB t.text)) ∧
          W.cell? ⟨g, o + i * 4 + 2, none⟩ = some (.int .i64 t.n) ∧ W.cell? ⟨g, o + i * 4 + 3, none⟩ = some l2 ∧ RpL (fun _ => True) k W l2 t.list) ∧ Rg k t ∧ ∀ h2 : i < elems.length, bz k t ≤ Rows.uptoBulk elems[i].1 := by
        intro i hi
        have h1 := hel i hi
        have hie : i < elems.length := by omega
        rw [List.getElem?_eq_getElem hie] at h1
        obtain ⟨cs', h2, h3⟩ := Option.bind_eq_some_iff.1 h1
        obtain ⟨_, hlen4, hc4⟩ := World.cells?_some h2
        obtain ⟨t, l2, ⟨rfl, ht⟩, hr, hbz⟩ := open_rep k j cs' elems[i] (by omega) hlen4 h3
        have c0 := hc4 0 (by omega)
        have c1 := hc4 1 (by omega)
        have c2 := hc4 2 (by omega)
        have c3 := hc4 3 (by omega)
        obtain ⟨g, o, spot⟩ := a
        have hspot : spot = none := hspa (by omega)
        subst hspot
        rw [Go.Deep.add_add, Lib.add_plain] at c0 c1 c2 c3
        refine ⟨t, g, o, l2, ⟨rfl, ?_, ?_, ?_, ?_, ht⟩, hr, fun _ => hbz⟩
        · exact c0
        · rw [Nat.add_assoc]; exact c1
        · rw [Nat.add_assoc]; exact c2
        · rw [Nat.add_assoc]; exact c3
      obtain ⟨ts, hts, hP⟩ := choice_list _ len key
      refine ⟨⟨kd, s.data.toList, n, ts⟩, _, ⟨rfl, ⟨some a, cap, congrArg (fun q => Value.slice (some a) q cap) hts.symm, fun i hi => ?_⟩⟩, ⟨hn, fun t ht => ?_⟩, ?_⟩
      · obtain ⟨g, o, l2, ⟨q1, q2, q3, q4, q5, q6⟩, _, _⟩ := hP i hi
        exact ⟨g, o, l2, q1, trivial, q2, q3, q4, q5, q6⟩
      · obtain ⟨i, hi, e⟩ := List.getElem_of_mem (show t ∈ ts from ht)
        obtain ⟨g, o, l2, _, hr, _⟩ := hP i hi
        rw [e] at hr
        exact hr
      · have hsum := bulk_sum (bz k) ts elems (by omega) (fun i h1 h2 => by obtain ⟨g, o, l2, _, _, hz⟩ := hP i h1; exact hz h2)
        show 1 + s.data.toList.length + (List.map (bz k) ts).sum ≤ _
        rw [hx] at hb
        simp only [Rows.uptoBulk] at hb
        rw [list_len]
        omega
end
end Go.Proofs.YtgiicfgekicfcaaGreatDoor
