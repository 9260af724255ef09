import Derived.Test.YtgbplghokciimaaDoorRow
import Derived.Laws.OwnMore
namespace Go.Proofs.YtgbplghokciimaaDoor
open Go.RowKit
set_option linter.unusedVariables false
/-- a row of numbers. -/
def IRow (w : World) (v : Value) (l : List Int) : Prop := ∃ base, w.ownsRow base 3 1 v l.length (l.map (Value.int .i64))
theorem IRow.on {w w' : World} {v : Value} {l : List Int} (h : IRow w v l) (hb : Below w.heap.size w w') : IRow w' v l := by
  obtain ⟨base, h⟩ := h
  exact ⟨base, own_keep h (fun q _ hq => hb.block q hq)⟩
theorem IRow.form {w : World} {v : Value} {l : List Int} (h : IRow w v l) : ∃ P c, v = .slice P l.length c := by
  obtain ⟨base, h⟩ := h; exact own_form h
theorem IRow.at {w : World} {P : Option Addr} {n c : Nat} {l : List Int} (h : IRow w (.slice P n c) l) {i : Nat} (hi : i < l.length) : ∃ g, P = some ⟨g, 0, none⟩ ∧ w.cell? ⟨g, i, none⟩ = some (.int .i64 l[i]) := by
  obtain ⟨base, h⟩ := h
  have h2 := h.2
  rcases h2 with ⟨e, h0⟩ | ⟨g, cap, cur, e, _⟩
  · omega
  · injection e with e1 e2 e3
    subst e1 e2 e3
    refine ⟨g, rfl, (World.ownsRow.cellAt h i (by omega)).trans ?_⟩
    rw [List.getElem?_map, List.getElem?_eq_getElem hi]; rfl
set_option maxHeartbeats 800000 in
set_option maxRecDepth 100000 in
theorem sameInts_any (a b : Value) (l m : List Int) (hl : l.length ≤ 1000000) (w : World) (ha : IRow w a l) (hb : IRow w b m) : Calls Tryd.prog 16 #[a, b] w fun e w' => e = .returned (.bool (decide (l = m))) ∧ Below w.heap.size w w' := by
  obtain ⟨Pa, ca, rfl⟩ := ha.form
  obtain ⟨Pb, cb, rfl⟩ := hb.form
  have HA : Hid (IRow w (.slice Pa l.length ca) l) := ha
  have HB : Hid (IRow w (.slice Pb m.length cb) m) := hb
  clear ha hb
  by_cases hlen : l.length = m.length
  · have hlen2 : ((l.length : Nat) : Int) = (m.length : Int) := by omega
    go_enter Tryd.func16, Tryd.ntmps16
    go_wp2
    go_loopw [5] (fun ci wr => Below w.heap.size w wr ∧ ∃ i : Nat, i ≤ l.length ∧ ci = .int .i64 (i : Int) ∧ ∀ j (h1 : j < l.length) (h2 : j < m.length), j < i → l[j] = m[j]) (fun ci _ => l.length - (intOf ci).toNat)
    case atStart => exact ⟨Below.refl _ _, 0, Nat.zero_le _, rfl, fun j _ _ h => by omega⟩
    case round =>
      obtain ⟨hb, i, hi, rfl, heq⟩ := hrel
      have HEQ : Hid _ := heq
      have HBW : Hid (Below w.heap.size w wr) := hb
      have hA := HA.out.on hb
      have hB := HB.out.on hb
      clear heq hb
      by_cases hlt : i < l.length
      · obtain ⟨ga, rfl, qa⟩ := hA.at hlt
        obtain ⟨gb, rfl, qb⟩ := hB.at (i := i) (by omega)
        have hi0 : (0 : Int) ≤ (i : Int) := by omega
        have hi1 : (i : Int) < (l.length : Int) := by omega
        have hi2 : (i : Int) < (m.length : Int) := by omega
        have hiw : IntKind.i64.wrap ((i : Int) + 1) = (i : Int) + 1 := by rw [IntKind.wrap_i64] <;> omega
        clear hA hB
        by_cases hx : l[i] = m[i]'(by omega)
        · have HN : Hid (∀ j (h1 : j < l.length) (h2 : j < m.length), j < i + 1 → l[j] = m[j]) := fun j h1 h2 h3 => by
            rcases Nat.lt_or_ge j i with q | q
            · exact HEQ.out j h1 h2 q
            · have : j = i := by omega
              subst this; exact hx
          rw [hx] at qa
          generalize m[i]'(by omega) = x at qa qb
          clear hx hlen hlen2
          go_wp2
          go_quiet (fail)
          go_wp2
          go_roundw
          case rel => exact ⟨below_dn HBW.out _, i + 1, hlt, by go_num, HN.out⟩
          case measure => simp [intOf]; omega
        · have HD : Hid (decide (l = m) = false) := decide_eq_false (fun e => hx (by subst e; rfl))
          generalize l[i] = x at qa hx
          generalize m[i]'(by omega) = y at qb hx
          clear hlen hlen2
          go_wp2
          go_quiet (fail)
          go_wp2
          go_returns
          exact ⟨by rw [HD.out]; rfl, below_dn HBW.out _⟩
      · have hi1 : ¬ (i : Int) < (l.length : Int) := by omega
        have HD : Hid (decide (l = m) = true) := decide_eq_true (List.ext_getElem hlen (fun j h1 h2 => HEQ.out j h1 h2 (by omega)))
        clear hA hB hlen hlen2
        go_wp2
        go_returns
        exact ⟨by rw [HD.out]; rfl, HBW.out⟩
  · have hlen2 : ¬ (l.length : Int) = (m.length : Int) := by omega
    have HD : Hid (decide (l = m) = false) := decide_eq_false (fun e => hlen (by rw [e]))
    go_enter Tryd.func16, Tryd.ntmps16
    go_wp2
    go_returns
    exact ⟨by rw [HD.out]; rfl, Below.refl _ _⟩
end Go.Proofs.YtgbplghokciimaaDoor
