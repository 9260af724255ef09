import Derived.Test.YtgbplghokciimaaDoorQkV
import Derived.Test.YtgbplghokciimaaDoorSkN
import Derived.Laws.OwnMore
import Derived.Maps.OwnSet
import Derived.StringKeys
namespace Go.Proofs.YtgbplghokciimaaDoor.S
open Go.RowKit Go.Maps
set_option linter.unusedVariables false
def ptr (o : Option Nat) : Value := .pointer (o.map fun b => ⟨b, 0, none⟩)
/-- a block of values. -/
def Blk (W : World) (g : Nat) (L : List Value) (t : Nat) : Prop := W.heap[g]? = some (.cells L.toArray t (0, 0))
theorem Blk.cell {W : World} {g : Nat} {L : List Value} {t : Nat} (h : Blk W g L t) (i : Nat) : W.cell? ⟨g, i, none⟩ = L[i]? := by
  rw [cell_of_row _ _ _ _ _ _ h]; simp
theorem Blk.frozen {W : World} {g : Nat} {L : List Value} {t : Nat} (h : Blk W g L t) (i : Nat) : W.frozen? ⟨g, i, none⟩ = false := frozen_of_row _ _ _ _ _ h
theorem Blk.set {W : World} {g : Nat} {L : List Value} {t : Nat} (h : Blk W g L t) (i : Nat) (v : Value) : Blk (W.setCell ⟨g, i, none⟩ v) g (L.set i v) t := by
  have := heap_setCell_same W g i L.toArray t v h
  unfold Blk
  rw [this]; simp
theorem Blk.to {W W' : World} {g : Nat} {L : List Value} {t : Nat} (h : Blk W g L t) (e : W'.heap[g]? = W.heap[g]?) : Blk W' g L t := e.trans h
theorem Blk.ne {W : World} {g g' : Nat} {L L' : List Value} {t t' : Nat} (h : Blk W g L t) (h' : Blk W g' L' t') (hn : t ≠ t') : g ≠ g' := fun e => by
  subst e
  have := h.symm.trans h'
  injection this with this
  injection this with _ h2
  exact hn h2
theorem Blk.lt {W : World} {g : Nat} {L : List Value} {t : Nat} (h : Blk W g L t) : g < W.heap.size := row_lt h
def flat2 (c : Nat → Lk) (h : Nat) : List Value := (List.range h).flatMap fun l => [ptr (c l).1, .int .i64 ((c l).2 : Nat)]
theorem flat2_succ (c : Nat → Lk) (h : Nat) : flat2 c (h + 1) = flat2 c h ++ [ptr (c h).1, .int .i64 ((c h).2 : Nat)] := by
  unfold flat2; rw [List.range_succ, List.flatMap_append]; simp
theorem flat2_len (c : Nat → Lk) : ∀ h, (flat2 c h).length = h * 2
  | 0 => rfl
  | h + 1 => by rw [flat2_succ, List.length_append, flat2_len c h]; simp; omega
theorem flat2_at (c : Nat → Lk) : ∀ h j, (flat2 c h)[j]? = if j < h * 2 then some (if j % 2 = 0 then ptr (c (j / 2)).1 else .int .i64 ((c (j / 2)).2 : Nat)) else none
  | 0, j => by simp [flat2]
  | h + 1, j => by
    rw [flat2_succ]
    rcases Nat.lt_or_ge j (h * 2) with h1 | h1
    · rw [List.getElem?_append_left (by rw [flat2_len]; exact h1), flat2_at c h j, if_pos h1, if_pos (show j < (h + 1) * 2 by omega)]
    · rw [List.getElem?_append_right (by rw [flat2_len]; exact h1), flat2_len]
      rcases Nat.lt_trichotomy j (h * 2 + 1) with h2 | h2 | h2
      · have : j = h * 2 := by omega
        subst this
        rw [if_pos (by omega), if_pos (by omega), Nat.sub_self, show h * 2 / 2 = h by omega]; rfl
      · subst h2
        rw [if_pos (by omega), if_neg (by omega), show h * 2 + 1 - h * 2 = 1 by omega, show (h * 2 + 1) / 2 = h by omega]; rfl
      · rw [if_neg (by omega), List.getElem?_eq_none (by simp; omega)]
theorem flat2_get (c : Nat → Lk) (h l : Nat) (hl : l < h) : (flat2 c h)[l * 2]? = some (ptr (c l).1) ∧ (flat2 c h)[l * 2 + 1]? = some (.int .i64 ((c l).2 : Nat)) := by
  rw [flat2_at, flat2_at, if_pos (by omega), if_pos (by omega), if_pos (by omega), if_neg (by omega), show l * 2 / 2 = l by omega, show (l * 2 + 1) / 2 = l by omega]
  exact ⟨rfl, rfl⟩
theorem flat2_congr {c c' : Nat → Lk} {h : Nat} (e : ∀ l, l < h → c l = c' l) : flat2 c h = flat2 c' h := by
  induction h with
  | zero => rfl
  | succ h ih => rw [flat2_succ, flat2_succ, ih (fun l hl => e l (by omega)), e h (by omega)]
theorem flat2_set1 (c : Nat → Lk) (h l : Nat) (y : Nat) : (flat2 c h).set (l * 2 + 1) (.int .i64 (y : Nat)) = flat2 (updL c l ((c l).1, y)) h := by
  refine List.ext_getElem? (fun j => ?_)
  rw [List.getElem?_set, flat2_at, flat2_len, flat2_at]
  unfold updL
  by_cases hj : l * 2 + 1 = j
  · subst hj
    rw [if_pos rfl, show (l * 2 + 1) / 2 = l by omega, if_pos rfl]
    by_cases h1 : l * 2 + 1 < h * 2
    · rw [if_pos h1, if_pos h1, if_neg (by omega)]
    · rw [if_neg h1, if_neg h1]
  · rw [if_neg hj]
    by_cases h1 : j < h * 2
    · rw [if_pos h1, if_pos h1]
      by_cases h2 : j / 2 = l
      · rw [if_pos h2, if_pos (by omega), if_pos (by omega), h2]
      · rw [if_neg h2]
    · rw [if_neg h1, if_neg h1]
theorem flat2_set0 (c : Nat → Lk) (h l : Nat) (o : Option Nat) : (flat2 c h).set (l * 2) (ptr o) = flat2 (updL c l (o, (c l).2)) h := by
  refine List.ext_getElem? (fun j => ?_)
  rw [List.getElem?_set, flat2_at, flat2_len, flat2_at]
  unfold updL
  by_cases hj : l * 2 = j
  · subst hj
    rw [if_pos rfl, show l * 2 / 2 = l by omega, if_pos rfl]
    by_cases h1 : l * 2 < h * 2
    · rw [if_pos h1, if_pos h1, if_pos (by omega)]
    · rw [if_neg h1, if_neg h1]
  · rw [if_neg hj]
    by_cases h1 : j < h * 2
    · rw [if_pos h1, if_pos h1]
      by_cases h2 : j / 2 = l
      · rw [if_pos h2, if_neg (by omega), if_neg (by omega), h2]
      · rw [if_neg h2]
    · rw [if_neg h1, if_neg h1]
theorem updL_twice (c : Nat → Lk) (l : Nat) (x y : Lk) : updL (updL c l x) l y = updL c l y := by
  funext j; unfold updL; split <;> rfl
theorem updL_self (c : Nat → Lk) (l : Nat) (x : Lk) : updL c l x l = x := by unfold updL; rw [if_pos rfl]
/-! the map -/
def ptrElem (v : Value) : Option (DataW Unit × List MemPlace) := match v with
  | .pointer (some ⟨b, 0, none⟩) => some (.lit (.int .i64 (b : Int)), [])
  | .pointer none => some (.lit (.int .i64 (-1)), [])
  | _ => none
theorem ptrElem_some (b : Nat) : ptrElem (ptr (some b)) = some (.lit (.int .i64 (b : Int)), []) := rfl
theorem ptrElem_inv {v : Value} {z : DataW Unit × List MemPlace} (h : ptrElem v = some z) : ∃ o : Option Nat, v = ptr o ∧ z = (.lit (.int .i64 (match o with | some b => (b : Int) | none => -1)), []) := by
  unfold ptrElem at h
  split at h
  · rename_i b
    cases h; exact ⟨some b, rfl, rfl⟩
  · cases h; exact ⟨none, rfl, rfl⟩
  · cases h
theorem lawK : Keyed Tryd.prog 9 := string_keyed Tryd.underlying9
theorem zeroP (w : World) : (zeroValue 120).run Tryd.prog w = .ok (.pointer none) w := by kernel_rfl
theorem lit_inj {a b : Int} (h : (DataW.lit (Lit.int .i64 a) : DataW Unit) = .lit (.int .i64 b)) : a = b := by
  injection h with h
  injection h
/-- a map from members to towers. -/
def MapIs (W : World) (mb n : Nat) (f : ByteArray → Option Nat) : Prop := ∃ D : DataW Unit, W.ownsMap Tryd.prog 9 ptrElem mb n D ∧ ∀ m : ByteArray, Maps.has D (.string m.data.toList) = (f m).isSome ∧ ∀ b, f m = some b → D.atKey (.string m.data.toList) (.lit (.int .i64 (-1))) = .lit (.int .i64 (b : Int))
theorem MapIs.to {W W' : World} {mb n : Nat} {f : ByteArray → Option Nat} (h : MapIs W mb n f) (e : W'.heap[mb]? = W.heap[mb]?) : MapIs W' mb n f := by
  obtain ⟨D, ⟨es, clock, hb, hF⟩, hm⟩ := h
  exact ⟨D, ⟨es, clock, e.trans hb, hF⟩, hm⟩
theorem MapIs.ne {W : World} {mb n g t : Nat} {L : List Value} {f : ByteArray → Option Nat} (h : MapIs W mb n f) (hb : Blk W g L t) : mb ≠ g := fun e => by
  subst e
  obtain ⟨D, ⟨es, clock, h1, hF⟩, hm⟩ := h
  have := h1.symm.trans hb
  cases this
theorem MapIs.lt {W : World} {mb n : Nat} {f : ByteArray → Option Nat} (h : MapIs W mb n f) : mb < W.heap.size := by
  obtain ⟨D, h1, hm⟩ := h
  exact h1.lt
theorem MapIs.look {W : World} {mb n : Nat} {f : ByteArray → Option Nat} (h : MapIs W mb n f) {m : ByteArray} (hs : m.size ≤ maxLen) : (Instr.lookup 119 (.map (some mb)) (.string m) true).run Tryd.prog W = .ok (.tuple #[ptr (f m), .bool (f m).isSome]) W := by
  obtain ⟨D, hD, hm⟩ := h
  obtain ⟨h1, h2⟩ := hm m
  obtain ⟨v, ps, hrun, hv⟩ := hD.look_ok lawK Tryd.underlying119 (zeroP W) (zd := .lit (.int .i64 (-1))) (zp := []) rfl (WideMaps.keyOf_string_mk Tryd.underlying9 hs)
  rw [h1] at hrun
  obtain ⟨o, rfl, ho⟩ := ptrElem_inv hv
  rw [hrun]
  have e : o = f m := by
    have ho1 := congrArg Prod.fst ho
    simp only at ho1
    rcases hf : f m with _ | b
    · rw [hf] at h1
      rw [atKey_of_not_has h1] at ho1
      rcases o with _ | b
      · rfl
      · have : (-1 : Int) = (b : Int) := lit_inj ho1
        omega
    · rw [h2 b hf] at ho1
      rcases o with _ | b'
      · have : (b : Int) = -1 := lit_inj ho1
        omega
      · have h3 : (b : Int) = (b' : Int) := lit_inj ho1
        have : b = b' := by omega
        rw [this]
  rw [e]
def updM (f : ByteArray → Option Nat) (m : ByteArray) (o : Option Nat) : ByteArray → Option Nat := fun x => if x = m then o else f x
theorem key_ne {m x : ByteArray} (h : x ≠ m) : Lit.string x.data.toList ≠ Lit.string m.data.toList := fun e => by
  injection e with e
  exact h (ByteArray.ext (Array.toList_inj.1 e))
theorem turned_only {w w' : World} {b : Nat} (h : w.mapTurned w' b) : Only w w' b := by
  obtain ⟨es, clock, es', clock', hb, rfl⟩ := h
  refine ⟨rfl, rfl, rfl, by simp [ChangeMaps.setBlock], fun k hk => ChangeMaps.heap_setBlock_other hb _ (fun e => hk e)⟩
theorem MapIs.put {W : World} {mb n : Nat} {f : ByteArray → Option Nat} (h : MapIs W mb n f) (hn : n < maxLen) {m : ByteArray} (hs : m.size ≤ maxLen) (b : Nat) : ∃ w', (Instr.mapUpdate 119 (.map (some mb)) (.string m) (ptr (some b))).run Tryd.prog W = .ok () w' ∧ MapIs w' mb (n + 1) (updM f m (some b)) ∧ Only W w' mb := by
  obtain ⟨D, hD, hm⟩ := h
  obtain ⟨w', hrun, ho, ht⟩ := hD.store lawK Tryd.underlying119 hn (WideMaps.keyOf_string_mk Tryd.underlying9 hs) (ptrElem_some b)
  have hK : WideAt.IsKeyLit (.string m.data.toList) := trivial
  refine ⟨w', hrun, ⟨_, ho, fun x => ?_⟩, turned_only ht⟩
  unfold updM
  by_cases hx : x = m
  · subst hx
    rw [if_pos rfl]
    exact ⟨has_put_same hD.isMap hK _, fun b' hb' => by cases hb'; exact atKey_put_same hD.isMap hK _ _⟩
  · rw [if_neg hx]
    exact ⟨(has_put_other (key_ne hx) _).trans (hm x).1, fun b' hb' => (atKey_put_other (key_ne hx) _ _).trans ((hm x).2 b' hb')⟩
theorem MapIs.del {W : World} {mb n : Nat} {f : ByteArray → Option Nat} (h : MapIs W mb n f) {m : ByteArray} (hs : m.size ≤ maxLen) (ty : TypeId) : ∃ w', (Builtin.delete_ #[119, 9] ty #[.map (some mb), .string m]).run Tryd.prog W = .ok (.tuple #[]) w' ∧ MapIs w' mb n (updM f m none) ∧ Only W w' mb := by
  obtain ⟨D, hD, hm⟩ := h
  obtain ⟨w', hrun, ho, ht⟩ := hD.drop lawK Tryd.underlying119 (WideMaps.keyOf_string_mk Tryd.underlying9 hs) ty
  refine ⟨w', hrun, ⟨_, ho, fun x => ?_⟩, turned_only ht⟩
  unfold updM
  by_cases hx : x = m
  · subst hx
    rw [if_pos rfl]
    exact ⟨has_del_same, fun b' hb' => by cases hb'⟩
  · rw [if_neg hx]
    exact ⟨(has_del_other (key_ne hx)).trans (hm x).1, fun b' hb' => (atKey_del_other (key_ne hx) _).trans ((hm x).2 b' hb')⟩
theorem MapIs.made (w : World) : MapIs (w.alloc (.map #[] 0)) w.heap.size 0 (fun _ => none) :=
  ⟨_, World.ownsMap_made _ _ _ _, fun m => ⟨rfl, fun b hb => by cases hb⟩⟩
end Go.Proofs.YtgbplghokciimaaDoor.S
