import Derived.Test.YtgbplghokciimaaDoorSkA
import Derived.Test.YtgbplghokciimaaDoorMA
import Derived.Laws.OwnMore
import Derived.Maps.OwnSet
import Derived.StringKeys
import Derived.Deep.RegionHeld3
import Derived.Maps.AppendAt
namespace Go.Proofs.YtgbplghokciimaaDoor.I
open Go.RowKit
/-- what a member bears, as a value. -/
abbrev vl (x : Int) : Value := .int .i64 x
abbrev vz : Value := .int .i64 0
end Go.Proofs.YtgbplghokciimaaDoor.I
namespace Go.Proofs.YtgbplghokciimaaDoor.I
open Go.RowKit Go.Maps
set_option linter.unusedVariables false
def ptr (o : Option Nat) : Value := .pointer (o.map fun b => ⟨b, 0, none⟩)
/-- a block of values. -/
def Blk (W : World) (g : Nat) (L : List Value) (t : Nat) : Prop := W.heap[g]? = some (.cells L.toArray t (0, 0))
theorem Blk.cell {W : World} {g : Nat} {L : List Value} {t : Nat} (h : Blk W g L t) (i : Nat) : W.cell? ⟨g, i, none⟩ = L[i]? := by
  rw [cell_of_row _ _ _ _ _ _ h]; simp
theorem Blk.frozen {W : World} {g : Nat} {L : List Value} {t : Nat} (h : Blk W g L t) (i : Nat) : W.frozen? ⟨g, i, none⟩ = false := frozen_of_row _ _ _ _ _ h
theorem Blk.set {W : World} {g : Nat} {L : List Value} {t : Nat} (h : Blk W g L t) (i : Nat) (v : Value) : Blk (W.setCell ⟨g, i, none⟩ v) g (L.set i v) t := by
  have := heap_setCell_same W g i L.toArray t v h
  unfold Blk
  rw [this]; simp
theorem Blk.to {W W' : World} {g : Nat} {L : List Value} {t : Nat} (h : Blk W g L t) (e : W'.heap[g]? = W.heap[g]?) : Blk W' g L t := e.trans h
theorem Blk.ne {W : World} {g g' : Nat} {L L' : List Value} {t t' : Nat} (h : Blk W g L t) (h' : Blk W g' L' t') (hn : t ≠ t') : g ≠ g' := fun e => by
  subst e
  have := h.symm.trans h'
  injection this with this
  injection this with _ h2
  exact hn h2
theorem Blk.lt {W : World} {g : Nat} {L : List Value} {t : Nat} (h : Blk W g L t) : g < W.heap.size := row_lt h
def flat2 (c : Nat → Lk) (h : Nat) : List Value := (List.range h).flatMap fun l => [ptr (c l).1, .int .i64 ((c l).2 : Nat)]
theorem flat2_succ (c : Nat → Lk) (h : Nat) : flat2 c (h + 1) = flat2 c h ++ [ptr (c h).1, .int .i64 ((c h).2 : Nat)] := by
  unfold flat2; rw [List.range_succ, List.flatMap_append]; simp
theorem flat2_len (c : Nat → Lk) : ∀ h, (flat2 c h).length = h * 2
  | 0 => rfl
  | h + 1 => by rw [flat2_succ, List.length_append, flat2_len c h]; simp; omega
theorem flat2_at (c : Nat → Lk) : ∀ h j, (flat2 c h)[j]? = if j < h * 2 then some (if j % 2 = 0 then ptr (c (j / 2)).1 else .int .i64 ((c (j / 2)).2 : Nat)) else none
  | 0, j => by simp [flat2]
  | h + 1, j => by
    rw [flat2_succ]
    rcases Nat.lt_or_ge j (h * 2) with h1 | h1
    · rw [List.getElem?_append_left (by rw [flat2_len]; exact h1), flat2_at c h j, if_pos h1, if_pos (show j < (h + 1) * 2 by omega)]
    · rw [List.getElem?_append_right (by rw [flat2_len]; exact h1), flat2_len]
      rcases Nat.lt_trichotomy j (h * 2 + 1) with h2 | h2 | h2
      · have : j = h * 2 := by omega
        subst this
        rw [if_pos (by omega), if_pos (by omega), Nat.sub_self, show h * 2 / 2 = h by omega]; rfl
      · subst h2
        rw [if_pos (by omega), if_neg (by omega), show h * 2 + 1 - h * 2 = 1 by omega, show (h * 2 + 1) / 2 = h by omega]; rfl
      · rw [if_neg (by omega), List.getElem?_eq_none (by simp; omega)]
theorem flat2_get (c : Nat → Lk) (h l : Nat) (hl : l < h) : (flat2 c h)[l * 2]? = some (ptr (c l).1) ∧ (flat2 c h)[l * 2 + 1]? = some (.int .i64 ((c l).2 : Nat)) := by
  rw [flat2_at, flat2_at, if_pos (by omega), if_pos (by omega), if_pos (by omega), if_neg (by omega), show l * 2 / 2 = l by omega, show (l * 2 + 1) / 2 = l by omega]
  exact ⟨rfl, rfl⟩
theorem flat2_congr {c c' : Nat → Lk} {h : Nat} (e : ∀ l, l < h → c l = c' l) : flat2 c h = flat2 c' h := by
  induction h with
  | zero => rfl
  | succ h ih => rw [flat2_succ, flat2_succ, ih (fun l hl => e l (by omega)), e h (by omega)]
theorem flat2_set1 (c : Nat → Lk) (h l : Nat) (y : Nat) : (flat2 c h).set (l * 2 + 1) (.int .i64 (y : Nat)) = flat2 (updL c l ((c l).1, y)) h := by
  refine List.ext_getElem? (fun j => ?_)
  rw [List.getElem?_set, flat2_at, flat2_len, flat2_at]
  unfold updL
  by_cases hj : l * 2 + 1 = j
  · subst hj
    rw [if_pos rfl, show (l * 2 + 1) / 2 = l by omega, if_pos rfl]
    by_cases h1 : l * 2 + 1 < h * 2
    · rw [if_pos h1, if_pos h1, if_neg (by omega)]
    · rw [if_neg h1, if_neg h1]
  · rw [if_neg hj]
    by_cases h1 : j < h * 2
    · rw [if_pos h1, if_pos h1]
      by_cases h2 : j / 2 = l
      · rw [if_pos h2, if_pos (by omega), if_pos (by omega), h2]
      · rw [if_neg h2]
    · rw [if_neg h1, if_neg h1]
theorem flat2_set0 (c : Nat → Lk) (h l : Nat) (o : Option Nat) : (flat2 c h).set (l * 2) (ptr o) = flat2 (updL c l (o, (c l).2)) h := by
  refine List.ext_getElem? (fun j => ?_)
  rw [List.getElem?_set, flat2_at, flat2_len, flat2_at]
  unfold updL
  by_cases hj : l * 2 = j
  · subst hj
    rw [if_pos rfl, show l * 2 / 2 = l by omega, if_pos rfl]
    by_cases h1 : l * 2 < h * 2
    · rw [if_pos h1, if_pos h1, if_pos (by omega)]
    · rw [if_neg h1, if_neg h1]
  · rw [if_neg hj]
    by_cases h1 : j < h * 2
    · rw [if_pos h1, if_pos h1]
      by_cases h2 : j / 2 = l
      · rw [if_pos h2, if_neg (by omega), if_neg (by omega), h2]
      · rw [if_neg h2]
    · rw [if_neg h1, if_neg h1]
theorem updL_twice (c : Nat → Lk) (l : Nat) (x y : Lk) : updL (updL c l x) l y = updL c l y := by
  funext j; unfold updL; split <;> rfl
theorem updL_self (c : Nat → Lk) (l : Nat) (x : Lk) : updL c l x l = x := by unfold updL; rw [if_pos rfl]
/-! the map -/
def ptrElem (v : Value) : Option (DataW Unit × List MemPlace) := match v with
  | .pointer (some ⟨b, 0, none⟩) => some (.lit (.int .i64 (b : Int)), [])
  | .pointer none => some (.lit (.int .i64 (-1)), [])
  | _ => none
theorem ptrElem_some (b : Nat) : ptrElem (ptr (some b)) = some (.lit (.int .i64 (b : Int)), []) := rfl
theorem ptrElem_inv {v : Value} {z : DataW Unit × List MemPlace} (h : ptrElem v = some z) : ∃ o : Option Nat, v = ptr o ∧ z = (.lit (.int .i64 (match o with | some b => (b : Int) | none => -1)), []) := by
  unfold ptrElem at h
  split at h
  · rename_i b
    cases h; exact ⟨some b, rfl, rfl⟩
  · cases h; exact ⟨none, rfl, rfl⟩
  · cases h
theorem lawK : Keyed Tryd.prog 9 := string_keyed Tryd.underlying9
theorem zeroP (w : World) : (zeroValue 60).run Tryd.prog w = .ok (.pointer none) w := by kernel_rfl
theorem lit_inj {a b : Int} (h : (DataW.lit (Lit.int .i64 a) : DataW Unit) = .lit (.int .i64 b)) : a = b := by
  injection h with h
  injection h
/-- a map from members to towers. -/
def MapIs (W : World) (mb n : Nat) (f : ByteArray → Option Nat) : Prop := ∃ D : DataW Unit, W.ownsMap Tryd.prog 9 ptrElem mb n D ∧ ∀ m : ByteArray, Maps.has D (.string m.data.toList) = (f m).isSome ∧ ∀ b, f m = some b → D.atKey (.string m.data.toList) (.lit (.int .i64 (-1))) = .lit (.int .i64 (b : Int))
theorem MapIs.to {W W' : World} {mb n : Nat} {f : ByteArray → Option Nat} (h : MapIs W mb n f) (e : W'.heap[mb]? = W.heap[mb]?) : MapIs W' mb n f := by
  obtain ⟨D, ⟨es, clock, hb, hF⟩, hm⟩ := h
  exact ⟨D, ⟨es, clock, e.trans hb, hF⟩, hm⟩
theorem MapIs.ne {W : World} {mb n g t : Nat} {L : List Value} {f : ByteArray → Option Nat} (h : MapIs W mb n f) (hb : Blk W g L t) : mb ≠ g := fun e => by
  subst e
  obtain ⟨D, ⟨es, clock, h1, hF⟩, hm⟩ := h
  have := h1.symm.trans hb
  cases this
theorem MapIs.lt {W : World} {mb n : Nat} {f : ByteArray → Option Nat} (h : MapIs W mb n f) : mb < W.heap.size := by
  obtain ⟨D, h1, hm⟩ := h
  exact h1.lt
theorem MapIs.look {W : World} {mb n : Nat} {f : ByteArray → Option Nat} (h : MapIs W mb n f) {m : ByteArray} (hs : m.size ≤ maxLen) : (Instr.lookup 59 (.map (some mb)) (.string m) true).run Tryd.prog W = .ok (.tuple #[ptr (f m), .bool (f m).isSome]) W := by
  obtain ⟨D, hD, hm⟩ := h
  obtain ⟨h1, h2⟩ := hm m
  obtain ⟨v, ps, hrun, hv⟩ := hD.look_ok lawK Tryd.underlying59 (zeroP W) (zd := .lit (.int .i64 (-1))) (zp := []) rfl (WideMaps.keyOf_string_mk Tryd.underlying9 hs)
  rw [h1] at hrun
  obtain ⟨o, rfl, ho⟩ := ptrElem_inv hv
  rw [hrun]
  have e : o = f m := by
    have ho1 := congrArg Prod.fst ho
    simp only at ho1
    rcases hf : f m with _ | b
    · rw [hf] at h1
      rw [atKey_of_not_has h1] at ho1
      rcases o with _ | b
      · rfl
      · have : (-1 : Int) = (b : Int) := lit_inj ho1
        omega
    · rw [h2 b hf] at ho1
      rcases o with _ | b'
      · have : (b : Int) = -1 := lit_inj ho1
        omega
      · have h3 : (b : Int) = (b' : Int) := lit_inj ho1
        have : b = b' := by omega
        rw [this]
  rw [e]
def updM (f : ByteArray → Option Nat) (m : ByteArray) (o : Option Nat) : ByteArray → Option Nat := fun x => if x = m then o else f x
theorem key_ne {m x : ByteArray} (h : x ≠ m) : Lit.string x.data.toList ≠ Lit.string m.data.toList := fun e => by
  injection e with e
  exact h (ByteArray.ext (Array.toList_inj.1 e))
theorem turned_only {w w' : World} {b : Nat} (h : w.mapTurned w' b) : Only w w' b := by
  obtain ⟨es, clock, es', clock', hb, rfl⟩ := h
  refine ⟨rfl, rfl, rfl, by simp [ChangeMaps.setBlock], fun k hk => ChangeMaps.heap_setBlock_other hb _ (fun e => hk e)⟩
theorem MapIs.put {W : World} {mb n : Nat} {f : ByteArray → Option Nat} (h : MapIs W mb n f) (hn : n < maxLen) {m : ByteArray} (hs : m.size ≤ maxLen) (b : Nat) : ∃ w', (Instr.mapUpdate 59 (.map (some mb)) (.string m) (ptr (some b))).run Tryd.prog W = .ok () w' ∧ MapIs w' mb (n + 1) (updM f m (some b)) ∧ Only W w' mb := by
  obtain ⟨D, hD, hm⟩ := h
  obtain ⟨w', hrun, ho, ht⟩ := hD.store lawK Tryd.underlying59 hn (WideMaps.keyOf_string_mk Tryd.underlying9 hs) (ptrElem_some b)
  have hK : WideAt.IsKeyLit (.string m.data.toList) := trivial
  refine ⟨w', hrun, ⟨_, ho, fun x => ?_⟩, turned_only ht⟩
  unfold updM
  by_cases hx : x = m
  · subst hx
    rw [if_pos rfl]
    exact ⟨has_put_same hD.isMap hK _, fun b' hb' => by cases hb'; exact atKey_put_same hD.isMap hK _ _⟩
  · rw [if_neg hx]
    exact ⟨(has_put_other (key_ne hx) _).trans (hm x).1, fun b' hb' => (atKey_put_other (key_ne hx) _ _).trans ((hm x).2 b' hb')⟩
theorem MapIs.del {W : World} {mb n : Nat} {f : ByteArray → Option Nat} (h : MapIs W mb n f) {m : ByteArray} (hs : m.size ≤ maxLen) (ty : TypeId) : ∃ w', (Builtin.delete_ #[59, 9] ty #[.map (some mb), .string m]).run Tryd.prog W = .ok (.tuple #[]) w' ∧ MapIs w' mb n (updM f m none) ∧ Only W w' mb := by
  obtain ⟨D, hD, hm⟩ := h
  obtain ⟨w', hrun, ho, ht⟩ := hD.drop lawK Tryd.underlying59 (WideMaps.keyOf_string_mk Tryd.underlying9 hs) ty
  refine ⟨w', hrun, ⟨_, ho, fun x => ?_⟩, turned_only ht⟩
  unfold updM
  by_cases hx : x = m
  · subst hx
    rw [if_pos rfl]
    exact ⟨has_del_same, fun b' hb' => by cases hb'⟩
  · rw [if_neg hx]
    exact ⟨(has_del_other (key_ne hx)).trans (hm x).1, fun b' hb' => (atKey_del_other (key_ne hx) _).trans ((hm x).2 b' hb')⟩
theorem MapIs.made (w : World) : MapIs (w.alloc (.map #[] 0)) w.heap.size 0 (fun _ => none) :=
  ⟨_, World.ownsMap_made _ _ _ _, fun m => ⟨rfl, fun b hb => by cases hb⟩⟩
end Go.Proofs.YtgbplghokciimaaDoor.I
namespace Go.Proofs.YtgbplghokciimaaDoor.I
open Go.RowKit
set_option linter.unusedVariables false
structure SkS where
  seed : Int
  mb : Nat
  hb : Nat
  hv : Value
  H : Nat
  T : List Tw
def boardL (seed : Int) (mb hb : Nat) (C : Nat → Nat) (n : Nat) : List Value := [.int .i64 seed, .map (some mb), ptr (some hb)] ++ ((List.range 24).map (fun j => Value.int .i64 (C j : Nat)) ++ [.int .i64 (n : Nat)])
theorem boardL_at (seed : Int) (mb hb : Nat) (C : Nat → Nat) (n j : Nat) (hj : j < 24) : (boardL seed mb hb C n)[3 + j]? = some (.int .i64 (C j : Nat)) := by
  unfold boardL
  rw [List.getElem?_append_right (by simp), List.getElem?_append_left (by simp; omega)]
  simp [List.getElem?_range hj]
theorem boardL_n (seed : Int) (mb hb : Nat) (C : Nat → Nat) (n : Nat) : (boardL seed mb hb C n)[27]? = some (.int .i64 (n : Nat)) := rfl
def updC (C : Nat → Nat) (j x : Nat) : Nat → Nat := fun i => if i = j then x else C i
theorem boardL_set (seed : Int) (mb hb : Nat) (C : Nat → Nat) (n j x : Nat) (hj : j < 24) : (boardL seed mb hb C n).set (3 + j) (.int .i64 (x : Nat)) = boardL seed mb hb (updC C j x) n := by
  unfold boardL
  rw [List.set_append_right _ _ (by simp), List.set_append_left _ _ (by simp; omega)]
  have e : 3 + j - [Value.int .i64 seed, .map (some mb), ptr (some hb)].length = j := by simp
  rw [e]
  congr 2
  refine List.ext_getElem? (fun i => ?_)
  rw [List.getElem?_set, List.getElem?_map, List.getElem?_map]
  unfold updC
  by_cases hi : j = i
  · subst hi
    rw [if_pos rfl, List.getElem?_range hj]
    simp [hj]
  · rw [if_neg hi]
    rcases Nat.lt_or_ge i 24 with h | h
    · rw [List.getElem?_range h]
      simp [show ¬ i = j by omega]
    · rw [List.getElem?_eq_none (by simpa using h)]; rfl
theorem boardL_setn (seed : Int) (mb hb : Nat) (C : Nat → Nat) (n x : Nat) : (boardL seed mb hb C n).set 27 (.int .i64 (x : Nat)) = boardL seed mb hb C x := rfl
def towL (t : Tw) (pv : Option Nat) : List Value := [.string t.e.1, .int .i64 t.e.2.1, vl t.e.2.2, .slice (some ⟨t.k, 0, none⟩) t.h t.h, ptr pv]
def headL (hv : Value) : List Value := [.string ⟨#[]⟩, .int .i64 0, vz, hv, .pointer none]
/-- the links of a tower. -/
abbrev Rw (W : World) (v : Value) (h : Nat) (c : Nat → Lk) : Prop := W.ownsRow 0 112 2 v h (flat2 c h)
/-- a board in memory: counts C, size n, links c, the towers ahead pv. -/
structure Sk (W : World) (g : Nat) (S : SkS) (C : Nat → Nat) (n : Nat) (c : Nat → Nat → Lk) (pv : Nat → Option Nat) : Prop where
  brd : Blk W g (boardL S.seed S.mb S.hb C n) 66
  head : Blk W S.hb (headL S.hv) 63
  hrow : Rw W S.hv S.H (c 0)
  tow : ∀ i (hi : i < S.T.length), Blk W S.T[i].b (towL S.T[i] (pv i)) 63
  row : ∀ i (hi : i < S.T.length), Rw W (.slice (some ⟨S.T[i].k, 0, none⟩) S.T[i].h S.T[i].h) S.T[i].h (c (i + 1))
  ndB : (S.hb :: S.T.map Tw.b).Nodup
  ndK : (S.hv.ownBlock.toList ++ S.T.map Tw.k).Nodup
theorem Rw.form {W : World} {v : Value} {h : Nat} {c : Nat → Lk} (H : Rw W v h c) : ∃ P k, v = .slice P h k := own_form H
theorem Rw.blk {W : World} {v : Value} {h K : Nat} {c : Nat → Lk} (H : Rw W v h c) (hk : v.ownBlock = some K) : ∃ cur, W.heap[K]? = some (.cells cur 112 (0, 0)) := by
  rcases H.2 with ⟨rfl, _⟩ | ⟨g, cap, cur, rfl, _, hg, _⟩
  · cases hk
  · cases hk; exact ⟨cur, hg⟩
theorem Rw.to {W W' : World} {v : Value} {h : Nat} {c : Nat → Lk} (H : Rw W v h c) (e : ∀ K, v.ownBlock = some K → W'.heap[K]? = W.heap[K]?) : Rw W' v h c := by
  refine ⟨H.1, ?_⟩
  rcases H.2 with q | ⟨g, cap, cur, rfl, h1, hg, r⟩
  · exact Or.inl q
  · exact Or.inr ⟨g, cap, cur, rfl, h1, (e g rfl).trans hg, r⟩
theorem Rw.congr {W : World} {v : Value} {h : Nat} {c c' : Nat → Lk} (H : Rw W v h c) (e : ∀ l, l < h → c l = c' l) : Rw W v h c' := by
  unfold Rw at *; rw [← flat2_congr e]; exact H
/-- the links at a level. -/
theorem Rw.at {W : World} {v : Value} {h l : Nat} {c : Nat → Lk} (H : Rw W v h c) (hl : l < h) : ∃ K k, v = .slice (some ⟨K, 0, none⟩) h k ∧ W.cell? ⟨K, l * 2, none⟩ = some (ptr (c l).1) ∧ W.cell? ⟨K, l * 2 + 1, none⟩ = some (.int .i64 ((c l).2 : Nat)) ∧ ∀ j, W.frozen? ⟨K, j, none⟩ = false := by
  obtain ⟨P, k, rfl⟩ := H.form
  rcases H.2 with ⟨e, h0⟩ | ⟨g, cap, cur, e, _⟩
  · omega
  · cases e
    obtain ⟨h1, h2⟩ := flat2_get c h l hl
    exact ⟨g, k, rfl, (World.ownsRow.cellAt H _ (by omega)).trans h1, (World.ownsRow.cellAt H _ (by omega)).trans h2, fun j => World.ownsRow.frozenAt H j⟩
theorem Rw.set1 {W : World} {K h k l : Nat} {c : Nat → Lk} (H : Rw W (.slice (some ⟨K, 0, none⟩) h k) h c) (y : Nat) : Rw (W.setCell ⟨K, l * 2 + 1, none⟩ (.int .i64 (y : Nat))) (.slice (some ⟨K, 0, none⟩) h k) h (updL c l ((c l).1, y)) := by
  have := (World.ownsRow.stored H (l * 2 + 1) (.int .i64 (y : Nat))).1
  rw [flat2_set1] at this; exact this
theorem Rw.set0 {W : World} {K h k l : Nat} {c : Nat → Lk} (H : Rw W (.slice (some ⟨K, 0, none⟩) h k) h c) (o : Option Nat) : Rw (W.setCell ⟨K, l * 2, none⟩ (ptr o)) (.slice (some ⟨K, 0, none⟩) h k) h (updL c l (o, (c l).2)) := by
  have := (World.ownsRow.stored H (l * 2) (ptr o)).1
  rw [flat2_set0] at this; exact this
theorem Rw.ne {W : World} {v : Value} {h K g t : Nat} {c : Nat → Lk} {L : List Value} (H : Rw W v h c) (hk : v.ownBlock = some K) (hb : Blk W g L t) (ht : t ≠ 112) : g ≠ K := fun e => by
  subst e
  obtain ⟨cur, h1⟩ := H.blk hk
  have := hb.symm.trans h1
  injection this with this
  injection this with _ h2
  exact ht h2
def lvA (S : SkS) : Nat → Value
  | 0 => S.hv
  | p + 1 => match S.T[p]? with
    | some t => .slice (some ⟨t.k, 0, none⟩) t.h t.h
    | none => .slice none 0 0
def hgA (S : SkS) : Nat → Nat
  | 0 => S.H
  | p + 1 => match S.T[p]? with
    | some t => t.h
    | none => 0
theorem lvA_s {S : SkS} {p : Nat} (hp : p < S.T.length) : lvA S (p + 1) = .slice (some ⟨S.T[p].k, 0, none⟩) S.T[p].h S.T[p].h := by
  show (match S.T[p]? with | some t => Value.slice (some ⟨t.k, 0, none⟩) t.h t.h | none => .slice none 0 0) = _
  rw [List.getElem?_eq_getElem hp]
theorem hgA_s {S : SkS} {p : Nat} (hp : p < S.T.length) : hgA S (p + 1) = S.T[p].h := by
  show (match S.T[p]? with | some t => t.h | none => 0) = _
  rw [List.getElem?_eq_getElem hp]
theorem hgA_stand {S : SkS} {l p : Nat} (h : Stand (hts S.T) l p) (hl : l < S.H) : l < hgA S p := by
  rcases h with rfl | ⟨x, hx, hlx⟩
  · exact hl
  · cases p with
    | zero => exact hl
    | succ p =>
      rw [Nat.add_sub_cancel, List.getElem?_map] at hx
      obtain ⟨t, ht, rfl⟩ := Option.map_eq_some_iff.1 hx
      show l < match S.T[p]? with | some t => t.h | none => 0
      rw [ht]; exact hlx
theorem hgA_lt {S : SkS} {l p : Nat} (h : l < hgA S p) : Stand (hts S.T) l p := by
  cases p with
  | zero => exact Or.inl rfl
  | succ p =>
    refine Or.inr ?_
    rw [Nat.add_sub_cancel, List.getElem?_map]
    have h : l < match S.T[p]? with | some t => t.h | none => 0 := h
    rcases ht : S.T[p]? with _ | t
    · rw [ht] at h; simp at h
    · rw [ht] at h; exact ⟨t.h, rfl, h⟩
section
variable {W : World} {g : Nat} {S : SkS} {C : Nat → Nat} {n : Nat} {c : Nat → Nat → Lk} {pv : Nat → Option Nat}
theorem Sk.rowAt (h : Sk W g S C n c pv) {p : Nat} (hp : p ≤ S.T.length) : Rw W (lvA S p) (hgA S p) (c p) := by
  cases p with
  | zero => exact h.hrow
  | succ p =>
    have := h.row p hp
    rw [lvA_s hp, hgA_s hp]; exact this
theorem Sk.towAt (h : Sk W g S C n c pv) {p : Nat} (hp : p ≤ S.T.length) : ∃ b, pAt S.hb S.T p = some b ∧ W.cell? ⟨b, 3, none⟩ = some (lvA S p) := by
  cases p with
  | zero => exact ⟨_, rfl, by rw [h.head.cell]; rfl⟩
  | succ p =>
    refine ⟨S.T[p].b, ?_, ?_⟩
    · show (S.T[p]?).map Tw.b = _
      rw [List.getElem?_eq_getElem hp]; rfl
    · rw [(h.tow p hp).cell, lvA_s hp]; rfl
theorem nd_ne {L : List Nat} (h : L.Nodup) {i j : Nat} (hi : i < L.length) (hj : j < L.length) (hij : i ≠ j) : L[i] ≠ L[j] := by
  have hp := List.pairwise_iff_getElem.1 h
  rcases Nat.lt_or_gt_of_ne hij with q | q
  · exact hp i j hi hj q
  · exact (hp j i hj hi q).symm
theorem Sk.neK (h : Sk W g S C n c pv) {p q K K' : Nat} (hp : p ≤ S.T.length) (hq : q ≤ S.T.length) (hpq : p ≠ q) (e : (lvA S p).ownBlock = some K) (e' : (lvA S q).ownBlock = some K') : K ≠ K' := by
  obtain ⟨n1, n2, n3⟩ := List.nodup_append.1 h.ndK
  have key : ∀ p, p < S.T.length → ∀ K, (lvA S (p + 1)).ownBlock = some K → ∃ hm : p < (S.T.map Tw.k).length, (S.T.map Tw.k)[p] = K := fun p hp K e => by
    rw [lvA_s hp] at e
    exact ⟨by simpa using hp, by simpa [Value.ownBlock] using e⟩
  cases p with
  | zero =>
    cases q with
    | zero => exact absurd rfl hpq
    | succ q =>
      obtain ⟨m, hm⟩ := key q hq K' e'
      exact n3 K (by rw [show S.hv.ownBlock = some K from e]; simp) K' (by rw [← hm]; exact List.getElem_mem _)
  | succ p =>
    obtain ⟨m1, hm1⟩ := key p hp K e
    cases q with
    | zero => exact (n3 K' (by rw [show S.hv.ownBlock = some K' from e']; simp) K (by rw [← hm1]; exact List.getElem_mem _)).symm
    | succ q =>
      obtain ⟨m2, hm2⟩ := key q hq K' e'
      rw [← hm1, ← hm2]
      exact nd_ne n2 m1 m2 (by omega)
/-- the blocks that a board lies in, its map aside. -/
def sblk (g : Nat) (S : SkS) : List Nat := g :: S.hb :: (S.hv.ownBlock.toList ++ (S.T.map Tw.b ++ S.T.map Tw.k))
theorem Sk.to {W' : World} (h : Sk W g S C n c pv) (e : ∀ q ∈ sblk g S, W'.heap[q]? = W.heap[q]?) : Sk W' g S C n c pv := by
  unfold sblk at e
  refine ⟨h.brd.to (e g (by simp)), h.head.to (e _ (by simp)), h.hrow.to (fun K hK => e K (by rw [hK]; simp)), fun i hi => (h.tow i hi).to (e _ ?_), fun i hi => (h.row i hi).to (fun K hK => ?_), h.ndB, h.ndK⟩
  · simp only [List.mem_cons, List.mem_append]
    exact Or.inr (Or.inr (Or.inr (Or.inl (List.mem_map.2 ⟨_, List.getElem_mem hi, rfl⟩))))
  · cases hK
    refine e _ ?_
    simp only [List.mem_cons, List.mem_append]
    exact Or.inr (Or.inr (Or.inr (Or.inr (List.mem_map.2 ⟨_, List.getElem_mem hi, rfl⟩))))
theorem Sk.mem_lt (h : Sk W g S C n c pv) : ∀ q ∈ sblk g S, q < W.heap.size := by
  intro q hq
  unfold sblk at hq
  simp only [List.mem_cons, List.mem_append] at hq
  rcases hq with rfl | rfl | hq | hq | hq
  · exact h.brd.lt
  · exact h.head.lt
  · obtain ⟨cur, hc⟩ := h.hrow.blk (by simpa using hq)
    exact row_lt hc
  · obtain ⟨t, ht, rfl⟩ := List.mem_map.1 hq
    obtain ⟨i, hi, rfl⟩ := List.mem_iff_getElem.1 ht
    exact (h.tow i hi).lt
  · obtain ⟨t, ht, rfl⟩ := List.mem_map.1 hq
    obtain ⟨i, hi, rfl⟩ := List.mem_iff_getElem.1 ht
    obtain ⟨cur, hc⟩ := (h.row i hi).blk rfl
    exact row_lt hc
theorem Sk.below {W' : World} (h : Sk W g S C n c pv) (hb : Below W.heap.size W W') : Sk W' g S C n c pv := h.to (fun q hq => hb.block q (h.mem_lt q hq))
theorem Sk.cong {c' : Nat → Nat → Lk} (h : Sk W g S C n c pv) (e : ∀ p, p ≤ S.T.length → ∀ l, l < hgA S p → c p l = c' p l) : Sk W g S C n c' pv := by
  refine ⟨h.brd, h.head, h.hrow.congr (fun l hl => e 0 (Nat.zero_le _) l hl), h.tow, fun i hi => (h.row i hi).congr (fun l hl => e (i + 1) hi l ?_), h.ndB, h.ndK⟩
  rw [hgA_s hi]; exact hl
/-- the links of one place have turned. -/
theorem Sk.setRow (h : Sk W g S C n c pv) {p K : Nat} (hp : p ≤ S.T.length) (hK : (lvA S p).ownBlock = some K) {W' : World} (ho : Only W W' K) {f : Nat → Lk} (hr : Rw W' (lvA S p) (hgA S p) f) : Sk W' g S C n (updP c p f) pv := by
  have hrp := h.rowAt hp
  have hne : ∀ g' L t, Blk W g' L t → t ≠ 112 → W'.heap[g']? = W.heap[g']? := fun g' L t hb ht => ho.other g' (hrp.ne hK hb ht)
  refine ⟨h.brd.to (hne _ _ _ h.brd (by decide)), h.head.to (hne _ _ _ h.head (by decide)), ?_, fun i hi => (h.tow i hi).to (hne _ _ _ (h.tow i hi) (by decide)), fun i hi => ?_, h.ndB, h.ndK⟩
  · unfold updP
    by_cases h0 : 0 = p
    · subst h0; rw [if_pos rfl]; exact hr
    · rw [if_neg h0]
      exact h.hrow.to (fun K' hK' => ho.other K' (h.neK (p := 0) (q := p) (Nat.zero_le _) hp h0 hK' hK))
  · unfold updP
    by_cases h0 : i + 1 = p
    · subst h0; rw [if_pos rfl]
      rw [lvA_s hi, hgA_s hi] at hr; exact hr
    · rw [if_neg h0]
      refine (h.row i hi).to (fun K' hK' => ho.other K' (h.neK (p := i + 1) (q := p) hi hp h0 ?_ hK))
      rw [lvA_s hi]; exact hK'
end
theorem only_set (W : World) (K i : Nat) (v : Value) : Only W (W.setCell ⟨K, i, none⟩ v) K := (Only.refl W K).set i v
end Go.Proofs.YtgbplghokciimaaDoor.I
namespace Go.Proofs.YtgbplghokciimaaDoor.I
open Go.RowKit
set_option linter.unusedVariables false
set_option maxHeartbeats 1000000 in
set_option maxRecDepth 100000 in
theorem isAhead_any (a b : Nat) (x y : En) (w : World) (a0 : w.cell? ⟨a, 0, none⟩ = some (.string x.1)) (a1 : w.cell? ⟨a, 1, none⟩ = some (.int .i64 x.2.1)) (b0 : w.cell? ⟨b, 0, none⟩ = some (.string y.1)) (b1 : w.cell? ⟨b, 1, none⟩ = some (.int .i64 y.2.1)) : Calls Tryd.prog 64 #[.pointer (some ⟨a, 0, none⟩), .pointer (some ⟨b, 0, none⟩)] w fun e w' => e = .returned (.bool (ahd x y)) ∧ Below w.heap.size w w' := by
  obtain ⟨am, asc, av⟩ := x
  obtain ⟨bm, bsc, bv⟩ := y
  unfold ahd ltB
  simp only at *
  go_enter Tryd.func64, Tryd.ntmps64
  by_cases hs : asc = bsc
  · subst hs
    go_wp2
    go_quiet (fail)
    go_wp2
    go_quiet (fail)
    go_wp2
    go_returns
    refine ⟨by first | rfl | simp [*], ?_⟩
    repeat (first | exact Below.refl _ _ | refine below_dn ?_ _)
  · go_wp2
    go_quiet (fail)
    go_wp2
    go_quiet (fail)
    go_wp2
    go_returns
    refine ⟨by first | rfl | simp [*], ?_⟩
    repeat (first | exact Below.refl _ _ | refine below_dn ?_ _)
/-- a search's test: whether a tower stands up to the place k. -/
def Tst (w : World) (hb : Nat) (T : List Tw) (k F : Nat) (fv : Value) : Prop := ∀ q (hq : q < T.length), ∀ W', Below w.heap.size w W' → Calls Tryd.prog F #[.pointer (some ⟨T[q].b, 0, none⟩), .int .i64 ((q + 1 : Nat) : Int), fv] W' fun e w' => e = .returned (.bool (decide (q < k))) ∧ Below W'.heap.size W' w'
/-- what a search has found at the levels from lv on. -/
def Wy (S : SkS) (k lv : Nat) (d : Nat → Lk) : Prop := (∀ l, lv ≤ l → l < S.H → ∃ p, IsPrv (hts S.T) l k p ∧ d l = (pAt S.hb S.T p, p)) ∧ ∀ l, S.H ≤ l → d l = (none, 0)
theorem Wy.start (S : SkS) (k : Nat) : Wy S k S.H (fun _ => (none, 0)) := ⟨fun l h1 h2 => by omega, fun _ _ => rfl⟩
theorem zero24 : flat2 (fun _ => (none, 0)) 24 = [.pointer none, .int .i64 0, .pointer none, .int .i64 0, .pointer none, .int .i64 0, .pointer none, .int .i64 0, .pointer none, .int .i64 0, .pointer none, .int .i64 0, .pointer none, .int .i64 0, .pointer none, .int .i64 0, .pointer none, .int .i64 0, .pointer none, .int .i64 0, .pointer none, .int .i64 0, .pointer none, .int .i64 0, .pointer none, .int .i64 0, .pointer none, .int .i64 0, .pointer none, .int .i64 0, .pointer none, .int .i64 0, .pointer none, .int .i64 0, .pointer none, .int .i64 0, .pointer none, .int .i64 0, .pointer none, .int .i64 0, .pointer none, .int .i64 0, .pointer none, .int .i64 0, .pointer none, .int .i64 0, .pointer none, .int .i64 0] := rfl
theorem infoW48 : (Tryd.prog.info? 77).map (·.size) = some 48 := by kernel_rfl
theorem infoW (d : Nat → Lk) : (Tryd.prog.info? 77).map (·.size) = some (flat2 d 24).toArray.size := by
  have e : (flat2 d 24).toArray.size = 48 := by simp [flat2_len]
  rw [e]; exact infoW48
theorem sizeW (d d' : Nat → Lk) : (flat2 d 24).toArray.size = (flat2 d' 24).toArray.size := by simp [flat2_len]
theorem flat2_one (d : Nat → Lk) (h : Nat) : ∀ v ∈ flat2 d h, v.oneCell' = true := by
  intro v hv
  unfold flat2 at hv
  obtain ⟨l, _, hl⟩ := List.mem_flatMap.1 hv
  simp at hl
  rcases hl with rfl | rfl <;> rfl
theorem oneW (d : Nat → Lk) : (flat2 d 24).toArray.all (·.oneCell') = true := Array.all_eq_true_iff_forall_mem.2 (fun v hv => flat2_one d 24 v (by simpa using hv))
theorem Wy.step {S : SkS} {k l p : Nat} {d : Nat → Lk} (hw : Wy S k (l + 1) d) (hl : l < S.H) (hp : IsPrv (hts S.T) l k p) : Wy S k l (updL d l (pAt S.hb S.T p, p)) := by
  refine ⟨fun j h1 h2 => ?_, fun j h1 => ?_⟩
  · unfold updL
    by_cases hj : j = l
    · subst hj; rw [if_pos rfl]; exact ⟨p, hp, rfl⟩
    · rw [if_neg hj]; exact hw.1 j (by omega) h2
  · unfold updL
    rw [if_neg (by omega)]; exact hw.2 j h1
def placeOf (w : World) (A : Nat) : Nat := match w.cell? ⟨A, 1, none⟩ with
  | some v => (intOf v).toNat
  | none => 0
theorem cells_below {W W' : World} {g : Nat} {L : List Value} {t : Nat} (h : Blk W g L t) (hb : Below W.heap.size W W') : Blk W' g L t := h.to (hb.block g h.lt)
set_option maxHeartbeats 4000000 in
set_option maxRecDepth 100000 in
theorem seek_any (g : Nat) (S : SkS) (C : Nat → Nat) (n : Nat) (pv : Nat → Option Nat) (k F : Nat) (eF : ∀ args w, (callFunc F args).run Tryd.prog w = .ok (.enter F args) w) (fv : Value) (w : World) (h : Sk w g S C n (lnk S.hb S.T) pv) (hk : k ≤ S.T.length) (hH : S.H ≤ 24) (hn : S.T.length ≤ 1099511627776) (ht : Tst w S.hb S.T k F fv) : Calls Tryd.prog 62 #[.pointer (some ⟨g, 0, none⟩), .func (.func F) #[] #[fv]] w fun e w' => ∃ d, e = .returned (.agg (flat2 d 24).toArray) ∧ Wy S k 0 d ∧ Below w.heap.size w w' := by
  obtain ⟨W0, hW0⟩ : ∃ W0, W0 = (w.alloc (.cells #[.pointer none, .int .i64 0, .pointer none, .int .i64 0, .pointer none, .int .i64 0, .pointer none, .int .i64 0, .pointer none, .int .i64 0, .pointer none, .int .i64 0, .pointer none, .int .i64 0, .pointer none, .int .i64 0, .pointer none, .int .i64 0, .pointer none, .int .i64 0, .pointer none, .int .i64 0, .pointer none, .int .i64 0, .pointer none, .int .i64 0, .pointer none, .int .i64 0, .pointer none, .int .i64 0, .pointer none, .int .i64 0, .pointer none, .int .i64 0, .pointer none, .int .i64 0, .pointer none, .int .i64 0, .pointer none, .int .i64 0, .pointer none, .int .i64 0, .pointer none, .int .i64 0, .pointer none, .int .i64 0, .pointer none, .int .i64 0] 77)).alloc (.cells #[.pointer none, .int .i64 0, .pointer none, .int .i64 0, .pointer none, .int .i64 0, .pointer none, .int .i64 0, .pointer none, .int .i64 0, .pointer none, .int .i64 0, .pointer none, .int .i64 0, .pointer none, .int .i64 0, .pointer none, .int .i64 0, .pointer none, .int .i64 0, .pointer none, .int .i64 0, .pointer none, .int .i64 0, .pointer none, .int .i64 0, .pointer none, .int .i64 0, .pointer none, .int .i64 0, .pointer none, .int .i64 0, .pointer none, .int .i64 0, .pointer none, .int .i64 0, .pointer none, .int .i64 0, .pointer none, .int .i64 0, .pointer none, .int .i64 0, .pointer none, .int .i64 0, .pointer none, .int .i64 0, .pointer none, .int .i64 0] 77) := ⟨_, rfl⟩
  obtain ⟨R, hR⟩ : ∃ R, R = w.heap.size := ⟨_, rfl⟩
  obtain ⟨Q, hQ⟩ : ∃ Q, Q = w.heap.size + 1 := ⟨_, rfl⟩
  obtain ⟨A, hA⟩ : ∃ A, A = W0.heap.size := ⟨_, rfl⟩
  have hsz : w.heap.size + 1 + 1 = W0.heap.size := by rw [hW0]; simp
  have hb0 : Below w.heap.size w W0 := by
    rw [hW0]
    repeat (refine Below.alloc ?_ (by simp) _)
    exact Below.refl _ _
  have HR0 : Hid (Blk W0 R (flat2 (fun _ => (none, 0)) 24) 77) := by
    show Blk _ _ _ _
    unfold Blk
    rw [hW0, hR, zero24, heap_alloc_old _ _ (by simp)]
    exact heap_alloc_new _ _
  have HQ0 : Hid (Blk W0 Q (flat2 (fun _ => (none, 0)) 24) 77) := by
    show Blk _ _ _ _
    unfold Blk
    rw [hW0, hQ, zero24]
    have := heap_alloc_new (w.alloc (.cells #[.pointer none, .int .i64 0, .pointer none, .int .i64 0, .pointer none, .int .i64 0, .pointer none, .int .i64 0, .pointer none, .int .i64 0, .pointer none, .int .i64 0, .pointer none, .int .i64 0, .pointer none, .int .i64 0, .pointer none, .int .i64 0, .pointer none, .int .i64 0, .pointer none, .int .i64 0, .pointer none, .int .i64 0, .pointer none, .int .i64 0, .pointer none, .int .i64 0, .pointer none, .int .i64 0, .pointer none, .int .i64 0, .pointer none, .int .i64 0, .pointer none, .int .i64 0, .pointer none, .int .i64 0, .pointer none, .int .i64 0, .pointer none, .int .i64 0, .pointer none, .int .i64 0, .pointer none, .int .i64 0, .pointer none, .int .i64 0] 77)) (.cells #[.pointer none, .int .i64 0, .pointer none, .int .i64 0, .pointer none, .int .i64 0, .pointer none, .int .i64 0, .pointer none, .int .i64 0, .pointer none, .int .i64 0, .pointer none, .int .i64 0, .pointer none, .int .i64 0, .pointer none, .int .i64 0, .pointer none, .int .i64 0, .pointer none, .int .i64 0, .pointer none, .int .i64 0, .pointer none, .int .i64 0, .pointer none, .int .i64 0, .pointer none, .int .i64 0, .pointer none, .int .i64 0, .pointer none, .int .i64 0, .pointer none, .int .i64 0, .pointer none, .int .i64 0, .pointer none, .int .i64 0, .pointer none, .int .i64 0, .pointer none, .int .i64 0, .pointer none, .int .i64 0, .pointer none, .int .i64 0] 77)
    simpa using this
  have HSK : Hid (Sk w g S C n (lnk S.hb S.T) pv) := h
  have HB0 : Hid (Below w.heap.size w W0) := hb0
  have h0 := h.below hb0
  have c2 : W0.cell? ⟨g, 2, none⟩ = some (.pointer (some ⟨S.hb, 0, none⟩)) := by rw [h0.brd.cell]; rfl
  obtain ⟨P, kk, hf⟩ := h.hrow.form
  have c3 : W0.cell? ⟨S.hb, 3, none⟩ = some (.slice P S.H kk) := by rw [h0.head.cell]; exact congrArg some hf
  have hg1 : g < A := by rw [hA]; exact h0.brd.lt
  have hg2 : S.hb < A := by rw [hA]; exact h0.head.lt
  have HT : Hid (Tst w S.hb S.T k F fv) := ht
  have HRA : Hid (R < A ∧ Q < A ∧ w.heap.size ≤ R ∧ w.heap.size ≤ Q ∧ w.heap.size ≤ A ∧ R ≠ Q) := ⟨by omega, by omega, by omega, by omega, by omega, by omega⟩
  have HEF : Hid _ := eF
  clear h h0 hb0 hf ht eF
  go_enter Tryd.func62, Tryd.ntmps62
  go_upto_region 2 with fail
  rw [← hW0]
  clear hW0
  rw [← hQ, ← hR]
  rw [hA] at hg1 hg2
  clear hQ hR hsz
  go_wp2
  rw [← hA]
  have HA : Hid (A = W0.heap.size) := hA
  clear hA c2 c3 hg1 hg2
  go_loopw [7] (fun cl wr => ∃ lv : Nat, lv ≤ S.H ∧ cl = .int .i64 ((lv : Int) - 1) ∧ Below w.heap.size w wr ∧ Blk wr R (flat2 (fun _ => (none, 0)) 24) 77 ∧ (∃ d, Blk wr Q (flat2 d 24) 77 ∧ Wy S k lv d) ∧ ∃ p, Blk wr A [ptr (pAt S.hb S.T p), .int .i64 (p : Int)] 75 ∧ p ≤ k ∧ (lv = 0 ∨ Stand (hts S.T) (lv - 1) p)) (fun cl _ => (intOf cl + 1).toNat)
  case atStart =>
    refine ⟨S.H, Nat.le_refl _, rfl, ?_, ?_, ⟨_, ?_, Wy.start S k⟩, 0, ?_, Nat.zero_le _, Or.inr (Or.inl rfl)⟩
    · exact HB0.out.alloc HB0.out.size _
    · exact HR0.out.to (heap_alloc_old _ _ HR0.out.lt)
    · exact HQ0.out.to (heap_alloc_old _ _ HQ0.out.lt)
    · rw [HA.out]; exact heap_alloc_new _ _
  case round =>
    obtain ⟨lv, hlv, rfl, hb, hr, ⟨d, hq, hw⟩, p, ha, hpk, hst⟩ := hrel
    have HB : Hid (Below w.heap.size w wr) := hb
    have HR : Hid (Blk wr R (flat2 (fun _ => (none, 0)) 24) 77) := hr
    have HQ : Hid (Blk wr Q (flat2 d 24) 77) := hq
    have HAT : Hid (Blk wr A [ptr (pAt S.hb S.T p), .int .i64 (p : Int)] 75) := ha
    have HW : Hid (Wy S k lv d) := hw
    clear hb hr hq ha hw
    rcases lv with _ | l
    · clear hst
      go_wp2_with (first | (refine wpList_load_row rfl 77 _ rfl Q rfl _ _ _ _ HQ.out Tryd.underlying77 rfl (infoW d) ?_) | (refine wpList_store_row rfl 77 _ _ rfl R _ rfl rfl _ _ HR.out (infoW d) (sizeW _ d) (oneW d) ?_))
      refine ⟨rfl, _, results_cell_row (p := 4) (ty := 77) rfl _ _ R _ _ _ _ rfl (setRow_heap _ _ _ _ _ _ HR.out) Tryd.underlying77 rfl (infoW d), ?_⟩
      exact ⟨d, rfl, HW.out, HB.out.trans ⟨rfl, rfl, rfl, by rw [setRow_size]; exact Nat.le_refl _, fun q hq => setRow_other _ _ _ _ (by have := HRA.out; omega)⟩⟩
    · have hst : Stand (hts S.T) l p := by
        rcases hst with h | h
        · omega
        · exact h
      rw [show ((l + 1 : Nat) : Int) - 1 = (l : Int) by omega]
      have HST : Hid (Stand (hts S.T) l p) := hst
      have hl0 : (0 : Int) ≤ (l : Int) := by omega
      clear hst
      go_wp2
      go_loopw [8] (fun _ wi => Below w.heap.size w wi ∧ Blk wi R (flat2 (fun _ => (none, 0)) 24) 77 ∧ Blk wi Q (flat2 d 24) 77 ∧ ∃ p, Blk wi A [ptr (pAt S.hb S.T p), .int .i64 (p : Int)] 75 ∧ p ≤ k ∧ Stand (hts S.T) l p) (fun _ wi => k - placeOf wi A)
      case atStart => exact ⟨HB.out, HR.out, HQ.out, p, HAT.out, hpk, HST.out⟩
      case round =>
        obtain ⟨hb, hr, hq, p, ha, hpk, hst⟩ := hrel
        rename World => wi
        have hsk := HSK.out.below hb
        obtain ⟨b, hpb, t3⟩ := hsk.towAt (p := p) (by omega)
        obtain ⟨K, kc, hv, k0, k1, kf⟩ := (hsk.rowAt (p := p) (by omega)).at (hgA_stand hst (show l < S.H by omega))
        rw [hv] at t3
        have a0 : wi.cell? ⟨A, 0, none⟩ = some (.pointer (some ⟨b, 0, none⟩)) := by rw [ha.cell, hpb]; rfl
        have a1 : wi.cell? ⟨A, 1, none⟩ = some (.int .i64 (p : Int)) := by rw [ha.cell]; rfl
        have hx := nx_is (hs := hts S.T) (l := l) (p := p) (by rw [hts_len]; omega)
        have hx1 := hx.lt
        have hx2 := hx.le
        rw [hts_len] at hx2
        have HX : Hid (IsNxt (hts S.T) l p (nx (hts S.T) l p)) := hx
        have HBi : Hid (Below w.heap.size w wi) := hb
        have HRi : Hid (Blk wi R (flat2 (fun _ => (none, 0)) 24) 77) := hr
        have HQi : Hid (Blk wi Q (flat2 d 24) 77) := hq
        have HAi : Hid (Blk wi A [ptr (pAt S.hb S.T p), .int .i64 (p : Int)] 75) := ha
        have HSi : Hid (Stand (hts S.T) l p) := hst
        have hAl : A < wi.heap.size := ha.lt
        have hbl : b < wi.heap.size := lt_of_cell t3
        have hKl : K < wi.heap.size := lt_of_cell k0
        have HPO : Hid (placeOf wi A = p) := by
          show _ = _
          unfold placeOf; rw [a1]; rfl
        obtain ⟨q, hq1⟩ : ∃ q, nx (hts S.T) l p = q := ⟨_, rfl⟩
        unfold lnk at k0 k1
        simp only at k0 k1
        rw [hq1] at k0 k1 hx1 hx2 HX
        obtain ⟨o, ho⟩ : ∃ o, q - p = o := ⟨_, rfl⟩
        rw [ho] at k1
        have hlH : (l : Int) < (hgA S p : Int) := by have := hgA_stand hst (show l < S.H by omega); omega
        generalize hgA S p = hh at *
        have HPB : Hid (pAt S.hb S.T p = some b) := hpb
        clear hsk hb hr hq ha hst hx hv hpb hq1
        by_cases hqn : q ≤ S.T.length
        · obtain ⟨q', rfl⟩ : ∃ q', q = q' + 1 := ⟨q - 1, by omega⟩
          have hT : pAt S.hb S.T (q' + 1) = some S.T[q'].b := by
            show (S.T[q']?).map Tw.b = _
            rw [List.getElem?_eq_getElem hqn]; rfl
          rw [hT] at k0
          have hT2 := HT.out q' hqn
          rw [show ((q' + 1 : Nat) : Int) = (p : Int) + (o : Int) by omega] at hT2
          have HPT : Hid (pAt S.hb S.T (q' + 1) = some S.T[q'].b) := hT
          generalize S.T[q'].b = bq at *
          have k0' : wi.cell? ⟨K, l * 2, none⟩ = some (.pointer (some ⟨bq, 0, none⟩)) := k0
          clear k0 hT
          by_cases hqk : q' < k
          · rw [dec_t hqk] at hT2
            have HC : Hid _ := hT2
            clear hT2
            have HNW : Hid (Blk (wi.alloc (.cells #[.pointer (some ⟨bq, 0, none⟩), .int .i64 (o : Int)] 112)) wi.heap.size [.pointer (some ⟨bq, 0, none⟩), .int .i64 (o : Int)] 112) := heap_alloc_new _ _
            have HBw : Hid (Below w.heap.size w (wi.alloc (.cells #[.pointer (some ⟨bq, 0, none⟩), .int .i64 (o : Int)] 112))) := HBi.out.alloc HBi.out.size _
            have HBj : Hid (Below wi.heap.size wi (wi.alloc (.cells #[.pointer (some ⟨bq, 0, none⟩), .int .i64 (o : Int)] 112))) := (Below.refl _ _).alloc (Nat.le_refl _) _
            go_wp2_with fail
            generalize (wi.alloc (.cells #[.pointer (some ⟨bq, 0, none⟩), .int .i64 (o : Int)] 112)) = w1 at *
            rw [HEF.out, Oper.upon_enter]
            refine (show Calls _ _ _ _ _ from HC.out _ HBw.out).mono ?_
            rintro e w2 ⟨rfl, hb2⟩
            have HB2 : Hid (Below w.heap.size w w2) := bel_to HBw.out hb2 (Nat.le_refl _)
            have hb3 : Below wi.heap.size wi w2 := bel_to HBj.out hb2 (Nat.le_refl _)
            have HRj : Hid (Blk w2 R (flat2 (fun _ => (none, 0)) 24) 77) := cells_below HRi.out hb3
            have HQj : Hid (Blk w2 Q (flat2 d 24) 77) := cells_below HQi.out hb3
            have haj := cells_below HAi.out hb3
            have hlj := cells_below HNW.out hb2
            obtain ⟨Lb, hLb⟩ : ∃ Lb, wi.heap.size = Lb := ⟨_, rfl⟩
            rw [hLb] at hlj ⊢
            have l0 : w2.cell? ⟨Lb, 0, none⟩ = some (.pointer (some ⟨bq, 0, none⟩)) := by rw [hlj.cell]; rfl
            have l1 : w2.cell? ⟨Lb, 1, none⟩ = some (.int .i64 (o : Int)) := by rw [hlj.cell]; rfl
            have a0' : w2.cell? ⟨A, 0, none⟩ = some (ptr (pAt S.hb S.T p)) := by rw [haj.cell]; rfl
            have a1' : w2.cell? ⟨A, 1, none⟩ = some (.int .i64 (p : Int)) := by rw [haj.cell]; rfl
            have af0 : w2.frozen? ⟨A, 0, none⟩ = false := haj.frozen 0
            have af1 : w2.frozen? ⟨A, 1, none⟩ = false := haj.frozen 1
            have HAj : Hid (Blk w2 A [ptr (pAt S.hb S.T p), .int .i64 (p : Int)] 75) := haj
            clear hb2 hb3 haj hlj hLb a0 a1 k0' k1 t3 kf hAl hbl hKl
            go_wp2
            go_roundw
            case rel =>
              have hra := HRA.out
              have ho3 := ((Only.refl w2 A).set 0 (.pointer (some ⟨bq, 0, none⟩))).set 1 (.int .i64 ((p : Int) + (o : Int)))
              refine ⟨HB2.out.trans (ho3.below hra.2.2.2.2.1), HRj.out.to (ho3.other R (by omega)), HQj.out.to (ho3.other Q (by omega)), q' + 1, ?_, hqk, HX.out.at_ (by rw [hts_len]; exact hqn)⟩
              have h1 := (HAj.out.set 0 (.pointer (some ⟨bq, 0, none⟩))).set 1 (.int .i64 ((p : Int) + (o : Int)))
              rw [show (p : Int) + (o : Int) = ((q' + 1 : Nat) : Int) by omega] at h1 ⊢
              rw [HPT.out]; exact h1
            case measure =>
              have h1 := (HAj.out.set 0 (.pointer (some ⟨bq, 0, none⟩))).set 1 (.int .i64 ((p : Int) + (o : Int)))
              have h2 : placeOf ((w2.setCell ⟨A, 0, none⟩ (.pointer (some ⟨bq, 0, none⟩))).setCell ⟨A, 1, none⟩ (.int .i64 ((p : Int) + (o : Int)))) A = q' + 1 := by
                unfold placeOf
                rw [h1.cell]
                simp [intOf]; omega
              rw [h2, HPO.out]; omega
          · rw [dec_f hqk] at hT2
            have HC : Hid _ := hT2
            clear hT2
            have HNW : Hid (Blk (wi.alloc (.cells #[.pointer (some ⟨bq, 0, none⟩), .int .i64 (o : Int)] 112)) wi.heap.size [.pointer (some ⟨bq, 0, none⟩), .int .i64 (o : Int)] 112) := heap_alloc_new _ _
            have HBw : Hid (Below w.heap.size w (wi.alloc (.cells #[.pointer (some ⟨bq, 0, none⟩), .int .i64 (o : Int)] 112))) := HBi.out.alloc HBi.out.size _
            have HBj : Hid (Below wi.heap.size wi (wi.alloc (.cells #[.pointer (some ⟨bq, 0, none⟩), .int .i64 (o : Int)] 112))) := (Below.refl _ _).alloc (Nat.le_refl _) _
            have HPV : Hid (IsPrv (hts S.T) l k p) := HX.out.stop HSi.out hpk (by omega)
            go_wp2_with fail
            generalize (wi.alloc (.cells #[.pointer (some ⟨bq, 0, none⟩), .int .i64 (o : Int)] 112)) = w1 at *
            rw [HEF.out, Oper.upon_enter]
            refine (show Calls _ _ _ _ _ from HC.out _ HBw.out).mono ?_
            rintro e w2 ⟨rfl, hb2⟩
            have HB2 : Hid (Below w.heap.size w w2) := bel_to HBw.out hb2 (Nat.le_refl _)
            have hb3 : Below wi.heap.size wi w2 := bel_to HBj.out hb2 (Nat.le_refl _)
            have HRj : Hid (Blk w2 R (flat2 (fun _ => (none, 0)) 24) 77) := cells_below HRi.out hb3
            have hqj := cells_below HQi.out hb3
            have haj := cells_below HAi.out hb3
            obtain ⟨d0, d1⟩ := flat2_get d 24 l (by omega)
            have q0 : w2.cell? ⟨Q, l * 2, none⟩ = some (ptr (d l).1) := by rw [hqj.cell]; exact d0
            have q1 : w2.cell? ⟨Q, l * 2 + 1, none⟩ = some (.int .i64 ((d l).2 : Nat)) := by rw [hqj.cell]; exact d1
            have qf0 : w2.frozen? ⟨Q, l * 2, none⟩ = false := hqj.frozen _
            have qf1 : w2.frozen? ⟨Q, l * 2 + 1, none⟩ = false := hqj.frozen _
            have a0' : w2.cell? ⟨A, 0, none⟩ = some (ptr (pAt S.hb S.T p)) := by rw [haj.cell]; rfl
            have a1' : w2.cell? ⟨A, 1, none⟩ = some (.int .i64 (p : Int)) := by rw [haj.cell]; rfl
            have HQj : Hid (Blk w2 Q (flat2 d 24) 77) := hqj
            have HAj : Hid (Blk w2 A [ptr (pAt S.hb S.T p), .int .i64 (p : Int)] 75) := haj
            have hl24 : (l : Int) < 24 := by omega
            clear hb2 hb3 haj hqj d0 d1 a0 a1 k0' k1 t3 kf hAl hbl hKl
            generalize (ptr (d l).1) = X0 at *
            generalize (Value.int .i64 ((d l).2 : Nat)) = X1 at *
            obtain ⟨pp, hpp⟩ : ∃ pp : Option Addr, ptr (pAt S.hb S.T p) = .pointer pp := ⟨_, rfl⟩
            rw [hpp] at a0'
            have HPP : Hid _ := hpp
            clear hpp
            go_wp2
            go_roundw
            case rel =>
              have hra := HRA.out
              have ho3 := ((Only.refl w2 Q).set (l * 2) (.pointer pp)).set (l * 2 + 1) (.int .i64 (p : Int))
              refine ⟨l, by omega, rfl, HB2.out.trans (ho3.below hra.2.2.2.1), HRj.out.to (ho3.other R (by omega)), ⟨_, ?_, HW.out.step (by omega) HPV.out⟩, p, HAj.out.to (ho3.other A (by omega)), hpk, ?_⟩
              · have h1 := (HQj.out.set (l * 2) (.pointer pp)).set (l * 2 + 1) (.int .i64 ((p : Nat) : Int))
                rw [← HPP.out, flat2_set0, flat2_set1, updL_twice, updL_self] at h1
                rw [← HPP.out]; exact h1
              · rcases l with _ | l
                · exact Or.inl rfl
                · exact Or.inr (HPV.out.at_.down (by omega))
            case measure => first | (simp [intOf]; done) | (simp [intOf]; omega)
        · have k0' : wi.cell? ⟨K, l * 2, none⟩ = some (.pointer none) := by
            rw [k0]
            have : pAt S.hb S.T q = none := by
              obtain ⟨q', rfl⟩ : ∃ q', q = q' + 1 := ⟨q - 1, by omega⟩
              show (S.T[q']?).map Tw.b = none
              rw [List.getElem?_eq_none (by omega)]; rfl
            rw [this]; rfl
          clear k0
          have HBw : Hid (Below w.heap.size w (wi.alloc (.cells #[.pointer none, .int .i64 (o : Int)] 112))) := HBi.out.alloc HBi.out.size _
          have HBj : Hid (Below wi.heap.size wi (wi.alloc (.cells #[.pointer none, .int .i64 (o : Int)] 112))) := (Below.refl _ _).alloc (Nat.le_refl _) _
          have HPV : Hid (IsPrv (hts S.T) l k p) := HX.out.stop HSi.out hpk (by omega)
          obtain ⟨d0, d1⟩ := flat2_get d 24 l (by omega)
          have q0 : wi.cell? ⟨Q, l * 2, none⟩ = some (ptr (d l).1) := by rw [HQi.out.cell]; exact d0
          have q1 : wi.cell? ⟨Q, l * 2 + 1, none⟩ = some (.int .i64 ((d l).2 : Nat)) := by rw [HQi.out.cell]; exact d1
          have qf0 : wi.frozen? ⟨Q, l * 2, none⟩ = false := HQi.out.frozen _
          have qf1 : wi.frozen? ⟨Q, l * 2 + 1, none⟩ = false := HQi.out.frozen _
          have hQl : Q < wi.heap.size := HQi.out.lt
          have hl24 : (l : Int) < 24 := by omega
          clear d0 d1 kf
          generalize (ptr (d l).1) = X0 at *
          generalize (Value.int .i64 ((d l).2 : Nat)) = X1 at *
          go_wp2
          go_roundw
          case rel =>
            have hra := HRA.out
            have ho3 := ((Only.refl wi Q).set (l * 2) (.pointer (some ⟨b, 0, none⟩))).set (l * 2 + 1) (.int .i64 (p : Int))
            have hba := (Below.refl ((wi.setCell ⟨Q, l * 2, none⟩ (.pointer (some ⟨b, 0, none⟩))).setCell ⟨Q, l * 2 + 1, none⟩ (.int .i64 (p : Int))).heap.size ((wi.setCell ⟨Q, l * 2, none⟩ (.pointer (some ⟨b, 0, none⟩))).setCell ⟨Q, l * 2 + 1, none⟩ (.int .i64 (p : Int)))).alloc (Nat.le_refl _) (.cells #[.pointer none, .int .i64 (o : Int)] 112)
            have h0 := HBi.out.trans (ho3.below hra.2.2.2.1)
            refine ⟨l, by omega, rfl, h0.trans (hba.mono h0.size), cells_below (HRi.out.to (ho3.other R (by omega))) hba, ⟨_, cells_below ?_ hba, HW.out.step (by omega) HPV.out⟩, p, cells_below (HAi.out.to (ho3.other A (by omega))) hba, hpk, ?_⟩
            · have h1 := (HQi.out.set (l * 2) (ptr (some b))).set (l * 2 + 1) (.int .i64 ((p : Nat) : Int))
              rw [flat2_set0, flat2_set1, updL_twice, updL_self] at h1
              rw [HPB.out]; exact h1
            · rcases l with _ | l
              · exact Or.inl rfl
              · exact Or.inr (HPV.out.at_.down (by omega))
          case measure => first | (simp [intOf]; done) | (simp [intOf]; omega)
end Go.Proofs.YtgbplghokciimaaDoor.I
namespace Go.Proofs.YtgbplghokciimaaDoor.I
open Go.RowKit
set_option linter.unusedVariables false
theorem flat24 (d : Nat → Lk) : flat2 d 24 = [ptr (d 0).1, .int .i64 ((d 0).2 : Nat), ptr (d 1).1, .int .i64 ((d 1).2 : Nat), ptr (d 2).1, .int .i64 ((d 2).2 : Nat), ptr (d 3).1, .int .i64 ((d 3).2 : Nat), ptr (d 4).1, .int .i64 ((d 4).2 : Nat), ptr (d 5).1, .int .i64 ((d 5).2 : Nat), ptr (d 6).1, .int .i64 ((d 6).2 : Nat), ptr (d 7).1, .int .i64 ((d 7).2 : Nat), ptr (d 8).1, .int .i64 ((d 8).2 : Nat), ptr (d 9).1, .int .i64 ((d 9).2 : Nat), ptr (d 10).1, .int .i64 ((d 10).2 : Nat), ptr (d 11).1, .int .i64 ((d 11).2 : Nat), ptr (d 12).1, .int .i64 ((d 12).2 : Nat), ptr (d 13).1, .int .i64 ((d 13).2 : Nat), ptr (d 14).1, .int .i64 ((d 14).2 : Nat), ptr (d 15).1, .int .i64 ((d 15).2 : Nat), ptr (d 16).1, .int .i64 ((d 16).2 : Nat), ptr (d 17).1, .int .i64 ((d 17).2 : Nat), ptr (d 18).1, .int .i64 ((d 18).2 : Nat), ptr (d 19).1, .int .i64 ((d 19).2 : Nat), ptr (d 20).1, .int .i64 ((d 20).2 : Nat), ptr (d 21).1, .int .i64 ((d 21).2 : Nat), ptr (d 22).1, .int .i64 ((d 22).2 : Nat), ptr (d 23).1, .int .i64 ((d 23).2 : Nat)] := rfl
theorem idx0 (d : Nat → Lk) (w : World) : (Instr.index 77 (.agg (flat2 d 24).toArray) (.int .i64 0)).run Tryd.prog w = .ok (.agg #[ptr (d 0).1, .int .i64 ((d 0).2 : Nat)]) w := by
  rw [flat24]
  kernel_rfl
theorem fld0 (a b : Value) (w : World) : (Instr.field 75 (.agg #[a, b]) 0).run Tryd.prog w = .ok a w := by kernel_rfl
theorem fld1 (a b : Value) (w : World) : (Instr.field 75 (.agg #[a, b]) 1).run Tryd.prog w = .ok b w := by kernel_rfl
theorem prv_zero {hs : List Nat} {k p : Nat} (hpos : ∀ h ∈ hs, 1 ≤ h) (hk : k ≤ hs.length) (hp : IsPrv hs 0 k p) : p = k := by
  rcases Nat.lt_or_ge p k with h | h
  · refine absurd ?_ (hp.last k h (Nat.le_refl _))
    refine Or.inr ⟨hs[k - 1], List.getElem?_eq_getElem (by omega), ?_⟩
    have := hpos _ (List.getElem_mem (l := hs) (n := k - 1) (by omega))
    omega
  · have := hp.le; omega
theorem Wy.zero {S : SkS} {k : Nat} {d : Nat → Lk} (hw : Wy S k 0 d) (hpos : ∀ h ∈ hts S.T, 1 ≤ h) (hk : k ≤ S.T.length) (hH : 0 < S.H) : d 0 = (pAt S.hb S.T k, k) := by
  obtain ⟨p, hp, e⟩ := hw.1 0 (Nat.le_refl _) hH
  rw [prv_zero hpos (by rw [hts_len]; exact hk) hp] at e
  exact e
set_option maxHeartbeats 1000000 in
set_option maxRecDepth 100000 in
theorem ahead1_any (a b B : Nat) (x y : En) (pl : Value) (w : World) (hB : w.cell? ⟨B, 0, none⟩ = some (.pointer (some ⟨b, 0, none⟩))) (a0 : w.cell? ⟨a, 0, none⟩ = some (.string x.1)) (a1 : w.cell? ⟨a, 1, none⟩ = some (.int .i64 x.2.1)) (b0 : w.cell? ⟨b, 0, none⟩ = some (.string y.1)) (b1 : w.cell? ⟨b, 1, none⟩ = some (.int .i64 y.2.1)) : Calls Tryd.prog 63 #[.pointer (some ⟨a, 0, none⟩), pl, .pointer (some ⟨B, 0, none⟩)] w fun e w' => e = .returned (.bool (ahd x y)) ∧ Below w.heap.size w w' := by
  have HI : Hid _ := isAhead_any a b x y w a0 a1 b0 b1
  clear a0 a1 b0 b1
  go_enter Tryd.func63, Tryd.ntmps63
  go_wp2_with fail
  refine (show Calls _ _ _ _ _ from HI.out).mono ?_
  rintro e w1 ⟨rfl, hb1⟩
  have HB : Hid _ := hb1
  clear hb1
  go_wp2
  go_returns
  exact ⟨rfl, HB.out⟩
theorem tow_cells {W : World} {b : Nat} {t : Tw} {pv : Option Nat} {T : Nat} (h : Blk W b (towL t pv) T) : W.cell? ⟨b, 0, none⟩ = some (.string t.e.1) ∧ W.cell? ⟨b, 1, none⟩ = some (.int .i64 t.e.2.1) := by
  rw [h.cell, h.cell]; exact ⟨rfl, rfl⟩
set_option maxHeartbeats 2000000 in
set_option maxRecDepth 100000 in
theorem ahead_any (g : Nat) (S : SkS) (C : Nat → Nat) (n : Nat) (pv : Nat → Option Nat) (k tb : Nat) (x : En) (w : World) (h : Sk w g S C n (lnk S.hb S.T) pv) (hk : k ≤ S.T.length) (hH : S.H ≤ 24) (hn : S.T.length ≤ 1099511627776) (x0 : w.cell? ⟨tb, 0, none⟩ = some (.string x.1)) (x1 : w.cell? ⟨tb, 1, none⟩ = some (.int .i64 x.2.1)) (hA : ∀ q (hq : q < S.T.length), ahd S.T[q].e x = decide (q < k)) : Calls Tryd.prog 33 #[.pointer (some ⟨g, 0, none⟩), .pointer (some ⟨tb, 0, none⟩)] w fun e w' => ∃ d, e = .returned (.agg (flat2 d 24).toArray) ∧ Wy S k 0 d ∧ Below w.heap.size w w' := by
  obtain ⟨W0, hW0⟩ : ∃ W0, W0 = (w.alloc (.cells #[.pointer (some ⟨tb, 0, none⟩)] 60)).alloc (.cells #[.pointer none, .int .i64 0, .pointer none, .int .i64 0, .pointer none, .int .i64 0, .pointer none, .int .i64 0, .pointer none, .int .i64 0, .pointer none, .int .i64 0, .pointer none, .int .i64 0, .pointer none, .int .i64 0, .pointer none, .int .i64 0, .pointer none, .int .i64 0, .pointer none, .int .i64 0, .pointer none, .int .i64 0, .pointer none, .int .i64 0, .pointer none, .int .i64 0, .pointer none, .int .i64 0, .pointer none, .int .i64 0, .pointer none, .int .i64 0, .pointer none, .int .i64 0, .pointer none, .int .i64 0, .pointer none, .int .i64 0, .pointer none, .int .i64 0, .pointer none, .int .i64 0, .pointer none, .int .i64 0, .pointer none, .int .i64 0] 77) := ⟨_, rfl⟩
  obtain ⟨R, hR⟩ : ∃ R, R = w.heap.size + 1 := ⟨_, rfl⟩
  obtain ⟨X, hX⟩ : ∃ X, X = w.heap.size := ⟨_, rfl⟩
  have hb0 : Below w.heap.size w W0 := by
    rw [hW0]
    repeat (refine Below.alloc ?_ (by simp) _)
    exact Below.refl _ _
  have hB0 : Blk W0 X [.pointer (some ⟨tb, 0, none⟩)] 60 := by
    unfold Blk
    rw [hW0, hX, heap_alloc_old _ _ (by simp)]
    exact heap_alloc_new _ _
  have hR0 : Blk W0 R (flat2 (fun _ => (none, 0)) 24) 77 := by
    unfold Blk
    rw [hW0, hR, zero24]
    have := heap_alloc_new (w.alloc (.cells #[.pointer (some ⟨tb, 0, none⟩)] 60)) (.cells #[.pointer none, .int .i64 0, .pointer none, .int .i64 0, .pointer none, .int .i64 0, .pointer none, .int .i64 0, .pointer none, .int .i64 0, .pointer none, .int .i64 0, .pointer none, .int .i64 0, .pointer none, .int .i64 0, .pointer none, .int .i64 0, .pointer none, .int .i64 0, .pointer none, .int .i64 0, .pointer none, .int .i64 0, .pointer none, .int .i64 0, .pointer none, .int .i64 0, .pointer none, .int .i64 0, .pointer none, .int .i64 0, .pointer none, .int .i64 0, .pointer none, .int .i64 0, .pointer none, .int .i64 0, .pointer none, .int .i64 0, .pointer none, .int .i64 0, .pointer none, .int .i64 0, .pointer none, .int .i64 0, .pointer none, .int .i64 0] 77)
    simpa using this
  have hT : Tst W0 S.hb S.T k 63 (.pointer (some ⟨X, 0, none⟩)) := fun q hq W' hW' => by
    have hsk := (h.below hb0).below hW'
    obtain ⟨y0, y1⟩ := tow_cells (hsk.tow q hq)
    have hbx := cells_below hB0 hW'
    have hbb := hb0.trans (hW'.mono hb0.size)
    rw [← hA q hq]
    exact ahead1_any _ _ X _ x _ W' (by rw [hbx.cell]; rfl) y0 y1 (cell_on x0 hbb) (cell_on x1 hbb)
  have HS : Hid _ := seek_any g S C n pv k 63 Tryd.call63 _ W0 (h.below hb0) hk hH hn hT
  have HB0 : Hid _ := hb0
  have HR0 : Hid _ := hR0
  have HRw : Hid (w.heap.size ≤ R) := by show _ ≤ _; omega
  clear h hA hT hb0 hB0 hR0 x0 x1
  go_enter Tryd.func33, Tryd.ntmps33
  go_wp2_with fail
  rw [← hW0, ← hR, ← hX]
  clear hW0 hR hX
  refine (show Calls _ _ _ _ _ from HS.out).mono ?_
  rintro e w1 ⟨d, rfl, hw, hb1⟩
  have HW : Hid _ := hw
  have HB1 : Hid (Below w.heap.size w w1) := bel_to HB0.out hb1 (Nat.le_refl _)
  have HR1 : Hid _ := cells_below HR0.out hb1
  clear hw hb1
  go_wp2_with (first | (refine wpList_store_row rfl 77 _ _ rfl R _ rfl rfl _ _ HR1.out (infoW d) (sizeW _ d) (oneW d) ?_))
  refine ⟨rfl, _, results_cell_row (p := 4) (ty := 77) rfl _ _ R _ _ _ _ rfl (setRow_heap _ _ _ _ _ _ HR1.out) Tryd.underlying77 rfl (infoW d), ?_⟩
  exact ⟨d, rfl, HW.out, HB1.out.trans ⟨rfl, rfl, rfl, by rw [setRow_size]; exact Nat.le_refl _, fun q hq => setRow_other _ _ _ _ (by have := HRw.out; omega)⟩⟩
set_option maxHeartbeats 1000000 in
set_option maxRecDepth 100000 in
theorem tower1_any (tv : Value) (pl : Nat) (B : Nat) (r : Int) (hr : -1 ≤ r ∧ r ≤ 4398046511104) (w : World) (hB : w.cell? ⟨B, 0, none⟩ = some (.int .i64 r)) : Calls Tryd.prog 65 #[tv, .int .i64 (pl : Int), .pointer (some ⟨B, 0, none⟩)] w fun e w' => e = .returned (.bool (decide ((pl : Int) ≤ r + 1))) ∧ Below w.heap.size w w' := by
  have e1 : IntKind.i64.wrap (r + 1) = r + 1 := by rw [IntKind.wrap_i64] <;> omega
  go_enter Tryd.func65, Tryd.ntmps65
  go_wp2
  go_returns
  exact ⟨by first | rfl | simp [*], Below.refl _ _⟩
set_option maxHeartbeats 2000000 in
set_option maxRecDepth 100000 in
theorem tower_any (g : Nat) (S : SkS) (C : Nat → Nat) (n : Nat) (pv : Nat → Option Nat) (k : Nat) (r : Int) (hr : -1 ≤ r ∧ r ≤ 4398046511104) (w : World) (h : Sk w g S C n (lnk S.hb S.T) pv) (hk : k ≤ S.T.length) (hkr : ∀ q, q < S.T.length → (((q + 1 : Nat) : Int) ≤ r + 1 ↔ q < k)) (hH : S.H ≤ 24) (hn : S.T.length ≤ 1099511627776) (hpos : ∀ h ∈ hts S.T, 1 ≤ h) : Calls Tryd.prog 34 #[.pointer (some ⟨g, 0, none⟩), .int .i64 r] w fun e w' => ∃ o, e = .returned (ptr o) ∧ (0 < S.H → o = pAt S.hb S.T k) ∧ Below w.heap.size w w' := by
  obtain ⟨W0, hW0⟩ : ∃ W0, W0 = w.alloc (.cells #[.int .i64 r] 3) := ⟨_, rfl⟩
  obtain ⟨X, hX⟩ : ∃ X, X = w.heap.size := ⟨_, rfl⟩
  have hb0 : Below w.heap.size w W0 := by
    rw [hW0]
    repeat (refine Below.alloc ?_ (by simp) _)
    exact Below.refl _ _
  have hB0 : Blk W0 X [.int .i64 r] 3 := by
    unfold Blk
    rw [hW0, hX]
    exact heap_alloc_new _ _
  have hT : Tst W0 S.hb S.T k 65 (.pointer (some ⟨X, 0, none⟩)) := fun q hq W' hW' => by
    have hbx := cells_below hB0 hW'
    have e : decide (q < k) = decide (((q + 1 : Nat) : Int) ≤ r + 1) := by rw [decide_eq_decide]; exact (hkr q hq).symm
    rw [e]
    exact tower1_any _ _ X r hr W' (by rw [hbx.cell]; rfl)
  have HS : Hid _ := seek_any g S C n pv k 65 Tryd.call65 _ W0 (h.below hb0) hk hH hn hT
  have HB0 : Hid _ := hb0
  have HPO : Hid _ := hpos
  clear h hkr hT hb0 hB0 hpos
  go_enter Tryd.func34, Tryd.ntmps34
  go_wp2_with fail
  rw [← hW0, ← hX]
  clear hW0 hX
  refine (show Calls _ _ _ _ _ from HS.out).mono ?_
  rintro e w1 ⟨d, rfl, hw, hb1⟩
  have HW : Hid _ := hw
  have HB1 : Hid (Below w.heap.size w w1) := bel_to HB0.out hb1 (Nat.le_refl _)
  have HD : Hid (0 < S.H → (d 0).1 = pAt S.hb S.T k) := fun h0 => by rw [hw.zero HPO.out hk h0]
  clear hw hb1
  have hidx := idx0 d w1
  generalize (flat2 d 24).toArray = A at *
  generalize d 0 = d0 at *
  have hfl := fld0 (ptr d0.1) (.int .i64 (d0.2 : Nat)) w1
  go_wp2
  go_returns
  exact ⟨_, rfl, HD.out, HB1.out⟩
end Go.Proofs.YtgbplghokciimaaDoor.I
namespace Go.Proofs.YtgbplghokciimaaDoor.I
open Go.RowKit
set_option linter.unusedVariables false
abbrev SkS.setT (S : SkS) (T : List Tw) : SkS := { S with T := T }
theorem insT_get {T : List Tw} {k : Nat} {t : Tw} (hk : k ≤ T.length) (i : Nat) (hi : i < (insT T k t).length) : (i < k ∧ ∃ h : i < T.length, (insT T k t)[i] = T[i]) ∨ (i = k ∧ (insT T k t)[i] = t) ∨ (k < i ∧ ∃ h : i - 1 < T.length, (insT T k t)[i] = T[i - 1]) := by
  have hl := insT_len T k t
  rcases Nat.lt_trichotomy i k with h | h | h
  · left
    refine ⟨h, by omega, ?_⟩
    have := insT_lo (t := t) hk h
    rw [List.getElem?_eq_getElem hi, List.getElem?_eq_getElem (by omega)] at this
    exact Option.some.inj this
  · right; left
    subst h
    refine ⟨rfl, ?_⟩
    have := insT_at (t := t) hk
    rw [List.getElem?_eq_getElem hi] at this
    exact Option.some.inj this
  · right; right
    refine ⟨h, by omega, ?_⟩
    have := insT_hi (t := t) (q := i - 1) hk (by omega)
    rw [show i - 1 + 1 = i by omega, List.getElem?_eq_getElem hi, List.getElem?_eq_getElem (by omega)] at this
    exact Option.some.inj this
theorem insT_perm (T : List Tw) (k : Nat) (t : Tw) : (insT T k t).Perm (t :: T) := by
  have := List.perm_middle (a := t) (l₁ := T.take k) (l₂ := T.drop k)
  rwa [List.take_append_drop] at this
section
variable {W : World} {g : Nat} {S : SkS} {C : Nat → Nat} {n : Nat} {c c' : Nat → Nat → Lk} {pv pv' : Nat → Option Nat}
/-- a tower put in. -/
theorem Sk.ins (h : Sk W g S C n c pv) {k : Nat} {t : Tw} (hk : k ≤ S.T.length) (hb : Blk W t.b (towL t (pv' k)) 63) (hr : Rw W (.slice (some ⟨t.k, 0, none⟩) t.h t.h) t.h (c' (k + 1))) (nb : t.b ∉ S.hb :: S.T.map Tw.b) (nk : t.k ∉ S.hv.ownBlock.toList ++ S.T.map Tw.k) (hc0 : ∀ p, p ≤ k → ∀ l, l < hgA S p → c p l = c' p l) (hc1 : ∀ p, k < p → p ≤ S.T.length → ∀ l, l < hgA S p → c p l = c' (p + 1) l) (hp0 : ∀ i, i < k → pv i = pv' i) (hp1 : ∀ i, k ≤ i → pv i = pv' (i + 1)) : Sk W g (S.setT (insT S.T k t)) C n c' pv' := by
  refine ⟨h.brd, h.head, h.hrow.congr (fun l hl => hc0 0 (Nat.zero_le _) l hl), fun i hi => ?_, fun i hi => ?_, ?_, ?_⟩
  · rcases insT_get hk i hi with ⟨h1, h2, e⟩ | ⟨h1, e⟩ | ⟨h1, h2, e⟩
    · show Blk W (insT S.T k t)[i].b (towL (insT S.T k t)[i] (pv' i)) _
      rw [e, ← hp0 i h1]; exact h.tow i h2
    · subst h1
      show Blk W (insT S.T i t)[i].b (towL (insT S.T i t)[i] (pv' i)) _
      rw [e]; exact hb
    · show Blk W (insT S.T k t)[i].b (towL (insT S.T k t)[i] (pv' i)) _
      have := hp1 (i - 1) (by omega)
      rw [show i - 1 + 1 = i by omega] at this
      rw [e, ← this]; exact h.tow (i - 1) h2
  · rcases insT_get hk i hi with ⟨h1, h2, e⟩ | ⟨h1, e⟩ | ⟨h1, h2, e⟩
    · show Rw W (.slice (some ⟨(insT S.T k t)[i].k, 0, none⟩) (insT S.T k t)[i].h (insT S.T k t)[i].h) (insT S.T k t)[i].h (c' (i + 1))
      rw [e]
      exact (h.row i h2).congr (fun l hl => hc0 (i + 1) h1 l (by rw [hgA_s h2]; exact hl))
    · subst h1
      show Rw W (.slice (some ⟨(insT S.T i t)[i].k, 0, none⟩) (insT S.T i t)[i].h (insT S.T i t)[i].h) (insT S.T i t)[i].h (c' (i + 1))
      rw [e]; exact hr
    · show Rw W (.slice (some ⟨(insT S.T k t)[i].k, 0, none⟩) (insT S.T k t)[i].h (insT S.T k t)[i].h) (insT S.T k t)[i].h (c' (i + 1))
      rw [e]
      refine (h.row (i - 1) h2).congr (fun l hl => ?_)
      have := hc1 (i - 1 + 1) (by omega) h2 l (by rw [hgA_s h2]; exact hl)
      rw [this, show i - 1 + 1 + 1 = i + 1 by omega]
  · show (S.hb :: (insT S.T k t).map Tw.b).Nodup
    have hp := (((insT_perm S.T k t).map Tw.b).cons S.hb)
    rw [hp.nodup_iff]
    have h1 := List.nodup_cons.1 h.ndB
    simp only [List.mem_cons, not_or] at nb
    rw [List.map_cons]
    refine List.nodup_cons.2 ⟨?_, List.nodup_cons.2 ⟨nb.2, h1.2⟩⟩
    simp only [List.mem_cons, not_or]
    exact ⟨fun e => nb.1 e.symm, h1.1⟩
  · show (S.hv.ownBlock.toList ++ (insT S.T k t).map Tw.k).Nodup
    have hp := (((insT_perm S.T k t).map Tw.k).append_left S.hv.ownBlock.toList)
    rw [hp.nodup_iff, List.map_cons, List.perm_middle.nodup_iff]
    exact List.nodup_cons.2 ⟨nk, h.ndK⟩
/-- a tower taken out. -/
theorem Sk.del {T : List Tw} {k : Nat} {t : Tw} (hT : S.T = insT T k t) (h : Sk W g S C n c pv) (hk : k ≤ T.length) (hc0 : ∀ p, p ≤ k → ∀ l, l < hgA (S.setT T) p → c p l = c' p l) (hc1 : ∀ p, k < p → p ≤ T.length → ∀ l, l < hgA (S.setT T) p → c (p + 1) l = c' p l) (hp0 : ∀ i, i < k → pv i = pv' i) (hp1 : ∀ i, k ≤ i → pv (i + 1) = pv' i) : Sk W g (S.setT T) C n c' pv' := by
  have hlen := insT_len T k t
  have get0 : ∀ i (hi : i < T.length), i < k → ∃ hj : i < S.T.length, S.T[i] = T[i] := fun i hi hik => by
    have hj : i < S.T.length := by rw [hT, hlen]; omega
    refine ⟨hj, ?_⟩
    have := insT_lo (t := t) hk hik
    rw [← hT, List.getElem?_eq_getElem hj, List.getElem?_eq_getElem hi] at this
    exact Option.some.inj this
  have get1 : ∀ i (hi : i < T.length), k ≤ i → ∃ hj : i + 1 < S.T.length, S.T[i + 1] = T[i] := fun i hi hik => by
    have hj : i + 1 < S.T.length := by rw [hT, hlen]; omega
    refine ⟨hj, ?_⟩
    have := insT_hi (t := t) (q := i) hk hik
    rw [← hT, List.getElem?_eq_getElem hj, List.getElem?_eq_getElem hi] at this
    exact Option.some.inj this
  refine ⟨h.brd, h.head, h.hrow.congr (fun l hl => hc0 0 (Nat.zero_le _) l hl), fun i hi => ?_, fun i hi => ?_, ?_, ?_⟩
  · rcases Nat.lt_or_ge i k with h1 | h1
    · obtain ⟨hj, e⟩ := get0 i hi h1
      have := h.tow i hj
      rw [e, hp0 i h1] at this; exact this
    · obtain ⟨hj, e⟩ := get1 i hi h1
      have := h.tow (i + 1) hj
      rw [e, hp1 i h1] at this; exact this
  · rcases Nat.lt_or_ge i k with h1 | h1
    · obtain ⟨hj, e⟩ := get0 i hi h1
      have := h.row i hj
      rw [e] at this
      exact this.congr (fun l hl => hc0 (i + 1) h1 l (by rw [hgA_s (S := S.setT T) hi]; exact hl))
    · obtain ⟨hj, e⟩ := get1 i hi h1
      have := h.row (i + 1) hj
      rw [e] at this
      exact this.congr (fun l hl => hc1 (i + 1) (by omega) hi l (by rw [hgA_s (S := S.setT T) hi]; exact hl))
  · have hp := (((insT_perm T k t).map Tw.b).cons S.hb)
    have h1 := h.ndB
    rw [hT, hp.nodup_iff, List.map_cons] at h1
    obtain ⟨h2, h3⟩ := List.nodup_cons.1 h1
    exact List.nodup_cons.2 ⟨fun hm => h2 (List.mem_cons_of_mem _ hm), (List.nodup_cons.1 h3).2⟩
  · have hp := (((insT_perm T k t).map Tw.k).append_left S.hv.ownBlock.toList)
    have h1 := h.ndK
    rw [hT, hp.nodup_iff, List.map_cons, List.perm_middle.nodup_iff] at h1
    exact (List.nodup_cons.1 h1).2
def updF (pv : Nat → Option Nat) (i : Nat) (o : Option Nat) : Nat → Option Nat := fun j => if j = i then o else pv j
theorem Sk.neB (h : Sk W g S C n c pv) {i j : Nat} (hi : i < S.T.length) (hj : j < S.T.length) (hij : i ≠ j) : S.T[i].b ≠ S.T[j].b := by
  have h1 := (List.nodup_cons.1 h.ndB).2
  have := nd_ne h1 (i := i) (j := j) (by simpa using hi) (by simpa using hj) hij
  simpa using this
theorem Sk.neH (h : Sk W g S C n c pv) {i : Nat} (hi : i < S.T.length) : S.T[i].b ≠ S.hb := fun e => (List.nodup_cons.1 h.ndB).1 (by rw [← e]; exact List.mem_map.2 ⟨_, List.getElem_mem hi, rfl⟩)
/-- a tower's block has turned. -/
theorem Sk.setTow (h : Sk W g S C n c pv) {i : Nat} (hi : i < S.T.length) {W' : World} (ho : Only W W' S.T[i].b) {o : Option Nat} (hb : Blk W' S.T[i].b (towL S.T[i] o) 63) : Sk W' g S C n c (updF pv i o) := by
  have hbi := h.tow i hi
  refine ⟨h.brd.to (ho.other _ (h.brd.ne hbi (by decide))), h.head.to (ho.other _ (h.neH hi).symm), h.hrow.to (fun K hK => ho.other _ (h.hrow.ne hK hbi (by decide)).symm), fun j hj => ?_, fun j hj => (h.row j hj).to (fun K hK => ho.other _ ((h.row j hj).ne hK hbi (by decide)).symm), h.ndB, h.ndK⟩
  unfold updF
  by_cases hij : j = i
  · subst hij; rw [if_pos rfl]; exact hb
  · rw [if_neg hij]
    exact (h.tow j hj).to (ho.other _ (h.neB hj hi hij))
theorem Sk.setPrev (h : Sk W g S C n c pv) {i : Nat} (hi : i < S.T.length) (o : Option Nat) : Sk (W.setCell ⟨S.T[i].b, 4, none⟩ (ptr o)) g S C n c (updF pv i o) :=
  h.setTow hi (only_set _ _ _ _) ((h.tow i hi).set 4 (ptr o))
/-- the board's block has turned. -/
theorem Sk.setBrd (h : Sk W g S C n c pv) {W' : World} (ho : Only W W' g) {C' : Nat → Nat} {n' : Nat} (hb : Blk W' g (boardL S.seed S.mb S.hb C' n') 66) : Sk W' g S C' n' c pv :=
  ⟨hb, h.head.to (ho.other _ (h.head.ne h.brd (by decide))), h.hrow.to (fun K hK => ho.other _ (h.hrow.ne hK h.brd (by decide)).symm), fun j hj => (h.tow j hj).to (ho.other _ ((h.tow j hj).ne h.brd (by decide))), fun j hj => (h.row j hj).to (fun K hK => ho.other _ ((h.row j hj).ne hK h.brd (by decide)).symm), h.ndB, h.ndK⟩
theorem Sk.setCount (h : Sk W g S C n c pv) {j : Nat} (hj : j < 24) (x : Nat) : Sk (W.setCell ⟨g, 3 + j, none⟩ (.int .i64 (x : Nat))) g S (updC C j x) n c pv := by
  refine h.setBrd (only_set _ _ _ _) ?_
  have := h.brd.set (3 + j) (.int .i64 (x : Nat))
  rw [boardL_set _ _ _ _ _ _ _ hj] at this; exact this
theorem Sk.setSize (h : Sk W g S C n c pv) (x : Nat) : Sk (W.setCell ⟨g, 27, none⟩ (.int .i64 (x : Nat))) g S C x c pv := h.setBrd (only_set _ _ _ _) (h.brd.set 27 (.int .i64 (x : Nat)))
end
end Go.Proofs.YtgbplghokciimaaDoor.I
namespace Go.Proofs.YtgbplghokciimaaDoor.I
open Go.RowKit
set_option linter.unusedVariables false
/-- what a call does to memory: the blocks F, which become F'. -/
structure Moved (w w' : World) (F F' : List Nat) : Prop where
  os : w'.os = w.os
  tape : w'.tape = w.tape
  output : w'.output = w.output
  size : w.heap.size ≤ w'.heap.size
  rest : ∀ q, q < w.heap.size → q ∉ F → w'.heap[q]? = w.heap[q]?
  new : ∀ q ∈ F', q ∈ F ∨ w.heap.size ≤ q
theorem Moved.refl (w : World) (F : List Nat) : Moved w w F F := ⟨rfl, rfl, rfl, Nat.le_refl _, fun _ _ _ => rfl, fun _ h => Or.inl h⟩
theorem Moved.of_below {w w' : World} {F : List Nat} (h : Below w.heap.size w w') : Moved w w' F F := ⟨h.os, h.tape, h.output, h.size, fun q hq _ => h.block q hq, fun _ h => Or.inl h⟩
theorem Moved.trans {a b c : World} {F F1 F2 : List Nat} (h1 : Moved a b F F1) (h2 : Moved b c F1 F2) : Moved a c F F2 := by
  refine ⟨h2.os.trans h1.os, h2.tape.trans h1.tape, h2.output.trans h1.output, Nat.le_trans h1.size h2.size, fun q hq hn => ?_, fun q hq => ?_⟩
  · refine (h2.rest q (Nat.lt_of_lt_of_le hq h1.size) (fun hm => ?_)).trans (h1.rest q hq hn)
    rcases h1.new q hm with h | h
    · exact hn h
    · omega
  · rcases h2.new q hq with h | h
    · exact h1.new q h
    · exact Or.inr (Nat.le_trans h1.size h)
theorem Moved.keep {w w' : World} {F F' : List Nat} (h : Moved w w' F F') {q : Nat} {o : Obj} (hq : w.heap[q]? = some o) (hn : q ∉ F) : w'.heap[q]? = some o := (h.rest q (row_lt hq) hn).trans hq
theorem Moved.wide {w w' : World} {F F' G : List Nat} (h : Moved w w' F F') (hF : ∀ q ∈ F, q ∈ G) : Moved w w' G G := ⟨h.os, h.tape, h.output, h.size, fun q hq hn => h.rest q hq (fun hm => hn (hF q hm)), fun _ h => Or.inl h⟩
theorem Moved.only {w w' : World} {g : Nat} {F : List Nat} (h : Only w w' g) (hg : g ∈ F) : Moved w w' F F := ⟨h.os, h.tape, h.output, by rw [h.size]; exact Nat.le_refl _, fun q _ hn => h.other q (fun e => hn (by rw [e]; exact hg)), fun _ h => Or.inl h⟩
theorem Moved.less {w w' : World} {F F' G : List Nat} (h : Moved w w' F F') (hF : ∀ q ∈ G, q ∈ F') : Moved w w' F G := ⟨h.os, h.tape, h.output, h.size, h.rest, fun q hq => h.new q (hF q hq)⟩
theorem infoLk : (Tryd.prog.info? 112).map (fun i => (i.zero, i.size, i.bytes)) = some (some (.agg #[.pointer none, .int .i64 0]), 2, 16) := by kernel_rfl
/-- a link behind links, in a region that draws. -/
theorem step_append_lk {w : World} {ops : Array Oper} {o : Oper} {a : Act} {K : Act → World → Prop} {Q : Exit → Act → World → Prop} {E : Prop} (hg : o.guard = none) (s x : Operand)
    (hop : o.op = Op.call { callee := Callee.builtin Builtin.append, args := #[s, x], argTypes := #[61, 61] })
    (v : Value) (n : Nat) (xs : List Value) (hs : a.eval s = v) (hown : w.ownsRow 0 112 2 v n xs) (B : Nat) (y0 : Option Addr) (y1 : Int) (hx : a.eval x = .slice (some ⟨B, 0, none⟩) 1 1) (hB : w.heap[B]? = some (.cells #[.pointer y0, .int .i64 y1] 112))
    (hl : n ≤ 1099511627776)
    (h : ∀ v' w', w'.ownsRow 0 112 2 v' (n + 1) (xs ++ [.pointer y0, .int .i64 y1]) → w.grownBy w' v.ownBlock → (v'.ownBlock = v.ownBlock ∨ v'.ownBlock = some w.heap.size) → K (a.put o.dst v') w') :
    if Region.wanted o (yielded ops a.tmps) = true then Oper.wp Tryd.prog o a w K Q else E := by
  have hw : Region.wanted o (yielded ops a.tmps) = true := by simp [Region.wanted, hg]
  rw [if_pos hw]
  obtain ⟨i0, hi, hz0, hz1, hz2⟩ := info_of infoLk
  obtain ⟨v', w', hrun, h2, h3, h4, h5⟩ := run_append_own_at (P := Tryd.prog) w 0 61 o.type 112 i0 (.agg #[.pointer none, .int .i64 0]) 2 16 Tryd.underlying61 hi hz0 hz1 hz2 rfl (by decide) v n xs hown ⟨B, 0, none⟩ 1 1 [.pointer y0, .int .i64 y1] rfl (fun j u hu => by
    rw [Lib.add_plain, Nat.zero_add, cell_of_row _ _ _ _ _ _ hB]; simpa using hu) (by intro u hu; simp at hu; rcases hu with rfl | rfl <;> rfl) (by unfold maxLen; omega) (by omega) (Nat.zero_le _)
  unfold Oper.wp
  simp [execOp, hop, resolve, invoke, builtin, hs, hx, hrun, Result.andThen]
  exact h v' w' h2 h3 h5
def lenOf (w : World) (b : Nat) : Nat := match w.cell? ⟨b, 3, none⟩ with
  | some (.slice _ l _) => l
  | _ => 0
abbrev SkS.setH (S : SkS) (hv : Value) (H : Nat) : SkS := { S with hv := hv, H := H }
theorem nx_top {hs : List Nat} {l : Nat} (h : ∀ x ∈ hs, x ≤ l) : nx hs l 0 = hs.length + 1 := by
  have h1 := nx_is (hs := hs) (l := l) (p := 0) (Nat.zero_le _)
  have h2 := h1.le
  rcases Nat.lt_or_ge (nx hs l 0) (hs.length + 1) with h3 | h3
  · rcases h1.at_ (by omega) with h4 | ⟨x, hx, hl⟩
    · have := h1.lt; omega
    · have := h x (List.mem_iff_getElem?.2 ⟨_, hx⟩)
      omega
  · omega
theorem lnk_top {hb : Nat} {T : List Tw} {l : Nat} (h : ∀ x ∈ hts T, x ≤ l) : lnk hb T 0 l = (none, T.length + 1) := by
  unfold lnk
  rw [nx_top h, hts_len]
  refine Prod.ext ?_ rfl
  show (T[T.length]?).map Tw.b = none
  rw [List.getElem?_eq_none (Nat.le_refl _)]; rfl
/-- the head's links have grown. -/
theorem Sk.grow {W W' : World} {g : Nat} {S : SkS} {C : Nat → Nat} {n : Nat} {pv : Nat → Option Nat} (h : Sk W g S C n (lnk S.hb S.T) pv) (htop : ∀ x ∈ hts S.T, x ≤ S.H) {v : Value} (hown : W'.ownsRow 0 112 2 v (S.H + 1) (flat2 (lnk S.hb S.T 0) S.H ++ [.pointer none, .int .i64 ((S.T.length + 1 : Nat) : Int)])) (hg : W.grownBy W' S.hv.ownBlock) (hl : v.ownBlock = S.hv.ownBlock ∨ ∃ q, W.heap.size ≤ q ∧ v.ownBlock = some q) : Sk (W'.setCell ⟨S.hb, 3, none⟩ v) g (S.setH v (S.H + 1)) C n (lnk S.hb S.T) pv ∧ Moved W (W'.setCell ⟨S.hb, 3, none⟩ v) (sblk g S) (sblk g (S.setH v (S.H + 1))) := by
  have hot : ∀ q L t, Blk W q L t → t ≠ 112 → W'.heap[q]? = W.heap[q]? := fun q L t hb ht => hg.block q hb.lt (fun e => h.hrow.ne e.symm hb ht rfl)
  have hhd : Blk W' S.hb (headL S.hv) 63 := h.head.to (hot _ _ _ h.head (by decide))
  have ho := only_set W' S.hb 3 v
  have hrw : Rw W' v (S.H + 1) (lnk S.hb S.T 0) := by
    unfold Rw
    rw [flat2_succ, lnk_top htop]; exact hown
  have hrows : ∀ i (hi : i < S.T.length), W'.heap[S.T[i].k]? = W.heap[S.T[i].k]? := fun i hi => by
    obtain ⟨cur, hc⟩ := (h.row i hi).blk rfl
    refine hg.block _ (row_lt hc) (fun e => ?_)
    exact (List.nodup_append.1 h.ndK).2.2 S.T[i].k (by rw [← e]; simp) S.T[i].k (List.mem_map.2 ⟨_, List.getElem_mem hi, rfl⟩) rfl
  have hk2 : ∀ i (hi : i < S.T.length), S.T[i].k ≠ S.hb := fun i hi e => (h.row i hi).ne rfl h.head (by decide) e.symm
  refine ⟨⟨?_, hhd.set 3 v, ?_, fun i hi => ?_, fun i hi => ?_, h.ndB, ?_⟩, ⟨hg.os, hg.tape, hg.output, by rw [ho.size]; exact hg.size, fun q hq hn => ?_, fun q hq => ?_⟩⟩
  · exact (h.brd.to (hot _ _ _ h.brd (by decide))).to (ho.other _ (h.brd.ne h.head (by decide)))
  · exact hrw.to (fun K hK => ho.other _ (fun e => hrw.ne hK hhd (by decide) e.symm))
  · exact ((h.tow i hi).to (hot _ _ _ (h.tow i hi) (by decide))).to (ho.other _ (h.neH hi))
  · exact ((h.row i hi).to (fun K hK => by cases hK; exact hrows i hi)).to (fun K hK => by cases hK; exact ho.other _ (hk2 i hi))
  · show (v.ownBlock.toList ++ S.T.map Tw.k).Nodup
    rcases hl with e | ⟨q, hq, e⟩
    · rw [e]; exact h.ndK
    · rw [e]
      obtain ⟨n1, n2, n3⟩ := List.nodup_append.1 h.ndK
      refine List.nodup_cons.2 ⟨fun hm => ?_, n2⟩
      obtain ⟨t, ht, e2⟩ := List.mem_map.1 hm
      obtain ⟨i, hi, rfl⟩ := List.mem_iff_getElem.1 ht
      obtain ⟨cur, hc⟩ := (h.row i hi).blk rfl
      have h5 : S.T[i].k < W.heap.size := row_lt hc
      omega
  · unfold sblk at hn
    simp only [List.mem_cons, List.mem_append, not_or] at hn
    exact (ho.other q hn.2.1).trans (hg.block q hq (fun e => hn.2.2.1 (by rw [← e]; simp)))
  · unfold sblk at hq ⊢
    simp only [List.mem_cons, List.mem_append] at hq ⊢
    rcases hq with hq | hq | hq | hq
    · exact Or.inl (Or.inl hq)
    · exact Or.inl (Or.inr (Or.inl hq))
    · rcases hl with e | ⟨q', hq', e⟩
      · rw [e] at hq; exact Or.inl (Or.inr (Or.inr (Or.inl hq)))
      · rw [e] at hq
        simp at hq
        exact Or.inr (by omega)
    · exact Or.inl (Or.inr (Or.inr (Or.inr hq)))
end Go.Proofs.YtgbplghokciimaaDoor.I
