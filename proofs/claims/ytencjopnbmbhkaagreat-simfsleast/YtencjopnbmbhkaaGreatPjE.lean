import Derived.Test.YtencjopnbmbhkaaGreatPjD
import Derived.Shelf.Spec.SlicesInsert
import Derived.Lib.AppendZerosOnto
import Derived.ArgAppend
namespace Go.Proofs.YtencjopnbmbhkaaGreat
open Go.RowKit Go.Maps
set_option linter.unusedVariables false
set_option linter.unusedSimpArgs false
theorem spl_get (cur : Array Value) (o : Nat) (vs : List Value) (j : Nat) (h : o + vs.length ≤ cur.size) : (spl cur o vs)[j]? = if j < o then cur[j]? else if j < o + vs.length then vs[j - o]? else cur[j]? := by
  unfold spl
  have hl : (cur.toList.take o).length = o := by simp; omega
  rw [List.getElem?_toArray, List.getElem?_append, hl]
  by_cases h1 : j < o
  · rw [if_pos h1, if_pos h1, List.getElem?_take_of_lt h1, Array.getElem?_toList]
  · rw [if_neg h1, if_neg h1, List.getElem?_append]
    by_cases h2 : j < o + vs.length
    · rw [if_pos (by omega), if_pos h2]
    · rw [if_neg (by omega), if_neg h2, List.getElem?_drop, Array.getElem?_toList]
      congr 1; omega
theorem flq_len (l : List Pq) : (plnE.fl l).length = l.length * 3 := ET.fl_len plnOk l
theorem flq_one (l : List Pq) : ∀ u ∈ plnE.fl l, u.oneCell' = true := ET.fl_one plnOk l
theorem flq_app (a b : List Pq) : plnE.fl (a ++ b) = plnE.fl a ++ plnE.fl b := ET.fl_app a b
theorem flq_take (l : List Pq) (i : Nat) (h : i ≤ l.length) : plnE.fl (l.take i) = (plnE.fl l).take (i * 3) := by
  conv => rhs; rw [← List.take_append_drop i l, flq_app]
  rw [List.take_left' (by rw [flq_len, List.length_take]; omega)]
theorem flq_drop (l : List Pq) (i : Nat) (h : i ≤ l.length) : plnE.fl (l.drop i) = (plnE.fl l).drop (i * 3) := by
  conv => rhs; rw [← List.take_append_drop i l, flq_app]
  rw [List.drop_left' (by rw [flq_len, List.length_take]; omega)]
/-- planned ones in a block, at a place. -/
structure PX (W : World) (E o c : Nat) (l : List Pq) : Prop where
  row : ∃ cur, W.heap[E]? = some (.cells cur 81) ∧ (o + c) * 3 ≤ cur.size ∧ ∀ j u, (plnE.fl l)[j]? = some u → cur[o * 3 + j]? = some u
  le : l.length ≤ c
  max : o + c ≤ 9223372036854775807
theorem PX.prow {W : World} {E o c : Nat} {l : List Pq} (h : PX W E o c l) : PRow W (.slice (some ⟨E, o * 3, none⟩) l.length c) l := by
  obtain ⟨cur, h1, h2, h3⟩ := h.row
  exact Or.inr ⟨E, o, c, cur, rfl, h1, h2, h.le, h.max, h3⟩
theorem PRow.px {W : World} {v : Value} {l : List Pq} (h : PRow W v l) : (v = .slice none 0 0 ∧ l = []) ∨ ∃ E o c, v = .slice (some ⟨E, o * 3, none⟩) l.length c ∧ PX W E o c l := by
  rcases h with h | ⟨E, o, c, cur, rfl, h1, h2, h3, h4, h5⟩
  · exact Or.inl h
  · exact Or.inr ⟨E, o, c, rfl, ⟨cur, h1, h2, h5⟩, h3, h4⟩
theorem own_prow {W : World} {b0 n : Nat} {v : Value} {l : List Pq} (h : W.ownsRow b0 81 3 v n (plnE.fl l)) (hn : n = l.length) : PRow W v l := by
  subst hn
  obtain ⟨_, ⟨h1, h2⟩ | ⟨g, cap, cur, h1, hb, hg, q1, q2, q3, q4⟩⟩ := h
  · exact Or.inl ⟨h1, List.length_eq_zero_iff.1 h2⟩
  · refine Or.inr ⟨g, 0, cap, cur, h1, hg, by omega, q1, by unfold maxLen at q2; omega, fun j u hj => ?_⟩
    have hl := (List.getElem?_eq_some_iff.1 hj).1
    rw [flq_len] at hl
    rw [Nat.zero_mul, Nat.zero_add, ← Array.getElem?_toList, ← List.getElem?_take_of_lt hl, q4, hj]
theorem PX.lt {W : World} {E o c : Nat} {l : List Pq} (h : PX W E o c l) : E < W.heap.size := by obtain ⟨cur, h1, _⟩ := h.row; exact row_lt h1
theorem PX.same {W W' : World} {E o c : Nat} {l : List Pq} (h : PX W E o c l) (hb : W'.heap[E]? = W.heap[E]?) : PX W' E o c l := by
  obtain ⟨cur, h1, h2⟩ := h.row
  exact ⟨⟨cur, hb.trans h1, h2⟩, h.le, h.max⟩
theorem PX.on {W W' : World} {E o c : Nat} {l : List Pq} (h : PX W E o c l) (hb : Below W.heap.size W W') : PX W' E o c l := h.same (hb.block E h.lt)
theorem PX.dropAt {w : World} {E o c : Nat} {l : List Pq} (h : PX w E o c l) (j : Nat) (hj : j ≤ l.length) : ∀ t v, (plnE.fl (l.drop j))[t]? = some v → w.cell? ((⟨E, o * 3 + j * 3, none⟩ : Addr).add t) = some v := fun t v ht => by
  obtain ⟨cur, h1, h2, h3⟩ := h.row
  rw [flq_drop l j hj, List.getElem?_drop] at ht
  rw [Addr.add_lit, cell_of_row _ _ _ _ _ _ h1, Nat.add_assoc]
  exact h3 _ _ ht
theorem PX.takeAt {w : World} {E o c : Nat} {l : List Pq} (h : PX w E o c l) (i : Nat) (hi : i ≤ l.length) : ∀ t v, (plnE.fl (l.take i))[t]? = some v → w.cell? ((⟨E, o * 3, none⟩ : Addr).add t) = some v := fun t v ht => by
  obtain ⟨cur, h1, h2, h3⟩ := h.row
  have hl := (List.getElem?_eq_some_iff.1 ht).1
  rw [flq_len, List.length_take] at hl
  rw [flq_take l i hi, List.getElem?_take_of_lt (by omega)] at ht
  rw [Addr.add_lit, cell_of_row _ _ _ _ _ _ h1]
  exact h3 _ _ ht
/-- one is put in at a place: what lies behind it is moved first. -/
theorem PX.ins {W : World} {E o c : Nat} {l : List Pq} {p : Pq} {cur : Array Value} {i : Nat} (hi : i ≤ l.length) (hr : l.length + 1 ≤ c) (hm : o + c ≤ 9223372036854775807) (hs : (o + c) * 3 ≤ cur.size) (h3 : ∀ j u, (plnE.fl l)[j]? = some u → cur[o * 3 + j]? = some u)
    (hW : W.heap[E]? = some (.cells (spl (spl cur (o * 3 + (i + 1) * 3) (plnE.fl (l.drop i))) (o * 3 + i * 3) (plnE.enc p)) 81)) : PX W E o c (l.take i ++ p :: l.drop i) := by
  have hd : (plnE.fl (l.drop i)).length = (l.length - i) * 3 := by rw [flq_len, List.length_drop]
  have hp : (plnE.enc p).length = 3 := rfl
  have hz1 : (o * 3 + (i + 1) * 3) + (plnE.fl (l.drop i)).length ≤ cur.size := by rw [hd]; omega
  have hs1 := spl_size cur _ _ hz1
  have hz2 : (o * 3 + i * 3) + (plnE.enc p).length ≤ (spl cur (o * 3 + (i + 1) * 3) (plnE.fl (l.drop i))).size := by rw [hs1, hp]; omega
  refine ⟨⟨_, hW, by rw [spl_size _ _ _ hz2, hs1]; exact hs, fun j u hj => ?_⟩, by simp; omega, hm⟩
  have hf : plnE.fl (l.take i ++ p :: l.drop i) = plnE.fl (l.take i) ++ (plnE.enc p ++ plnE.fl (l.drop i)) := by rw [flq_app, fl_cons]; rfl
  have ht : (plnE.fl (l.take i)).length = i * 3 := by rw [flq_len, List.length_take]; omega
  rw [hf, List.getElem?_append, ht] at hj
  rw [spl_get _ _ _ _ hz2, spl_get _ _ _ _ hz1, hp, hd]
  by_cases h1 : j < i * 3
  · rw [if_pos h1, flq_take l i hi, List.getElem?_take_of_lt h1] at hj
    rw [if_pos (by omega), if_pos (by omega)]
    exact h3 j u hj
  · rw [if_neg h1, List.getElem?_append, hp] at hj
    by_cases h2 : j - i * 3 < 3
    · rw [if_pos h2] at hj
      rw [if_neg (by omega), if_pos (by omega), ← hj]
      congr 1; omega
    · rw [if_neg h2] at hj
      have hl := (List.getElem?_eq_some_iff.1 hj).1
      rw [hd] at hl
      rw [if_neg (by omega), if_neg (by omega), if_neg (by omega), if_pos (by omega), ← hj]
      congr 1; omega
/-- .. and into a new row, whose first ones are there. -/
theorem PX.fill {W : World} {E c : Nat} {l : List Pq} {p : Pq} {cur : Array Value} {i : Nat} (hi : i ≤ l.length) (hr : l.length + 1 ≤ c) (hm : c ≤ 9223372036854775807) (hs : c * 3 ≤ cur.size) (h3 : ∀ (j : Nat) (u : Value), (plnE.fl (l.take i))[j]? = some u → cur[j]? = some u)
    (hW : W.heap[E]? = some (.cells (spl (spl cur (i * 3) (plnE.enc p)) ((i + 1) * 3) (plnE.fl (l.drop i))) 81)) : PX W E 0 c (l.take i ++ p :: l.drop i) := by
  have hd : (plnE.fl (l.drop i)).length = (l.length - i) * 3 := by rw [flq_len, List.length_drop]
  have hp : (plnE.enc p).length = 3 := rfl
  have hz1 : (i * 3) + (plnE.enc p).length ≤ cur.size := by rw [hp]; omega
  have hs1 := spl_size cur _ _ hz1
  have hz2 : ((i + 1) * 3) + (plnE.fl (l.drop i)).length ≤ (spl cur (i * 3) (plnE.enc p)).size := by rw [hs1, hd]; omega
  refine ⟨⟨_, hW, by rw [spl_size _ _ _ hz2, hs1]; omega, fun j u hj => ?_⟩, by simp; omega, by omega⟩
  have hf : plnE.fl (l.take i ++ p :: l.drop i) = plnE.fl (l.take i) ++ (plnE.enc p ++ plnE.fl (l.drop i)) := by rw [flq_app, fl_cons]; rfl
  have ht : (plnE.fl (l.take i)).length = i * 3 := by rw [flq_len, List.length_take]; omega
  rw [hf, List.getElem?_append, ht] at hj
  rw [spl_get _ _ _ _ hz2, spl_get _ _ _ _ hz1, hp, hd]
  by_cases h1 : j < i * 3
  · rw [if_pos h1] at hj
    rw [if_pos (by omega), if_pos (by omega), Nat.zero_mul, Nat.zero_add]
    exact h3 j u hj
  · rw [if_neg h1, List.getElem?_append, hp] at hj
    by_cases h2 : j - i * 3 < 3
    · rw [if_pos h2] at hj
      rw [if_pos (by omega), if_neg (by omega), if_pos (by omega), ← hj]
      congr 1; omega
    · rw [if_neg h2] at hj
      have hl := (List.getElem?_eq_some_iff.1 hj).1
      rw [hd] at hl
      rw [if_neg (by omega), if_pos (by omega), ← hj]
      congr 1; omega
theorem infoP : (Tryz.prog.info? 81).map (fun i => (i.zero, i.size, i.bytes)) = some (some (.agg #[.int .i64 0, .bool false, .nilFunc]), 3, 24) := by kernel_rfl
theorem run_copyP (w : World) (ty : TypeId) (b o dLen dCap : Nat) (a : Addr) (sLen sCap : Nat) (cs : List Value) (hn : cs.length = Nat.min sLen dLen * 3)
    (hsrc : ∀ j v, cs[j]? = some v → w.cell? (a.add j) = some v) (hc : ∀ j, j < cs.length → (w.cell? ⟨b, o + j, none⟩).isSome = true) (hf : ∀ j, j < cs.length → w.frozen? ⟨b, o + j, none⟩ = false) (h1 : ∀ v ∈ cs, v.oneCell' = true) :
    (Builtin.copy_ #[58, 58] ty #[.slice (some ⟨b, o, none⟩) dLen dCap, .slice (some a) sLen sCap]).run Tryz.prog w = .ok (goInt (Nat.min sLen dLen)) (w.setCells b o cs) := by
  obtain ⟨i0, hi, hz0, hz1, hz2⟩ := info_parts infoP
  have hl := run_loadCells_list (P := Tryz.prog) w a cs hsrc
  have hst := run_storeCells_cells (P := Tryz.prog) b o cs 0 w (by simpa using hc) (by simpa using hf) h1
  simp [Builtin.copy_, run_underlying Tryz.underlying58, Builtin.lenOf, Builtin.firstCells, sizeOf, typeInfo, hi, hz1, ← hn, hl, hst]
theorem sizeQ (w : World) : (Go.sizeOf 81).run Tryz.prog w = .ok 3 w := by
  obtain ⟨i0, hi, hz0, hz1, hz2⟩ := info_parts infoP
  simp [sizeOf, typeInfo, hi, hz1, go_sem]
theorem shape_row {w : World} {g T : Nat} {cur : Array Value} (h : w.heap[g]? = some (.cells cur T)) : w.shape? g = some (T, cur.size) := by
  unfold World.shape?; rw [h]
theorem overlapsP (w : World) (X E la ca lb cb : Nat) (p o : Nat) (hne : X ≠ E) (cx ce : Array Value) (hX : w.heap[X]? = some (.cells cx 81)) (hE : w.heap[E]? = some (.cells ce 81)) (hce : ce.size ≠ 0) :
    (callFunc 104 #[.slice (some ⟨X, p, none⟩) la ca, .slice (some ⟨E, o, none⟩) lb cb]).run Tryz.prog w = .ok (.value (.bool false)) w := by
  rw [run_callFunc_extern Tryz.func104 (by kernel_rfl) (by kernel_rfl) (by kernel_rfl) (e := Extern.SlicesOverlaps.overlaps #[58, 58] #[4]) (by kernel_rfl),
    Lib.run_overlaps_apart w 58 4 81 Tryz.underlying58 3 sizeQ ⟨X, p, none⟩ ⟨E, o, none⟩ la ca lb cb hne 81 81 cx.size ce.size (shape_row hX) (shape_row hE) hce (frozen_of_row _ _ _ _ _ hX) (frozen_of_row _ _ _ _ _ hX)]
  rfl
/-- what becomes of the planned ones. -/
def InsP (w : World) (qv : Value) (l' : List Pq) (e : Ending) (w' : World) : Prop := ∃ v', e = .returned v' ∧ PRow w' v' l' ∧ ModP (fun k => qv.ownBlock = some k) w w' ∧ ∀ k, v'.ownBlock = some k → qv.ownBlock = some k ∨ w.heap.size ≤ k
theorem ModP.grownV {w w' : World} {v : Value} (h : w.grownBy w' v.ownBlock) : ModP (fun k => v.ownBlock = some k) w w' := ⟨h.os, h.tape, h.output, h.size, fun k hk hn => h.block k hk (fun e => hn e.symm)⟩
end Go.Proofs.YtencjopnbmbhkaaGreat
