import Derived.Test.YtdemodhjlbkbeabRA
import Derived.Laws.AppendOwn
import Derived.Deep.Cut
import Derived.Shelf.Spec.SlicesInsert
import Derived.ArgAppend
import Derived.Lib.AppendZerosOnto
namespace Go.Proofs.Ytdemodhjlbkbeab
open Go.RowKit
set_option linter.unusedVariables false
theorem infoE : (Try.prog.info? 70).map (fun i => (i.zero, i.size, i.bytes)) = some (some (.agg #[.string ⟨#[]⟩, .int .i64 0]), 2, 24) := by kernel_rfl
theorem info_parts {P : Program} {t : TypeId} {z : Value} {s b : Nat} (h : (P.info? t).map (fun i => (i.zero, i.size, i.bytes)) = some (some z, s, b)) : ∃ i, P.info? t = some i ∧ i.zero = some z ∧ i.size = s ∧ i.bytes = b := by
  obtain ⟨i, hi, hz⟩ := Option.map_eq_some_iff.1 h
  simp only [Prod.mk.injEq] at hz
  exact ⟨i, hi, hz.1, hz.2.1, hz.2.2⟩
theorem row2 {w : World} {g T : Nat} {v0 v1 : Value} (h : w.heap[g]? = some (.cells #[v0, v1] T)) :
    w.cell? ⟨g, 0, none⟩ = some v0 ∧ w.cell? ⟨g, 1, none⟩ = some v1 ∧ ∀ j, w.frozen? ⟨g, j, none⟩ = false := by
  refine ⟨?_, ?_, fun j => frozen_of_row _ _ _ _ _ h⟩ <;> rw [cell_of_row _ _ _ _ _ _ h] <;> rfl
/-- a bucket of one key. -/
def One (W : World) (E c : Nat) (v : Int) : Prop := ∃ cur, W.heap[E]? = some (.cells cur 70) ∧ cur.size = c * 2 ∧ 1 ≤ c ∧ cur.toList.take 2 = [.string ⟨#[97]⟩, .int .i64 v]
theorem One.cells {W : World} {E c : Nat} {v : Int} (h : One W E c v) : W.cell? ⟨E, 0, none⟩ = some (.string ⟨#[97]⟩) ∧ W.cell? ⟨E, 1, none⟩ = some (.int .i64 v) ∧ ∀ j, W.frozen? ⟨E, j, none⟩ = false := by
  obtain ⟨cur, h1, h2, h3, h4⟩ := h
  have g0 : cur[0]? = some (.string ⟨#[97]⟩) := by
    have := congrArg (fun l => l[0]?) h4
    simpa [List.getElem?_take] using this
  have g1 : cur[1]? = some (.int .i64 v) := by
    have := congrArg (fun l => l[1]?) h4
    simpa [List.getElem?_take] using this
  refine ⟨?_, ?_, fun j => frozen_of_row _ _ _ _ _ h1⟩ <;> rw [cell_of_row _ _ _ _ _ _ h1] <;> assumption
theorem One.lt {W : World} {E c : Nat} {v : Int} (h : One W E c v) : E < W.heap.size := by obtain ⟨cur, h1, _⟩ := h; exact row_lt h1
theorem One.on {W W' : World} {E c : Nat} {v : Int} (h : One W E c v) (hb : Below W.heap.size W W') : One W' E c v := by
  obtain ⟨cur, h1, h2⟩ := h; exact ⟨cur, keep_row h1 hb, h2⟩
theorem One.same {W W' : World} {E c : Nat} {v : Int} (h : One W E c v) (hb : W'.heap[E]? = W.heap[E]?) : One W' E c v := by
  obtain ⟨cur, h1, h2⟩ := h; exact ⟨cur, hb.trans h1, h2⟩
theorem One.of {W : World} {base : Nat} {r : Value} {v : Int} (h : W.ownsRow base 70 2 r 1 [.string ⟨#[97]⟩, .int .i64 v]) : ∃ E c, r = .slice (some ⟨E, 0, none⟩) 1 c ∧ base ≤ E ∧ One W E c v := by
  obtain ⟨_, ⟨_, h2⟩ | ⟨g, cap, cur, h1, hb, hg, q1, q2, q3, q4⟩⟩ := h
  · omega
  · exact ⟨g, cap, h1, hb, cur, hg, q3, q1, q4⟩
set_option maxHeartbeats 1000000 in
set_option maxRecDepth 100000 in
theorem ins_nil (X : Nat) (v : Int) (w : World) (hX : w.heap[X]? = some (.cells #[.string ⟨#[97]⟩, .int .i64 v] 70)) : Calls Try.prog 55 #[.slice none 0 0, .int .i64 0, .slice (some ⟨X, 0, none⟩) 1 1] w fun e w' => (∃ E c, e = .returned (.slice (some ⟨E, 0, none⟩) 1 c) ∧ w.heap.size ≤ E ∧ One w' E c v) ∧ Below w.heap.size w w' := by
  obtain ⟨i0, hi, hz0, hz1, hz2⟩ := info_parts infoE
  obtain ⟨x0, x1, xf⟩ := row2 hX
  have HO : Hid (w.ownsRow w.heap.size 70 2 (.slice none 0 0) 0 []) := ⟨rfl, Or.inl ⟨rfl, rfl⟩⟩
  have HN : Hid (∀ j u, [Value.string ⟨#[97]⟩, .int .i64 v][j]? = some u → w.cell? ((⟨X, 0, none⟩ : Addr).add j) = some u) := by
    intro j u hj
    match j, hj with
    | 0, hj => simp at hj; subst hj; simpa [Addr.add] using x0
    | 1, hj => simp at hj; subst hj; simpa [Addr.add] using x1
  clear hX
  go_enter Try.func55, Try.ntmps55
  go_upto_region 7 with fail
  go_wp2_with (at_builtin; go_must (refine wpList_append_own _ rfl _ _ 83 rfl w.heap.size 70 i0 (.agg #[.string ⟨#[]⟩, .int .i64 0]) 2 24 Try.underlying83 hi hz0 hz1 hz2 rfl (by decide) _ _ _ rfl HO.out ⟨X, 0, none⟩ 1 1 [.string ⟨#[97]⟩, .int .i64 v] rfl rfl HN.out ?t1 ?t2 ?t3 (Nat.le_refl _) ?_))
  case t1 => intro u hu; simp at hu; rcases hu with rfl | rfl <;> rfl
  case t2 => unfold maxLen; omega
  case t3 => omega
  intro v' w1 hown' hgrow hiff
  have HB : Hid (Below w.heap.size w w1) := (Below.refl _ w).grown hgrow (Nat.le_refl _) (fun k hk => by cases hk)
  obtain ⟨E, c, rfl, hE, hOne⟩ := One.of hown'
  have HE : Hid _ := hE
  have HONE : Hid _ := hOne
  clear hown' hgrow hiff hE hOne
  go_wp2
  go_returns
  exact ⟨⟨E, c, rfl, HE.out, HONE.out⟩, HB.out⟩
end Go.Proofs.Ytdemodhjlbkbeab
namespace Go.Proofs.Ytdemodhjlbkbeab
open Go.RowKit
set_option linter.unusedVariables false
set_option linter.unusedSimpArgs false
theorem run_copy2 (w : World) (ty : TypeId) (b o dLen dCap : Nat) (a : Addr) (sLen sCap : Nat) (cs : List Value) (hn : cs.length = Nat.min sLen dLen * 2)
    (hsrc : ∀ j v, cs[j]? = some v → w.cell? (a.add j) = some v) (hc : ∀ j, j < cs.length → (w.cell? ⟨b, o + j, none⟩).isSome = true) (hf : ∀ j, j < cs.length → w.frozen? ⟨b, o + j, none⟩ = false) (h1 : ∀ v ∈ cs, v.oneCell' = true) :
    (Builtin.copy_ #[83, 83] ty #[.slice (some ⟨b, o, none⟩) dLen dCap, .slice (some a) sLen sCap]).run Try.prog w = .ok (goInt (Nat.min sLen dLen)) (w.setCells b o cs) := by
  obtain ⟨i0, hi, hz0, hz1, hz2⟩ := info_parts infoE
  have hl := run_loadCells_list (P := Try.prog) w a cs hsrc
  have hst := run_storeCells_cells (P := Try.prog) b o cs 0 w (by simpa using hc) (by simpa using hf) h1
  simp [Builtin.copy_, run_underlying Try.underlying83, Builtin.lenOf, Builtin.firstCells, sizeOf, typeInfo, hi, hz1, ← hn, hl, hst]
theorem sizeE (w : World) : (Go.sizeOf 70).run Try.prog w = .ok 2 w := by
  obtain ⟨i0, hi, hz0, hz1, hz2⟩ := info_parts infoE
  simp [sizeOf, typeInfo, hi, hz1, go_sem]
theorem shape_row {w : World} {g T : Nat} {cur : Array Value} (h : w.heap[g]? = some (.cells cur T)) : w.shape? g = some (T, cur.size) := by
  simp [World.shape?, h]
theorem overlaps_no (w : World) (X E m vc lb cb : Nat) (o : Nat) (hne : X ≠ E) (cx ce : Array Value) (hX : w.heap[X]? = some (.cells cx 70)) (hE : w.heap[E]? = some (.cells ce 70)) (hce : ce.size ≠ 0) :
    (callFunc 68 #[.slice (some ⟨X, 0, none⟩) m vc, .slice (some ⟨E, o, none⟩) lb cb]).run Try.prog w = .ok (.value (.bool false)) w := by
  rw [run_callFunc_extern Try.func68 (by kernel_rfl) (by kernel_rfl) (by kernel_rfl) (e := Extern.SlicesOverlaps.overlaps #[83, 83] #[4]) (by kernel_rfl),
    Lib.run_overlaps_apart w 83 4 70 Try.underlying83 2 sizeE ⟨X, 0, none⟩ ⟨E, o, none⟩ m vc lb cb hne 70 70 cx.size ce.size (shape_row hX) (shape_row hE) hce (frozen_of_row _ _ _ _ _ hX) (frozen_of_row _ _ _ _ _ hX)]
  rfl
end Go.Proofs.Ytdemodhjlbkbeab
namespace Go.Proofs.Ytdemodhjlbkbeab
open Go.RowKit
set_option linter.unusedVariables false
/-- a bucket in a block of its own. -/
structure Bx (W : World) (E c : Nat) (es : List Ent) : Prop where
  row : ∃ cur, W.heap[E]? = some (.cells cur 70) ∧ cur.size = c * 2
  le : es.length ≤ c
  max : c ≤ maxLen
  ents : Ents W E es
/-- a bucket's value; its block is at or above b0. -/
def BV (W : World) (b0 : Nat) (bv : Value) (es : List Ent) : Prop := (bv = .slice none 0 0 ∧ es = []) ∨ ∃ E c, bv = .slice (some ⟨E, 0, none⟩) es.length c ∧ (b0 ≤ E ∧ es ≠ []) ∧ Bx W E c es
theorem Bx.lt {W : World} {E c : Nat} {es : List Ent} (h : Bx W E c es) : E < W.heap.size := by obtain ⟨cur, h1, _⟩ := h.row; exact row_lt h1
theorem Bx.same {W W' : World} {E c : Nat} {es : List Ent} (h : Bx W E c es) (hb : W'.heap[E]? = W.heap[E]?) : Bx W' E c es := by
  obtain ⟨cur, h1, h2⟩ := h.row
  refine ⟨⟨cur, hb.trans h1, h2⟩, h.le, h.max, fun t ht => ?_⟩
  have := h.ents t ht
  rw [cell_of_row _ _ _ _ _ _ h1, cell_of_row _ _ _ _ _ _ h1] at this
  rw [cell_of_row _ _ _ _ _ _ (hb.trans h1), cell_of_row _ _ _ _ _ _ (hb.trans h1)]
  exact this
theorem Bx.on {W W' : World} {E c : Nat} {es : List Ent} (h : Bx W E c es) (hb : Below W.heap.size W W') : Bx W' E c es := h.same (hb.block E h.lt)
theorem BV.bkt {W : World} {b0 : Nat} {bv : Value} {es : List Ent} (h : BV W b0 bv es) : Bkt W bv es := by
  rcases h with h | ⟨E, c, h1, h2, h3⟩
  · exact Or.inl h
  · exact Or.inr ⟨E, c, h1, h3.le, h3.ents⟩
theorem flat_take (cur : List Value) (es : List Ent) (h : ∀ t (ht : t < es.length), cur[t * 2]? = some (.string es[t].1) ∧ cur[t * 2 + 1]? = some (.int .i64 es[t].2)) : cur.take (es.length * 2) = flat es := by
  refine List.ext_getElem? (fun j => ?_)
  by_cases hj : j < es.length * 2
  · rw [List.getElem?_take_of_lt hj]
    obtain ⟨t, rfl | rfl⟩ : ∃ t, j = t * 2 ∨ j = t * 2 + 1 := ⟨j / 2, by omega⟩
    · rw [(h t (by omega)).1, (flat_get es t (by omega)).1]
    · rw [(h t (by omega)).2, (flat_get es t (by omega)).2]
  · rw [List.getElem?_eq_none (by rw [List.length_take]; omega), List.getElem?_eq_none (by rw [flat_len]; omega)]
theorem Bx.own {W : World} {E c b0 : Nat} {es : List Ent} (h : Bx W E c es) (hb : b0 ≤ E) : W.ownsRow b0 70 2 (.slice (some ⟨E, 0, none⟩) es.length c) es.length (flat es) := by
  obtain ⟨cur, h1, h2⟩ := h.row
  refine ⟨flat_len es, Or.inr ⟨E, c, cur, rfl, hb, h1, h.le, h.max, h2, flat_take _ _ (fun t ht => ?_)⟩⟩
  have := h.ents t ht
  rw [cell_of_row _ _ _ _ _ _ h1, cell_of_row _ _ _ _ _ _ h1] at this
  simpa using this
theorem Bx.of {W : World} {b0 n : Nat} {bv : Value} {es : List Ent} (h : W.ownsRow b0 70 2 bv n (flat es)) (hn : n = es.length) (hne : es ≠ []) : ∃ E c, bv = .slice (some ⟨E, 0, none⟩) es.length c ∧ b0 ≤ E ∧ Bx W E c es := by
  subst hn
  obtain ⟨_, ⟨_, h2⟩ | ⟨g, cap, cur, h1, hb, hg, q1, q2, q3, q4⟩⟩ := h
  · exact absurd (List.length_eq_zero_iff.1 h2) hne
  · refine ⟨g, cap, h1, hb, ⟨cur, hg, q3⟩, q1, q2, fun t ht => ?_⟩
    have hf := flat_get es t ht
    rw [← q4, List.getElem?_take_of_lt (by omega), List.getElem?_take_of_lt (by omega)] at hf
    rw [cell_of_row _ _ _ _ _ _ hg, cell_of_row _ _ _ _ _ _ hg]
    simpa using hf
/-- what becomes of a bucket: its block is the one it had, or a new one; all others are as they were. -/
structure Became (w w' : World) (b0 : Nat) (bv bv' : Value) (es' : List Ent) : Prop where
  now : BV w' b0 bv' es'
  grown : w.grownBy w' bv.ownBlock
  blk : ∀ E, bv'.ownBlock = some E → bv.ownBlock = some E ∨ w.heap.size ≤ E
theorem flat_one (e : Ent) : flat [e] = [.string e.1, .int .i64 e.2] := rfl
theorem one_cells (X : Nat) (e : Ent) {w : World} (hX : w.heap[X]? = some (.cells #[.string e.1, .int .i64 e.2] 70)) : ∀ j u, [Value.string e.1, .int .i64 e.2][j]? = some u → w.cell? ((⟨X, 0, none⟩ : Addr).add j) = some u := by
  obtain ⟨x0, x1, xf⟩ := row2 hX
  intro j u hj
  match j, hj with
  | 0, hj => simp at hj; subst hj; simpa [Addr.add] using x0
  | 1, hj => simp at hj; subst hj; simpa [Addr.add] using x1
set_option maxHeartbeats 1000000 in
set_option maxRecDepth 100000 in
theorem ins_end (b0 X : Nat) (e : Ent) (bv : Value) (es : List Ent) (hl : es.length ≤ 4398046511104) (w : World) (hb0 : b0 ≤ w.heap.size) (hB : BV w b0 bv es) (hX : w.heap[X]? = some (.cells #[.string e.1, .int .i64 e.2] 70)) : Calls Try.prog 55 #[bv, .int .i64 (es.length : Int), .slice (some ⟨X, 0, none⟩) 1 1] w fun r w' => ∃ bv', r = .returned bv' ∧ Became w w' b0 bv bv' (es ++ [e]) := by
  obtain ⟨i0, hi, hz0, hz1, hz2⟩ := info_parts infoE
  have HN : Hid _ := one_cells X e hX
  have HFL : Hid (flat (es ++ [e]) = flat es ++ [.string e.1, .int .i64 e.2]) := flat_app es [e]
  have HNE : Hid (es ++ [e] ≠ []) := by show es ++ [e] ≠ []; simp
  have HLN : Hid ((es ++ [e]).length = es.length + 1) := by show _ = _; simp
  rcases hB with ⟨rfl, rfl⟩ | ⟨E, c, rfl, ⟨hbE, _⟩, hBx⟩
  · clear hX
    go_enter Try.func55, Try.ntmps55
    go_upto_region 7 with fail
    go_wp2_with (at_builtin; go_must (refine wpList_append_grows _ rfl _ _ 83 rfl 70 i0 (.agg #[.string ⟨#[]⟩, .int .i64 0]) 2 24 Try.underlying83 hi hz0 hz1 hz2 rfl (by decide) none 0 0 [] rfl (fun _ => ⟨rfl, rfl⟩) rfl (fun b h => by cases h) ⟨X, 0, none⟩ 1 1 [.string e.1, .int .i64 e.2] rfl rfl HN.out ?t1 (by omega) ?t2 ?t3 ?_))
    case t1 => intro u hu; simp at hu; rcases hu with rfl | rfl <;> rfl
    case t2 => unfold maxLen; omega
    case t3 => omega
    intro v' w1 hown hgr
    obtain ⟨E', c', rfl, hE', hBx'⟩ := Bx.of (es := [e]) hown rfl (by simp)
    have HB1 : Hid (Became w w1 b0 (.slice none 0 0) (.slice (some ⟨E', 0, none⟩) 1 c') [e]) := ⟨Or.inr ⟨E', c', rfl, ⟨by omega, by simp⟩, hBx'⟩, hgr, fun E h => by right; simp [Value.ownBlock] at h; omega⟩
    clear hown hgr hE' hBx'
    go_wp2
    go_returns
    exact ⟨_, rfl, HB1.out⟩
  · have HBX : Hid (Bx w E c es) := hBx
    have HOW : Hid _ := hBx.own hbE
    have hle := hBx.le
    by_cases hroom : es.length + 1 ≤ c
    · clear hX hBx
      go_enter Try.func55, Try.ntmps55
      go_upto_region 7 with fail
      all_goals
       go_wp2_with (at_builtin; go_must (refine wpList_append_fits w rfl _ _ 83 rfl b0 70 i0 2 Try.underlying83 hi hz1 E es.length c (flat es) rfl HOW.out ⟨X, 0, none⟩ 1 1 [.string e.1, .int .i64 e.2] rfl rfl HN.out (by intro u hu; simp at hu; rcases hu with rfl | rfl <;> rfl) hroom ?_))
       intro w1 hown hgr
       rw [← HFL.out] at hown
       obtain ⟨E', c', hv', hE', hBx'⟩ := Bx.of hown HLN.out.symm HNE.out
       injection hv' with e1 e2 e3
       injection e1 with e1
       injection e1 with e1 _ _
       subst e1; subst e3
       have HB1 : Hid (Became w w1 b0 (.slice (some ⟨E, 0, none⟩) es.length c) (.slice (some ⟨E, 0, none⟩) (es.length + 1) c) (es ++ [e])) := ⟨Or.inr ⟨E, c, by rw [HLN.out], ⟨hbE, by simp⟩, hBx'⟩, hgr, fun E' h => Or.inl (by simpa [Value.ownBlock] using h)⟩
       clear hown hgr hE' hBx' e2
       go_wp2
       go_returns
       exact ⟨_, rfl, HB1.out⟩
    · have HOL : Hid (∀ b, some (⟨E, 0, none⟩ : Addr) = some b → ∀ j u, (flat es)[j]? = some u → w.cell? (b.add j) = some u) := fun b hb j u hj => by
        cases hb; exact World.ownsRow.cells HOW.out (g := E) rfl j u hj
      clear hX hBx
      go_enter Try.func55, Try.ntmps55
      go_upto_region 7 with fail
      all_goals
       go_wp2_with (at_builtin; go_must (refine wpList_append_grows _ rfl _ _ 83 rfl 70 i0 (.agg #[.string ⟨#[]⟩, .int .i64 0]) 2 24 Try.underlying83 hi hz0 hz1 hz2 rfl (by decide) (some ⟨E, 0, none⟩) es.length c (flat es) rfl (fun h => by cases h) (flat_len es) HOL.out ⟨X, 0, none⟩ 1 1 [.string e.1, .int .i64 e.2] rfl rfl HN.out (by intro u hu; simp at hu; rcases hu with rfl | rfl <;> rfl) (by omega) (by unfold maxLen; omega) (by omega) ?_))
       intro v' w1 hown hgr
       rw [← HFL.out] at hown
       obtain ⟨E', c', rfl, hE', hBx'⟩ := Bx.of hown HLN.out.symm HNE.out
       have HB1 : Hid (Became w w1 b0 (.slice (some ⟨E, 0, none⟩) es.length c) (.slice (some ⟨E', 0, none⟩) (es ++ [e]).length c') (es ++ [e])) := ⟨Or.inr ⟨E', c', rfl, ⟨by omega, by simp⟩, hBx'⟩, ⟨hgr.os, hgr.tape, hgr.output, hgr.size, fun k h1 h2 => hgr.block k h1 (by simp)⟩, fun E h => by right; simp [Value.ownBlock] at h; omega⟩
       clear hown hgr hE' hBx'
       go_wp2
       go_returns
       exact ⟨_, rfl, HB1.out⟩
end Go.Proofs.Ytdemodhjlbkbeab
namespace Go.Proofs.Ytdemodhjlbkbeab
open Go.RowKit
set_option linter.unusedVariables false
theorem grown_setCells (E : Nat) : ∀ (vs : List Value) (o : Nat) (w : World), w.grownBy (w.setCells E o vs) (some E)
  | [], _, w => World.grownBy.refl w _
  | v :: r, o, w => by
    have ih := grown_setCells E r (o + 1) (w.setCell ⟨E, o, none⟩ v)
    refine ⟨ih.os, ih.tape, ih.output, by have := ih.size; rw [World.size_setCell] at this; exact this, fun k hk hne => ?_⟩
    rw [World.setCells]
    rw [ih.block k (by rw [World.size_setCell]; exact hk) hne]
    exact heap_setCell_other _ _ _ _ (fun e => hne (by rw [e]))
theorem row_setCells (E T : Nat) : ∀ (vs : List Value) (o : Nat) (w : World) (cur : Array Value), w.heap[E]? = some (.cells cur T) → ∃ cur', (w.setCells E o vs).heap[E]? = some (.cells cur' T) ∧ cur'.size = cur.size
  | [], _, w, cur, h => ⟨cur, h, rfl⟩
  | v :: r, o, w, cur, h => by
    obtain ⟨cur', h1, h2⟩ := row_setCells E T r (o + 1) (w.setCell ⟨E, o, none⟩ v) _ (heap_setCell_same _ _ _ _ _ _ h)
    exact ⟨cur', h1, by rw [h2]; simp⟩
theorem grown_trans {a b c : World} {r : Option Nat} (h1 : a.grownBy b r) (h2 : b.grownBy c r) : a.grownBy c r :=
  ⟨h2.os.trans h1.os, h2.tape.trans h1.tape, h2.output.trans h1.output, Nat.le_trans h1.size h2.size, fun k hk hne => (h2.block k (Nat.lt_of_lt_of_le hk h1.size) hne).trans (h1.block k hk hne)⟩
theorem grown_drew (w : World) (r : Option Nat) : w.grownBy w.drew r := ⟨rfl, rfl, rfl, Nat.le_refl _, fun _ _ _ => rfl⟩
abbrev insL (es : List Ent) (i : Nat) (e : Ent) : List Ent := es.take i ++ e :: es.drop i
theorem insL_len (es : List Ent) (i : Nat) (e : Ent) (h : i ≤ es.length) : (insL es i e).length = es.length + 1 := by unfold insL; simp; omega
theorem insL_lt (es : List Ent) (i : Nat) (e : Ent) (h : i ≤ es.length) (t : Nat) (ht : t < i) (h' : t < (insL es i e).length) : (insL es i e)[t] = es[t] := by
  unfold insL; rw [List.getElem_append_left (by rw [List.length_take]; omega), List.getElem_take]
theorem insL_eq (es : List Ent) (i : Nat) (e : Ent) (h : i ≤ es.length) (h' : i < (insL es i e).length) : (insL es i e)[i] = e := by
  unfold insL; rw [List.getElem_append_right (by rw [List.length_take]; omega)]; simp [List.length_take, Nat.min_eq_left h]
theorem insL_gt (es : List Ent) (i : Nat) (e : Ent) (h : i ≤ es.length) (t : Nat) (ht : i ≤ t) (h2 : t < es.length) (h' : t + 1 < (insL es i e).length) : (insL es i e)[t + 1] = es[t] := by
  have h3 : (insL es i e)[t + 1]? = es[t]? := by
    unfold insL
    rw [List.getElem?_append_right (by rw [List.length_take]; omega), List.length_take, Nat.min_eq_left h, show t + 1 - i = (t - i) + 1 by omega, List.getElem?_cons_succ, List.getElem?_drop, show i + (t - i) = t by omega]
  rw [List.getElem?_eq_getElem h', List.getElem?_eq_getElem h2] at h3
  exact Option.some.inj h3
/-- two copies make room in a row and fill it. -/
theorem Bx.shift {w : World} {E c i : Nat} {es : List Ent} {e : Ent} (h : Bx w E c es) (hi : i < es.length) (hroom : es.length + 1 ≤ c) :
    Bx ((w.drew.setCells E ((i + 1) * 2) (flat (es.drop i))).setCells E (i * 2) [.string e.1, .int .i64 e.2]) E c (insL es i e) ∧ w.grownBy ((w.drew.setCells E ((i + 1) * 2) (flat (es.drop i))).setCells E (i * 2) [.string e.1, .int .i64 e.2]) (some E) := by
  obtain ⟨cur, h1, h2⟩ := h.row
  have h1d : w.drew.heap[E]? = some (.cells cur 70) := h1
  obtain ⟨cur1, r1, s1⟩ := row_setCells E 70 (flat (es.drop i)) ((i + 1) * 2) w.drew cur h1d
  obtain ⟨cur2, r2, s2⟩ := row_setCells E 70 [.string e.1, .int .i64 e.2] (i * 2) _ cur1 r1
  have hfl : (flat (es.drop i)).length = (es.length - i) * 2 := by rw [flat_len, List.length_drop]
  have hs0 : ∀ j, j < c * 2 → (w.drew.cell? ⟨E, j, none⟩).isSome = true := fun j hj => by
    rw [cell_of_row _ _ _ _ _ _ h1d, Array.getElem?_eq_getElem (by omega)]; rfl
  have hs1 : ∀ j, j < c * 2 → ((w.drew.setCells E ((i + 1) * 2) (flat (es.drop i))).cell? ⟨E, j, none⟩).isSome = true := fun j hj => by
    rw [cell_of_row _ _ _ _ _ _ r1, Array.getElem?_eq_getElem (by omega)]; rfl
  have cin : ∀ j v, (flat (es.drop i))[j]? = some v → (w.drew.setCells E ((i + 1) * 2) (flat (es.drop i))).cell? ⟨E, (i + 1) * 2 + j, none⟩ = some v := fun j v hj => by
    have hlt := (List.getElem?_eq_some_iff.1 hj).1
    rw [World.cell?_setCells_in E _ _ w.drew (fun k hk => hs0 _ (by omega)) j hlt]
    rw [← hj, List.getElem?_eq_getElem hlt]
  have cout : ∀ k, k < (i + 1) * 2 → (w.drew.setCells E ((i + 1) * 2) (flat (es.drop i))).cell? ⟨E, k, none⟩ = w.cell? ⟨E, k, none⟩ := fun k hk => World.cell?_setCells_out E _ _ w.drew ⟨E, k, none⟩ (fun _ _ => Or.inl hk)
  have din0 := World.cell?_setCells_in E [.string e.1, .int .i64 e.2] (i * 2) (w.drew.setCells E ((i + 1) * 2) (flat (es.drop i))) (fun k hk => hs1 _ (by simp at hk; omega)) 0 (by simp)
  have din1 := World.cell?_setCells_in E [.string e.1, .int .i64 e.2] (i * 2) (w.drew.setCells E ((i + 1) * 2) (flat (es.drop i))) (fun k hk => hs1 _ (by simp at hk; omega)) 1 (by simp)
  have dout : ∀ k, (k < i * 2 ∨ i * 2 + 2 ≤ k) → ((w.drew.setCells E ((i + 1) * 2) (flat (es.drop i))).setCells E (i * 2) [.string e.1, .int .i64 e.2]).cell? ⟨E, k, none⟩ = (w.drew.setCells E ((i + 1) * 2) (flat (es.drop i))).cell? ⟨E, k, none⟩ := fun k hk => World.cell?_setCells_out E _ _ _ ⟨E, k, none⟩ (fun _ _ => by show k < i * 2 ∨ i * 2 + 2 ≤ k; omega)
  have hil : i ≤ es.length := by omega
  refine ⟨⟨⟨cur2, r2, by omega⟩, by rw [insL_len es i e hil]; exact hroom, h.max, fun t ht => ?_⟩, grown_trans (grown_trans (grown_drew w _) (grown_setCells E _ _ _)) (grown_setCells E _ _ _)⟩
  rw [insL_len es i e hil] at ht
  rcases Nat.lt_trichotomy t i with hti | hti | hti
  · rw [insL_lt es i e hil t hti]
    have := h.ents t (by omega)
    rw [dout _ (by omega), cout _ (by omega), dout _ (by omega), cout _ (by omega)]
    exact this
  · subst hti
    rw [insL_eq es t e hil]
    exact ⟨by simpa using din0, by simpa using din1⟩
  · obtain ⟨u, rfl⟩ : ∃ u, t = u + 1 := ⟨t - 1, by omega⟩
    rw [insL_gt es i e hil u (by omega) (by omega)]
    have hf := flat_get (es.drop i) (u - i) (by rw [List.length_drop]; omega)
    have hg : (es.drop i)[u - i]'(by rw [List.length_drop]; omega) = es[u] := by rw [List.getElem_drop]; congr 1; omega
    rw [hg] at hf
    rw [dout _ (by omega), dout _ (by omega)]
    have a1 := cin _ _ hf.1
    have a2 := cin _ _ hf.2
    rw [show (i + 1) * 2 + (u - i) * 2 = (u + 1) * 2 by omega] at a1
    rw [show (i + 1) * 2 + ((u - i) * 2 + 1) = (u + 1) * 2 + 1 by omega] at a2
    exact ⟨a1, a2⟩
end Go.Proofs.Ytdemodhjlbkbeab
namespace Go.Proofs.Ytdemodhjlbkbeab
open Go.RowKit
set_option linter.unusedVariables false
set_option maxHeartbeats 4000000 in
set_option maxRecDepth 100000 in
theorem ins_shift (b0 X i : Nat) (e : Ent) (E c : Nat) (es : List Ent) (hl : es.length ≤ 4398046511104) (w : World) (hbE : b0 ≤ E) (hB : Bx w E c es) (hi : i < es.length) (hroom : es.length + 1 ≤ c) (hXE : X ≠ E) (hX : w.heap[X]? = some (.cells #[.string e.1, .int .i64 e.2] 70)) : Calls Try.prog 55 #[.slice (some ⟨E, 0, none⟩) es.length c, .int .i64 (i : Int), .slice (some ⟨X, 0, none⟩) 1 1] w fun r w' => ∃ bv', r = .returned bv' ∧ Became w w' b0 (.slice (some ⟨E, 0, none⟩) es.length c) bv' (insL es i e) := by
  have HSH := hB.shift (e := e) hi hroom
  have hcm := hB.max
  obtain ⟨cur, h1, h2⟩ := hB.row
  have hce : cur.size ≠ 0 := by omega
  have hov : ∀ o lb cb, (callFunc 68 #[.slice (some ⟨X, 0, none⟩) 1 1, .slice (some ⟨E, o, none⟩) lb cb]).run Try.prog w = .ok (.value (.bool false)) w := fun o lb cb => overlaps_no w X E 1 1 lb cb o hXE _ cur hX h1 hce
  have HRES : Hid (Became w ((w.drew.setCells E ((i + 1) * 2) (flat (es.drop i))).setCells E (i * 2) [.string e.1, .int .i64 e.2]) b0 (.slice (some ⟨E, 0, none⟩) es.length c) (.slice (some ⟨E, 0, none⟩) (es.length + 1) c) (insL es i e)) := ⟨Or.inr ⟨E, c, by rw [insL_len es i e (by omega)], ⟨hbE, by simp⟩, HSH.1⟩, HSH.2, fun E' h => Or.inl (by simpa [Value.ownBlock] using h)⟩
  have h1d : w.drew.heap[E]? = some (.cells cur 70) := h1
  have hfl : (flat (es.drop i)).length = (es.length - i) * 2 := by rw [flat_len, List.length_drop]
  have h1c : ∀ v ∈ flat (es.drop i), v.oneCell' = true := fun v hv => by
    unfold flat at hv
    obtain ⟨x, _, hx⟩ := List.mem_flatMap.1 hv
    simp at hx; rcases hx with rfl | rfl <;> rfl
  have hcp1 : ∀ ty dc sc, (Builtin.copy_ #[83, 83] ty #[.slice (some ⟨E, (i + 1) * 2, none⟩) (es.length - i) dc, .slice (some ⟨E, i * 2, none⟩) (es.length + 1 - i) sc]).run Try.prog w.drew = .ok (goInt (Nat.min (es.length + 1 - i) (es.length - i))) (w.drew.setCells E ((i + 1) * 2) (flat (es.drop i))) := fun ty dc sc =>
    run_copy2 w.drew ty E ((i + 1) * 2) (es.length - i) dc ⟨E, i * 2, none⟩ (es.length + 1 - i) sc (flat (es.drop i)) (by rw [hfl]; simp only [Nat.min_def]; split <;> omega)
      (fun j v hj => by
        rw [Addr.add_lit]
        have hlt := (List.getElem?_eq_some_iff.1 hj).1
        obtain ⟨t, rfl | rfl⟩ : ∃ t, j = t * 2 ∨ j = t * 2 + 1 := ⟨j / 2, by omega⟩
        · have hf := (flat_get (es.drop i) t (by rw [List.length_drop]; omega)).1
          rw [hf] at hj; cases hj
          have := (hB.ents (i + t) (by omega)).1
          rw [show i * 2 + t * 2 = (i + t) * 2 by omega]
          rw [List.getElem_drop]
          exact this
        · have hf := (flat_get (es.drop i) t (by rw [List.length_drop]; omega)).2
          rw [hf] at hj; cases hj
          have := (hB.ents (i + t) (by omega)).2
          rw [show i * 2 + (t * 2 + 1) = (i + t) * 2 + 1 by omega]
          rw [List.getElem_drop]
          exact this)
      (fun j hj => by rw [cell_of_row _ _ _ _ _ _ h1d, Array.getElem?_eq_getElem (by omega)]; rfl) (fun j hj => frozen_of_row _ _ _ _ _ h1d) h1c
  obtain ⟨W1, hW1⟩ : ∃ W1, W1 = w.drew.setCells E ((i + 1) * 2) (flat (es.drop i)) := ⟨_, rfl⟩
  obtain ⟨cur1, r1, s1⟩ := row_setCells E 70 (flat (es.drop i)) ((i + 1) * 2) w.drew cur h1d
  rw [← hW1] at r1 hcp1 HRES
  have hXW : W1.heap[X]? = some (.cells #[.string e.1, .int .i64 e.2] 70) := by
    rw [hW1, (grown_setCells E _ _ w.drew).block X (row_lt hX) (by simpa using hXE)]; exact hX
  have hcp2 : ∀ ty dc, (Builtin.copy_ #[83, 83] ty #[.slice (some ⟨E, i * 2, none⟩) (es.length + 1 - i) dc, .slice (some ⟨X, 0, none⟩) 1 1]).run Try.prog W1 = .ok (goInt (Nat.min 1 (es.length + 1 - i))) (W1.setCells E (i * 2) [.string e.1, .int .i64 e.2]) := fun ty dc =>
    run_copy2 W1 ty E (i * 2) (es.length + 1 - i) dc ⟨X, 0, none⟩ 1 1 [.string e.1, .int .i64 e.2] (by simp only [Nat.min_def]; split <;> simp <;> omega) (one_cells X e hXW)
      (fun j hj => by simp at hj; rw [cell_of_row _ _ _ _ _ _ r1, Array.getElem?_eq_getElem (by omega)]; rfl) (fun j hj => frozen_of_row _ _ _ _ _ r1) (by intro u hu; simp at hu; rcases hu with rfl | rfl <;> rfl)
  have hz2 : ¬ ((i : Int) = (es.length : Int)) := by omega
  have hb4 : ¬ (c = i) := by omega
  have hb2 : ¬ (c = i + 1) := by omega
  have hw1 : IntKind.i64.wrap ((i : Int) + 1) = (i : Int) + 1 := by rw [IntKind.wrap_i64] <;> omega
  have hb1 : (0 : Int) ≤ (i : Int) + 1 := by omega
  have hin : i ≤ es.length := by omega
  have htn : ((i : Int) + 1).toNat = i + 1 := by omega
  have hb3 : (i : Int) ≤ (es.length : Int) + 1 := by omega
  have mixed : Try.prog.follows Departure.mixedOrders = true := by kernel_rfl
  clear HSH h1 h1d r1 hXW hB
  subst hW1
  go_enter Try.func55, Try.ntmps55
  go_wp2_with (simp only [hov])
  go_region_law_o (refine step_copy_runI rfl _ _ 83 83 rfl _ _ (by simp [Act.eval, Act.put]) (by simp [Act.eval, Act.put]) (hcp1 _ _ _) ?_)
  go_wp2
  go_returns
  exact ⟨_, rfl, HRES.out⟩
end Go.Proofs.Ytdemodhjlbkbeab
namespace Go.Proofs.Ytdemodhjlbkbeab
open Go.RowKit
set_option linter.unusedVariables false
/-- a new row that has the first entries; two copies fill it. -/
theorem Bx.fill {W : World} {E c i : Nat} {es : List Ent} {e : Ent} {cur : Array Value} (h1 : W.heap[E]? = some (.cells cur 70)) (h2 : cur.size = c * 2) (hmax : c ≤ maxLen)
    (hold : ∀ t (ht : t < es.length), t < i → W.cell? ⟨E, t * 2, none⟩ = some (.string es[t].1) ∧ W.cell? ⟨E, t * 2 + 1, none⟩ = some (.int .i64 es[t].2)) (hi : i < es.length) (hroom : es.length + 1 ≤ c) :
    Bx (((W.setCells E (i * 2) [.string e.1, .int .i64 e.2]).drew).setCells E ((i + 1) * 2) (flat (es.drop i))) E c (insL es i e) ∧ W.grownBy (((W.setCells E (i * 2) [.string e.1, .int .i64 e.2]).drew).setCells E ((i + 1) * 2) (flat (es.drop i))) (some E) := by
  obtain ⟨cur1, r1, s1⟩ := row_setCells E 70 [.string e.1, .int .i64 e.2] (i * 2) W cur h1
  have r1d : (W.setCells E (i * 2) [.string e.1, .int .i64 e.2]).drew.heap[E]? = some (.cells cur1 70) := r1
  obtain ⟨cur2, r2, s2⟩ := row_setCells E 70 (flat (es.drop i)) ((i + 1) * 2) (W.setCells E (i * 2) [.string e.1, .int .i64 e.2]).drew cur1 r1d
  have hfl : (flat (es.drop i)).length = (es.length - i) * 2 := by rw [flat_len, List.length_drop]
  have hs0 : ∀ j, j < c * 2 → (W.cell? ⟨E, j, none⟩).isSome = true := fun j hj => by
    rw [cell_of_row _ _ _ _ _ _ h1, Array.getElem?_eq_getElem (by omega)]; rfl
  have hs1 : ∀ j, j < c * 2 → ((W.setCells E (i * 2) [.string e.1, .int .i64 e.2]).drew.cell? ⟨E, j, none⟩).isSome = true := fun j hj => by
    rw [cell_of_row _ _ _ _ _ _ r1d, Array.getElem?_eq_getElem (by omega)]; rfl
  have cin : ∀ j v, (flat (es.drop i))[j]? = some v → (((W.setCells E (i * 2) [.string e.1, .int .i64 e.2]).drew).setCells E ((i + 1) * 2) (flat (es.drop i))).cell? ⟨E, (i + 1) * 2 + j, none⟩ = some v := fun j v hj => by
    have hlt := (List.getElem?_eq_some_iff.1 hj).1
    rw [World.cell?_setCells_in E _ _ _ (fun k hk => hs1 _ (by omega)) j hlt]
    rw [← hj, List.getElem?_eq_getElem hlt]
  have cout : ∀ k, k < (i + 1) * 2 → (((W.setCells E (i * 2) [.string e.1, .int .i64 e.2]).drew).setCells E ((i + 1) * 2) (flat (es.drop i))).cell? ⟨E, k, none⟩ = (W.setCells E (i * 2) [.string e.1, .int .i64 e.2]).cell? ⟨E, k, none⟩ := fun k hk => World.cell?_setCells_out E _ _ (W.setCells E (i * 2) [.string e.1, .int .i64 e.2]).drew ⟨E, k, none⟩ (fun _ _ => Or.inl hk)
  have din0 := World.cell?_setCells_in E [.string e.1, .int .i64 e.2] (i * 2) W (fun k hk => hs0 _ (by simp at hk; omega)) 0 (by simp)
  have din1 := World.cell?_setCells_in E [.string e.1, .int .i64 e.2] (i * 2) W (fun k hk => hs0 _ (by simp at hk; omega)) 1 (by simp)
  have dout : ∀ k, (k < i * 2) → (W.setCells E (i * 2) [.string e.1, .int .i64 e.2]).cell? ⟨E, k, none⟩ = W.cell? ⟨E, k, none⟩ := fun k hk => World.cell?_setCells_out E _ _ W ⟨E, k, none⟩ (fun _ _ => Or.inl hk)
  have hil : i ≤ es.length := by omega
  refine ⟨⟨⟨cur2, r2, by omega⟩, by rw [insL_len es i e hil]; exact hroom, hmax, fun t ht => ?_⟩, grown_trans (grown_trans (grown_setCells E _ _ _) (grown_drew _ _)) (grown_setCells E _ _ _)⟩
  rw [insL_len es i e hil] at ht
  rcases Nat.lt_trichotomy t i with hti | hti | hti
  · rw [insL_lt es i e hil t hti]
    have := hold t (by omega) hti
    rw [cout _ (by omega), cout _ (by omega), dout _ (by omega), dout _ (by omega)]
    exact this
  · subst hti
    rw [insL_eq es t e hil, cout _ (by omega), cout _ (by omega)]
    exact ⟨by simpa using din0, by simpa using din1⟩
  · obtain ⟨u, rfl⟩ : ∃ u, t = u + 1 := ⟨t - 1, by omega⟩
    rw [insL_gt es i e hil u (by omega) (by omega)]
    have hf := flat_get (es.drop i) (u - i) (by rw [List.length_drop]; omega)
    have hg : (es.drop i)[u - i]'(by rw [List.length_drop]; omega) = es[u] := by rw [List.getElem_drop]; congr 1; omega
    rw [hg] at hf
    have a1 := cin _ _ hf.1
    have a2 := cin _ _ hf.2
    rw [show (i + 1) * 2 + (u - i) * 2 = (u + 1) * 2 by omega] at a1
    rw [show (i + 1) * 2 + ((u - i) * 2 + 1) = (u + 1) * 2 + 1 by omega] at a2
    exact ⟨a1, a2⟩
set_option maxHeartbeats 4000000 in
set_option maxRecDepth 100000 in
theorem ins_grow (b0 X i : Nat) (e : Ent) (E c : Nat) (es : List Ent) (hl : es.length ≤ 4398046511104) (w : World) (hb0 : b0 ≤ w.heap.size) (hB : Bx w E c es) (hi : i < es.length) (hroom : c < es.length + 1) (hX : w.heap[X]? = some (.cells #[.string e.1, .int .i64 e.2] 70)) : Calls Try.prog 55 #[.slice (some ⟨E, 0, none⟩) es.length c, .int .i64 (i : Int), .slice (some ⟨X, 0, none⟩) 1 1] w fun r w' => ∃ bv', r = .returned bv' ∧ Became w w' b0 (.slice (some ⟨E, 0, none⟩) es.length c) bv' (insL es i e) := by
  obtain ⟨i0, hi0, hz0, hz1, hz2⟩ := info_parts infoE
  have hle := hB.le
  have hXl := row_lt hX
  have hEl := hB.lt
  obtain ⟨k, hk⟩ : ∃ k, es.length + 1 - i = k := ⟨_, rfl⟩
  have hc : c = es.length := by omega
  subst hc
  have hcs : ∀ j v, (flat (es.take i))[j]? = some v → w.drew.cell? ((⟨E, 0, none⟩ : Addr).add j) = some v := fun j v hj => by
    have hlt := (List.getElem?_eq_some_iff.1 hj).1
    rw [flat_len, List.length_take] at hlt
    rw [Addr.add_lit, Nat.zero_add]
    obtain ⟨t, rfl | rfl⟩ : ∃ t, j = t * 2 ∨ j = t * 2 + 1 := ⟨j / 2, by omega⟩
    · have hf := (flat_get (es.take i) t (by rw [List.length_take]; omega)).1
      rw [hf] at hj; cases hj; rw [List.getElem_take]; exact (hB.ents t (by omega)).1
    · have hf := (flat_get (es.take i) t (by rw [List.length_take]; omega)).2
      rw [hf] at hj; cases hj; rw [List.getElem_take]; exact (hB.ents t (by omega)).2
  have hfi : (flat (es.take i)).length = i * 2 := by rw [flat_len, List.length_take]; omega
  have hold : (Builtin.firstCells i0.size i (.slice (some ⟨E, 0, none⟩) i es.length)).run Try.prog w.drew = .ok (flat (es.take i)).toArray w.drew := by
    rw [hz1]; exact run_firstCells_some w.drew 2 i ⟨E, 0, none⟩ i es.length (flat (es.take i)) hfi hcs
  have hrun : ∀ ty, (Builtin.append_ #[83, 3] ty #[.slice (some ⟨E, 0, none⟩) i es.length, .int .i64 (k : Int)]).run Try.prog w = _ := fun ty =>
    Lib.run_append_grow_zeros w 83 3 ty 70 i0 _ .i64 .i64 Try.underlying83 Try.underlying3 hi0 hz0 (some ⟨E, 0, none⟩) i es.length (flat (es.take i)) hold k (by omega) (by omega) (by omega) (by omega) (by rw [hz2]; omega) (by rw [hz2]; exact growslice_fits (by omega) (by omega))
  obtain ⟨c', hc'⟩ : ∃ c', grownCap w (i + k) es.length 70 = c' := ⟨_, rfl⟩
  have hc1 : i + k ≤ c' := by rw [← hc']; exact grownCap_ge w (i + k) es.length 70
  have hcm : c' ≤ maxLen := by rw [← hc']; exact grownCap_le_maxLen w (i + k) es.length 70 (by unfold maxLen; omega)
  rw [hc'] at hrun
  obtain ⟨W1, hW1⟩ : ∃ W1, W1 = w.drew.alloc (.cells ((flat (es.take i)).toArray ++ Builtin.zeroCells (Value.cells (.agg #[.string ⟨#[]⟩, .int .i64 0])) k ++ Builtin.zeroCells (Value.cells (.agg #[.string ⟨#[]⟩, .int .i64 0])) (c' - (i + k))) 70) := ⟨_, rfl⟩
  rw [← hW1] at hrun
  have hbw : Below w.heap.size w W1 := by rw [hW1]; exact (Below.refl _ w).drew.alloc (Nat.le_refl _) _
  have hXW : W1.heap[X]? = some (.cells #[.string e.1, .int .i64 e.2] 70) := keep_row hX hbw
  have hBE : Bx W1 E es.length es := hB.on hbw
  obtain ⟨CUR, hCUR⟩ : ∃ CUR, CUR = (flat (es.take i)).toArray ++ Builtin.zeroCells (Value.cells (.agg #[.string ⟨#[]⟩, .int .i64 0])) k ++ Builtin.zeroCells (Value.cells (.agg #[.string ⟨#[]⟩, .int .i64 0])) (c' - (i + k)) := ⟨_, rfl⟩
  have r0 : W1.heap[w.heap.size]? = some (.cells CUR 70) := by rw [hW1, hCUR]; exact one_alloc w.drew _
  have s0 : CUR.size = c' * 2 := by
    rw [hCUR]; simp only [Array.size_append, size_zeroCells, List.size_toArray, hfi]
    rw [show (Value.cells (.agg #[.string ⟨#[]⟩, .int .i64 0])).size = 2 from rfl]; omega
  have hgl : CUR.toList.take (i * 2) = flat (es.take i) := by
    rw [hCUR]; simp only [Array.toList_append, List.append_assoc]; rw [← hfi]; exact List.take_left
  have hold1 : ∀ t (ht : t < es.length), t < i → W1.cell? ⟨w.heap.size, t * 2, none⟩ = some (.string es[t].1) ∧ W1.cell? ⟨w.heap.size, t * 2 + 1, none⟩ = some (.int .i64 es[t].2) := fun t ht hti => by
    have hf := flat_get (es.take i) t (by rw [List.length_take]; omega)
    rw [← hgl, List.getElem?_take_of_lt (by omega), List.getElem?_take_of_lt (by omega), List.getElem_take] at hf
    rw [cell_of_row _ _ _ _ _ _ r0, cell_of_row _ _ _ _ _ _ r0]
    simpa using hf
  have HF := Bx.fill (e := e) r0 s0 hcm hold1 hi (by omega)
  have HRES : Hid (Became w (((W1.setCells w.heap.size (i * 2) [.string e.1, .int .i64 e.2]).drew).setCells w.heap.size ((i + 1) * 2) (flat (es.drop i))) b0 (.slice (some ⟨E, 0, none⟩) es.length es.length) (.slice (some ⟨w.heap.size, 0, none⟩) (i + k) c') (insL es i e)) := by
    refine ⟨Or.inr ⟨w.heap.size, c', by rw [insL_len es i e (by omega), show i + k = es.length + 1 by omega], ⟨hb0, by simp⟩, HF.1⟩, ?_, fun E' h => Or.inr (by simp [Value.ownBlock] at h; omega)⟩
    refine ⟨HF.2.os.trans hbw.os, HF.2.tape.trans hbw.tape, HF.2.output.trans hbw.output, Nat.le_trans hbw.size HF.2.size, fun q hq _ => ?_⟩
    exact (HF.2.block q (Nat.lt_of_lt_of_le hq hbw.size) (by simp; omega)).trans (hbw.block q hq)
  have hcp1 : ∀ ty dc, (Builtin.copy_ #[83, 83] ty #[.slice (some ⟨w.heap.size, i * 2, none⟩) k dc, .slice (some ⟨X, 0, none⟩) 1 1]).run Try.prog W1 = .ok (goInt (Nat.min 1 k)) (W1.setCells w.heap.size (i * 2) [.string e.1, .int .i64 e.2]) := fun ty dc =>
    run_copy2 W1 ty w.heap.size (i * 2) k dc ⟨X, 0, none⟩ 1 1 [.string e.1, .int .i64 e.2] (by simp only [Nat.min_def]; split <;> simp <;> omega) (one_cells X e hXW)
      (fun j hj => by simp at hj; rw [cell_of_row _ _ _ _ _ _ r0, Array.getElem?_eq_getElem (by omega)]; rfl) (fun j hj => frozen_of_row _ _ _ _ _ r0) (by intro u hu; simp at hu; rcases hu with rfl | rfl <;> rfl)
  obtain ⟨cur1, r1, s1⟩ := row_setCells w.heap.size 70 [.string e.1, .int .i64 e.2] (i * 2) W1 CUR r0
  have r1d : (W1.setCells w.heap.size (i * 2) [.string e.1, .int .i64 e.2]).drew.heap[w.heap.size]? = some (.cells cur1 70) := r1
  have hBE2 : Bx (W1.setCells w.heap.size (i * 2) [.string e.1, .int .i64 e.2]).drew E es.length es := hBE.same ((grown_setCells w.heap.size _ _ W1).block E hBE.lt (by simp; omega))
  have hfl : (flat (es.drop i)).length = (es.length - i) * 2 := by rw [flat_len, List.length_drop]
  have h1c : ∀ v ∈ flat (es.drop i), v.oneCell' = true := fun v hv => by
    unfold flat at hv
    obtain ⟨x, _, hx⟩ := List.mem_flatMap.1 hv
    simp at hx; rcases hx with rfl | rfl <;> rfl
  have hcp2 : ∀ ty dc sc, (Builtin.copy_ #[83, 83] ty #[.slice (some ⟨w.heap.size, (i + 1) * 2, none⟩) (i + k - (i + 1)) dc, .slice (some ⟨E, i * 2, none⟩) (es.length - i) sc]).run Try.prog (W1.setCells w.heap.size (i * 2) [.string e.1, .int .i64 e.2]).drew = .ok (goInt (Nat.min (es.length - i) (i + k - (i + 1)))) (((W1.setCells w.heap.size (i * 2) [.string e.1, .int .i64 e.2]).drew).setCells w.heap.size ((i + 1) * 2) (flat (es.drop i))) := fun ty dc sc =>
    run_copy2 _ ty w.heap.size ((i + 1) * 2) (i + k - (i + 1)) dc ⟨E, i * 2, none⟩ (es.length - i) sc (flat (es.drop i)) (by rw [hfl]; simp only [Nat.min_def]; split <;> omega)
      (fun j v hj => by
        rw [Addr.add_lit]
        have hlt := (List.getElem?_eq_some_iff.1 hj).1
        obtain ⟨t, rfl | rfl⟩ : ∃ t, j = t * 2 ∨ j = t * 2 + 1 := ⟨j / 2, by omega⟩
        · have hf := (flat_get (es.drop i) t (by rw [List.length_drop]; omega)).1
          rw [hf] at hj; cases hj
          rw [show i * 2 + t * 2 = (i + t) * 2 by omega, List.getElem_drop]
          exact (hBE2.ents (i + t) (by omega)).1
        · have hf := (flat_get (es.drop i) t (by rw [List.length_drop]; omega)).2
          rw [hf] at hj; cases hj
          rw [show i * 2 + (t * 2 + 1) = (i + t) * 2 + 1 by omega, List.getElem_drop]
          exact (hBE2.ents (i + t) (by omega)).2)
      (fun j hj => by rw [cell_of_row _ _ _ _ _ _ r1d, Array.getElem?_eq_getElem (by omega)]; rfl) (fun j hj => frozen_of_row _ _ _ _ _ r1d) h1c
  have hki : (es.length : Int) + 1 - (i : Int) = (k : Int) := by omega
  have hin : i ≤ es.length := by omega
  have hic : (i : Int) ≤ (es.length : Int) := by omega
  have hz2' : ¬ ((i : Int) = (es.length : Int)) := by omega
  have hb4 : ¬ (c' = i) := by omega
  have hb2 : ¬ (c' = i + 1) := by omega
  have hb5 : ¬ (es.length = i) := by omega
  have hk2 : 2 ≤ k := by omega
  have hw1 : IntKind.i64.wrap ((i : Int) + 1) = (i : Int) + 1 := by rw [IntKind.wrap_i64] <;> omega
  have hb1 : (0 : Int) ≤ (i : Int) + 1 := by omega
  have htn : ((i : Int) + 1).toNat = i + 1 := by omega
  have hb3 : (i : Int) + 1 ≤ (i : Int) + (k : Int) := by omega
  have mixed : Try.prog.follows Departure.mixedOrders = true := by kernel_rfl
  have HRUN : Hid _ := hrun
  clear hold hcs hrun hW1 hB hc' hle hroom hz2 hz1 hz0 hi0 hfi hk hcm hbw hXW hBE r0 s0 hgl hold1 HF r1 r1d hBE2 hfl h1c hCUR s1
  go_enter Try.func55, Try.ntmps55
  go_upto_region 9 with fail
  go_wp2_with (at_builtin; go_must (refine Lib.wpList_append_run _ rfl _ _ 83 3 rfl (.slice (some ⟨E, 0, none⟩) i es.length) (.int .i64 (k : Int)) ?a1 ?a2 _ _ (HRUN.out _) ?_))
  case a1 => rfl
  case a2 => rfl
  go_region_law_o (refine step_copy_runI rfl _ _ 83 83 rfl _ _ (by simp [Act.eval, Act.put]) (by simp [Act.eval, Act.put]) (hcp2 _ _ _) ?_)
  go_wp2
  go_returns
  exact ⟨_, rfl, HRES.out⟩
end Go.Proofs.Ytdemodhjlbkbeab
namespace Go.Proofs.Ytdemodhjlbkbeab
open Go.RowKit
set_option linter.unusedVariables false
theorem insL_end (es : List Ent) (e : Ent) : insL es es.length e = es ++ [e] := by unfold insL; simp
/-- slices.Insert of one entry. -/
theorem ins_any (b0 X i : Nat) (e : Ent) (bv : Value) (es : List Ent) (hl : es.length ≤ 4398046511104) (hi : i ≤ es.length) (w : World) (hb0 : b0 ≤ w.heap.size) (hB : BV w b0 bv es) (hXn : ∀ E, bv.ownBlock = some E → X ≠ E) (hX : w.heap[X]? = some (.cells #[.string e.1, .int .i64 e.2] 70)) : Calls Try.prog 55 #[bv, .int .i64 (i : Int), .slice (some ⟨X, 0, none⟩) 1 1] w fun r w' => ∃ bv', r = .returned bv' ∧ Became w w' b0 bv bv' (insL es i e) := by
  rcases Nat.lt_or_eq_of_le hi with h | h
  · rcases hB with ⟨_, rfl⟩ | ⟨E, c, rfl, ⟨hbE, _⟩, hBx⟩
    · simp at h
    · rcases Nat.lt_or_ge c (es.length + 1) with hr | hr
      · exact ins_grow b0 X i e E c es hl w hb0 hBx h hr hX
      · exact ins_shift b0 X i e E c es hl w hbE hBx h hr (hXn E rfl) hX
  · subst h
    rw [insL_end]
    exact ins_end b0 X e bv es hl w hb0 hB hX
end Go.Proofs.Ytdemodhjlbkbeab
namespace Go.Proofs.Ytdemodhjlbkbeab
open Go.RowKit
set_option linter.unusedVariables false
set_option linter.unusedSimpArgs false
abbrev delL (es : List Ent) (i : Nat) : List Ent := es.take i ++ es.drop (i + 1)
theorem delL_len (es : List Ent) (i : Nat) (h : i < es.length) : (delL es i).length = es.length - 1 := by unfold delL; simp; omega
theorem delL_get (es : List Ent) (i t : Nat) (h : i < es.length) (ht : t < (delL es i).length) (ht2 : t < es.length) (ht3 : t + 1 < es.length) : (delL es i)[t] = if t < i then es[t] else es[t + 1] := by
  have h3 : (delL es i)[t]? = if t < i then es[t]? else es[t + 1]? := by
    unfold delL
    by_cases hti : t < i
    · rw [if_pos hti, List.getElem?_append_left (by rw [List.length_take]; omega), List.getElem?_take_of_lt hti]
    · rw [if_neg hti, List.getElem?_append_right (by rw [List.length_take]; omega), List.length_take, Nat.min_eq_left (by omega), List.getElem?_drop]
      congr 1; omega
  rw [List.getElem?_eq_getElem ht] at h3
  split at h3
  · rename_i hti; rw [if_pos hti]; rw [List.getElem?_eq_getElem ht2] at h3; exact Option.some.inj h3
  · rename_i hti; rw [if_neg hti]; rw [List.getElem?_eq_getElem ht3] at h3; exact Option.some.inj h3
theorem Bx.del {w : World} {E c i : Nat} {es : List Ent} (h : Bx w E c es) (hi : i < es.length) (q : Nat) (hq : q + 1 = es.length) :
    Bx ((w.drew.setCells E (i * 2) (flat (es.drop (i + 1)))).setCells E (q * 2) [.string ⟨#[]⟩, .int .i64 0]) E c (delL es i) ∧ w.grownBy ((w.drew.setCells E (i * 2) (flat (es.drop (i + 1)))).setCells E (q * 2) [.string ⟨#[]⟩, .int .i64 0]) (some E) := by
  obtain ⟨cur, h1, h2⟩ := h.row
  have hle := h.le
  have h1d : w.drew.heap[E]? = some (.cells cur 70) := h1
  obtain ⟨cur1, r1, s1⟩ := row_setCells E 70 (flat (es.drop (i + 1))) (i * 2) w.drew cur h1d
  obtain ⟨cur2, r2, s2⟩ := row_setCells E 70 [.string ⟨#[]⟩, .int .i64 0] (q * 2) _ cur1 r1
  have hfl : (flat (es.drop (i + 1))).length = (es.length - (i + 1)) * 2 := by rw [flat_len, List.length_drop]
  have hs0 : ∀ j, j < c * 2 → (w.drew.cell? ⟨E, j, none⟩).isSome = true := fun j hj => by
    rw [cell_of_row _ _ _ _ _ _ h1d, Array.getElem?_eq_getElem (by omega)]; rfl
  have cin : ∀ j v, (flat (es.drop (i + 1)))[j]? = some v → (w.drew.setCells E (i * 2) (flat (es.drop (i + 1)))).cell? ⟨E, i * 2 + j, none⟩ = some v := fun j v hj => by
    have hlt := (List.getElem?_eq_some_iff.1 hj).1
    rw [World.cell?_setCells_in E _ _ w.drew (fun k hk => hs0 _ (by omega)) j hlt]
    rw [← hj, List.getElem?_eq_getElem hlt]
  have cout : ∀ k, k < i * 2 → (w.drew.setCells E (i * 2) (flat (es.drop (i + 1)))).cell? ⟨E, k, none⟩ = w.cell? ⟨E, k, none⟩ := fun k hk => World.cell?_setCells_out E _ _ w.drew ⟨E, k, none⟩ (fun _ _ => Or.inl hk)
  have dout : ∀ k, k < q * 2 → ((w.drew.setCells E (i * 2) (flat (es.drop (i + 1)))).setCells E (q * 2) [.string ⟨#[]⟩, .int .i64 0]).cell? ⟨E, k, none⟩ = (w.drew.setCells E (i * 2) (flat (es.drop (i + 1)))).cell? ⟨E, k, none⟩ := fun k hk => World.cell?_setCells_out E _ _ _ ⟨E, k, none⟩ (fun _ _ => Or.inl hk)
  refine ⟨⟨⟨cur2, r2, by omega⟩, by rw [delL_len es i hi]; omega, h.max, fun t ht => ?_⟩, grown_trans (grown_trans (grown_drew w _) (grown_setCells E _ _ _)) (grown_setCells E _ _ _)⟩
  have ht' := ht
  rw [delL_len es i hi] at ht'
  rw [delL_get es i t hi ht (by omega) (by omega), dout _ (by omega), dout _ (by omega)]
  by_cases hti : t < i
  · simp only [hti, if_true]
    rw [cout _ (by omega), cout _ (by omega)]
    exact h.ents t (by omega)
  · simp only [hti, if_false]
    have hf := flat_get (es.drop (i + 1)) (t - i) (by rw [List.length_drop]; omega)
    have hg : (es.drop (i + 1))[t - i]'(by rw [List.length_drop]; omega) = es[t + 1] := by rw [List.getElem_drop]; congr 1; omega
    rw [hg] at hf
    have a1 := cin _ _ hf.1
    have a2 := cin _ _ hf.2
    rw [show i * 2 + (t - i) * 2 = t * 2 by omega] at a1
    rw [show i * 2 + ((t - i) * 2 + 1) = t * 2 + 1 by omega] at a2
    exact ⟨a1, a2⟩
theorem run_app2 (w : World) (ty : TypeId) (E i c : Nat) (A : Addr) (m ac : Nat) (cs : List Value) (hl : cs.length = m * 2) (hroom : i + m ≤ c) (hsrc : ∀ j v, cs[j]? = some v → w.cell? (A.add j) = some v) (cur : Array Value) (hE : w.heap[E]? = some (.cells cur 70)) (hs : cur.size = c * 2) (h1 : ∀ v ∈ cs, v.oneCell' = true) :
    (Builtin.append_ #[83, 83] ty #[.slice (some ⟨E, 0, none⟩) i c, .slice (some A) m ac]).run Try.prog w = .ok (.slice (some ⟨E, 0, none⟩) (i + m) c) (w.setCells E (i * 2) cs) := by
  obtain ⟨i0, hi, hz0, hz1, hz2⟩ := info_parts infoE
  have hld := run_loadCells_list (P := Try.prog) w A cs hsrc
  rw [hl] at hld
  have hst := run_storeCells_cells (P := Try.prog) E (i * 2) cs 0 w (fun j hj => by rw [cell_of_row _ _ _ _ _ _ hE, Array.getElem?_eq_getElem (by omega)]; rfl) (fun j hj => frozen_of_row _ _ _ _ _ hE) h1
  have hadd : (⟨E, 0, none⟩ : Addr).add (i * 2) = ⟨E, i * 2, none⟩ := by rw [Addr.add_lit, Nat.zero_add]
  simp only [Nat.add_zero] at hst
  simp [Builtin.append_, run_underlying Try.underlying83, Builtin.lenOf, Builtin.firstCells, sizeOf, typeInfo, hi, hz1, hld, hst, hroom, hadd]
theorem run_clr2 (E o c : Nat) (ty : TypeId) (W : World) (cur : Array Value) (hE : W.heap[E]? = some (.cells cur 70)) (ho : o + 2 ≤ cur.size) :
    Sem.run Try.prog (Builtin.clear_ #[83] ty #[.slice (some ⟨E, o, none⟩) 1 c]) W = .ok (.tuple #[]) (W.setCells E o [.string ⟨#[]⟩, .int .i64 0]) := by
  obtain ⟨i0, hi, hz0, hz1, hz2⟩ := info_parts infoE
  have hzc : (Builtin.zeroCells #[.string ⟨#[]⟩, .int .i64 0] 1).toList = [.string ⟨#[]⟩, .int .i64 0] := by kernel_rfl
  have hst := run_storeCells_cells (P := Try.prog) E o [.string ⟨#[]⟩, .int .i64 0] 0 W (fun j hj => by simp at hj; rw [cell_of_row _ _ _ _ _ _ hE, Array.getElem?_eq_getElem (by omega)]; rfl) (fun j hj => frozen_of_row _ _ _ _ _ hE) (by intro u hu; simp at hu; rcases hu with rfl | rfl <;> rfl)
  simp only [Nat.add_zero] at hst
  simp only [Builtin.clear_]
  simp [go_sem]
  rw [hzc, hst]
  rfl
end Go.Proofs.Ytdemodhjlbkbeab
namespace Go.Proofs.Ytdemodhjlbkbeab
open Go.RowKit
set_option linter.unusedVariables false
theorem step_app {ops : Array Oper} {o : Oper} {a : Act} {w : World} {K : Act → World → Prop} {Q : Exit → Act → World → Prop} {D : Prop}
    (hg : o.guard = none) (s x : Operand) (t tn : TypeId) (hop : o.op = Op.call { callee := Callee.builtin Builtin.append, args := #[s, x], argTypes := #[t, tn] })
    (v u : Value) (hs : a.eval s = v) (hx : a.eval x = u) {r : Value} {w' : World} (hr : (Builtin.append_ #[t, tn] o.type #[v, u]).run Try.prog w = .ok r w') (hK : K (a.put o.dst r) w') :
    if Region.wanted o (yielded ops a.tmps) = true then Oper.wp Try.prog o a w K Q else D := by
  rw [if_pos (by simp [Region.wanted, hg])]
  exact Lib.wp_append_run w s x t tn hop v u hs hx r w' hr hK
set_option maxHeartbeats 4000000 in
set_option maxRecDepth 100000 in
theorem sdel_any (b0 i E c : Nat) (es : List Ent) (hl : es.length ≤ 4398046511104) (w : World) (hB : Bx w E c es) (hi : i < es.length) : Calls Try.prog 56 #[.slice (some ⟨E, 0, none⟩) es.length c, .int .i64 (i : Int), .int .i64 ((i : Int) + 1)] w fun r w' => r = .returned (.slice (some ⟨E, 0, none⟩) (es.length - 1) c) ∧ Bx w' E c (delL es i) ∧ w.grownBy w' (some E) := by
  have hle := hB.le
  have hmax := hB.max
  obtain ⟨cur, h1, h2⟩ := hB.row
  have h1d : w.drew.heap[E]? = some (.cells cur 70) := h1
  obtain ⟨m, hm⟩ : ∃ m, es.length - (i + 1) = m := ⟨_, rfl⟩
  obtain ⟨q, hq⟩ : ∃ q, i + m = q := ⟨_, rfl⟩
  have hq1 : q + 1 = es.length := by omega
  have HRES : Hid _ := hB.del hi q hq1
  have hfl : (flat (es.drop (i + 1))).length = m * 2 := by rw [flat_len, List.length_drop, hm]
  have h1c : ∀ v ∈ flat (es.drop (i + 1)), v.oneCell' = true := fun v hv => by
    unfold flat at hv
    obtain ⟨x, _, hx⟩ := List.mem_flatMap.1 hv
    simp at hx; rcases hx with rfl | rfl <;> rfl
  obtain ⟨A, hA⟩ : ∃ A : Addr, A = if c = i + 1 then ⟨E, 0, none⟩ else ⟨E, (i + 1) * 2, none⟩ := ⟨_, rfl⟩
  have hsrc : ∀ j v, (flat (es.drop (i + 1)))[j]? = some v → w.drew.cell? (A.add j) = some v := fun j v hj => by
    have hlt := (List.getElem?_eq_some_iff.1 hj).1
    rw [hA, if_neg (by omega), Addr.add_lit]
    obtain ⟨t, rfl | rfl⟩ : ∃ t, j = t * 2 ∨ j = t * 2 + 1 := ⟨j / 2, by omega⟩
    · have hf := (flat_get (es.drop (i + 1)) t (by rw [List.length_drop]; omega)).1
      rw [hf] at hj; cases hj
      rw [show (i + 1) * 2 + t * 2 = (i + 1 + t) * 2 by omega, List.getElem_drop]
      exact (hB.ents (i + 1 + t) (by omega)).1
    · have hf := (flat_get (es.drop (i + 1)) t (by rw [List.length_drop]; omega)).2
      rw [hf] at hj; cases hj
      rw [show (i + 1) * 2 + (t * 2 + 1) = (i + 1 + t) * 2 + 1 by omega, List.getElem_drop]
      exact (hB.ents (i + 1 + t) (by omega)).2
  have hap : ∀ ty ac, (Builtin.append_ #[83, 83] ty #[.slice (some ⟨E, 0, none⟩) i c, .slice (some A) m ac]).run Try.prog w.drew = .ok (.slice (some ⟨E, 0, none⟩) q c) (w.drew.setCells E (i * 2) (flat (es.drop (i + 1)))) := fun ty ac => by
    rw [← hq]; exact run_app2 w.drew ty E i c A m ac _ hfl (by omega) hsrc cur h1d h2 h1c
  obtain ⟨cur1, r1, s1⟩ := row_setCells E 70 (flat (es.drop (i + 1))) (i * 2) w.drew cur h1d
  have hcl : ∀ ty cc, Sem.run Try.prog (Builtin.clear_ #[83] ty #[.slice (some ⟨E, q * 2, none⟩) 1 cc]) (w.drew.setCells E (i * 2) (flat (es.drop (i + 1)))) = .ok (.tuple #[]) ((w.drew.setCells E (i * 2) (flat (es.drop (i + 1)))).setCells E (q * 2) [.string ⟨#[]⟩, .int .i64 0]) := fun ty cc => run_clr2 E (q * 2) cc ty _ cur1 r1 (by omega)
  have hij : ((i : Int) == (i : Int) + 1) = false := by simp; omega
  have htn : ((i : Int) + 1).toNat = i + 1 := by omega
  have hb1 : (0 : Int) ≤ (i : Int) + 1 := by omega
  have hb2 : (i : Int) + 1 ≤ (es.length : Int) := by omega
  have hic : (i : Int) ≤ (c : Int) := by omega
  have hlc : (es.length : Int) ≤ (c : Int) := by omega
  have hn1 : es.length - q = 1 := by omega
  have hcq : ¬ (c = q) := by omega
  have HQ : Hid (es.length - 1 = q) := by show _ = _; omega
  have mixed : Try.prog.follows Departure.mixedOrders = true := by kernel_rfl
  have hii : (i : Int) ≤ (i : Int) + 1 := by omega
  have hqc : q ≤ c := by omega
  by_cases hci : c = i + 1
  · have hm0 : m = 0 := by omega
    have hqi : q = i := by omega
    have hnl : es.length = i + 1 := by omega
    have hnil : flat (es.drop (i + 1)) = [] := by rw [List.drop_eq_nil_of_le (by omega)]; rfl
    rw [hnil] at HRES hcl
    have hcl2 : ∀ ty cc, Sem.run Try.prog (Builtin.clear_ #[83] ty #[.slice (some ⟨E, i * 2, none⟩) 1 cc]) w.drew = .ok (.tuple #[]) (w.drew.setCells E (i * 2) [.string ⟨#[]⟩, .int .i64 0]) := fun ty cc => by have := hcl ty cc; rw [hqi] at this; exact this
    have HR2 : Hid (Bx (w.drew.setCells E (i * 2) [.string ⟨#[]⟩, .int .i64 0]) E c (delL es i) ∧ w.grownBy (w.drew.setCells E (i * 2) [.string ⟨#[]⟩, .int .i64 0]) (some E)) := by have := HRES.out; rw [hqi] at this; exact this
    have HQ2 : Hid (es.length - 1 = i) := by show _ = _; omega
    clear hsrc h1 h2 h1d hB hfl h1c r1 s1 hmax hcl HRES hap hA hm hq hq1 hn1 hcq hqc HQ hnil hm0 hqi hlc hle hb2 hl hi
    subst hci
    rw [hnl]
    rw [hnl] at HQ2
    clear hnl
    go_enter Try.func56, Try.ntmps56
    go_upto_region 5 with fail
    go_region
    all_goals
      go_wp2
      go_returns
      exact ⟨by rw [HQ2.out]; rfl, HR2.out⟩
  · rw [if_neg hci] at hA
    have hld := run_loadCells_list (P := Try.prog) w.drew A _ hsrc
    rw [hfl, hA] at hld
    have hst := run_storeCells_cells (P := Try.prog) E (i * 2) (flat (es.drop (i + 1))) 0 w.drew (fun j hj => by rw [cell_of_row _ _ _ _ _ _ h1d, Array.getElem?_eq_getElem (by omega)]; rfl) (fun j hj => frozen_of_row _ _ _ _ _ h1d) h1c
    simp only [Nat.add_zero] at hst
    have hld2 : (loadCellsFrom ⟨E, (i + 1) * 2, none⟩ 0 (m * 2) #[]).run Try.prog w.drew = .ok (flat (es.drop (i + 1))).toArray w.drew := hld
    clear hsrc h1 h2 h1d hB hfl h1c r1 s1 hmax hap hA hld
    generalize flat (es.drop (i + 1)) = FL at *
    go_enter Try.func56, Try.ntmps56
    go_upto_region 5 with fail
    go_region
    all_goals
      go_wp2
      go_returns
      exact ⟨by rw [HQ.out]; rfl, HRES.out⟩
end Go.Proofs.Ytdemodhjlbkbeab
