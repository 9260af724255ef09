import Derived.Test.YtbmfbpcjokbjkaaGreatDoorRfE
namespace Go.Proofs.YtbmfbpcjokbjkaaGreatDoor
open Go.RowKit Vi
set_option linter.unusedVariables false
set_option linter.unusedSimpArgs false
/-- requests that their caller writes into, behind the first k of them. -/
structure SpI (W0 W : World) (lv : Value) (F : List (Value × Rq)) (k : Nat) : Prop where
  os : W.os = W0.os
  tape : W.tape = W0.tape
  output : W.output = W0.output
  size : W.heap.size = W0.heap.size
  oth : ∀ g, lv.ownBlock ≠ some g → (∀ x ∈ F, x.1.ownBlock ≠ some g) → W.heap[g]? = W0.heap[g]?
  lst : ∀ j (h : j < F.length), k ≤ j → ∃ g o cap cur, lv = .slice (some ⟨g, o, none⟩) F.length cap ∧ lv.ownBlock = some g ∧ W.heap[g]? = some (.cells cur 43) ∧ cur[o + j * 2]? = some (F[j]'h).1 ∧ o + j * 2 + 1 < cur.size
  arg : ∀ x ∈ F, (x.1 = .slice none 0 0 ∧ x.2.args.length = 0) ∨ ∃ g o cap cur, x.1 = .slice (some ⟨g, o, none⟩) x.2.args.length cap ∧ x.1.ownBlock = some g ∧ W.heap[g]? = some (.cells cur 9) ∧ o + x.2.args.length ≤ cur.size
theorem SpI.zero {B b0 : Nat} {W : World} {lv : Value} {F : List (Value × Rq)} (h : RLs B b0 W lv F) : SpI W W lv F 0 := by
  refine ⟨rfl, rfl, rfl, rfl, fun _ _ _ => rfl, fun j hj _ => ?_, fun x hx => ?_⟩
  · have hr := h.row
    rcases hr.2 with ⟨rfl, h0⟩ | ⟨g, cap, cur, rfl, hb, hg, hc, hm, hs, ht⟩
    · omega
    · refine ⟨g, 0, cap, cur, rfl, rfl, hg, ?_, by omega⟩
      obtain ⟨e1, _⟩ := rqC_get F j hj
      have c1 := hr.cells (g := g) rfl _ _ e1
      rw [Lib.add_plain, cell_of_row _ _ _ _ _ _ hg] at c1
      exact c1
  · have hr := h.args x hx
    rcases hr.2 with ⟨e, h0⟩ | ⟨g, cap, cur, e, hb, hg, hc, hm, hs, ht⟩
    · exact Or.inl ⟨e, h0⟩
    · exact Or.inr ⟨g, 0, cap, cur, e, by rw [e]; rfl, hg, by omega⟩
/-- a word is written. -/
theorem SpI.word {W0 W : World} {lv : Value} {F : List (Value × Rq)} {k g m : Nat} {cur : Array Value} {x : Value × Rq} (h : SpI W0 W lv F k) (hx : x ∈ F) (hg : x.1.ownBlock = some g) (hr : W.heap[g]? = some (.cells cur 9)) (v : Value) : SpI W0 (W.setCell ⟨g, m, none⟩ v) lv F k := by
  refine ⟨h.os, h.tape, h.output, by rw [World.size_setCell]; exact h.size, fun g' h1 h2 => ?_, fun j hj hk => ?_, fun y hy => ?_⟩
  · rw [heap_setCell_other _ _ _ _ (fun e => h2 x hx (by rw [hg, e]))]
    exact h.oth g' h1 h2
  · obtain ⟨g', o, cap, cur', e1, e2, e3, e4, e5⟩ := h.lst j hj hk
    refine ⟨g', o, cap, cur', e1, e2, ?_, e4, e5⟩
    rw [heap_setCell_other _ _ _ _ (fun e => by rw [e] at e3; exact ty_apart e3 hr (by decide))]
    exact e3
  · rcases h.arg y hy with e | ⟨g', o, cap, cur', e1, e2, e3, e4⟩
    · exact Or.inl e
    · right
      by_cases hgg : g' = g
      · subst hgg
        have hcc : cur' = cur := by rw [e3] at hr; injection hr with hr; injection hr
        subst hcc
        exact ⟨g', o, cap, _, e1, e2, heap_setCell_same _ _ _ _ _ _ e3, by simpa using e4⟩
      · exact ⟨g', o, cap, cur', e1, e2, by rw [heap_setCell_other _ _ _ _ hgg]; exact e3, e4⟩
/-- a request is written. -/
theorem SpI.req {W0 W : World} {lv : Value} {F : List (Value × Rq)} {k g o : Nat} {cur : Array Value} (h : SpI W0 W lv F k) (hg : lv.ownBlock = some g) (hr : W.heap[g]? = some (.cells cur 43)) (ho : ∀ g' o' n c, lv = .slice (some ⟨g', o', none⟩) n c → o' = o) (a b : Value) : SpI W0 ((W.setCell ⟨g, o + k * 2, none⟩ a).setCell ⟨g, o + k * 2 + 1, none⟩ b) lv F (k + 1) := by
  have hs : ((W.setCell ⟨g, o + k * 2, none⟩ a).setCell ⟨g, o + k * 2 + 1, none⟩ b).heap[g]? = some (.cells ((cur.setIfInBounds (o + k * 2) a).setIfInBounds (o + k * 2 + 1) b) 43) := heap_setCell_same _ _ _ _ _ _ (heap_setCell_same _ _ _ _ _ _ hr)
  have hn : ∀ g', g' ≠ g → ((W.setCell ⟨g, o + k * 2, none⟩ a).setCell ⟨g, o + k * 2 + 1, none⟩ b).heap[g']? = W.heap[g']? := fun g' hne => by
    rw [heap_setCell_other _ _ _ _ hne, heap_setCell_other _ _ _ _ hne]
  refine ⟨h.os, h.tape, h.output, by rw [World.size_setCell, World.size_setCell]; exact h.size, fun g' h1 h2 => ?_, fun j hj hk => ?_, fun y hy => ?_⟩
  · rw [hn g' (fun e => h1 (by rw [hg, e]))]; exact h.oth g' h1 h2
  · obtain ⟨g', o', cap, cur', e1, e2, e3, e4, e5⟩ := h.lst j hj (by omega)
    have hgg : g' = g := by rw [hg] at e2; injection e2 with e2; exact e2.symm
    subst hgg
    have hcc : cur' = cur := by rw [e3] at hr; injection hr with hr; injection hr
    subst hcc
    have hoo : o' = o := ho _ _ _ _ e1
    subst hoo
    refine ⟨g', o', cap, _, e1, e2, hs, ?_, by simpa using e5⟩
    rw [Array.getElem?_setIfInBounds_ne (by omega), Array.getElem?_setIfInBounds_ne (by omega)]
    exact e4
  · rcases h.arg y hy with e | ⟨g', o', cap, cur', e1, e2, e3, e4⟩
    · exact Or.inl e
    · refine Or.inr ⟨g', o', cap, cur', e1, e2, ?_, e4⟩
      rw [hn g' (fun e => by rw [e] at e3; exact ty_apart hr e3 (by decide))]
      exact e3
/-- the parser does not see it. -/
theorem SpI.pa {B b0 q : Nat} {W0 W : World} {pv wv lv : Value} {F : List (Value × Rq)} {k : Nat} {S : PS} (h : SpI W0 W lv F k) (hp : PA B W0 q pv wv S) (hdj : ∀ x ∈ F, ∀ g, x.1.ownBlock = some g → wv.ownBlock ≠ some g) (hr : RLs B b0 W0 lv F) : PA B W q pv wv S := by
  have hrow := hp.row
  unfold PrR at hrow
  have keep : ∀ (g : Nat) (c : Array Value) (T : TypeId), W0.heap[g]? = some (.cells c T) → T ≠ 43 → (T ≠ 9 ∨ wv.ownBlock = some g) → W.heap[g]? = W0.heap[g]? := fun g c T hc hT h9 => h.oth g (fun e => by
      obtain ⟨cur, hc2⟩ := own_ty' hr.row g e
      exact ty_apart hc hc2 hT) (fun x hx e => by
      rcases h9 with h9 | h9
      · obtain ⟨cur, hc2⟩ := own_ty' (hr.args x hx) g e
        exact ty_apart hc hc2 h9
      · exact hdj x hx g e h9)
  refine ⟨?_, own_stays hp.po (fun g hg => ?_), own_stays hp.wo (fun g hg => ?_), hp.lo⟩
  · unfold PrR
    rw [keep q _ _ hrow (by decide) (Or.inl (by decide))]; exact hrow
  · obtain ⟨cur, hc⟩ := own_ty hp.po g hg; exact keep g _ _ hc (by decide) (Or.inl (by decide))
  · obtain ⟨cur, hc⟩ := own_ty hp.wo g hg; exact keep g _ _ hc (by decide) (Or.inr hg)
theorem SpI.below {B b0 : Nat} {W0 W : World} {lv : Value} {F : List (Value × Rq)} {k : Nat} (h : SpI W0 W lv F k) (hr : RLs B b0 W0 lv F) (hB : B ≤ b0) : Below B W0 W :=
  ⟨h.os, h.tape, h.output, Nat.le_of_eq h.size.symm, fun g hg => h.oth g (fun e => by have := own_block hr.row g e; omega) (fun x hx e => by have := own_block (hr.args x hx) g e; omega)⟩
/-- how many bytes and texts there are. -/
def cb (xs : List ByteArray) : Nat := 1 + (xs.map fun x => 1 + x.size).sum
theorem cb_cons (x : ByteArray) (xs : List ByteArray) : cb (x :: xs) = cb xs + 1 + x.size := by unfold cb; simp; omega
theorem cb_len (xs : List ByteArray) : xs.length < cb xs := by
  induction xs with
  | nil => simp [cb]
  | cons x xs ih => rw [cb_cons, List.length_cons]; omega
/-- all bytes of texts. -/
def ctB (xs : List ByteArray) : SP.Bs := xs.flatMap fun x => x.data.toList
theorem ctB_len (xs : List ByteArray) : (ctB xs).length < cb xs := by
  induction xs with
  | nil => simp [ctB, cb]
  | cons x xs ih =>
    rw [cb_cons]
    have e : ctB (x :: xs) = x.data.toList ++ ctB xs := rfl
    rw [e, List.length_append, list_len]; omega
theorem ctB_snoc (xs : List ByteArray) (i : Nat) (h : i < xs.length) : ctB (xs.take (i + 1)) = ctB (xs.take i) ++ (xs[i]'h).data.toList := by
  rw [List.take_succ_eq_append_getElem h]
  unfold ctB
  rw [List.flatMap_append]
  simp
theorem cb_mono (xs : List ByteArray) (i : Nat) : cb (xs.take i) ≤ cb xs := by
  induction xs generalizing i with
  | nil => simp
  | cons x xs ih =>
    cases i with
    | zero => unfold cb; simp
    | succ i => rw [List.take_succ_cons, cb_cons, cb_cons]; have := ih i; omega
/-- the end of requests. -/
theorem QV.drop {W : World} {P : Option Addr} {n c : Nat} {L : List Rq} (h : QV W (.slice P n c) L) (t : Nat) (ht : t ≤ L.length) (g o : Nat) (hP : P = some ⟨g, o, none⟩) (p : Addr) (hp : t < L.length → p = ⟨g, o + t * 2, none⟩) (c' : Nat) : QV W (.slice (some p) (L.length - t) c') (L.drop t) := by
  by_cases he : t = L.length
  · left
    refine ⟨List.drop_eq_nil_of_le (by omega), some p, c', by rw [he, Nat.sub_self]⟩
  · right
    have hlt : t < L.length := by omega
    refine ⟨g, o + t * 2, c', by rw [hp hlt, List.length_drop], fun i hi => ?_⟩
    rw [List.length_drop] at hi
    obtain ⟨g', o', av, e0, e1, e2, e3⟩ := h.cell (t + i) (by omega)
    rw [hP] at e0
    injection e0 with e0
    injection e0 with e4 e5
    subst e4
    subst e5
    refine ⟨av, ?_, ?_, ?_⟩
    · rw [show o + t * 2 + i * 2 = o + (t + i) * 2 by omega]; exact e1
    · rw [List.getElem_drop]; exact e2
    · rw [List.getElem_drop, show o + t * 2 + i * 2 + 1 = o + (t + i) * 2 + 1 by omega]; exact e3
end Go.Proofs.YtbmfbpcjokbjkaaGreatDoor
