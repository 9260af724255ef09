import Derived.Test.YtgbplghokciimaaDoorPkE
import Derived.Maps.AppendAt
namespace Go.Proofs.YtgbplghokciimaaDoor.I
open Go.RowKit
set_option linter.unusedVariables false
/-- what a call does to memory: the blocks F, which become F'. -/
structure Moved (w w' : World) (F F' : List Nat) : Prop where
  os : w'.os = w.os
  tape : w'.tape = w.tape
  output : w'.output = w.output
  size : w.heap.size ≤ w'.heap.size
  rest : ∀ q, q < w.heap.size → q ∉ F → w'.heap[q]? = w.heap[q]?
  new : ∀ q ∈ F', q ∈ F ∨ w.heap.size ≤ q
theorem Moved.refl (w : World) (F : List Nat) : Moved w w F F := ⟨rfl, rfl, rfl, Nat.le_refl _, fun _ _ _ => rfl, fun _ h => Or.inl h⟩
theorem Moved.of_below {w w' : World} {F : List Nat} (h : Below w.heap.size w w') : Moved w w' F F := ⟨h.os, h.tape, h.output, h.size, fun q hq _ => h.block q hq, fun _ h => Or.inl h⟩
theorem Moved.trans {a b c : World} {F F1 F2 : List Nat} (h1 : Moved a b F F1) (h2 : Moved b c F1 F2) : Moved a c F F2 := by
  refine ⟨h2.os.trans h1.os, h2.tape.trans h1.tape, h2.output.trans h1.output, Nat.le_trans h1.size h2.size, fun q hq hn => ?_, fun q hq => ?_⟩
  · refine (h2.rest q (Nat.lt_of_lt_of_le hq h1.size) (fun hm => ?_)).trans (h1.rest q hq hn)
    rcases h1.new q hm with h | h
    · exact hn h
    · omega
  · rcases h2.new q hq with h | h
    · exact h1.new q h
    · exact Or.inr (Nat.le_trans h1.size h)
theorem Moved.keep {w w' : World} {F F' : List Nat} (h : Moved w w' F F') {q : Nat} {o : Obj} (hq : w.heap[q]? = some o) (hn : q ∉ F) : w'.heap[q]? = some o := (h.rest q (row_lt hq) hn).trans hq
theorem Moved.wide {w w' : World} {F F' G : List Nat} (h : Moved w w' F F') (hF : ∀ q ∈ F, q ∈ G) : Moved w w' G G := ⟨h.os, h.tape, h.output, h.size, fun q hq hn => h.rest q hq (fun hm => hn (hF q hm)), fun _ h => Or.inl h⟩
theorem Moved.only {w w' : World} {g : Nat} {F : List Nat} (h : Only w w' g) (hg : g ∈ F) : Moved w w' F F := ⟨h.os, h.tape, h.output, by rw [h.size]; exact Nat.le_refl _, fun q _ hn => h.other q (fun e => hn (by rw [e]; exact hg)), fun _ h => Or.inl h⟩
theorem Moved.less {w w' : World} {F F' G : List Nat} (h : Moved w w' F F') (hF : ∀ q ∈ G, q ∈ F') : Moved w w' F G := ⟨h.os, h.tape, h.output, h.size, h.rest, fun q hq => h.new q (hF q hq)⟩
theorem infoLk : (Tryd.prog.info? 112).map (fun i => (i.zero, i.size, i.bytes)) = some (some (.agg #[.pointer none, .int .i64 0]), 2, 16) := by kernel_rfl
/-- a link behind links, in a region that draws. -/
theorem step_append_lk {w : World} {ops : Array Oper} {o : Oper} {a : Act} {K : Act → World → Prop} {Q : Exit → Act → World → Prop} {E : Prop} (hg : o.guard = none) (s x : Operand)
    (hop : o.op = Op.call { callee := Callee.builtin Builtin.append, args := #[s, x], argTypes := #[61, 61] })
    (v : Value) (n : Nat) (xs : List Value) (hs : a.eval s = v) (hown : w.ownsRow 0 112 2 v n xs) (B : Nat) (y0 : Option Addr) (y1 : Int) (hx : a.eval x = .slice (some ⟨B, 0, none⟩) 1 1) (hB : w.heap[B]? = some (.cells #[.pointer y0, .int .i64 y1] 112))
    (hl : n ≤ 1099511627776)
    (h : ∀ v' w', w'.ownsRow 0 112 2 v' (n + 1) (xs ++ [.pointer y0, .int .i64 y1]) → w.grownBy w' v.ownBlock → (v'.ownBlock = v.ownBlock ∨ v'.ownBlock = some w.heap.size) → K (a.put o.dst v') w') :
    if Region.wanted o (yielded ops a.tmps) = true then Oper.wp Tryd.prog o a w K Q else E := by
  have hw : Region.wanted o (yielded ops a.tmps) = true := by simp [Region.wanted, hg]
  rw [if_pos hw]
  obtain ⟨i0, hi, hz0, hz1, hz2⟩ := info_of infoLk
  obtain ⟨v', w', hrun, h2, h3, h4, h5⟩ := run_append_own_at (P := Tryd.prog) w 0 61 o.type 112 i0 (.agg #[.pointer none, .int .i64 0]) 2 16 Tryd.underlying61 hi hz0 hz1 hz2 rfl (by decide) v n xs hown ⟨B, 0, none⟩ 1 1 [.pointer y0, .int .i64 y1] rfl (fun j u hu => by
    rw [Lib.add_plain, Nat.zero_add, cell_of_row _ _ _ _ _ _ hB]; simpa using hu) (by intro u hu; simp at hu; rcases hu with rfl | rfl <;> rfl) (by unfold maxLen; omega) (by omega) (Nat.zero_le _)
  unfold Oper.wp
  simp [execOp, hop, resolve, invoke, builtin, hs, hx, hrun, Result.andThen]
  exact h v' w' h2 h3 h5
def lenOf (w : World) (b : Nat) : Nat := match w.cell? ⟨b, 3, none⟩ with
  | some (.slice _ l _) => l
  | _ => 0
abbrev SkS.setH (S : SkS) (hv : Value) (H : Nat) : SkS := { S with hv := hv, H := H }
theorem nx_top {hs : List Nat} {l : Nat} (h : ∀ x ∈ hs, x ≤ l) : nx hs l 0 = hs.length + 1 := by
  have h1 := nx_is (hs := hs) (l := l) (p := 0) (Nat.zero_le _)
  have h2 := h1.le
  rcases Nat.lt_or_ge (nx hs l 0) (hs.length + 1) with h3 | h3
  · rcases h1.at_ (by omega) with h4 | ⟨x, hx, hl⟩
    · have := h1.lt; omega
    · have := h x (List.mem_iff_getElem?.2 ⟨_, hx⟩)
      omega
  · omega
theorem lnk_top {hb : Nat} {T : List Tw} {l : Nat} (h : ∀ x ∈ hts T, x ≤ l) : lnk hb T 0 l = (none, T.length + 1) := by
  unfold lnk
  rw [nx_top h, hts_len]
  refine Prod.ext ?_ rfl
  show (T[T.length]?).map Tw.b = none
  rw [List.getElem?_eq_none (Nat.le_refl _)]; rfl
/-- the head's links have grown. -/
theorem Sk.grow {W W' : World} {g : Nat} {S : SkS} {C : Nat → Nat} {n : Nat} {pv : Nat → Option Nat} (h : Sk W g S C n (lnk S.hb S.T) pv) (htop : ∀ x ∈ hts S.T, x ≤ S.H) {v : Value} (hown : W'.ownsRow 0 112 2 v (S.H + 1) (flat2 (lnk S.hb S.T 0) S.H ++ [.pointer none, .int .i64 ((S.T.length + 1 : Nat) : Int)])) (hg : W.grownBy W' S.hv.ownBlock) (hl : v.ownBlock = S.hv.ownBlock ∨ ∃ q, W.heap.size ≤ q ∧ v.ownBlock = some q) : Sk (W'.setCell ⟨S.hb, 3, none⟩ v) g (S.setH v (S.H + 1)) C n (lnk S.hb S.T) pv ∧ Moved W (W'.setCell ⟨S.hb, 3, none⟩ v) (sblk g S) (sblk g (S.setH v (S.H + 1))) := by
  have hot : ∀ q L t, Blk W q L t → t ≠ 112 → W'.heap[q]? = W.heap[q]? := fun q L t hb ht => hg.block q hb.lt (fun e => h.hrow.ne e.symm hb ht rfl)
  have hhd : Blk W' S.hb (headL S.hv) 63 := h.head.to (hot _ _ _ h.head (by decide))
  have ho := only_set W' S.hb 3 v
  have hrw : Rw W' v (S.H + 1) (lnk S.hb S.T 0) := by
    unfold Rw
    rw [flat2_succ, lnk_top htop]; exact hown
  have hrows : ∀ i (hi : i < S.T.length), W'.heap[S.T[i].k]? = W.heap[S.T[i].k]? := fun i hi => by
    obtain ⟨cur, hc⟩ := (h.row i hi).blk rfl
    refine hg.block _ (row_lt hc) (fun e => ?_)
    exact (List.nodup_append.1 h.ndK).2.2 S.T[i].k (by rw [← e]; simp) S.T[i].k (List.mem_map.2 ⟨_, List.getElem_mem hi, rfl⟩) rfl
  have hk2 : ∀ i (hi : i < S.T.length), S.T[i].k ≠ S.hb := fun i hi e => (h.row i hi).ne rfl h.head (by decide) e.symm
  refine ⟨⟨?_, hhd.set 3 v, ?_, fun i hi => ?_, fun i hi => ?_, h.ndB, ?_⟩, ⟨hg.os, hg.tape, hg.output, by rw [ho.size]; exact hg.size, fun q hq hn => ?_, fun q hq => ?_⟩⟩
  · exact (h.brd.to (hot _ _ _ h.brd (by decide))).to (ho.other _ (h.brd.ne h.head (by decide)))
  · exact hrw.to (fun K hK => ho.other _ (fun e => hrw.ne hK hhd (by decide) e.symm))
  · exact ((h.tow i hi).to (hot _ _ _ (h.tow i hi) (by decide))).to (ho.other _ (h.neH hi))
  · exact ((h.row i hi).to (fun K hK => by cases hK; exact hrows i hi)).to (fun K hK => by cases hK; exact ho.other _ (hk2 i hi))
  · show (v.ownBlock.toList ++ S.T.map Tw.k).Nodup
    rcases hl with e | ⟨q, hq, e⟩
    · rw [e]; exact h.ndK
    · rw [e]
      obtain ⟨n1, n2, n3⟩ := List.nodup_append.1 h.ndK
      refine List.nodup_cons.2 ⟨fun hm => ?_, n2⟩
      obtain ⟨t, ht, e2⟩ := List.mem_map.1 hm
      obtain ⟨i, hi, rfl⟩ := List.mem_iff_getElem.1 ht
      obtain ⟨cur, hc⟩ := (h.row i hi).blk rfl
      have h5 : S.T[i].k < W.heap.size := row_lt hc
      omega
  · unfold sblk at hn
    simp only [List.mem_cons, List.mem_append, not_or] at hn
    exact (ho.other q hn.2.1).trans (hg.block q hq (fun e => hn.2.2.1 (by rw [← e]; simp)))
  · unfold sblk at hq ⊢
    simp only [List.mem_cons, List.mem_append] at hq ⊢
    rcases hq with hq | hq | hq | hq
    · exact Or.inl (Or.inl hq)
    · exact Or.inl (Or.inr (Or.inl hq))
    · rcases hl with e | ⟨q', hq', e⟩
      · rw [e] at hq; exact Or.inl (Or.inr (Or.inr (Or.inl hq)))
      · rw [e] at hq
        simp at hq
        exact Or.inr (by omega)
    · exact Or.inl (Or.inr (Or.inr (Or.inr hq)))
end Go.Proofs.YtgbplghokciimaaDoor.I
