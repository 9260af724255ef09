import Derived.Test.YtnfbaeajalnmmaaGreatDoorFdA
import Derived.Test.YtnfbaeajalnmmaaGreatDoorShelf2
import Derived.Deep.RegionLaw
import Derived.Deep.RegionHeld3
import Derived.Lib.AppendStr
namespace Go.Proofs.YtnfbaeajalnmmaaGreatDoor
open Go.RowKit
set_option linter.unusedVariables false
set_option linter.unusedSimpArgs false
/-- the line that toEnd took. -/
theorem ended_line (q st held : Nat) (wv : Value) (more total size : Int) (b : Nat) (acc : SP.Bs) (P : Option Addr) (n c : Nat) (hle : acc.length = n) (hn : n ≤ 1073741824) (w : World) (h : PrR w q st held (.slice P n c) wv more total size) (ho : w.ownsRow b 5 1 (.slice P n c) n (bcells acc)) : Calls Tryz.prog 66 #[.pointer (some ⟨q, 0, none⟩)] w fun e w' => e = .returned (.string (strB (Lib.trimSuffix acc [13]))) ∧ PrR w' q st held (.slice P 0 c) wv more total size ∧ Only w w' q := by
  obtain ⟨c0, c1, c2, c3, c4, c5, c6, cf⟩ := h.cells
  have H : Hid _ := h
  have HTS : Hid _ := Tryz.strings_TrimSuffix (strB acc) ⟨#[13]⟩ w (by rw [strB_size]; omega)
  obtain ⟨P2, k2, hv2, hcv⟩ := own_text (l := acc) (by rw [hle]; exact ho)
  injection hv2 with q1 q2 q3
  subst q1; subst q3
  rw [hle] at hcv
  have hz : (0 : Int) ≤ (c : Int) := by omega
  clear h q2 hle
  go_enter Tryz.func66, Tryz.ntmps66
  go_wp2_with fail
  refine (show Calls _ _ _ _ _ from HTS.out).mono ?_
  rintro e w1 ⟨rfl, rfl⟩
  go_wp2
  go_returns
  exact ⟨by show Ending.returned (.string ⟨(Lib.trimSuffix (strB acc).data.toList [13]).toArray⟩) = _; rw [strB_list]; rfl, by unfold PrR; rw [heap_setCell_same _ _ _ _ _ _ H.out]; rfl, (Only.refl _ _).set _ _⟩
end Go.Proofs.YtnfbaeajalnmmaaGreatDoor
namespace Go.Proofs.YtnfbaeajalnmmaaGreatDoor
open Go.RowKit
set_option linter.unusedVariables false
set_option linter.unusedSimpArgs false
/-- a text behind bytes, in a region that draws. -/
theorem step_append_s {w : World} {ops : Array Oper} {o : Oper} {a : Act} {K : Act → World → Prop} {Q : Exit → Act → World → Prop} {E : Prop} (hg : o.guard = none) (s x : Operand)
    (hop : o.op = Op.call { callee := Callee.builtin Builtin.append, args := #[s, x], argTypes := #[50, 9] })
    (b : Nat) (v : Value) (n : Nat) (xs : List Value) (hs : a.eval s = v) (hown : w.ownsRow b 5 1 v n xs) (t : ByteArray) (hx : a.eval x = .string t) (hl : n + t.size ≤ 1099511627776) (hb : b ≤ w.heap.size)
    (h : ∀ v' w', w'.ownsRow b 5 1 v' (n + t.size) (xs ++ Lib.strCells t) → w.grownBy w' v.ownBlock → K (a.put o.dst v') w') :
    if Region.wanted o (yielded ops a.tmps) = true then Oper.wp Tryz.prog o a w K Q else E := by
  have hw : Region.wanted o (yielded ops a.tmps) = true := by simp [Region.wanted, hg]
  rw [if_pos hw]
  obtain ⟨i0, hi, hz0, hz1, hz2⟩ := info_parts info5
  obtain ⟨v', w', hrun, h2, h3, h4⟩ := Lib.run_append_own_string (P := Tryz.prog) w b 50 9 o.type 5 i0 Tryz.underlying50 (by kernel_rfl) hi hz0 hz1 hz2 v n xs hown t (by unfold maxLen; omega) (by omega) hb
  unfold Oper.wp
  simp [execOp, hop, resolve, invoke, builtin, hs, hx, hrun, Result.andThen]
  exact h v' w' h2 h3
end Go.Proofs.YtnfbaeajalnmmaaGreatDoor
namespace Go.Proofs.YtnfbaeajalnmmaaGreatDoor
open Go.RowKit
set_option linter.unusedVariables false
set_option linter.unusedSimpArgs false
/-- a parser as plain data. -/
structure PS where
  st : Nat
  held : Nat
  part : SP.Bs
  words : List SP.Bs
  more : Int
  total : Int
  size : Int
/-- a parser in memory, with its line or word and its words. -/
structure PA (B : Nat) (W : World) (q : Nat) (pv wv : Value) (S : PS) : Prop where
  row : PrR W q S.st S.held pv wv S.more S.total S.size
  po : W.ownsRow B 5 1 pv S.part.length (bcells S.part)
  wo : W.ownsRow B 9 1 wv S.words.length (strS S.words)
  lo : B ≤ q
/-- what a call on a parser does to memory. -/
structure Mv (w w' : World) (q : Nat) (pv wv pv' wv' : Value) : Prop where
  os : w'.os = w.os
  tape : w'.tape = w.tape
  output : w'.output = w.output
  size : w.heap.size ≤ w'.heap.size
  block : ∀ k, k < w.heap.size → k ≠ q → pv.ownBlock ≠ some k → wv.ownBlock ≠ some k → w'.heap[k]? = w.heap[k]?
  np : ∀ k, pv'.ownBlock = some k → pv.ownBlock = some k ∨ w.heap.size ≤ k
  nw : ∀ k, wv'.ownBlock = some k → wv.ownBlock = some k ∨ w.heap.size ≤ k
theorem Mv.refl (w : World) (q : Nat) (pv wv : Value) : Mv w w q pv wv pv wv := ⟨rfl, rfl, rfl, Nat.le_refl _, fun _ _ _ _ _ => rfl, fun _ h => Or.inl h, fun _ h => Or.inl h⟩
theorem Mv.trans {a b c : World} {q : Nat} {p v p1 v1 p2 v2 : Value} (h : Mv a b q p v p1 v1) (h' : Mv b c q p1 v1 p2 v2) : Mv a c q p v p2 v2 := by
  refine ⟨h'.os.trans h.os, h'.tape.trans h.tape, h'.output.trans h.output, Nat.le_trans h.size h'.size, ?_, ?_, ?_⟩
  · intro k hk hq hp hv
    refine (h'.block k (Nat.lt_of_lt_of_le hk h.size) hq (fun e => ?_) (fun e => ?_)).trans (h.block k hk hq hp hv)
    · rcases h.np k e with e2 | e2
      · exact hp e2
      · omega
    · rcases h.nw k e with e2 | e2
      · exact hv e2
      · omega
  · intro k e
    rcases h'.np k e with e2 | e2
    · exact h.np k e2
    · exact Or.inr (Nat.le_trans h.size e2)
  · intro k e
    rcases h'.nw k e with e2 | e2
    · exact h.nw k e2
    · exact Or.inr (Nat.le_trans h.size e2)
theorem mv_bel {w w' : World} {q : Nat} {pv wv : Value} (h : Below w.heap.size w w') : Mv w w' q pv wv pv wv := ⟨h.os, h.tape, h.output, h.size, fun k hk _ _ _ => h.block k hk, fun _ h => Or.inl h, fun _ h => Or.inl h⟩
theorem mv_only {w w' : World} {q : Nat} {pv wv pv' wv' : Value} (h : Only w w' q) (hp : pv'.ownBlock = pv.ownBlock) (hw : wv'.ownBlock = wv.ownBlock) : Mv w w' q pv wv pv' wv' :=
  ⟨h.os, h.tape, h.output, by rw [h.size]; exact Nat.le_refl _, fun k _ hk _ _ => h.other k hk, fun k e => Or.inl (by rw [← hp]; exact e), fun k e => Or.inl (by rw [← hw]; exact e)⟩
theorem own_ty {W : World} {b T n : Nat} {v : Value} {xs : List Value} (h : W.ownsRow b T 1 v n xs) (g : Nat) (hg : v.ownBlock = some g) : ∃ cur, W.heap[g]? = some (.cells cur T) := by
  rcases h.2 with ⟨rfl, _⟩ | ⟨g', cap, cur, rfl, _, hr, _⟩
  · cases hg
  · injection hg with hg
    subst hg
    exact ⟨cur, hr⟩
theorem PA.pq {B : Nat} {W : World} {q : Nat} {pv wv : Value} {S : PS} (h : PA B W q pv wv S) : pv.ownBlock ≠ some q := fun e => by
  obtain ⟨cur, hc⟩ := own_ty h.po q e
  have := h.row
  unfold PrR at this
  rw [this] at hc
  injection hc with hc
  injection hc with _ h2 _
  exact absurd h2 (by decide)
theorem PA.wq {B : Nat} {W : World} {q : Nat} {pv wv : Value} {S : PS} (h : PA B W q pv wv S) : wv.ownBlock ≠ some q := fun e => by
  obtain ⟨cur, hc⟩ := own_ty h.wo q e
  have := h.row
  unfold PrR at this
  rw [this] at hc
  injection hc with hc
  injection hc with _ h2 _
  exact absurd h2 (by decide)
theorem PA.pw {B : Nat} {W : World} {q : Nat} {pv wv : Value} {S : PS} (h : PA B W q pv wv S) (g : Nat) (hp : pv.ownBlock = some g) (hw : wv.ownBlock = some g) : False := by
  obtain ⟨cur, hc⟩ := own_ty h.po g hp
  obtain ⟨cur2, hc2⟩ := own_ty h.wo g hw
  rw [hc] at hc2
  injection hc2 with hc2
  injection hc2 with _ h2 _
  exact absurd h2 (by decide)
/-- a row that is kept where its block is. -/
theorem own_stays {W W' : World} {b T n : Nat} {v : Value} {xs : List Value} (h : W.ownsRow b T 1 v n xs) (hk : ∀ g, v.ownBlock = some g → W'.heap[g]? = W.heap[g]?) : W'.ownsRow b T 1 v n xs := by
  refine ⟨h.1, ?_⟩
  rcases h.2 with q | ⟨g, cap, cur, rfl, a1, hr, a2⟩
  · exact Or.inl q
  · exact Or.inr ⟨g, cap, cur, rfl, a1, by rw [hk g rfl]; exact hr, a2⟩
theorem PA.on {B : Nat} {W W' : World} {q : Nat} {pv wv : Value} {S : PS} (h : PA B W q pv wv S) (hb : Below W.heap.size W W') : PA B W' q pv wv S :=
  ⟨keep_row h.row hb, own_on h.po hb, own_on h.wo hb, h.lo⟩
/-- a call that writes into the parser's own cells alone. -/
theorem PA.cells {B : Nat} {W W' : World} {q : Nat} {pv wv : Value} {S S' : PS} (h : PA B W q pv wv S) (ho : Only W W' q) (hr : PrR W' q S'.st S'.held pv wv S'.more S'.total S'.size) (hp : S'.part = S.part) (hw : S'.words = S.words) : PA B W' q pv wv S' :=
  ⟨hr, by rw [hp]; exact own_stays h.po (fun g hg => ho.other g (fun e => h.pq (by rw [hg, e]))), by rw [hw]; exact own_stays h.wo (fun g hg => ho.other g (fun e => h.wq (by rw [hg, e]))), h.lo⟩
/-- a text behind bytes: where the row lies then. -/
theorem append_at (w : World) (b ty : Nat) (v : Value) (n : Nat) (xs : List Value) (hown : w.ownsRow b 5 1 v n xs) (s : ByteArray) (hl : n + s.size ≤ 1099511627776) (hb : b ≤ w.heap.size) :
    ∃ v' w', (Builtin.append_ #[50, 9] ty #[v, .string s]).run Tryz.prog w = .ok v' w' ∧ w'.ownsRow b 5 1 v' (n + s.size) (xs ++ Lib.strCells s) ∧ w.grownBy w' v.ownBlock ∧ (v'.ownBlock = v.ownBlock ∨ v'.ownBlock = some w.heap.size) := by
  obtain ⟨i0, hi, hz0, hz1, hz2⟩ := info_parts info5
  have hu : Tryz.prog.underlying 9 = some .string := by kernel_rfl
  obtain ⟨v', w', hr, ho, hg, h4⟩ := Lib.run_append_own_string (P := Tryz.prog) w b 50 9 ty 5 i0 Tryz.underlying50 hu hi hz0 hz1 hz2 v n xs hown s (by unfold maxLen; omega) (by omega) hb
  refine ⟨v', w', hr, ho, hg, ?_⟩
  rcases hown.2 with ⟨rfl, rfl⟩ | ⟨g, cap, cur, rfl, hbg, hgr, hnc, hcm, hcs, htake⟩
  · by_cases hm : s.size = 0
    · have := h4.2 ⟨rfl, hm⟩
      rw [this]; exact Or.inl rfl
    · have h2 := run_append_nil_string (P := Tryz.prog) w 50 9 ty 5 i0 (.int .u8 0) Tryz.underlying50 hu hi hz0 s (by omega) (by omega) (by rw [hz2]; omega)
      rw [h2] at hr
      injection hr with hr _
      rw [← hr]; exact Or.inr rfl
  · by_cases hroom : n + s.size ≤ cap
    · have h2 := Lib.run_append_room_string (P := Tryz.prog) w 50 9 ty 5 i0 Tryz.underlying50 hu hi hz1 g n cap cur hgr s hroom (by omega)
      rw [h2] at hr
      injection hr with hr _
      rw [← hr]; exact Or.inl rfl
    · have holds : ∀ j u, xs[j]? = some u → w.cell? ((⟨g, 0, none⟩ : Addr).add j) = some u := hown.cells (g := g) rfl
      have h2 := Lib.run_append_grow_string (P := Tryz.prog) w 50 9 ty 5 i0 (.int .u8 0) Tryz.underlying50 hu hi hz0 ⟨g, 0, none⟩ n cap xs (by rw [hz1]; simpa using hown.1) holds s (by omega) (by omega) (by rw [hz2]; exact growslice_fits (by omega) (by omega))
      rw [h2] at hr
      injection hr with hr _
      rw [← hr]; exact Or.inr rfl
/-- the present line or word grows. -/
theorem PA.app {B : Nat} {W W' : World} {q : Nat} {pv wv pv' : Value} {S : PS} {t : ByteArray} (h : PA B W q pv wv S) (ho : W'.ownsRow B 5 1 pv' (S.part.length + t.size) (bcells S.part ++ Lib.strCells t)) (hg : W.grownBy W' pv.ownBlock) (hat : pv'.ownBlock = pv.ownBlock ∨ pv'.ownBlock = some W.heap.size) :
    PrR W' q S.st S.held pv wv S.more S.total S.size ∧ PA B (W'.setCell ⟨q, 2, none⟩ pv') q pv' wv { S with part := S.part ++ t.data.toList } ∧ Mv W (W'.setCell ⟨q, 2, none⟩ pv') q pv wv pv' wv := by
  have hq : q < W.heap.size := row_lt h.row
  have hr : PrR W' q S.st S.held pv wv S.more S.total S.size := (hg.block q hq (fun e => h.pq e.symm)).trans h.row
  have hpq : ∀ g, pv'.ownBlock = some g → g ≠ q := fun g hg e => by
    rcases hat with e2 | e2
    · exact h.pq (by rw [← e2, hg, e])
    · rw [e2] at hg; injection hg with hg; omega
  have hwk : ∀ g, wv.ownBlock = some g → (W'.setCell ⟨q, 2, none⟩ pv').heap[g]? = W.heap[g]? := fun g hgw => by
    obtain ⟨cur, hc⟩ := own_ty h.wo g hgw
    rw [heap_setCell_other _ _ _ _ (fun e => h.wq (by rw [hgw]; exact congrArg some e))]
    exact hg.block g (row_lt hc) (fun e => h.pw g e.symm hgw)
  refine ⟨hr, ⟨?_, ?_, own_stays h.wo hwk, h.lo⟩, ⟨hg.os, hg.tape, hg.output, by rw [World.size_setCell]; exact hg.size, fun k hk hkq hp hv => (heap_setCell_other _ _ _ _ hkq).trans (hg.block k hk (fun e => hp e.symm)), ?_, fun k e => Or.inl e⟩⟩
  · unfold PrR at hr ⊢
    rw [heap_setCell_same _ _ _ _ _ _ hr]; rfl
  · have e1 : (S.part ++ t.data.toList).length = S.part.length + t.size := by rw [List.length_append, list_len]
    show World.ownsRow _ _ _ _ _ (S.part ++ t.data.toList).length (bcells (S.part ++ t.data.toList))
    rw [e1, bcells_str]
    exact own_stays ho (fun g hg2 => heap_setCell_other _ _ _ _ (hpq g hg2))
  · intro k e
    rcases hat with e2 | e2
    · exact Or.inl (by rw [← e2]; exact e)
    · rw [e2] at e; injection e with e; right; omega
theorem PA.lt {B : Nat} {W : World} {q : Nat} {pv wv : Value} {S : PS} (h : PA B W q pv wv S) : B ≤ W.heap.size := Nat.le_of_lt (Nat.lt_of_le_of_lt h.lo (row_lt h.row))
/-- what was there ahead of the parser stays. -/
theorem Mv.below {B : Nat} {W W' : World} {q : Nat} {pv wv pv' wv' : Value} {S : PS} (h : Mv W W' q pv wv pv' wv') (hp : PA B W q pv wv S) : Below B W W' :=
  ⟨h.os, h.tape, h.output, h.size, fun k hk => h.block k (Nat.lt_of_lt_of_le hk hp.lt) (fun e => by have := hp.lo; omega) (fun e => by have := own_block hp.po k e; omega) (fun e => by have := own_block hp.wo k e; omega)⟩
end Go.Proofs.YtnfbaeajalnmmaaGreatDoor
