import Derived.Test.YtlheilkofibogaaGreatQBK
namespace Go.Proofs.YtlheilkofibogaaGreat
open Go.RowKit Go.Maps
set_option linter.unusedVariables false
set_option linter.unusedSimpArgs false
theorem Holds.to3 {W W' : World} {F : Fs} {q : Pq} (h : Holds W F q) (hk : ∀ (k : Nat) (cs : Array Value) (t : Nat) (fz : Nat × Nat), W.heap[k]? = some (.cells cs t fz) → t = 3 ∨ t = 29 → W'.heap[k]? = W.heap[k]?) : Holds W' F q := by
  refine ⟨fun hc => ?_, fun hc => ?_⟩
  · obtain ⟨h1, v, h2, h4⟩ := h.cr hc
    refine ⟨h1, v, (hk _ _ _ _ h2 (Or.inr rfl)).trans h2, own_to h4 (fun k hk' => ?_)⟩
    obtain ⟨cur, hc⟩ := own_type h4 hk'
    exact hk _ _ _ _ hc (Or.inl rfl)
  · obtain ⟨p, h1, h2⟩ := h.fl hc
    exact ⟨p, (hk _ _ _ _ h1 (Or.inl rfl)).trans h1, h2⟩
/-- Behind a store to one block that is no file system's. -/
theorem FsP.one {W W' : World} {g r : Nat} {X : Gh} {F : Fs} {cs : Array Value} {t : Nat} (h : FsP W g X F) (hm : ModP (fun k => k = r) W W') (hr : W.heap[r]? = some (.cells cs t)) (h1 : ¬ tyOwn t) (h2 : t ≠ 3) (h3 : t ≠ 29) : FsP W' g X F := by
  refine ⟨h.toFsC.mod hm (fun k e hk => ?_), h.pln, fun q hq => (h.hld q hq).to3 (fun k cs' t' fz hk ht => hm.oth k (row_lt hk) (fun e => ?_))⟩
  · subst e
    exact h1 (h.own_ty hk hr)
  · rw [e, hr] at hk
    injection hk with hk
    injection hk with _ h6 _
    rcases ht with ht | ht
    · exact h2 (h6.trans ht)
    · exact h3 (h6.trans ht)
theorem St.one {w0 W W' : World} {g i r : Nat} {X : Gh} {F : Fs} {cs : Array Value} {t : Nat} (h : St w0 W g X F i) (hm : ModP (fun k => k = r) W W') (hr : W.heap[r]? = some (.cells cs t)) (h1 : ¬ tyOwn t) (h2 : t ≠ 3) (h3 : t ≠ 29) (hb : w0.heap.size ≤ r) : St w0 W' g X F i :=
  ⟨⟨h.fs.one hm hr h1 h2 h3, h.q, h.bel.trans (hm.bel (fun k hk e => by omega) h.bel.size), h.own⟩, h.st, h.fi, h.ch, h.pk⟩
/-- Where a law stands that plays both: the document's state lies in the variable r. -/
structure Pl (w0 W : World) (g : Nat) (X : Gh) (F : Fs) (i : Nat) (Fd : Fs) (V : FV) (r : Nat) : Prop where
  dv : Dv w0 W g X F i Fd V
  ro : W.heap[r]? = some (.cells (fsC Fd V) 31)
  rv : Av (fun k => k = r) Fd V
  iv : Iv F i
  rb : w0.heap.size ≤ r
theorem Pl.on {w0 W W' : World} {g i r : Nat} {X : Gh} {F Fd : Fs} {V : FV} (h : Pl w0 W g X F i Fd V r) (hb : Below W.heap.size W W') : Pl w0 W' g X F i Fd V r := ⟨h.dv.on hb, keep_row h.ro hb, h.rv, h.iv, h.rb⟩
theorem ref_own {W : World} {g r : Nat} {X : Gh} {F : Fs} {C : Array Value} (h : FsC W g X F) (hr : W.heap[r]? = some (.cells C 31)) : ¬ Own g F X r := fun ho => by
  have := h.own_ty ho hr
  exact absurd this (by unfold tyOwn; decide)
theorem Pl.bec {w0 W W' : World} {g i k r : Nat} {X X' : Gh} {F F' Fd : Fs} {V : FV} (h : Pl w0 W g X F i Fd V r) (hd : Dv w0 W' g X' F' k Fd V) (hb : Bec W g X F W' X' F') (hi : Iv F' k) : Pl w0 W' g X' F' k Fd V r :=
  ⟨hd, hb.md.row h.ro (ref_own h.dv.st.fs.toFsC h.ro), h.rv, hi, h.rb⟩
theorem Pl.clone {w0 W W' : World} {g gl i r : Nat} {X Xg : Gh} {F Fd : Fs} {V : FV} (h : Pl w0 W g X F i Fd V r) (hd : Dv w0 W' gl Xg F i Fd V) (hb : Below W.heap.size W W') : Pl w0 W' gl Xg F i Fd V r := ⟨hd, keep_row h.ro hb, h.rv, h.iv, h.rb⟩
/-- The document's answer is stored in the variable. -/
theorem Pl.put {w0 W W2 W3 : World} {g i r : Nat} {X : Gh} {F Fd Fd' : Fs} {V V' : FV} (h : Pl w0 W g X F i Fd V r) (hM : Made Fd V W Fd' V' W2) (hm : ModP (fun k => k = r) W2 W3) (hr : W3.heap[r]? = some (.cells (fsC Fd' V') 31)) : Pl w0 W3 g X F i Fd' V' r := by
  have h2 := h.dv.made hM
  have hr2 := keep_row h.ro hM.bel
  have hv := hM.av _ (fun k e => by have := row_lt h.ro; omega) h.rv
  exact ⟨⟨h2.st.one hm hr2 (by unfold tyOwn; decide) (by decide) (by decide) h.rb, h2.dc.modP hm hv, h2.av⟩, hr, hv, h.iv, h.rb⟩
theorem Made.after {s s' : Fs} {V V' : FV} {w w2 w3 : World} (hM : Made s V w s' V' w2) (hb : Below w2.heap.size w2 w3) : Made s V w s' V' w3 := ⟨hM.at_.on hb, hM.bel.trans (hb.mono hM.bel.size), hM.av⟩
theorem Mod.modP {b : Nat} {w w' : World} (h : Mod b w w') : ModP (fun k => k = b) w w' := ⟨h.os, h.tape, h.output, h.size, fun k hk hn => h.oth k hk hn⟩
theorem newAt (W : World) : FsAt newM nilV W := ⟨KR.nil, KR.nil, KR.nil, KR.nil, KR.nil, KR.nil⟩
theorem newAv (S : Nat → Prop) : Av S newM nilV := ⟨fun h => absurd rfl h, fun h => absurd rfl h, fun h => absurd rfl h, fun h => absurd rfl h, fun h => absurd rfl h, fun h => absurd rfl h⟩
theorem Pl.new {w0 W : World} {g r : Nat} {X : Gh} (h : St w0 W g X newM 0) (hr : W.heap[r]? = some (.cells (fsC newM nilV) 31)) (hb : w0.heap.size ≤ r) : Pl w0 W g X newM 0 newM nilV r :=
  ⟨⟨h, newAt W, newAv _⟩, hr, newAv _, Iv.new, hb⟩
end Go.Proofs.YtlheilkofibogaaGreat
namespace Go.Proofs.YtlheilkofibogaaGreat
open Go.RowKit Go.Maps
set_option linter.unusedVariables false
set_option linter.unusedSimpArgs false
/-- What the first k calls of a script make of a state. -/
def runM (F : Fs) (os : Nat → Po) : Nat → Fs
  | 0 => F
  | k + 1 => (doneM (runM F os k) (os k)).1
theorem own_mod {w0 W : World} {g i : Nat} {X : Gh} {F : Fs} (h : St w0 W g X F i) {q : Nat} (hq : Own g F X q) : q < W.heap.size := h.fs.own_lt hq
theorem Dv.one {w0 W W' : World} {g i r : Nat} {X : Gh} {F Fd : Fs} {V : FV} {cs : Array Value} {t : Nat} (h : Dv w0 W g X F i Fd V) (hm : ModP (fun k => k = r) W W') (hr : W.heap[r]? = some (.cells cs t)) (h1 : ¬ tyOwn t) (h2 : t ≠ 3) (h3 : t ≠ 29) (hb : w0.heap.size ≤ r) (hv : Av (fun k => k = r) Fd V) : Dv w0 W' g X F i Fd V :=
  ⟨h.st.one hm hr h1 h2 h3 hb, h.dc.modP hm hv, h.av⟩
/-- Two file systems of the program, apart, and the document's state beside both. -/
structure Ap (w0 W : World) (g gl : Nat) (X Xg : Gh) (F Fg : Fs) (i j : Nat) (Fd : Fs) (V : FV) (r : Nat) : Prop where
  p : Pl w0 W g X F i Fd V r
  t : St w0 W gl Xg Fg j
  ti : Iv Fg j
  tv : Av (Own gl Fg Xg) Fd V
  d1 : ∀ q, Own gl Fg Xg q → ¬ Own g F X q
theorem Ap.on {w0 W W' : World} {g gl i j r : Nat} {X Xg : Gh} {F Fg Fd : Fs} {V : FV} (h : Ap w0 W g gl X Xg F Fg i j Fd V r) (hb : Below W.heap.size W W') : Ap w0 W' g gl X Xg F Fg i j Fd V r := ⟨h.p.on hb, h.t.on hb, h.ti, h.tv, h.d1⟩
/-- A call of the clone. -/
theorem Ap.becG {w0 W W' : World} {g gl i j k r : Nat} {X Xg Xg' : Gh} {F Fg Fg' Fd : Fs} {V : FV} (h : Ap w0 W g gl X Xg F Fg i j Fd V r) (hs : St w0 W' gl Xg' Fg' k) (hb : Bec W gl Xg Fg W' Xg' Fg') (hi : Iv Fg' k) : Ap w0 W' g gl X Xg' F Fg' i k Fd V r := by
  obtain ⟨h1, h2⟩ := h.t.aside hs hb h.p.dv.st (fun q hq ho => h.d1 q ho hq)
  exact ⟨⟨⟨h1, h.p.dv.dc.modP hb.md h.tv, h.p.dv.av⟩, hb.md.row h.p.ro (ref_own h.t.fs.toFsC h.p.ro), h.p.rv, h.p.iv, h.p.rb⟩, hs, hi, h.tv.or h.p.dv.dc.av (fun q hq => hb.own q hq), fun q hq ho => h2 q ho hq⟩
/-- A call of the first one. -/
theorem Ap.becF {w0 W W' : World} {g gl i j k r : Nat} {X X' Xg : Gh} {F F' Fg Fd : Fs} {V : FV} (h : Ap w0 W g gl X Xg F Fg i j Fd V r) (hd : Dv w0 W' g X' F' k Fd V) (hb : Bec W g X F W' X' F') (hi : Iv F' k) : Ap w0 W' g gl X' Xg F' Fg k j Fd V r := by
  obtain ⟨h1, h2⟩ := h.p.dv.st.aside hd.st hb h.t h.d1
  exact ⟨h.p.bec hd hb hi, h1, h.ti, h.tv, h2⟩
/-- The document's answer is stored in its variable. -/
theorem Ap.put {w0 W W2 W3 : World} {g gl i j r : Nat} {X Xg : Gh} {F Fg Fd Fd' : Fs} {V V' : FV} (h : Ap w0 W g gl X Xg F Fg i j Fd V r) (hM : Made Fd V W Fd' V' W2) (hm : ModP (fun k => k = r) W2 W3) (hr : W3.heap[r]? = some (.cells (fsC Fd' V') 31)) : Ap w0 W3 g gl X Xg F Fg i j Fd' V' r :=
  ⟨h.p.put hM hm hr, (h.t.on hM.bel).one hm (keep_row h.p.ro hM.bel) (by unfold tyOwn; decide) (by decide) (by decide) h.p.rb, h.ti, hM.av _ (fun k hk => h.t.fs.own_lt hk) h.tv, h.d1⟩
/-- A store to a block of another type. -/
theorem Ap.one {w0 W W' : World} {g gl i j r b : Nat} {X Xg : Gh} {F Fg Fd : Fs} {V : FV} {cs : Array Value} {t : Nat} (h : Ap w0 W g gl X Xg F Fg i j Fd V r) (hm : ModP (fun k => k = b) W W') (hr : W.heap[b]? = some (.cells cs t)) (h1 : ¬ tyOwn t) (h2 : t ≠ 3) (h3 : t ≠ 29) (h4 : t ≠ 31) (hb : w0.heap.size ≤ b) (hv : Av (fun k => k = b) Fd V) : Ap w0 W' g gl X Xg F Fg i j Fd V r :=
  ⟨⟨h.p.dv.one hm hr h1 h2 h3 hb hv, hm.row h.p.ro (fun e => by
    have h5 := h.p.ro
    rw [e, hr] at h5
    injection h5 with h5
    injection h5 with _ h6 _
    exact h4 h6), h.p.rv, h.p.iv, h.p.rb⟩, h.t.one hm hr h1 h2 h3 hb, h.ti, h.tv, h.d1⟩
theorem clone_ap {w0 W : World} {g i r : Nat} {X : Gh} {F Fd : Fs} {V : FV} (h : Pl w0 W g X F i Fd V r) (hi : i < 3298534883328) : Calls Tryz.prog 9 #[ptr (some g)] W fun e w' => ∃ gl Xg, e = .returned (ptr (some gl)) ∧ Ap w0 w' g gl X Xg F F i i Fd V r ∧ Below W.heap.size W w' := by
  refine (Clone_any g X F W h.dv.st.fs (h.dv.st.sm hi)).mono ?_
  rintro e w' ⟨gl, Xg, rfl, h1, h2, h3, h4⟩
  have hb : Below W.heap.size W w' := ⟨h2.os, h2.tape, h2.output, h2.size, fun q hq => h2.oth q hq (fun e => e)⟩
  have hg := h.dv.st.on hb
  refine ⟨gl, Xg, rfl, ⟨h.on hb, ⟨⟨h1, by rw [h4]; exact h.dv.st.q, hg.bel, fun q hq => by have := h3 q hq; have := h.dv.st.bel.size; omega⟩, h.dv.st.st, h.dv.st.fi, h.dv.st.ch, h.dv.st.pk⟩, h.iv, h.dv.dc.av.weak h3, fun q hq ho => ?_⟩, hb⟩
  have := h3 q hq
  have := h.dv.st.fs.own_lt ho
  omega
theorem done_apG {w0 W : World} {g gl i j r : Nat} {X Xg : Gh} {F Fg Fd : Fs} {V : FV} {o : Po} {pv : Value} {C : Array Value} (h : Ap w0 W g gl X Xg F Fg i j Fd V r) (hj : j < 3298534883328) (hC : C = opArr o pv) (ok : PoOk o) (hv : Pks W (Own gl Fg Xg) pv o.p) :
    Calls Tryz.prog 10 #[ptr (some gl), .agg C] W fun e w' => e = .returned (.int .i64 (doneM Fg o).2) ∧ ∃ Xg', Ap w0 w' g gl X Xg' F (doneM Fg o).1 i (j + 1) Fd V r ∧ Below w0.heap.size w0 w' := by
  refine (done_bc h.t hj hC ok hv).mono ?_
  rintro e w' ⟨rfl, X', hs, hB⟩
  exact ⟨rfl, X', h.becG hs hB (iv_done h.ti o), hs.bel⟩
theorem done_apF {w0 W : World} {g gl i j r : Nat} {X Xg : Gh} {F Fg Fd : Fs} {V : FV} {o : Po} {pv : Value} {C : Array Value} (h : Ap w0 W g gl X Xg F Fg i j Fd V r) (hj : i < 3298534883328) (hC : C = opArr o pv) (ok : PoOk o) (hv : Pks W (Own g F X) pv o.p) :
    Calls Tryz.prog 10 #[ptr (some g), .agg C] W fun e w' => e = .returned (.int .i64 (doneM F o).2) ∧ ∃ X', Ap w0 w' g gl X' Xg (doneM F o).1 Fg (i + 1) j Fd V r ∧ Below w0.heap.size w0 w' := by
  refine (done_dv h.p.dv hj hC ok hv).mono ?_
  rintro e w' ⟨rfl, X', hs, hB⟩
  exact ⟨rfl, X', h.becF hs hB (iv_done h.p.iv o), hs.st.bel⟩
theorem done_pl {w0 W : World} {g i r : Nat} {X : Gh} {F Fd : Fs} {V : FV} {o : Po} {pv : Value} {C : Array Value} (h : Pl w0 W g X F i Fd V r) (hj : i < 3298534883328) (hC : C = opArr o pv) (ok : PoOk o) (hv : Pks W (Own g F X) pv o.p) :
    Calls Tryz.prog 10 #[ptr (some g), .agg C] W fun e w' => e = .returned (.int .i64 (doneM F o).2) ∧ ∃ X', Pl w0 w' g X' (doneM F o).1 (i + 1) Fd V r ∧ Below w0.heap.size w0 w' := by
  refine (done_dv h.dv hj hC ok hv).mono ?_
  rintro e w' ⟨rfl, X', hs, hB⟩
  exact ⟨rfl, X', h.bec hs hB (iv_done h.iv o), hs.st.bel⟩
/-- The document's call, wherever the state lies. -/
theorem meant_pl {W : World} {N G q : Nat} {F F' : Fs} {V : FV} {o : Po} {pv : Value} {C C0 : Array Value} {rr : Int} (hbd : Bd F) (hfd : ∀ n, findM F.dir n < (F.files.length : Int)) (hfa : F.fails.length ≤ 8796093022000) (hdc : FsAt F V W) (hd : doneM F o = (F', rr)) (hC : C = opArr o pv) (hC0 : C0 = fsC F V) (hop : OpA N W G q o pv) :
    ∀ W', Below W.heap.size W W' → Calls Tryz.prog 11 #[.agg C0, .agg C] W' fun e w' => ∃ V' C1, C1 = fsC F' V' ∧ e = .returned (.tuple #[.agg C1, .int .i64 rr]) ∧ Made F V W' F' V' w' := fun W' hb => by
  have hkr := hop.kr.on hb
  have := meant_any F V o hop.ok pv hbd hfd hfa W' (hdc.on hb) hkr
  rw [hd] at this
  subst hC hC0
  refine Calls.mono this ?_
  rintro e w' ⟨V', rfl, hM⟩
  exact ⟨V', _, rfl, rfl, hM⟩
theorem ylO {ops : Array Oper} {S : World → Prop} {op : Oper} {a : Act} (C : Array Value) (g q : Nat) (x : Operand) (ho : op.op = .load 36 x) (hx : a.eval x = .pointer (some ⟨g, q, none⟩)) (hS : ∀ w, S w → w.rangeAt g q C.toList) (h7 : C.size = 7) (hw : Region.wanted op (yielded ops a.tmps) = true := by rfl) : YieldsIf Tryz.prog ops S op (.agg C) a := by
  have := yieldsIf_load_mid (P := Tryz.prog) (ops := ops) (S := S) (a := a) hw 36 x ho g q hx C.toList _ hS Tryz.underlying36 rfl (by rw [Array.length_toList, h7]; exact szO)
  rw [Array.toArray_toList] at this
  exact this
theorem rdA {ops : Array Oper} {op : Oper} {a : Act} {w : World} {K : Act → World → Prop} {Q : Exit → Act → World → Prop} (Z : Array Value) (hw : Region.wanted op (yielded ops a.tmps) = true) (ho : op.op = .alloc 31) (hZ : Z = zF) (h : K (a.put op.dst (.pointer (some ⟨w.heap.size, 0, none⟩))) (w.alloc (.cells Z 31))) :
    if Region.wanted op (yielded ops a.tmps) = true then Oper.wp Tryz.prog op a w K Q else K (a.put op.dst undef) w := by
  rw [if_pos hw]
  subst hZ
  unfold Oper.wp
  have : (execOp a.eval op).run Tryz.prog w = .ok (.value (.pointer (some ⟨w.heap.size, 0, none⟩))) (w.alloc (.cells zF 31)) := by
    unfold execOp
    rw [ho]
    kernel_rfl
  rw [this]
  exact h
theorem range_row {W : World} {r t : Nat} {C : Array Value} (h : W.heap[r]? = some (.cells C t)) : W.rangeAt r 0 C.toList := fun j v hv => by rw [cell_of_row _ _ _ _ _ _ h]; simpa using hv
theorem OpA.range {N : Nat} {W : World} {g q : Nat} {o : Po} {pv : Value} {C : Array Value} (h : OpA N W g q o pv) (hC : C = opArr o pv) : W.rangeAt g q C.toList := by subst hC; exact fun j v hv => h.cells j v hv
theorem FsP.atS {W W' : World} {S : Nat → Prop} {g : Nat} {X : Gh} {F : Fs} (h : FsP W g X F) (hm : ModP S W W') (hS : ∀ k, S k → ¬ Own g F X k) (hT : ∀ (k : Nat) (cs : Array Value) (t : Nat) (fz : Nat × Nat), S k → W.heap[k]? = some (.cells cs t fz) → t ≠ 3 ∧ t ≠ 29) : FsP W' g X F := by
  refine ⟨h.toFsC.mod hm hS, h.pln, fun q hq => (h.hld q hq).to3 (fun k cs' t' fz hk ht => hm.oth k (row_lt hk) (fun hs => ?_))⟩
  obtain ⟨h1, h2⟩ := hT k _ _ _ hs hk
  rcases ht with ht | ht
  · exact h1 ht
  · exact h2 ht
theorem St.atS {w0 W W' : World} {S : Nat → Prop} {g i : Nat} {X : Gh} {F : Fs} (h : St w0 W g X F i) (hm : ModP S W W') (hS : ∀ k, S k → ¬ Own g F X k) (hT : ∀ (k : Nat) (cs : Array Value) (t : Nat) (fz : Nat × Nat), S k → W.heap[k]? = some (.cells cs t fz) → t ≠ 3 ∧ t ≠ 29) (hb : ∀ k, S k → w0.heap.size ≤ k) : St w0 W' g X F i :=
  ⟨⟨h.fs.atS hm hS hT, h.q, h.bel.trans (hm.bel (fun k hk e => by have := hb k e; omega) h.bel.size), h.own⟩, h.st, h.fi, h.ch, h.pk⟩
theorem own_mono {w : World} {b b' e k n : Nat} {v : Value} {xs : List Value} (h : w.ownsRow b e k v n xs) (hb : b' ≤ b) : w.ownsRow b' e k v n xs := by
  obtain ⟨h0, h1 | ⟨g, cap, cur, h1, h2, r⟩⟩ := h
  · exact ⟨h0, Or.inl h1⟩
  · exact ⟨h0, Or.inr ⟨g, cap, cur, h1, Nat.le_trans hb h2, r⟩⟩
/-- A row of the law's own, apart from both file systems and from the document's state. -/
structure Rw (w0 W : World) (g gl : Nat) (X Xg : Gh) (F Fg Fd : Fs) (V : FV) (T k : Nat) (v : Value) (n : Nat) : Prop where
  ro : ∃ xs, W.ownsRow w0.heap.size T k v n xs
  no : ∀ q, v.ownBlock = some q → ¬ Own g F X q ∧ ¬ Own gl Fg Xg q
  av : Av (fun q => v.ownBlock = some q) Fd V
theorem Rw.keep {w0 W W' : World} {S : Nat → Prop} {g gl : Nat} {X Xg : Gh} {F Fg Fd : Fs} {V : FV} {T k n : Nat} {v : Value} (h : Rw w0 W g gl X Xg F Fg Fd V T k v n) (hm : ModP S W W') (hd : ∀ q, v.ownBlock = some q → ¬ S q) : Rw w0 W' g gl X Xg F Fg Fd V T k v n := by
  obtain ⟨xs, ho⟩ := h.ro
  exact ⟨⟨xs, own_to ho (fun q hq => hm.oth q (own_lt ho hq) (hd q hq))⟩, h.no, h.av⟩
theorem Rw.on {w0 W W' : World} {g gl : Nat} {X Xg : Gh} {F Fg Fd : Fs} {V : FV} {T k n : Nat} {v : Value} (h : Rw w0 W g gl X Xg F Fg Fd V T k v n) (hb : Below W.heap.size W W') : Rw w0 W' g gl X Xg F Fg Fd V T k v n := h.keep (ModP.below (S := fun _ => False) hb) (fun _ _ q => q)
/-- A row that is new. -/
theorem Rw.new {w0 W W' : World} {g gl i j r T k n : Nat} {X Xg : Gh} {F Fg Fd : Fs} {V : FV} {v : Value} {xs : List Value} (h : Ap w0 W g gl X Xg F Fg i j Fd V r) (ho : W'.ownsRow W.heap.size T k v n xs) : Rw w0 W' g gl X Xg F Fg Fd V T k v n :=
  ⟨⟨xs, own_mono ho h.t.bel.size⟩, fun q hq => by
    have h1 := (World.ownsRow.lt ho q hq).1
    exact ⟨fun h2 => by have := h.p.dv.st.fs.own_lt h2; omega, fun h2 => by have := h.t.fs.own_lt h2; omega⟩, h.p.dv.dc.av.weak (fun q hq => (World.ownsRow.lt ho q hq).1)⟩
theorem Ap.row {w0 W W' : World} {g gl i j r T k n : Nat} {X Xg : Gh} {F Fg Fd : Fs} {V : FV} {v : Value} (h : Ap w0 W g gl X Xg F Fg i j Fd V r) (hr : Rw w0 W g gl X Xg F Fg Fd V T k v n) (hm : ModP (fun q => v.ownBlock = some q) W W') (h2 : T ≠ 3) (h3 : T ≠ 29) (h4 : T ≠ 31) : Ap w0 W' g gl X Xg F Fg i j Fd V r := by
  obtain ⟨xs, ho⟩ := hr.ro
  have hT : ∀ (k : Nat) (cs : Array Value) (t : Nat) (fz : Nat × Nat), v.ownBlock = some k → W.heap[k]? = some (.cells cs t fz) → t ≠ 3 ∧ t ≠ 29 := fun k cs t fz hk hc => by
    obtain ⟨cu, h5⟩ := own_type ho hk
    rw [hc] at h5
    injection h5 with h5
    injection h5 with _ h6 _
    rw [h6]
    exact ⟨h2, h3⟩
  have hlo : ∀ q, v.ownBlock = some q → w0.heap.size ≤ q := fun q hq => (World.ownsRow.lt ho q hq).1
  refine ⟨⟨⟨h.p.dv.st.atS hm (fun q hq => (hr.no q hq).1) hT hlo, h.p.dv.dc.modP hm hr.av, h.p.dv.av⟩, hm.row h.p.ro (fun e => ?_), h.p.rv, h.p.iv, h.p.rb⟩, h.t.atS hm (fun q hq => (hr.no q hq).2) hT hlo, h.ti, h.tv, h.d1⟩
  obtain ⟨cu, h5⟩ := own_type ho e
  rw [h.p.ro] at h5
  injection h5 with h5
  injection h5 with _ h6 _
  exact h4 h6.symm
theorem Ap.gdv {w0 W : World} {g gl i j r : Nat} {X Xg : Gh} {F Fg Fd : Fs} {V : FV} (h : Ap w0 W g gl X Xg F Fg i j Fd V r) : Dv w0 W gl Xg Fg j Fd V := ⟨h.t, h.p.dv.dc, h.tv⟩
theorem made_a {F F' : Fs} {V V' : FV} {W wu W6 : World} {Z : Array Value} (hM : Made F V W F' V' wu) (hm : Mod wu.heap.size (wu.alloc (.cells Z 31)) W6) : Made F V W F' V' W6 :=
  hM.after (((Below.refl _ wu).alloc (Nat.le_refl _) _).trans (hm.below (Nat.le_refl _) (by simp [World.size_alloc])))
theorem made_b {F F' : Fs} {V V' : FV} {W wu W6 : World} {Z : Array Value} (hdc : FsAt F V W) (hM : Made F V (W.alloc (.cells Z 31)) F' V' wu) (hm : Mod W.heap.size wu W6) : Made F V W F' V' W6 := by
  have hs : (W.alloc (.cells Z 31)).heap.size = W.heap.size + 1 := by simp [World.size_alloc]
  have hb := hM.bel
  rw [hs] at hb
  refine ⟨hM.at_.mod hm (hM.av (fun k => k = W.heap.size) (fun k e => by rw [hs]; omega) (hdc.av.weak (fun k e => by omega))), ((Below.refl _ W).alloc (Nat.le_refl _) _).trans ((hb.mono (by omega)).trans (hm.below (Nat.le_refl _) (by have := hb.size; rw [hs] at this; omega))), fun S hS ha => hM.av S (fun k hk => by have := hS k hk; rw [hs]; omega) ha⟩
theorem szPr : (Tryz.prog.info? 48).map (·.size) = some 2 := by kernel_rfl
/-- A pair is stored into a row of the law's own. -/
theorem stP2 {ops : Array Oper} {rest : List Oper} {op : Oper} {a : Act} {w : World} {Q : Exit → Act → World → Prop} (hg : op.guard = none) (x y : Operand) (ho : op.op = .store 48 x y) (g o0 q n c base : Nat) (A B : Value) (xs : List Value) (h0 : o0 = 0) (hx : a.eval x = .pointer (some ⟨g, o0 + q * 2, none⟩)) (hy : a.eval y = .agg #[A, B]) (hA : A.oneCell' = true) (hB : B.oneCell' = true) (hrow : w.ownsRow base 48 2 (.slice (some ⟨g, o0, none⟩) n c) n xs) (hq : q < n) (h : ∀ W, (∃ ys, W.ownsRow base 48 2 (.slice (some ⟨g, o0, none⟩) n c) n ys) → ModP (fun k => k = g) w W → wpList Tryz.prog ops Q rest (a.put op.dst undef) W) : wpList Tryz.prog ops Q (op :: rest) a w := by
  subst h0
  have hl := hrow.1
  have s1 := hrow.stored (0 + q * 2) A
  have s2 := s1.1.stored (0 + q * 2 + 1) B
  refine wpList_store_mid hg 48 x y ho g (0 + q * 2) #[A, B] hx hy (fun j hj => ⟨?_, hrow.frozenAt _⟩) szPr (by simp [hA, hB]) ?_
  · have hj' : j < 2 := hj
    rw [hrow.cellAt _ (by omega), List.getElem?_eq_getElem (by omega)]
    rfl
  · exact h _ ⟨_, s2.1⟩ ((ModP.grown s1.2 (fun b hb => by injection hb with hb; exact hb.symm)).trans (ModP.grown s2.2 (fun b hb => by injection hb with hb; exact hb.symm)))
/-- append(own, one), the one laid into a block of its own just ahead; what the row holds is of no matter. -/
theorem wpList_oneG {α : Type} {E : ET α} (ok : ETok E) {w : World} {ops : Array Oper} {rest : List Oper} {o : Oper} {a : Act} {Q' : Exit → Act → World → Prop} (cs : Array Value) (x1 : α) (hcs : cs.toList = E.enc x1) (hg : o.guard = none) (s x : Operand)
    (hop : o.op = Op.call { callee := Callee.builtin Builtin.append, args := #[s, x], argTypes := #[E.ST, E.ST] })
    (base : Nat) (v : Value) (xs : List Value) (n N : Nat) (hN : N = n + 1) (hs : a.eval s = v) (hown : w.ownsRow base E.T E.k v n xs) (hx : a.eval x = .slice (some ⟨w.heap.size, 0, none⟩) 1 1)
    (hl : n + 1 ≤ maxLen) (hby : (n + 1) * E.by_ ≤ 140737488355328) (hb : base ≤ w.heap.size)
    (h : ∀ P c w', ModP (fun q => v.ownBlock = some q) w w' → wpList Tryz.prog ops Q' rest (a.put o.dst (.slice P N c)) w') :
    wpList Tryz.prog ops Q' (o :: rest) a (w.alloc (.cells cs E.T)) := by
  subst hN
  have hb2 : Below w.heap.size w (w.alloc (.cells cs E.T)) := (Below.refl _ _).alloc (Nat.le_refl _) _
  have hx2 := one_alloc w (.cells cs E.T)
  have hown2 := own_keep hown (fun q _ hq => hb2.block q hq)
  obtain ⟨i0, hi, hz0, hz1, hz2⟩ := info_of ok.inf
  refine wpList_append_own (w.alloc (.cells cs E.T)) hg s x E.ST hop base E.T i0 E.z E.k E.by_ ok.und hi hz0 hz1 hz2 ok.zc ok.kp v n xs hs hown2 ⟨w.heap.size, 0, none⟩ 1 1 (E.fl [x1]) hx (ET.fl_len ok [x1]) ?_ (ET.fl_one ok [x1]) hl hby (Nat.le_trans hb hb2.size) ?_
  · intro j u hu
    rw [Lib.add_plain, cell_of_row _ _ _ _ _ _ hx2, Nat.zero_add]
    have : (E.fl [x1]) = cs.toList := by simp [ET.fl, hcs]
    rw [this] at hu
    simpa using hu
  · intro v' w' ho hgw _
    obtain ⟨P, c, rfl⟩ := own_form ho
    exact h P c w' ((ModP.below hb2).trans (ModP.grown hgw (fun b hb => hb)))
theorem now_new {w0 W : World} {g gl i j r n : Nat} {X Xg : Gh} {F Fg Fd : Fs} {V : FV} (h : Ap w0 W g gl X Xg F Fg i j Fd V r) (hn : F.dir.length = n) : Calls Tryz.prog 12 #[ptr (some g)] W fun e w' => ∃ P c, e = .returned (.slice P n c) ∧ Rw w0 w' g gl X Xg F Fg Fd V 48 2 (.slice P n c) n ∧ (∀ q, (Value.slice P n c).ownBlock = some q → W.heap.size ≤ q) ∧ Below W.heap.size W w' := by
  refine (Now_any g X F W h.p.dv.st.fs).mono ?_
  rintro e w' ⟨v, rfl, ho, hb⟩
  rw [hn] at ho
  obtain ⟨P, c, rfl⟩ := own_form ho
  exact ⟨P, c, rfl, Rw.new h ho, fun q hq => (World.ownsRow.lt ho q hq).1, hb⟩
theorem safe_new {w0 W : World} {g gl i j r n : Nat} {X Xg : Gh} {F Fg Fd : Fs} {V : FV} (h : Ap w0 W g gl X Xg F Fg i j Fd V r) (hn : F.sure.length = n) : Calls Tryz.prog 13 #[ptr (some g)] W fun e w' => ∃ P c, e = .returned (.slice P n c) ∧ Rw w0 w' g gl X Xg F Fg Fd V 48 2 (.slice P n c) n ∧ (∀ q, (Value.slice P n c).ownBlock = some q → W.heap.size ≤ q) ∧ Below W.heap.size W w' := by
  refine (Safe_any g X F W h.p.dv.st.fs).mono ?_
  rintro e w' ⟨v, rfl, ho, hb⟩
  rw [hn] at ho
  obtain ⟨P, c, rfl⟩ := own_form ho
  exact ⟨P, c, rfl, Rw.new h ho, fun q hq => (World.ownsRow.lt ho q hq).1, hb⟩
theorem list_new {w0 W : World} {g gl i j r n : Nat} {X Xg : Gh} {F Fg Fd : Fs} {V : FV} (h : Ap w0 W g gl X Xg F Fg i j Fd V r) (hn : (listM F).1.length = n) : Calls Tryz.prog 14 #[ptr (some g)] W fun e w' => ∃ P c, e = .returned (.tuple #[.slice P n c, .int .i64 (listM F).2]) ∧ Rw w0 w' g gl X Xg F Fg Fd V 9 1 (.slice P n c) n ∧ (∀ q, (Value.slice P n c).ownBlock = some q → W.heap.size ≤ q) ∧ Below W.heap.size W w' := by
  refine (List_all h.p.dv.st).mono ?_
  rintro e w' ⟨P, c, rfl, ho, hb⟩
  rw [hn] at ho ⊢
  exact ⟨P, c, rfl, Rw.new h ho, fun q hq => (World.ownsRow.lt ho q hq).1, hb⟩
/-- In a round: where the row lies. -/
theorem own_at {W : World} {b T k n c : Nat} {P : Option Addr} {xs : List Value} (h : W.ownsRow b T k (.slice P n c) n xs) {j : Nat} (hj : j < n) : ∃ g o0, o0 = 0 ∧ P = some ⟨g, o0, none⟩ := by
  obtain ⟨_, ⟨h1, h2⟩ | ⟨g, c', cu, h1, _⟩⟩ := h
  · omega
  · injection h1 with h1 _ _
    exact ⟨g, 0, rfl, h1⟩
theorem ops_fun {P : Nat → Po → Prop} {n : Nat} (h : ∀ i, i < n → ∃ o, P i o) : ∃ os : Nat → Po, ∀ i, i < n → P i (os i) :=
  ⟨fun i => if hi : i < n then (h i hi).choose else ⟨0, ⟨#[]⟩, ⟨#[]⟩, ⟨#[]⟩, 0, 0, []⟩, fun i hi => by
    simp only [dif_pos hi]
    exact (h i hi).choose_spec⟩
theorem Rw.lt {w0 W : World} {g gl : Nat} {X Xg : Gh} {F Fg Fd : Fs} {V : FV} {T k n : Nat} {v : Value} (h : Rw w0 W g gl X Xg F Fg Fd V T k v n) {q : Nat} (hq : v.ownBlock = some q) : q < W.heap.size := by
  obtain ⟨xs, ho⟩ := h.ro
  exact own_lt ho hq
/-- Where the law stands when it spoils. -/
structure Fn (w0 W : World) (g gl : Nat) (X Xg : Gh) (F : Fs) (i : Nat) (V : FV) (r : Nat) (va : Value) (na : Nat) (vb : Value) (nb : Nat) (vl : Value) (nl : Nat) : Prop where
  ap : Ap w0 W g gl X Xg F F i i F V r
  a : Rw w0 W g gl X Xg F F F V 48 2 va na
  b : Rw w0 W g gl X Xg F F F V 48 2 vb nb
  l : Rw w0 W g gl X Xg F F F V 9 1 vl nl
  ab : ∀ q, va.ownBlock = some q → vb.ownBlock ≠ some q
  al : ∀ q, va.ownBlock = some q → vl.ownBlock ≠ some q
  bl : ∀ q, vb.ownBlock = some q → vl.ownBlock ≠ some q
theorem Fn.on {w0 W W' : World} {g gl i r na nb nl : Nat} {X Xg : Gh} {F : Fs} {V : FV} {va vb vl : Value} (h : Fn w0 W g gl X Xg F i V r va na vb nb vl nl) (hb : Below W.heap.size W W') : Fn w0 W' g gl X Xg F i V r va na vb nb vl nl := ⟨h.ap.on hb, h.a.on hb, h.b.on hb, h.l.on hb, h.ab, h.al, h.bl⟩
theorem Fn.sa {w0 W W' : World} {g gl i r na nb nl : Nat} {X Xg : Gh} {F : Fs} {V : FV} {va vb vl : Value} (h : Fn w0 W g gl X Xg F i V r va na vb nb vl nl) (hm : ModP (fun q => va.ownBlock = some q) W W') (hr : ∃ ys, W'.ownsRow w0.heap.size 48 2 va na ys) : Fn w0 W' g gl X Xg F i V r va na vb nb vl nl :=
  ⟨h.ap.row h.a hm (by decide) (by decide) (by decide), ⟨hr, h.a.no, h.a.av⟩, h.b.keep hm (fun q hq hs => h.ab q hs hq), h.l.keep hm (fun q hq hs => h.al q hs hq), h.ab, h.al, h.bl⟩
theorem Fn.sb {w0 W W' : World} {g gl i r na nb nl : Nat} {X Xg : Gh} {F : Fs} {V : FV} {va vb vl : Value} (h : Fn w0 W g gl X Xg F i V r va na vb nb vl nl) (hm : ModP (fun q => vb.ownBlock = some q) W W') (hr : ∃ ys, W'.ownsRow w0.heap.size 48 2 vb nb ys) : Fn w0 W' g gl X Xg F i V r va na vb nb vl nl :=
  ⟨h.ap.row h.b hm (by decide) (by decide) (by decide), h.a.keep hm (fun q hq hs => h.ab q hq hs), ⟨hr, h.b.no, h.b.av⟩, h.l.keep hm (fun q hq hs => h.bl q hs hq), h.ab, h.al, h.bl⟩
theorem Fn.sl {w0 W W' : World} {g gl i r na nb nl : Nat} {X Xg : Gh} {F : Fs} {V : FV} {va vb vl : Value} (h : Fn w0 W g gl X Xg F i V r va na vb nb vl nl) (hm : ModP (fun q => vl.ownBlock = some q) W W') (hr : ∃ ys, W'.ownsRow w0.heap.size 9 1 vl nl ys) : Fn w0 W' g gl X Xg F i V r va na vb nb vl nl :=
  ⟨h.ap.row h.l hm (by decide) (by decide) (by decide), h.a.keep hm (fun q hq hs => h.al q hq hs), h.b.keep hm (fun q hq hs => h.bl q hq hs), ⟨hr, h.l.no, h.l.av⟩, h.ab, h.al, h.bl⟩
/-- A text is stored into a row of the law's own. -/
theorem stS {W : World} {g o0 q n c base : Nat} {xs : List Value} (h0 : o0 = 0) (h : W.ownsRow base 9 1 (.slice (some ⟨g, o0, none⟩) n c) n xs) (hq : q < n) (u : Value) : (∃ v, W.cell? ⟨g, o0 + q, none⟩ = some v) ∧ W.frozen? ⟨g, o0 + q, none⟩ = false ∧ (∃ ys, (W.setCell ⟨g, o0 + q, none⟩ u).ownsRow base 9 1 (.slice (some ⟨g, o0, none⟩) n c) n ys) ∧ ModP (fun k => k = g) W (W.setCell ⟨g, o0 + q, none⟩ u) := by
  subst h0
  have hl := h.1
  have s1 := h.stored (0 + q) u
  refine ⟨?_, h.frozenAt _, ⟨_, s1.1⟩, ModP.grown s1.2 (fun b hb => by injection hb with hb; exact hb.symm)⟩
  rw [h.cellAt _ (by omega), List.getElem?_eq_getElem (by omega)]
  exact ⟨_, rfl⟩
end Go.Proofs.YtlheilkofibogaaGreat
namespace Go.Proofs.YtlheilkofibogaaGreat
open Go.RowKit Go.Maps
set_option linter.unusedVariables false
set_option linter.unusedSimpArgs false
/-- What is planned holds nothing of S. -/
def Fre (W : World) (X : Gh) (S : Nat → Prop) : Prop := ∀ q ∈ X.qs, ¬ S q.b ∧ (q.c = true → ∃ v, W.heap[q.b]? = some (.cells #[v] 29) ∧ ∀ k, v.ownBlock = some k → ¬ S k)
theorem Fre.mod {W W' : World} {X : Gh} {S T : Nat → Prop} (h : Fre W X S) (hm : ModP T W W') (hT : ∀ k cs, W.heap[k]? = some (.cells cs 29) → ¬ T k) : Fre W' X S := fun q hq => ⟨(h q hq).1, fun hc => by
  obtain ⟨v, h1, h2⟩ := (h q hq).2 hc
  exact ⟨v, (hm.oth q.b (row_lt h1) (hT _ _ h1)).trans h1, h2⟩⟩
theorem Fre.on {W W' : World} {X : Gh} {S : Nat → Prop} (h : Fre W X S) (hb : Below W.heap.size W W') : Fre W' X S := h.mod (ModP.below (S := fun _ => False) hb) (fun _ _ _ q => q)
theorem Fre.first {W : World} {g : Nat} {X : Gh} {F : Fs} {S : Nat → Prop} (h : FsP W g X F) (hS : ∀ k, S k → W.heap.size ≤ k) : Fre W X S := fun q hq => by
  have hh := h.hld q hq
  cases hc : q.c with
  | true =>
    obtain ⟨_, v, h1, h2⟩ := hh.cr hc
    exact ⟨fun hs => by have := row_lt h1; have := hS _ hs; omega, fun _ => ⟨v, h1, fun k hk hs => by have := own_lt h2 hk; have := hS _ hs; omega⟩⟩
  | false =>
    obtain ⟨p, h1, _⟩ := hh.fl hc
    exact ⟨fun hs => by have := row_lt h1; have := hS _ hs; omega, fun h => by cases h⟩
/-- Behind a call: what is newly planned lies in new blocks. -/
theorem Fre.bec {W W' : World} {g : Nat} {X X' : Gh} {F F' : Fs} {S : Nat → Prop} (h : Fre W X S) (hf : FsC W g X F) (hb : Bec W g X F W' X' F') (hS : ∀ k, S k → k < W.heap.size) : Fre W' X' S := fun q hq => by
  rcases hb.nq q hq with h1 | h1
  · refine ⟨(h q h1).1, fun hc => ?_⟩
    obtain ⟨v, h2, h3⟩ := (h q h1).2 hc
    exact ⟨v, (hb.md.oth q.b (row_lt h2) (fun ho => absurd (hf.own_ty ho h2) (by unfold tyOwn; decide))).trans h2, h3⟩
  · refine ⟨fun hs => by have := h1.bl; have := hS _ hs; omega, fun hc => ?_⟩
    obtain ⟨v, h2, h3⟩ := h1.cr hc
    exact ⟨v, h2, fun k hk hs => by have := h3 k hk; have := hS _ hs; omega⟩
theorem Fre.spoil {W W' : World} {X : Gh} {S : Nat → Prop} (h : Fre W X S) (hm : ModP S W W') : Fre W' X S := fun q hq => ⟨(h q hq).1, fun hc => by
  obtain ⟨v, h1, h2⟩ := (h q hq).2 hc
  exact ⟨v, (hm.oth q.b (row_lt h1) (h q hq).1).trans h1, h2⟩⟩
theorem FsP.spoil {W W' : World} {g : Nat} {X : Gh} {F : Fs} {S : Nat → Prop} (h : FsP W g X F) (ha : Fre W X S) (hm : ModP S W W') (hT : ∀ k, S k → ∃ cur, W.heap[k]? = some (.cells cur 3 (0, 0))) : FsP W' g X F := by
  refine ⟨h.toFsC.mod hm (fun k hs ho => ?_), h.pln, fun q hq => ⟨fun hc => ?_, fun hc => ?_⟩⟩
  · obtain ⟨cu, hc⟩ := hT k hs
    exact absurd (h.own_ty ho hc) (by unfold tyOwn; decide)
  · obtain ⟨h1, v, h2, h3⟩ := (h.hld q hq).cr hc
    obtain ⟨v', h4, h5⟩ := (ha q hq).2 hc
    have e : v = v' := by
      have := h2.symm.trans h4
      simpa using this
    subst e
    exact ⟨h1, v, (hm.oth q.b (row_lt h2) (ha q hq).1).trans h2, own_to h3 (fun k hk => hm.oth k (own_lt h3 hk) (h5 k hk))⟩
  · obtain ⟨p, h1, h2⟩ := (h.hld q hq).fl hc
    exact ⟨p, (hm.oth q.b (row_lt h1) (ha q hq).1).trans h1, h2⟩
theorem Pl.spoil {w0 W W' : World} {g i r : Nat} {X : Gh} {F Fd : Fs} {V : FV} {S : Nat → Prop} (h : Pl w0 W g X F i Fd V r) (ha : Fre W X S) (hm : ModP S W W') (hT : ∀ k, S k → ∃ cur, W.heap[k]? = some (.cells cur 3 (0, 0))) (hb : ∀ k, S k → w0.heap.size ≤ k) (hv : Av S Fd V) : Pl w0 W' g X F i Fd V r :=
  ⟨⟨⟨⟨h.dv.st.fs.spoil ha hm hT, h.dv.st.q, h.dv.st.bel.trans (hm.bel (fun k hk e => by have := hb k e; omega) h.dv.st.bel.size), h.dv.st.own⟩, h.dv.st.st, h.dv.st.fi, h.dv.st.ch, h.dv.st.pk⟩, h.dv.dc.modP hm hv, h.dv.av⟩, hm.row h.ro (fun hs => by
    obtain ⟨cu, h5⟩ := hT r hs
    rw [h.ro] at h5
    injection h5 with h5
    injection h5 with _ h6 _
    exact absurd h6 (by decide)), h.rv, h.iv, h.rb⟩
theorem own_up {w : World} {b e k n : Nat} {v : Value} {xs : List Value} (h : w.ownsRow 0 e k v n xs) (hb : ∀ q, v.ownBlock = some q → b ≤ q) : w.ownsRow b e k v n xs := by
  obtain ⟨h0, h1 | ⟨g, cap, cur, h1, h2, r⟩⟩ := h
  · exact ⟨h0, Or.inl h1⟩
  · exact ⟨h0, Or.inr ⟨g, cap, cur, h1, hb g (by rw [h1]; rfl), r⟩⟩
/-- Where the law stands while it spoils the picks that it handed in. -/
structure Sq (w0 W : World) (g : Nat) (X : Gh) (F : Fs) (i : Nat) (V : FV) (r G q R : Nat) (o : Po) (pv : Value) (C : Array Value) (P3 : Option Addr) (k3 m : Nat) : Prop where
  p : Pl w0 W g X F i F V r
  ha : Fre W X (fun k => (Value.slice P3 o.p.length k3).ownBlock = some k)
  op : OpA w0.heap.size W G q o pv
  ro : W.heap[R]? = some (.cells C 36)
  rr : ∃ xs, W.ownsRow w0.heap.size 3 1 (.slice P3 o.p.length k3) o.p.length xs ∧ ∀ j, m ≤ j → j < o.p.length → xs[j]? = some (.int .i64 (o.p.getD j 0))
  av : Av (fun k => (Value.slice P3 o.p.length k3).ownBlock = some k) F V
theorem Sq.on {w0 W W' : World} {g i r G q R k3 m : Nat} {X : Gh} {F : Fs} {V : FV} {o : Po} {pv : Value} {C : Array Value} {P3 : Option Addr} (h : Sq w0 W g X F i V r G q R o pv C P3 k3 m) (hb : Below W.heap.size W W') : Sq w0 W' g X F i V r G q R o pv C P3 k3 m := by
  obtain ⟨xs, h1, h2⟩ := h.rr
  exact ⟨h.p.on hb, h.ha.on hb, h.op.on (hb.mono h.p.dv.st.bel.size), keep_row h.ro hb, ⟨xs, own_bel h1 hb, h2⟩, h.av⟩
theorem Sq.at_ {w0 W : World} {g i r G q R k3 m : Nat} {X : Gh} {F : Fs} {V : FV} {o : Po} {pv : Value} {C : Array Value} {P3 : Option Addr} (h : Sq w0 W g X F i V r G q R o pv C P3 k3 m) (hm : m < o.p.length) : ∃ gP o0, o0 = 0 ∧ P3 = some ⟨gP, o0, none⟩ ∧ W.cell? ⟨gP, o0 + m, none⟩ = some (.int .i64 (o.p.getD m 0)) ∧ W.frozen? ⟨gP, o0 + m, none⟩ = false ∧ Sq w0 (W.setCell ⟨gP, o0 + m, none⟩ (.int .i64 (-7))) g X F i V r G q R o pv C P3 k3 (m + 1) := by
  obtain ⟨xs, h1, h2⟩ := h.rr
  obtain ⟨gP, o0, h0, hP⟩ := own_at h1 hm
  subst h0 hP
  have hl := h1.1
  have s1 := h1.stored (0 + m) (.int .i64 (-7))
  have hmo : ModP (fun k => (Value.slice (some ⟨gP, 0, none⟩) o.p.length k3).ownBlock = some k) W (W.setCell ⟨gP, 0 + m, none⟩ (.int .i64 (-7))) := ModP.grown s1.2 (fun b hb => hb)
  have hT : ∀ k, (Value.slice (some ⟨gP, 0, none⟩) o.p.length k3).ownBlock = some k → ∃ cur, W.heap[k]? = some (.cells cur 3 (0, 0)) := fun k hk => own_type h1 hk
  have hb : ∀ k, (Value.slice (some ⟨gP, 0, none⟩) o.p.length k3).ownBlock = some k → w0.heap.size ≤ k := fun k hk => (World.ownsRow.lt h1 k hk).1
  have hbel : Below w0.heap.size W (W.setCell ⟨gP, 0 + m, none⟩ (.int .i64 (-7))) := hmo.bel (fun k hk e => by have := hb k e; omega) h.p.dv.st.bel.size
  refine ⟨gP, 0, rfl, rfl, ?_, h1.frozenAt _, ⟨h.p.spoil h.ha hmo hT hb h.av, h.ha.spoil hmo, h.op.on hbel, hmo.row h.ro (fun hs => ?_), ⟨_, s1.1, fun j hj hjl => ?_⟩, h.av⟩⟩
  · rw [h1.cellAt _ (by omega), Nat.zero_add]
    exact h2 m (Nat.le_refl _) hm
  · obtain ⟨cu, h5⟩ := hT R hs
    rw [h.ro] at h5
    injection h5 with h5
    injection h5 with _ h6 _
    exact absurd h6 (by decide)
  · rw [List.getElem?_set_ne (by omega)]
    exact h2 j (by omega) hjl
theorem pin_at {W : World} {PP : Option Addr} {n c m : Nat} {p : List Int} (h : KR pinE W (.slice PP n c) p) (hm : m < p.length) : ∃ b oo, PP = some ⟨b, oo, none⟩ ∧ W.cell? ⟨b, oo + m, none⟩ = some (.int .i64 (p.getD m 0)) := by
  obtain ⟨b, oo, c', he, hc⟩ := h.cell pinOk hm
  injection he with h1 _ _
  refine ⟨b, oo, h1, ?_⟩
  have h0 := hc 0 _ rfl
  have hk1 : pinE.k = 1 := rfl
  rw [hk1, Nat.mul_one, Nat.add_zero] at h0
  rw [h0, List.getD_eq_getElem?_getD, List.getElem?_eq_getElem hm]
  rfl
end Go.Proofs.YtlheilkofibogaaGreat
