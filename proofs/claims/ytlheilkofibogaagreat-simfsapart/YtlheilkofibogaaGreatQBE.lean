import Derived.Test.YtlheilkofibogaaGreatQBD
import Derived.ProofKit
import Derived.OpenShut
import Derived.ShutString
import Derived.SizedLaws
import Derived.ChangeSlices
import Derived.Deep.Slices
import Derived.Carry
import Derived.Lib.ItoaMem
namespace Go.Proofs.YtlheilkofibogaaGreat
open Go.ChangeShapes Go.WideShapes Go.RowKit
set_option linter.unusedVariables false
def opCells (o : Po) (pv : Value) : List Value := [.int .i64 o.k, .string o.n, .string o.t, .string o.d, .int .i64 o.m, .int .i64 o.a, pv]
theorem lt_cell {w : World} {g j : Nat} {v : Value} (h : w.cell? ⟨g, j, none⟩ = some v) : g < w.heap.size := lt_of_cell h
/-- An op of the script in memory, at cell q of block g; all of it lies in blocks below N. -/
structure OpA (N : Nat) (W : World) (g q : Nat) (o : Po) (pv : Value) : Prop where
  cells : ∀ j u, (opCells o pv)[j]? = some u → W.cell? ⟨g, q + j, none⟩ = some u
  ok : PoOk o
  kr : KR pinE W pv o.p
  lt : o.p ≠ [] → ∀ b x n c, pv = .slice (some ⟨b, x, none⟩) n c → b < N
  gt : g < N
theorem kr_under {N : Nat} {W W' : World} {v : Value} {p : List Int} (h : KR pinE W v p) (hl : p ≠ [] → ∀ b x n c, v = .slice (some ⟨b, x, none⟩) n c → b < N) (hb : Below N W W') : KR pinE W' v p := by
  by_cases hp : p = []
  · subst hp
    rcases h with q | ⟨g, o, c, e, _⟩
    · exact Or.inl q
    · exact Or.inr ⟨g, o, c, e, fun j u hu => by simp [ET.fl] at hu⟩
  · rcases h with q | ⟨g, o, c, e, hc⟩
    · exact Or.inl q
    · refine Or.inr ⟨g, o, c, e, fun j u hu => ?_⟩
      have h1 := hc j u hu
      rw [pcell_same (hb.block g (hl hp g o _ _ e))]
      exact h1
theorem OpA.on {N : Nat} {W W' : World} {g q : Nat} {o : Po} {pv : Value} (h : OpA N W g q o pv) (hb : Below N W W') : OpA N W' g q o pv :=
  ⟨fun j u hu => by rw [pcell_same (hb.block g h.gt)]; exact h.cells j u hu, h.ok, kr_under h.kr h.lt hb, h.lt, h.gt⟩
theorem OpA.pks {N : Nat} {W : World} {g q : Nat} {o : Po} {pv : Value} (h : OpA N W g q o pv) {S : Nat → Prop} (hS : ∀ b, S b → N ≤ b) : Pks W S pv o.p := ⟨h.kr, fun hp b x n c e hs => by have := h.lt hp b x n c e; have := hS b hs; omega⟩
theorem cellsI : Tryz.prog.cellsOf 3 = 1 := by kernel_rfl
theorem cellsS : Tryz.prog.cellsOf 9 = 1 := by kernel_rfl
theorem cellsPk : Tryz.prog.cellsOf 29 = 1 := by kernel_rfl
theorem bytesI : Tryz.prog.bytesOf 3 = 8 := by kernel_rfl
theorem cellsOx : Tryz.prog.cellsOf 36 = 7 := by kernel_rfl
theorem bytesOx : Tryz.prog.bytesOf 36 = 96 := by kernel_rfl
theorem weights_elem {H : Type} (P : Program) (e : TypeId) (l : List (DataW H)) (d : DataW H) (hd : d ∈ l) (n : Nat) (hn : n ∈ d.weights P e) : n ∈ DataW.weightsAll P e l := by
  induction l with
  | nil => cases hd
  | cons y l ih =>
    simp only [DataW.weightsAll, List.mem_append]
    rcases List.mem_cons.1 hd with rfl | h
    · exact Or.inl hn
    · exact Or.inr (ih h)
theorem open_picks {H : Type} {enc : TypeId × Value → H} {W : World} {fuel : Nat} {v : Value} {y : DataW H × List MemPlace} {ts : List TypeId} {ds : List (DataW H)} {j : Nat}
    (h : DataW.trod enc Tryz.prog W 0 (fun _ => true) true fuel 29 [v] = some y)
    (hsz : (DataW.weightsEach Tryz.prog ts ds).all (· ≤ reachBytes) = true) (ht : ts[j]? = some 29) (hd : ds[j]? = some y.1) :
    ∃ p : List Int, KR pinE W v p ∧ p.length ≤ 17592186044416 ∧ (p ≠ [] → ∀ b x n c, v = .slice (some ⟨b, x, none⟩) n c → b < W.heap.size) := by
  rcases open_ints Tryz.underlying29 Tryz.underlying3 cellsI h with ⟨hcs, hx⟩ | ⟨a, len, cap, zs, hcs, _, hl, hm, hz, hx, hcell, hwz⟩
  · have e : v = .slice none 0 0 := by simpa using hcs
    subst e
    exact ⟨[], KR.nil, by simp, fun h => absurd rfl h⟩
  · have e : v = .slice (some a) len cap := by simpa using hcs
    subst e
    simp only [if_true] at hz
    have hlen : (zs.take len).length = len := by rw [List.length_take]; omega
    have hr : len ≤ 17592186044416 := by
      rw [hx] at hd
      have := sized_slice hsz ht hd Tryz.underlying29
      rw [bytesI] at this
      simp only [lits, List.length_map, hlen, reachBytes] at this
      omega
    refine ⟨zs.take len, ?_, by omega, fun hne b x n c e => ?_⟩
    · by_cases h0 : len = 0
      · subst h0
        exact Or.inl ⟨by simp, some a, cap, rfl, fun h => by cases h⟩
      · obtain ⟨b, off, spot⟩ := a
        have hspot : spot = none := by simpa [Addr.add] using World.cell?_spot (hcell 0 (by omega))
        subst hspot
        refine Or.inr ⟨b, off, cap, by rw [hlen], fun j u hu => ?_⟩
        rw [pin_fl, List.getElem?_map] at hu
        have hj : j < len := by
          rcases hq : (zs.take len)[j]? with _ | z
          · rw [hq] at hu; cases hu
          · have := (List.getElem?_eq_some_iff.1 hq).1; omega
        have := hcell j (by omega)
        rw [Lib.add_plain] at this
        rw [this, List.getD_eq_getElem?_getD, ← hu, List.getElem?_take_of_lt hj, List.getElem?_eq_getElem (by omega)]
        rfl
    · injection e with e _ _
      injection e with e
      subst e
      have h0 : 0 < len := by
        have := List.length_pos_iff.2 hne
        omega
      have := hcell 0 (by omega)
      exact lt_of_cell this
set_option maxRecDepth 100000 in
theorem open_ops {H : Type} {enc : TypeId × Value → H} {W : World} {fuel : Nat} {ad : Option Addr} {len cap : Nat} {x : DataW H × List MemPlace} {ts : List TypeId} {ds : List (DataW H)} {j : Nat}
    (h : DataW.trod enc Tryz.prog W 0 (fun _ => true) true fuel 22 [.slice ad len cap] = some x)
    (hsz : (DataW.weightsEach Tryz.prog ts ds).all (· ≤ reachBytes) = true) (ht : ts[j]? = some 22) (hd : ds[j]? = some x.1) :
    ∃ g off, (len ≠ 0 → ad = some ⟨g, off, none⟩) ∧ len ≤ 1466015503700 ∧ ∀ i, i < len → ∃ o pv, OpA W.heap.size W g (off + i * 7) o pv := by
  rcases Go.Deep.open_slice Tryz.underlying22 h with ⟨hcs, hx⟩ | ⟨a, len', cap', m, n, D, Pl, hcs, _, hl, hm, hmm, hx, hcell⟩
  · simp at hcs
    obtain ⟨rfl, rfl, rfl⟩ := hcs
    exact ⟨0, 0, fun h => absurd rfl h, Nat.zero_le _, fun i hi => by omega⟩
  · simp at hcs
    obtain ⟨rfl, rfl, rfl⟩ := hcs
    subst hx
    simp only [if_true] at hmm
    subst hmm
    have hw : ∀ i, i < len → ∀ z, z ∈ (D i).weights Tryz.prog 36 → z ≤ reachBytes := by
      intro i hi z hz
      have hmem : z ∈ DataW.weightsEach Tryz.prog ts ds := by
        refine DataW.weights_mem_each ht hd _ ?_
        simp only [DataW.weights, Tryz.underlying22, List.mem_cons, List.mem_append]
        exact Or.inr (Or.inl (weights_elem _ _ _ (D i) (List.mem_map.2 ⟨i, List.mem_range.2 hi, rfl⟩) z hz))
      have := List.all_eq_true.1 hsz _ hmem
      exact of_decide_eq_true this
    have hlen : len ≤ 1466015503700 := by
      have := sized_slice hsz ht hd Tryz.underlying22
      rw [bytesOx] at this
      simp only [List.length_map, List.length_range, reachBytes] at this
      omega
    obtain ⟨g, off, spot⟩ := a
    have hsp : len ≠ 0 → spot = none := fun h => by
      obtain ⟨cs', h1, h2⟩ := hcell 0 (by omega)
      rw [cellsOx] at h1
      obtain ⟨_, hlen4, hc4⟩ := World.cells?_some h1
      have c0 := hc4 0 (by omega)
      obtain ⟨v0, hv0⟩ : ∃ v0, cs'[0]? = some v0 := ⟨_, List.getElem?_eq_getElem (by omega)⟩
      rw [hv0] at c0
      simpa [Addr.add] using World.cell?_spot c0
    refine ⟨g, off, fun h => by rw [hsp h], hlen, fun i hi => ?_⟩
    obtain ⟨cs', h1, h2⟩ := hcell i (by omega)
    have hs := hsp (by omega)
    subst hs
    rw [cellsOx] at h1
    obtain ⟨_, hlen4, hc4⟩ := World.cells?_some h1
    obtain ⟨xs, k, hk, hxy, _, hxl, hf⟩ := DataW.trod_struct Tryz.underlying36 h2
    match xs, hxl, cs', hlen4 with
    | [y0, y1, y2, y3, y4, y5, y6], _, [v0, v1, v2, v3, v4, v5, v6], _ =>
      have g0 := hf 0 _ rfl
      have g1 := hf 1 _ rfl
      have g2 := hf 2 _ rfl
      have g3 := hf 3 _ rfl
      have g4 := hf 4 _ rfl
      have g5 := hf 5 _ rfl
      have g6 := hf 6 _ rfl
      simp [cellsI, cellsS, cellsPk] at g0 g1 g2 g3 g4 g5 g6
      simp only [Prod.mk.injEq] at hxy
      obtain ⟨z0, e0, _, _⟩ := DataW.trod_int Tryz.underlying3 g0
      obtain ⟨z1, e1, hy1, _⟩ := DataW.trod_string Tryz.underlying9 g1
      obtain ⟨z2, e2, hy2, _⟩ := DataW.trod_string Tryz.underlying9 g2
      obtain ⟨z3, e3, hy3, _⟩ := DataW.trod_string Tryz.underlying9 g3
      obtain ⟨z4, e4, _, _⟩ := DataW.trod_int Tryz.underlying3 g4
      obtain ⟨z5, e5, _, _⟩ := DataW.trod_int Tryz.underlying3 g5
      simp at e0 e1 e2 e3 e4 e5
      have hin : ∀ z, z ∈ DataW.weightsEach Tryz.prog [3, 9, 9, 9, 3, 3, 29] [y0.1, y1.1, y2.1, y3.1, y4.1, y5.1, y6.1] → z ≤ reachBytes := fun z hz => by
        refine hw i hi z ?_
        rw [hxy.1]
        simp only [DataW.weights, Tryz.underlying36]
        exact hz
      have hs1 : z1.size ≤ 140737488355328 := by
        have := hin z1.size (DataW.weights_mem_each (j := 1) rfl rfl _ (by rw [hy1]; simp [DataW.weights]))
        simp [reachBytes] at this; omega
      have hs2 : z2.size ≤ 140737488355328 := by
        have := hin z2.size (DataW.weights_mem_each (j := 2) rfl rfl _ (by rw [hy2]; simp [DataW.weights]))
        simp [reachBytes] at this; omega
      have hs3 : z3.size ≤ 140737488355328 := by
        have := hin z3.size (DataW.weights_mem_each (j := 3) rfl rfl _ (by rw [hy3]; simp [DataW.weights]))
        simp [reachBytes] at this; omega
      have hy6 : (DataW.weightsEach Tryz.prog [29] [y6.1]).all (· ≤ reachBytes) = true := by
        refine List.all_eq_true.2 (fun z hz => decide_eq_true (hin z ?_))
        simp only [DataW.weightsEach, List.append_nil] at hz
        exact DataW.weights_mem_each (j := 6) rfl rfl z hz
      obtain ⟨p, hp1, hp2, hp3⟩ := open_picks (ts := [29]) (ds := [y6.1]) (j := 0) g6 hy6 rfl rfl
      subst e0; subst e1; subst e2; subst e3; subst e4; subst e5
      have hall : ∀ j u, (opCells ⟨z0, z1, z2, z3, z4, z5, p⟩ v6)[j]? = some u → W.cell? ⟨g, off + i * 7 + j, none⟩ = some u := fun q u hu => by
        have hj : q < 7 := (List.getElem?_eq_some_iff.1 hu).1
        have c0 := hc4 q hj
        rw [show [Value.int .i64 z0, .string z1, .string z2, .string z3, .int .i64 z4, .int .i64 z5, v6][q]? = some u from hu, Go.Deep.add_add, Lib.add_plain] at c0
        rw [← c0]
        congr 2
        omega
      exact ⟨⟨z0, z1, z2, z3, z4, z5, p⟩, v6, hall, ⟨hs1, hs2, hs3, hp2⟩, hp1, hp3, lt_of_cell (hall 0 _ rfl)⟩
end Go.Proofs.YtlheilkofibogaaGreat
namespace Go.Proofs.YtlheilkofibogaaGreat
open Go.RowKit Go.Maps
set_option linter.unusedVariables false
set_option linter.unusedSimpArgs false
theorem setCellsP (g T : Nat) : ∀ (vs : List Value) (pre old : List Value) (w : World), old.length = vs.length → w.heap[g]? = some (.cells (pre ++ old).toArray T) → (w.setCells g pre.length vs).heap[g]? = some (.cells (pre ++ vs).toArray T) ∧ Only w (w.setCells g pre.length vs) g := by
  intro vs
  induction vs with
  | nil =>
    intro pre old w hl h
    have : old = [] := List.eq_nil_of_length_eq_zero hl
    subst this
    exact ⟨by simpa [World.setCells] using h, Only.refl _ _⟩
  | cons v vs ih =>
    intro pre old w hl h
    cases old with
    | nil => simp at hl
    | cons o old =>
      have h1 : (w.setCell ⟨g, pre.length, none⟩ v).heap[g]? = some (.cells ((pre ++ [v]) ++ old).toArray T) := by
        rw [heap_setCell_same _ _ _ _ _ _ h]
        simp
      have h2 := ih (pre ++ [v]) old _ (by simpa using hl) h1
      rw [List.length_append] at h2
      refine ⟨?_, ?_⟩
      · have := h2.1
        simpa [World.setCells] using this
      · have := h2.2
        have h3 : Only w (w.setCell ⟨g, pre.length, none⟩ v) g := (Only.refl _ _).set _ _
        exact h3.trans (by simpa [World.setCells] using this)
def opArr (o : Po) (pv : Value) : Array Value := #[.int .i64 o.k, .string o.n, .string o.t, .string o.d, .int .i64 o.m, .int .i64 o.a, pv]
theorem szO : (Tryz.prog.info? 36).map (·.size) = some 7 := by kernel_rfl
def zO : Array Value := #[.int .i64 0, .string ByteArray.empty, .string ByteArray.empty, .string ByteArray.empty, .int .i64 0, .int .i64 0, .slice none 0 0]
theorem ldO {ops : Array Oper} {rest : List Oper} {op : Oper} {a : Act} {w : World} {Q : Exit → Act → World → Prop} (C : Array Value) (N g q : Nat) (o : Po) (pv : Value) (x : Operand) (hg : op.guard = none) (ho : op.op = .load 36 x) (hx : a.eval x = .pointer (some ⟨g, q, none⟩)) (hc : OpA N w g q o pv) (hC : C = opArr o pv) (h : wpList Tryz.prog ops Q rest (a.put op.dst (.agg C)) w) : wpList Tryz.prog ops Q (op :: rest) a w := by
  subst hC
  exact wpList_load_mid hg _ x ho g q hx (opCells o pv) _ (fun j v hv => hc.cells j v hv) Tryz.underlying36 rfl szO h
theorem ldR {ops : Array Oper} {rest : List Oper} {op : Oper} {a : Act} {w : World} {Q : Exit → Act → World → Prop} (C : Array Value) (r : Nat) (x : Operand) (hg : op.guard = none) (ho : op.op = .load 36 x) (hx : a.eval x = .pointer (some ⟨r, 0, none⟩)) (hc : w.heap[r]? = some (.cells C 36)) (h7 : C.size = 7) (h : wpList Tryz.prog ops Q rest (a.put op.dst (.agg C)) w) : wpList Tryz.prog ops Q (op :: rest) a w := by
  refine wpList_load_mid hg _ x ho r 0 hx C.toList _ (fun j v hv => by rw [cell_of_row _ _ _ _ _ _ hc]; simpa using hv) Tryz.underlying36 rfl (by rw [Array.length_toList, h7]; exact szO) ?_
  rw [Array.toArray_toList]
  exact h
theorem stO {ops : Array Oper} {rest : List Oper} {op : Oper} {a : Act} {w : World} {Q : Exit → Act → World → Prop} (hg : op.guard = none) (x y : Operand) (ho : op.op = .store 36 x y) (g : Nat) (C Z : Array Value) (hx : a.eval x = .pointer (some ⟨g, 0, none⟩)) (hy : a.eval y = .agg C) (h7 : C.size = 7) (h1 : C.all (·.oneCell') = true) (hZ : Z.size = 7) (hr : w.heap[g]? = some (.cells Z 36)) (h : ∀ W, W.heap[g]? = some (.cells C 36) → Only w W g → wpList Tryz.prog ops Q rest (a.put op.dst undef) W) : wpList Tryz.prog ops Q (op :: rest) a w := by
  refine wpList_store_mid hg 36 x y ho g 0 C hx hy ?_ (by rw [h7]; exact szO) h1 ?_
  · intro j hj
    rw [h7] at hj
    refine ⟨?_, frozen_of_row _ _ _ _ _ hr⟩
    rw [cell_of_row _ _ _ _ _ _ hr]
    simp; omega
  have h3 := setCellsP g 36 C.toList [] Z.toList w (by simp [h7, hZ]) (by simpa using hr)
  rw [List.length_nil] at h3
  simp only [List.nil_append, Array.toArray_toList] at h3
  exact h _ h3.1 h3.2
theorem alO {ops : Array Oper} {rest : List Oper} {op : Oper} {a : Act} {w : World} {Q : Exit → Act → World → Prop} (hg : op.guard = none) (ho : op.op = .alloc 36) (Z : Array Value) (hZ : Z = zO) (h : wpList Tryz.prog ops Q rest (a.put op.dst (.pointer (some ⟨w.heap.size, 0, none⟩))) (w.alloc (.cells Z 36))) : wpList Tryz.prog ops Q (op :: rest) a w := by
  subst hZ
  refine wpList_plain hg fun K hK => ?_
  unfold Oper.wp
  have : (execOp a.eval op).run Tryz.prog w = .ok (.value (.pointer (some ⟨w.heap.size, 0, none⟩))) (w.alloc (.cells zO 36)) := by
    unfold execOp
    rw [ho]
    kernel_rfl
  rw [this]
  exact hK _ _ h
/-- Where a law's loop stands. -/
structure St (w0 W : World) (g : Nat) (X : Gh) (F : Fs) (i : Nat) : Prop extends Wk w0 W g X F i where
  st : F.steps ≤ i
  fi : F.files.length ≤ i
  ch : F.chg.length ≤ i
  pk : F.picks.length ≤ 17592186044416
theorem St.on {w0 w w' : World} {g : Nat} {X : Gh} {F : Fs} {i : Nat} (h : St w0 w g X F i) (hb : Below w.heap.size w w') : St w0 w' g X F i := ⟨h.toWk.on hb, h.st, h.fi, h.ch, h.pk⟩
theorem St.new {w0 w : World} {g : Nat} {X : Gh} (h : Wk w0 w g X newM 3298534883328) : St w0 w g X newM 0 := ⟨h.low (h.fs.pln.new (fun q hq => ⟨w, h.fs.hld q hq⟩)), Nat.le_refl _, Nat.le_refl _, Nat.le_refl _, Nat.zero_le _⟩
/-- What stays: a call of done. -/
def DoneP (w0 W : World) (g : Nat) (X : Gh) (F F' : Fs) (r : Int) (i : Nat) (e : Ending) (w' : World) : Prop := e = .returned (.int .i64 r) ∧ (∃ X', St w0 w' g X' F' (i + 1)) ∧ ModP (Own g F X) W w'
theorem done_st {w0 W : World} {g : Nat} {X : Gh} {F F' : Fs} {i : Nat} {o : Po} {pv : Value} {r : Int} {C : Array Value} (h : St w0 W g X F i) (hi : i < 3298534883328) (hC : C = opArr o pv) (ok : PoOk o) (hv : Pks W (Own g F X) pv o.p) (hd : doneM F o = (F', r)) :
    Calls Tryz.prog 10 #[ptr (some g), .agg C] W fun e w' => DoneP w0 W g X F F' r i e w' := by
  have hst := h.st
  have hfi := h.fi
  have hch := h.ch
  have hq := h.q
  subst hC
  have hg := done_gp 17592186044416 F o ok.p
  have := done_any g X F o ok pv W h.fs ⟨by omega, by omega, by omega, by omega⟩ (by omega) (by omega) h.pk hv
  rw [hd] at this hg
  have g1 := hg.st
  have g2 := hg.fi
  have g3 := hg.ch
  simp only at g1 g2 g3
  refine Calls.mono this ?_
  rintro e w' ⟨rfl, X', hB⟩
  exact ⟨rfl, ⟨X', h.toWk.step hB, by omega, by omega, by omega, hg.pk h.pk⟩, hB.md⟩
/-- A row of pairs of its own. -/
def PR (W : World) (v : Value) (l : List (ByteArray × ByteArray)) : Prop := W.ownsRow 0 48 2 v l.length (pprE.fl l)
theorem PR.on {W W' : World} {v : Value} {l : List (ByteArray × ByteArray)} (h : PR W v l) (hb : Below W.heap.size W W') : PR W' v l := own_bel h hb
theorem PR.kr {W : World} {v : Value} {l : List (ByteArray × ByteArray)} (h : PR W v l) : KR pprE W v l := KR.own (E := pprE) h rfl
theorem PR.mod {W W' : World} {v : Value} {l : List (ByteArray × ByteArray)} {g : Nat} {X : Gh} {F : Fs} (h : PR W v l) (hf : FsC W g X F) (hm : ModP (Own g F X) W W') : PR W' v l := own_to h (fun k hk => by
  obtain ⟨cur, hc⟩ := own_type h hk
  exact hm.oth k (row_lt hc) (fun ho => by have := hf.own_ty ho hc; exact absurd this (by unfold tyOwn; decide)))
theorem op_mod {W W' : World} {R : Nat} {C : Array Value} {g : Nat} {X : Gh} {F : Fs} (h : W.heap[R]? = some (.cells C 36)) (hf : FsC W g X F) (hm : ModP (Own g F X) W W') : W'.heap[R]? = some (.cells C 36) := (hm.oth R (row_lt h) (fun ho => by have := hf.own_ty ho h; exact absurd this (by unfold tyOwn; decide))).trans h
def NowP (W : World) (l : List (ByteArray × ByteArray)) (n : Nat) (e : Ending) (w' : World) : Prop := ∃ P c, e = .returned (.slice P n c) ∧ PR w' (.slice P n c) l ∧ Below W.heap.size W w'
theorem now_st {w0 W : World} {g : Nat} {X : Gh} {F : Fs} {i n : Nat} (h : St w0 W g X F i) (hn : F.dir.length = n) : Calls Tryz.prog 12 #[ptr (some g)] W fun e w' => NowP W (nowM F) n e w' := by
  refine (Now_any g X F W h.fs).mono ?_
  rintro e w' ⟨v, rfl, ho, hb⟩
  obtain ⟨P, c, rfl⟩ := own_form ho
  rw [hn] at ho
  exact ⟨P, c, by rw [hn], by unfold PR; rw [now_len, hn]; exact own_zero ho, hb⟩
theorem safe_len (F : Fs) : (safeM F).length = F.sure.length := by unfold safeM; rw [List.length_map]
theorem safe_st {w0 W : World} {g : Nat} {X : Gh} {F : Fs} {i n : Nat} (h : St w0 W g X F i) (hn : F.sure.length = n) : Calls Tryz.prog 13 #[ptr (some g)] W fun e w' => NowP W (safeM F) n e w' := by
  refine (Safe_any g X F W h.fs).mono ?_
  rintro e w' ⟨v, rfl, ho, hb⟩
  obtain ⟨P, c, rfl⟩ := own_form ho
  rw [hn] at ho
  exact ⟨P, c, by rw [hn], by unfold PR; rw [safe_len, hn]; exact own_zero ho, hb⟩
theorem steps_st {w0 W : World} {g : Nat} {X : Gh} {F : Fs} {i s : Nat} (h : St w0 W g X F i) (hs : F.steps = s) : Calls Tryz.prog 20 #[ptr (some g)] W fun e w' => e = .returned (.int .i64 (s : Int)) ∧ w' = W := by
  rw [← hs]; exact Steps_any g X F W h.fs
theorem same_st {W : World} {va vb : Value} {l : List (ByteArray × ByteArray)} (hl : l.length ≤ 4611686018427387000) (ha : PR W va l) (hb : PR W vb l) : Calls Tryz.prog 26 #[va, vb] W fun e w' => e = .returned (.bool true) ∧ Below W.heap.size W w' := by
  have := samePairs_any va vb l l hl W ha.kr hb.kr
  rw [decide_eq_true rfl] at this
  exact this
theorem St.few {w0 W : World} {g : Nat} {X : Gh} {F : Fs} {i : Nat} (h : St w0 W g X F i) : F.dir.length ≤ 64 ∧ F.sure.length ≤ 64 := ⟨h.fs.ok.dir.few, h.fs.ok.sure.few⟩
theorem St.longer {w0 W : World} {g : Nat} {X : Gh} {F F' : Fs} {i : Nat} {o : Po} (h : St w0 W g X F i) (hio : IoD F o F') : Longer F F' o := io_longer h.fs.ok.dir (fun x hx => by
  have h0 := h.fs.ok.sure.ge x hx
  exact (h.fs.toFsC.file (i := x.2.toNat) (Or.inr (Or.inl ⟨x, hx, by omega⟩))).sf) hio
/-- how great a file's bytes are. -/
theorem St.big {w0 W : World} {g : Nat} {X : Gh} {F : Fs} {i : Nat} (h : St w0 W g X F i) {k : Nat} {x : ByteArray × ByteArray} (hx : (nowM F)[k]? = some x) : x.2.size ≤ 1073741824 := by
  have hk : k < F.dir.length := by
    have := (List.getElem?_eq_some_iff.1 hx).1
    rwa [now_len] at this
  have hx' : x = (F.dir[k].1, (F.files.getD F.dir[k].2.toNat ⟨⟨#[]⟩, 0⟩).d) := by
    unfold nowM at hx
    rw [List.getElem?_map, List.getElem?_eq_getElem hk] at hx
    simpa using hx.symm
  have hin : F.dir[k] ∈ F.dir := List.getElem_mem hk
  have h0 := h.fs.ok.dir.ge _ hin
  rw [hx']
  exact (h.fs.toFsC.file (i := F.dir[k].2.toNat) (Or.inl ⟨_, hin, by omega⟩)).big
end Go.Proofs.YtlheilkofibogaaGreat
namespace Go.Proofs.YtlheilkofibogaaGreat
open Go.RowKit Go.Maps
set_option linter.unusedVariables false
set_option linter.unusedSimpArgs false
def FiZ (x : Fi) : Prop := x.d.size ≤ 1073741824 ∧ x.s ≤ x.d.size
/-- What every state keeps: no file is too great, lost or not; as many planned failures as calls at most. -/
structure Iv (F : Fs) (i : Nat) : Prop where
  fz : ∀ x ∈ F.files, FiZ x
  fl : F.fails.length ≤ i
theorem Iv.more {F : Fs} {i j : Nat} (h : Iv F i) (hj : i ≤ j) : Iv F j := ⟨h.fz, Nat.le_trans h.fl hj⟩
theorem Iv.new : Iv newM 0 := ⟨fun x hx => by simp [newM] at hx, Nat.le_refl _⟩
theorem Iv.same {F F' : Fs} {i : Nat} (h : Iv F i) (e1 : F'.files = F.files) (e2 : F'.fails = F.fails) : Iv F' i := ⟨by rw [e1]; exact h.fz, by rw [e2]; exact h.fl⟩
theorem fiZ0 : FiZ ⟨⟨#[]⟩, 0⟩ := ⟨by decide, by decide⟩
theorem Iv.fileAt {F : Fs} {i : Nat} (h : Iv F i) (j : Nat) : FiZ (F.files.getD j ⟨⟨#[]⟩, 0⟩) := by
  rw [List.getD_eq_getElem?_getD]
  cases hq : F.files[j]? with
  | none => exact fiZ0
  | some x => exact h.fz x (List.mem_of_getElem? hq)
theorem Iv.set {F F' : Fs} {i j : Nat} {x : Fi} (h : Iv F i) (hx : FiZ x) (e1 : F'.files = F.files.set j x) (e2 : F'.fails = F.fails) : Iv F' i := by
  refine ⟨fun y hy => ?_, by rw [e2]; exact h.fl⟩
  rw [e1] at hy
  rcases List.mem_or_eq_of_mem_set hy with h1 | h1
  · exact h.fz y h1
  · rw [h1]; exact hx
theorem iv_downF (p : List Int) : ∀ (l : List Fi) (k : Nat), (∀ x ∈ l, FiZ x) → ∀ x ∈ downF p k l, FiZ x
  | [], _, _, x, hx => by simp [downF] at hx
  | y :: l, k, h, x, hx => by
    simp only [downF, List.mem_cons] at hx
    rcases hx with rfl | hx
    · obtain ⟨h1, h2⟩ := h y (List.mem_cons_self ..)
      have h3 := pkM_le p (k + 1) (y.d.size - y.s)
      have h4 : (y.d.extract 0 (y.s + pickM p (k + 1) (y.d.size - y.s))).size = min (y.s + pickM p (k + 1) (y.d.size - y.s)) y.d.size := by simp
      show (y.d.extract 0 _).size ≤ _ ∧ y.s + _ ≤ (y.d.extract 0 _).size
      rw [h4]
      omega
    · exact iv_downF p l (k + 1) (fun z hz => h z (List.mem_cons_of_mem _ hz)) x hx
theorem iv_down {F : Fs} {i : Nat} (h : Iv F i) (p : List Int) : Iv (downM F p) i := ⟨iv_downF p F.files 0 h.fz, Nat.zero_le _⟩
theorem iv_step {F : Fs} {i : Nat} (h : Iv F i) : Iv (stepM F).1 i := by
  have h1 : Iv { F with steps := F.steps + 1 } i := h.same rfl rfl
  unfold stepM
  simp only
  split
  · exact iv_down h1 _
  · split <;> exact h1
theorem iv_ite {i : Nat} {c : Prop} [Decidable c] {a b : Fs × Int} (ha : c → Iv a.1 i) (hb : ¬ c → Iv b.1 i) : Iv (if c then a else b).1 i := by
  by_cases h : c
  · rw [if_pos h]; exact ha h
  · rw [if_neg h]; exact hb h
theorem iv_change {F : Fs} {i : Nat} {c : Ch} (h : Iv F i) : Iv (changeM F c) i := h.same rfl rfl
theorem iv_create {F : Fs} {i : Nat} (h : Iv F i) (n : ByteArray) : Iv (createM F n).1 i := by
  unfold createM
  refine iv_ite (fun _ => h) (fun _ => iv_ite (fun _ => iv_ite (fun _ => h) (fun _ => ?_)) (fun _ => h))
  refine iv_ite (fun _ => iv_change ?_) (fun _ => iv_step h)
  have h1 := iv_step h
  refine ⟨fun x hx => ?_, h1.fl⟩
  rcases List.mem_append.1 hx with h2 | h2
  · exact h1.fz x h2
  · have : x = ⟨⟨#[]⟩, 0⟩ := by simpa using h2
    rw [this]
    exact fiZ0
theorem ba_ext_size (d : ByteArray) (k : Nat) : (d.extract 0 k).size = min k d.size := by simp
theorem iv_append {F : Fs} {i : Nat} (h : Iv F i) (n d : ByteArray) : Iv (appendM F n d).1 i := by
  unfold appendM
  refine iv_ite (fun _ => ?_) (fun _ => h)
  refine iv_ite (fun _ => h) (fun h0 => ?_)
  refine iv_ite (fun _ => iv_step h) (fun h3 => ?_)
  have hu : (stepM F).1 = up1 F := by
    rcases stepM_cases F with h1 | ⟨_, h1⟩ | ⟨_, h1⟩
    · exact absurd h1 h3
    · exact h1
    · exact h1
  have hx := h.fileAt (findM F.dir n).toNat
  have key : ∀ m : ByteArray, m.size ≤ d.size → Iv { (stepM F).1 with files := (stepM F).1.files.set (findM F.dir n).toNat ⟨(F.files.getD (findM F.dir n).toNat ⟨⟨#[]⟩, 0⟩).d ++ m, (F.files.getD (findM F.dir n).toNat ⟨⟨#[]⟩, 0⟩).s⟩ } i := fun m hm => by
    refine (iv_step h).set (j := (findM F.dir n).toNat) (x := ⟨(F.files.getD (findM F.dir n).toNat ⟨⟨#[]⟩, 0⟩).d ++ m, (F.files.getD (findM F.dir n).toNat ⟨⟨#[]⟩, 0⟩).s⟩) ⟨?_, ?_⟩ rfl rfl
    · show ((F.files.getD (findM F.dir n).toNat ⟨⟨#[]⟩, 0⟩).d ++ m).size ≤ _
      rw [ByteArray.size_append]
      have h0' : ¬ 1073741824 < (F.files.getD (findM F.dir n).toNat ⟨⟨#[]⟩, 0⟩).d.size + d.size := h0
      omega
    · show (F.files.getD (findM F.dir n).toNat ⟨⟨#[]⟩, 0⟩).s ≤ ((F.files.getD (findM F.dir n).toNat ⟨⟨#[]⟩, 0⟩).d ++ m).size
      rw [ByteArray.size_append]
      have := hx.2
      omega
  refine key _ ?_
  split
  · rw [ba_ext_size]
    omega
  · exact Nat.le_refl _
theorem iv_sync {F : Fs} {i : Nat} (h : Iv F i) (n : ByteArray) : Iv (syncM F n).1 i := by
  unfold syncM
  refine iv_ite (fun _ => ?_) (fun _ => h)
  refine iv_ite (fun _ => ?_) (fun _ => iv_step h)
  have hx := (iv_step h).fileAt (findM F.dir n).toNat
  exact (iv_step h).set (j := (findM F.dir n).toNat) (x := ⟨((stepM F).1.files.getD (findM F.dir n).toNat ⟨⟨#[]⟩, 0⟩).d, ((stepM F).1.files.getD (findM F.dir n).toNat ⟨⟨#[]⟩, 0⟩).d.size⟩) ⟨hx.1, Nat.le_refl _⟩ rfl rfl
theorem iv_rename {F : Fs} {i : Nat} (h : Iv F i) (n t : ByteArray) : Iv (renameM F n t).1 i := by
  unfold renameM
  exact iv_ite (fun _ => h) (fun _ => iv_ite (fun _ => iv_ite (fun _ => iv_change (iv_step h)) (fun _ => iv_step h)) (fun _ => h))
theorem iv_remove {F : Fs} {i : Nat} (h : Iv F i) (n : ByteArray) : Iv (removeM F n).1 i := by
  unfold removeM
  exact iv_ite (fun _ => iv_ite (fun _ => iv_change (iv_step h)) (fun _ => iv_step h)) (fun _ => h)
theorem iv_syncDir {F : Fs} {i : Nat} (h : Iv F i) : Iv (syncDirM F).1 i := by
  unfold syncDirM
  exact iv_ite (fun _ => h) (fun _ => iv_ite (fun _ => (iv_step h).same rfl rfl) (fun _ => iv_step h))
theorem iv_fails {F : Fs} {i : Nat} (h : Iv F i) (n p : Int) : Iv (failsM F n p).1 (i + 1) := by
  unfold failsM
  refine iv_ite (fun _ => h.more (Nat.le_succ _)) (fun _ => iv_ite (fun _ => h.more (Nat.le_succ _)) (fun _ => ⟨h.fz, ?_⟩))
  show (F.fails ++ [_]).length ≤ _
  rw [List.length_append]
  have := h.fl
  simp; omega
theorem iv_crash {F : Fs} {i : Nat} (h : Iv F i) (n : Int) (p : List Int) : Iv (crashM F n p).1 i := by
  unfold crashM
  exact iv_ite (fun _ => h) (fun _ => iv_ite (fun _ => h) (fun _ => iv_ite (fun _ => iv_down h p) (fun _ => h.same rfl rfl)))
theorem iv_start {F : Fs} {i : Nat} (h : Iv F i) : Iv (startM F).1 i := by
  unfold startM
  exact iv_ite (fun _ => h.same rfl rfl) (fun _ => h)
theorem iv_done {F : Fs} {i : Nat} (h : Iv F i) (o : Po) : Iv (doneM F o).1 (i + 1) := by
  unfold doneM
  exact iv_ite (fun _ => (iv_create h _).more (Nat.le_succ _)) (fun _ => iv_ite (fun _ => (iv_append h _ _).more (Nat.le_succ _)) (fun _ => iv_ite (fun _ => (iv_sync h _).more (Nat.le_succ _)) (fun _ => iv_ite (fun _ => (iv_rename h _ _).more (Nat.le_succ _)) (fun _ => iv_ite (fun _ => (iv_syncDir h).more (Nat.le_succ _)) (fun _ => iv_ite (fun _ => (iv_remove h _).more (Nat.le_succ _)) (fun _ => iv_ite (fun _ => iv_fails h _ _) (fun _ => iv_ite (fun _ => (iv_crash h _ _).more (Nat.le_succ _)) (fun _ => iv_ite (fun _ => (iv_start h).more (Nat.le_succ _)) (fun _ => h.more (Nat.le_succ _))))))))))
end Go.Proofs.YtlheilkofibogaaGreat
