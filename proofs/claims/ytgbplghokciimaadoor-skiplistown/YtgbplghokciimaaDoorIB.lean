import Derived.Test.YtgbplghokciimaaDoorIA
import Derived.Test.YtgbplghokciimaaDoorRP
import Derived.Shelf.Abstract
import Derived.Shelf.RegionOpen
import Derived.OwnWalkIn
import Derived.TacticsInMore
import Derived.LoopNIn
import Derived.LoopIn
import Derived.Maps.AppendAt
import Derived.Deep.RegionHeld3
import Derived.Laws.StructEq
import Derived.Test.YtgbplghokciimaaDoorSkA
namespace Go.Proofs.YtgbplghokciimaaDoor.I
open Go.RowKit Go.Shelf
set_option linter.unusedVariables false
attribute [local go_sem] Oper.semAt_some
/-- the boxes of a walk. -/
structure WBox (g rank cnt bx : Nat) (back : Bool) (S : SkS) (N : Nat) (W : World) : Prop where
  b0 : Blk W bx [.pointer (some ⟨g, 0, none⟩)] 25
  b1 : Blk W (bx + 1) [.int .i64 (rank : Int)] 3
  b2 : Blk W (bx + 2) [.int .i64 (cnt : Int)] 3
  b3 : Blk W (bx + 3) [.bool back] 4
  bd : Bd W g S N
theorem WBox.on {g rank cnt bx : Nat} {back : Bool} {S : SkS} {N : Nat} {W W' : World} (h : WBox g rank cnt bx back S N W) (hb : Below W.heap.size W W') : WBox g rank cnt bx back S N W' :=
  ⟨cells_below h.b0 hb, cells_below h.b1 hb, cells_below h.b2 hb, cells_below h.b3 hb, h.bd.below hb⟩
set_option maxHeartbeats 800000 in
set_option maxRecDepth 100000 in
theorem walk_any (g rank cnt : Nat) (back : Bool) (S : SkS) (N : Nat) (w : World) (h : Bd w g S N) : Calls Tryd.prog 61 #[.pointer (some ⟨g, 0, none⟩), .int .i64 (rank : Int), .int .i64 (cnt : Int), .bool back] w fun e w' => e = .returned (.func (.func 85) #[] #[.pointer (some ⟨w.heap.size, 0, none⟩), .pointer (some ⟨w.heap.size + 1, 0, none⟩), .pointer (some ⟨w.heap.size + 3, 0, none⟩), .pointer (some ⟨w.heap.size + 2, 0, none⟩)]) ∧ WBox g rank cnt w.heap.size back S N w' ∧ Below w.heap.size w w' := by
  have HB : Hid (Bd w g S N) := h
  clear h
  have hmf : ∀ (fn : Fn) (first cap : Array Value) (w : World), (Instr.makeFunc fn first cap).run Tryd.prog w = .ok (.func fn first cap) w := fun _ _ _ _ => rfl
  obtain ⟨W1, hW1⟩ : ∃ W1, W1 = w.alloc (.cells #[.pointer (some ⟨g, 0, none⟩)] 25) := ⟨_, rfl⟩
  obtain ⟨W2, hW2⟩ : ∃ W2, W2 = W1.alloc (.cells #[.int .i64 (rank : Int)] 3) := ⟨_, rfl⟩
  obtain ⟨W3, hW3⟩ : ∃ W3, W3 = W2.alloc (.cells #[.int .i64 (cnt : Int)] 3) := ⟨_, rfl⟩
  obtain ⟨W4, hW4⟩ : ∃ W4, W4 = W3.alloc (.cells #[.bool back] 4) := ⟨_, rfl⟩
  have z1 : W1.heap.size = w.heap.size + 1 := by rw [hW1, World.size_alloc]
  have z2 : W2.heap.size = w.heap.size + 2 := by rw [hW2, World.size_alloc, z1]
  have z3 : W3.heap.size = w.heap.size + 3 := by rw [hW3, World.size_alloc, z2]
  have b1 : Below w.heap.size w W1 := by rw [hW1]; exact (Below.refl _ _).alloc (Nat.le_refl _) _
  have b2 : Below W1.heap.size W1 W2 := by rw [hW2]; exact (Below.refl _ _).alloc (Nat.le_refl _) _
  have b3 : Below W2.heap.size W2 W3 := by rw [hW3]; exact (Below.refl _ _).alloc (Nat.le_refl _) _
  have b4 : Below W3.heap.size W3 W4 := by rw [hW4]; exact (Below.refl _ _).alloc (Nat.le_refl _) _
  have r1 : Blk W1 w.heap.size [.pointer (some ⟨g, 0, none⟩)] 25 := by rw [hW1]; exact one_alloc _ _
  have r2 : Blk W2 (w.heap.size + 1) [.int .i64 (rank : Int)] 3 := by
    have := one_alloc W1 (.cells #[.int .i64 (rank : Int)] 3)
    rw [← hW2, z1] at this; exact this
  have r3 : Blk W3 (w.heap.size + 2) [.int .i64 (cnt : Int)] 3 := by
    have := one_alloc W2 (.cells #[.int .i64 (cnt : Int)] 3)
    rw [← hW3, z2] at this; exact this
  have r4 : Blk W4 (w.heap.size + 3) [.bool back] 4 := by
    have := one_alloc W3 (.cells #[.bool back] 4)
    rw [← hW4, z3] at this; exact this
  have hbw : Below w.heap.size w W4 := bel_to (bel_to (bel_to b1 b2 (Nat.le_refl _)) b3 (Nat.le_refl _)) b4 (Nat.le_refl _)
  have HX : Hid (WBox g rank cnt w.heap.size back S N W4) := ⟨cells_below (cells_below (cells_below r1 b2) b3) b4, cells_below (cells_below r2 b3) b4, cells_below r3 b4, r4, HB.out.below hbw⟩
  have HBW : Hid (Below w.heap.size w W4) := hbw
  clear b1 b2 b3 b4 r1 r2 r3 r4 hbw z1 z2 z3
  go_enter Tryd.func61, Tryd.ntmps61
  go_wp2
  rw [← hW1, ← hW2, ← hW3, ← hW4]
  go_returns
  exact ⟨rfl, HX.out, HBW.out⟩
/-- the places that a walk comes to. -/
def wkL (back : Bool) (n rank cnt : Nat) : List Nat := (List.range cnt).map fun j => trn back n (rank + j)
theorem wkL_snoc (back : Bool) (n rank cnt j : Nat) (h : j < cnt) : wkL back n rank (j + 1) = wkL back n rank j ++ [trn back n (rank + j)] ∧ wkL back n rank j ++ [trn back n (rank + j)] <+: wkL back n rank cnt := by
  have e : wkL back n rank (j + 1) = wkL back n rank j ++ [trn back n (rank + j)] := by
    unfold wkL; rw [List.range_succ, List.map_append]; rfl
  refine ⟨e, ?_⟩
  rw [← e]
  unfold wkL
  refine List.IsPrefix.map _ ?_
  obtain ⟨d, rfl⟩ : ∃ d, cnt = (j + 1) + d := ⟨cnt - (j + 1), by omega⟩
  rw [show List.range (j + 1 + d) = List.range (j + 1) ++ (List.range d).map (fun x => j + 1 + x) from List.range_add]
  exact List.prefix_append _ _
def encT (T : List Tw) (i : Nat) : Array Value := #[ptr ((T[i]?).map Tw.b)]
theorem encT_at {T : List Tw} {i : Nat} (h : i < T.length) : encT T i = #[.pointer (some ⟨T[i].b, 0, none⟩)] := by
  unfold encT
  rw [List.getElem?_eq_getElem h]; rfl
/-- the tower behind one, either way. -/
theorem Bd.step {W : World} {g : Nat} {S : SkS} {N : Nat} (h : Bd W g S N) {i : Nat} (hi : i < S.T.length) : W.cell? ⟨S.T[i].b, 4, none⟩ = some (ptr (pAt S.hb S.T i)) ∧ ∃ c, W.cell? ⟨S.T[i].b, 3, none⟩ = some (.slice (some ⟨S.T[i].k, 0, none⟩) S.T[i].h c) ∧ 1 ≤ S.T[i].h ∧ W.cell? ⟨S.T[i].k, 0, none⟩ = some (ptr (pAt S.hb S.T (i + 2))) := by
  have ht := h.sk.tow i hi
  have h1 := h.pos S.T[i].h (List.mem_map.2 ⟨_, List.getElem_mem hi, rfl⟩)
  refine ⟨by rw [ht.cell]; rfl, S.T[i].h, by rw [ht.cell]; rfl, h1, ?_⟩
  obtain ⟨K, kc, hv, k0, k1, kf⟩ := (h.sk.row i hi).at (l := 0) h1
  cases hv
  rw [show (0 : Nat) * 2 = 0 from rfl] at k0
  rw [k0]
  unfold lnk
  rw [nx_zero h.pos (by rw [hts_len]; omega)]
set_option maxHeartbeats 1000000 in
set_option maxRecDepth 100000 in
theorem walk_seq (n : Nat) (g rank cnt bx B0 : Nat) (back : Bool) (S : SkS) (N : Nat) (pch : List PanicEntry) (hN : N ≤ 1000000) (hl : S.T.length ≤ N) (hc : rank < S.T.length) (hr : rank + cnt ≤ S.T.length) :
    SeqP n Tryd.prog 85 #[.pointer (some ⟨bx, 0, none⟩), .pointer (some ⟨bx + 1, 0, none⟩), .pointer (some ⟨bx + 3, 0, none⟩), .pointer (some ⟨bx + 2, 0, none⟩)] (encT S.T) (wkL back S.T.length rank cnt) false pch (WBox g rank cnt bx back S N) B0 := by
  intro l J Jx Jp W hBW hJ hbox hJx hY h0
  have hbx := hbox _ _ h0
  have e0 : W.cell? ⟨bx, 0, none⟩ = some (.pointer (some ⟨g, 0, none⟩)) := by rw [hbx.b0.cell]; rfl
  have e1 : W.cell? ⟨bx + 1, 0, none⟩ = some (.int .i64 (rank : Int)) := by rw [hbx.b1.cell]; rfl
  have e3 : W.cell? ⟨bx + 3, 0, none⟩ = some (.bool back) := by rw [hbx.b3.cell]; rfl
  have hd : Below W.heap.size W W.drew := (Below.refl _ W).drew
  have HTU : Hid _ := turn_any g S N rank back W.drew (hbx.bd.below hd) hN (fun _ => by omega) (by omega)
  have hrl : trn back S.T.length rank < S.T.length := trn_lt (by omega)
  obtain ⟨r, hrr⟩ : ∃ r, trn back S.T.length rank = r := ⟨_, rfl⟩
  rw [hrr] at HTU hrl
  have hH0 : 0 < S.H := by
    have h1 := hbx.bd.pos S.T[r].h (List.mem_map.2 ⟨_, List.getElem_mem hrl, rfl⟩)
    have h2 := hbx.bd.top.le S.T[r].h (List.mem_map.2 ⟨_, List.getElem_mem hrl, rfl⟩)
    omega
  have HTW : Hid _ := tower_any g S (cntT S.T) S.T.length (pAt S.hb S.T) (r + 1) (r : Int) (by omega) W.drew (hbx.bd.below hd).sk (by omega) (fun q hq => by omega) hbx.bd.h24 (by omega) hbx.bd.pos
  have HPT : Hid (pAt S.hb S.T (r + 1) = some S.T[r].b) := by
    show (S.T[r]?).map Tw.b = _
    rw [List.getElem?_eq_getElem hrl]; rfl
  have HJ0 : Hid _ := h0
  have HRR : Hid _ := hrr
  have HJJ : Hid (∀ s A B, J s A → Below A.heap.size A B → J s B) := hJ
  have HBO : Hid _ := hbox
  have HYY : Hid _ := hY
  clear h0 hbx hrr hJ hbox hY
  refine callsIn_of_wp Tryd.func85 rfl trivial ?_ rfl
  simp only [Tryd.ntmps85, List.size_toArray, List.length_cons, List.length_nil, Nat.reduceAdd, Nat.reduceSub, Array.replicate_succ, Array.replicate_zero, List.push_toArray, List.append_toArray, List.nil_append, List.cons_append]
  gi_wp2
  refine wpIn_wide.2 ?_
  have hSA := And.intro e0 (And.intro e1 e3)
  go_region_held3 (fun w' : World => w'.cell? ⟨bx, 0, none⟩ = some (.pointer (some ⟨g, 0, none⟩)) ∧ w'.cell? ⟨bx + 1, 0, none⟩ = some (.int .i64 (rank : Int)) ∧ w'.cell? ⟨bx + 3, 0, none⟩ = some (.bool back))
    (first | exact hSA | exact hSB)
    (first | (go_at_call 32; refine (show Calls _ _ _ _ _ from HTU.out).mono ?_; rintro e w1 ⟨rfl, hw1⟩; have hw1' := hw1.symm; subst hw1') | (go_at_call 34; refine (show Calls _ _ _ _ _ from HTW.out).mono ?_; rintro e w2 ⟨o, rfl, ho, hb2⟩; have hSB := And.intro (cell_on hSA.1 (hd.trans hb2)) (And.intro (cell_on hSA.2.1 (hd.trans hb2)) (cell_on hSA.2.2 (hd.trans hb2)))))
  have hJ2 : J [] w2 := HJJ.out _ _ _ HJ0.out (hd.trans hb2)
  have HJ2 : Hid _ := hJ2
  have hx2 := HBO.out _ _ hJ2
  have e2 : w2.cell? ⟨bx + 2, 0, none⟩ = some (.int .i64 (cnt : Int)) := by rw [hx2.b2.cell]; rfl
  have hs2 : B0 ≤ w2.heap.size := Nat.le_trans hBW (hd.trans hb2).size
  have HS2 : Hid (B0 ≤ w2.heap.size) := hs2
  have HPT2 : Hid (pAt S.hb S.T (r + 1) = (S.T[trn back S.T.length (rank + 0)]?).map Tw.b) := by
    show (S.T[r]?).map Tw.b = _
    rw [Nat.add_zero, HRR.out]
  clear hJ2 hx2 hs2 hSA hSB hb2 e0 e1 e3 ho hBW hd
  generalize pAt S.hb S.T (r + 1) = o at *
  gi_wp2
  clear e2
  gi_loopw [14, 6] (fun ci ct wr => ∃ j : Nat, ∃ o : Option Nat, j ≤ cnt ∧ ci = .int .i64 (j : Int) ∧ ct = ptr o ∧ (j < cnt → o = (S.T[trn back S.T.length (rank + j)]?).map Tw.b) ∧ J (wkL back S.T.length rank j) wr ∧ B0 ≤ wr.heap.size) (fun ci _ _ => cnt - (intOf ci).toNat)
  case atStart => exact ⟨0, o, by omega, rfl, rfl, fun _ => HPT2.out, HJ2.out, HS2.out⟩
  case round =>
    obtain ⟨j, o1, hj, rfl, rfl, ho1, hJs, hB0⟩ := hrel
    by_cases hlt : j < cnt
    · have hil : trn back S.T.length (rank + j) < S.T.length := trn_lt (by omega)
      obtain ⟨i, hi⟩ : ∃ i, trn back S.T.length (rank + j) = i := ⟨_, rfl⟩
      have ho1 := ho1 hlt
      rw [hi] at ho1 hil
      rw [List.getElem?_eq_getElem hil] at ho1
      have ho1 : o1 = some S.T[i].b := ho1
      subst ho1
      obtain ⟨p1, p2⟩ := wkL_snoc back S.T.length rank cnt j hlt
      rw [hi] at p1 p2
      obtain ⟨fn, tmps, assign, body, hy, hR⟩ := HYY.out _ i wr p2 hJs
      rw [encT_at hil] at hy
      have HP1 : Hid _ := p1
      have HP2 : Hid _ := p2
      have HI : Hid (trn back S.T.length (rank + j) = i) := hi
      have hjw : IntKind.i64.wrap ((j : Int) + 1) = (j : Int) + 1 := by rw [IntKind.wrap_i64] <;> omega
      have hjl : (j : Int) < (cnt : Int) := by omega
      have hSK : Hid True := trivial
      clear p1 p2 hJs hi
      rw [show ptr (some S.T[i].b) = Value.pointer (some ⟨S.T[i].b, 0, none⟩) from rfl]
      have HST : Hid (∀ W3, Bd W3 g S N → W3.cell? ⟨S.T[i].b, 4, none⟩ = some (ptr (pAt S.hb S.T i)) ∧ ∃ c, W3.cell? ⟨S.T[i].b, 3, none⟩ = some (.slice (some ⟨S.T[i].k, 0, none⟩) S.T[i].h c) ∧ 1 ≤ S.T[i].h ∧ W3.cell? ⟨S.T[i].k, 0, none⟩ = some (ptr (pAt S.hb S.T (i + 2)))) := fun W3 h3 => h3.step hil
      generalize S.T[i].b = tb at *
      generalize S.T[i].k = tk at *
      generalize S.T[i].h = th at *
      gi_wp2
      refine ⟨fun h => (by cases h), hR.mono ?_⟩
      rintro e W3 (⟨rfl, hJ3, hkc, hz3⟩ | ⟨rfl, hJx3⟩ | ⟨rfl, hJp3⟩)
      · have hx3 := HBO.out _ _ hJ3
        have b3 : W3.cell? ⟨bx + 3, 0, none⟩ = some (.bool back) := by rw [hx3.b3.cell]; rfl
        obtain ⟨q4, c, q3, qh, q0⟩ := HST.out W3 hx3.bd
        have HJ3 : Hid _ := hJ3
        have HZ3 : Hid (B0 ≤ W3.heap.size) := by show _ ≤ _; omega
        have hth : (0 : Int) < (th : Int) := by omega
        clear hJ3 hR hy hkc hx3
        cases back with
        | true =>
          have HNX : Hid (j + 1 < cnt → pAt S.hb S.T i = (S.T[trn true S.T.length (rank + (j + 1))]?).map Tw.b) := fun h => by
            have := HI.out
            unfold trn at this ⊢
            simp only [if_true] at this ⊢
            obtain ⟨i', rfl⟩ : ∃ i', i = i' + 1 := ⟨i - 1, by omega⟩
            show (S.T[i']?).map Tw.b = _
            rw [show S.T.length - 1 - (rank + (j + 1)) = i' by omega]
          generalize pAt S.hb S.T i = oo at *
          clear q3 q0
          gi_wp2
          go_roundw
          case rel => exact ⟨j + 1, oo, by omega, by go_num, rfl, HNX.out, by rw [HP1.out]; exact HJ3.out, HZ3.out⟩
          case measure => simp [intOf]; omega
        | false =>
          have HNX : Hid (j + 1 < cnt → pAt S.hb S.T (i + 2) = (S.T[trn false S.T.length (rank + (j + 1))]?).map Tw.b) := fun h => by
            have := HI.out
            unfold trn at this ⊢
            simp only [Bool.false_eq_true, if_false] at this ⊢
            show (S.T[i + 1]?).map Tw.b = _
            rw [show rank + (j + 1) = i + 1 by omega]
          generalize pAt S.hb S.T (i + 2) = oo at *
          clear q4
          gi_wp2
          go_roundw
          case rel => exact ⟨j + 1, oo, by omega, by go_num, rfl, HNX.out, by rw [HP1.out]; exact HJ3.out, HZ3.out⟩
          case measure => simp [intOf]; omega
      · gi_wp2
        refine bodyPost_ret (results_none rfl _ _ _) rfl ?_
        exact Or.inr (Or.inl ⟨⟨_, rfl⟩, _, HP2.out, hJx3⟩)
      · exact ⟨rfl, Or.inr (Or.inr ⟨rfl, Or.inl hJp3⟩)⟩
    · have he : j = cnt := by omega
      subst he
      have hjl : ¬ (j : Int) < (j : Int) := by omega
      clear ho1
      gi_wp2
      go_end0
      exact Or.inl ⟨⟨_, rfl⟩, hJs⟩
end Go.Proofs.YtgbplghokciimaaDoor.I
namespace Go.Proofs.YtgbplghokciimaaDoor.I
open Go.RowKit Go.Shelf
set_option linter.unusedVariables false
attribute [local go_sem] Oper.semAt_some
theorem WpB_act {P : Program} {f0 : FuncId} {c : Code} {Q : Exit → Act → World → Prop} {a : Act} {w : World} (h : ∀ a0, a0 = a → WpB P f0 c Q a0 w) : WpB P f0 c Q a w := h a rfl
theorem own_row {A B : World} {row : Option Nat} {b0 k : Nat} {cs : Array Value} {T : TypeId} {fr : Nat × Nat} (h : A.heap[k]? = some (.cells cs T fr)) (hg : A.grownBy B row) (hr : ∀ r, row = some r → b0 ≤ r ∧ ∃ o : Obj, A.heap[r]? = some o ∧ o.isCells = false) : B.heap[k]? = some (.cells cs T fr) :=
  (grownBy_keeps_cells hg (fun r e => (hr r e).2) h rfl).trans h
theorem brow1 {w : World} {g T : Nat} {v0 : Value} (h : w.heap[g]? = some (.cells #[v0] T)) : w.cell? ⟨g, 0, none⟩ = some v0 ∧ ∀ j, w.frozen? ⟨g, j, none⟩ = false := by
  refine ⟨?_, fun j => frozen_of_row _ _ _ _ _ h⟩ <;> rw [cell_of_row _ _ _ _ _ _ h] <;> rfl
def flatV (l : List En) : List Value := l.flatMap fun e => [.string e.1, .int .i64 e.2.1, vl e.2.2]
theorem flatV_len (l : List En) : (flatV l).length = l.length * 3 := by
  induction l with
  | nil => rfl
  | cons e l ih => simp only [flatV, List.flatMap_cons, List.length_append, List.length_cons, List.length_nil] at ih ⊢; omega
theorem flatV_snoc (l : List En) (e : En) : flatV (l ++ [e]) = flatV l ++ [.string e.1, .int .i64 e.2.1, vl e.2.2] := by
  unfold flatV; rw [List.flatMap_append]; simp
def selE (T : List Tw) (l : List Nat) : List En := l.map fun i => ((ens T)[i]?).getD (⟨#[]⟩, 0, 0)
theorem selE_len (T : List Tw) (l : List Nat) : (selE T l).length = l.length := by unfold selE; simp
theorem selE_snoc {T : List Tw} (l : List Nat) {i : Nat} (h : i < T.length) : selE T (l ++ [i]) = selE T l ++ [T[i].e] := by
  unfold selE
  rw [List.map_append]
  simp [h]
theorem infoE : (Tryd.prog.info? 39).map (fun i => (i.zero, i.size, i.bytes)) = some (some (.agg #[.string ⟨#[]⟩, .int .i64 0, vz]), 3, 32) := by kernel_rfl
theorem rown_form3 {w : World} {base g k c T : Nat} {xs : List Value} (h : w.ownsRow base T 3 (.slice (some ⟨g, 0, none⟩) k c) k xs) : ∃ cur, w.heap[g]? = some (.cells cur T) ∧ cur.size = c * 3 ∧ cur.toList.take (k * 3) = xs := by
  obtain ⟨_, ⟨h0, _⟩ | ⟨g', cap, cur, hv, hb, hg, h1, h2, h3, h4⟩⟩ := h
  · cases h0
  · injection hv with e1 e2 e3
    injection e1 with e1
    injection e1 with e1
    subst e1; subst e3
    exact ⟨cur, hg, h3, h4⟩
theorem rown_mk3 {w : World} {base g k c T : Nat} {xs : List Value} {cur : Array Value} (hb : base ≤ g) (hk : k ≤ c) (hc : c ≤ maxLen) (hg : w.heap[g]? = some (.cells cur T)) (hs : cur.size = c * 3) (ht : cur.toList.take (k * 3) = xs) : w.ownsRow base T 3 (.slice (some ⟨g, 0, none⟩) k c) k xs := by
  refine ⟨?_, Or.inr ⟨g, c, cur, rfl, hb, hg, hk, hc, hs, ht⟩⟩
  rw [← ht, List.length_take, Array.length_toList]; omega
theorem KA.grown {B g : Nat} {W W' : World} (h : W.grownBy W' (some g)) (hg : g < B) : KA B W W' :=
  ⟨h.size, fun k o hk e => (h.block k (row_lt e) (fun x => by injection x with x; omega)).trans e⟩
theorem opIn_append_fits {F : Fence} {n : Nat} {P : Program} (w : World) {o : Oper} {a : Act} {K : Act → World → Prop} {Q : Exit → Act → World → Prop}
    (s x : Operand) (t : TypeId) (hop : o.op = Op.call { callee := Callee.builtin Builtin.append, args := #[s, x], argTypes := #[t, t] })
    (base : Nat) (e : TypeId) (i : TypeInfo) (size : Nat) (h1 : P.underlying t = some (.slice e)) (h2 : P.info? e = some i) (h4 : i.size = size)
    (g k cap : Nat) (xs : List Value) (hs : a.eval s = .slice (some ⟨g, 0, none⟩) k cap) (hown : w.ownsRow base e size (.slice (some ⟨g, 0, none⟩) k cap) k xs) (ad : Addr) (m c : Nat) (news : List Value) (hx : a.eval x = .slice (some ad) m c) (hn : news.length = m * size)
    (hc : ∀ j u, news[j]? = some u → w.cell? (ad.add j) = some u) (h1c : ∀ u ∈ news, u.oneCell' = true) (b1 : k + m ≤ cap)
    (hK : ∀ w', w'.ownsRow base e size (.slice (some ⟨g, 0, none⟩) (k + m) cap) (k + m) (xs ++ news) → w.grownBy w' (some g) → K (a.put o.dst (.slice (some ⟨g, 0, none⟩) (k + m) cap)) w') :
    o.wpIn F n P a w K Q := by
  obtain ⟨w', hrun, r1, r2⟩ := run_append_fits (P := P) w base t o.type e i size h1 h2 h4 g k cap xs hown ad m c news hn hc h1c b1
  unfold Oper.wpIn
  refine ⟨?_, ?_⟩
  · simp [Oper.about, hop, resolve, Target.leads, Sem.run_pure]
  · rw [Oper.semAt_plain F _ _ (by rw [hop]; intro c hc'; cases hc')]
    simp [execOp, hop, resolve, invoke, builtin, hs, hx, hrun, Oper.uponIn]
    exact hK w' r1 r2
theorem cell_three_new (w : World) (a b c : Value) (T : Nat) : ∀ j u, [a, b, c][j]? = some u → (w.alloc (.cells #[a, b, c] T)).cell? ((⟨w.heap.size, 0, none⟩ : Addr).add j) = some u := fun j u hu => by
  rw [Lib.add_plain, Nat.zero_add, cell_of_row _ _ _ _ _ _ (one_alloc w (.cells #[a, b, c] T))]
  simpa using hu
/-- the blocks that a walk stands on. -/
def wblk (bx g : Nat) (S : SkS) : List Nat := bx :: (bx + 1) :: (bx + 2) :: (bx + 3) :: bblk g S
theorem WBox.to7 {g rank cnt bx : Nat} {back : Bool} {S : SkS} {N : Nat} {W W' : World} (h : WBox g rank cnt bx back S N W) (e : ∀ q ∈ wblk bx g S, W'.heap[q]? = W.heap[q]?) : WBox g rank cnt bx back S N W' :=
  ⟨h.b0.to (e _ (by simp [wblk])), h.b1.to (e _ (by simp [wblk])), h.b2.to (e _ (by simp [wblk])), h.b3.to (e _ (by simp [wblk])), h.bd.to (fun q hq => e q (by simp [wblk, hq]))⟩
theorem WBox.lts7 {g rank cnt bx : Nat} {back : Bool} {S : SkS} {N : Nat} {W : World} (h : WBox g rank cnt bx back S N W) : ∀ q ∈ wblk bx g S, q < W.heap.size := fun q hq => by
  unfold wblk at hq
  simp only [List.mem_cons] at hq
  rcases hq with rfl | rfl | rfl | rfl | hq
  · exact h.b0.lt
  · exact h.b1.lt
  · exact h.b2.lt
  · exact h.b3.lt
  · exact h.bd.lts q hq
theorem WBox.own {g rank cnt bx B0 : Nat} {back : Bool} {S : SkS} {N : Nat} {A B : World} {row : Option Nat} (h : WBox g rank cnt bx back S N A) (hB : ∀ q ∈ wblk bx g S, q < B0) (hg : A.grownBy B row) (hr : ∀ r, row = some r → B0 ≤ r ∧ ∃ o : Obj, A.heap[r]? = some o ∧ o.isCells = false) : WBox g rank cnt bx back S N B :=
  h.to7 (fun q hq => hg.block q (h.lts7 q hq) (fun e => by have := (hr q e.symm).1; have := hB q hq; omega))
theorem put_below {B D : Nat} {w W : World} {o : Obj} (h : Below B w W) (hD : B ≤ D) : Below B w (W.putObj D o) :=
  h.trans ⟨rfl, rfl, rfl, by simp [World.putObj], fun k hk => World.putObj_heap_other (by omega)⟩
theorem put_keep {w : World} {k D : Nat} {o o' : Obj} (h : w.heap[k]? = some o) (hn : k ≠ D) : (w.putObj D o').heap[k]? = some o := (World.putObj_heap_other hn).trans h
set_option maxHeartbeats 2000000 in
set_option maxRecDepth 100000 in
theorem take_any (bd rank cnt : Nat) (back : Bool) (S : SkS) (N : Nat) (w : World) (h : Bd w bd S N) (hN : N ≤ 1000000) (hc : rank < S.T.length) (hr : rank + cnt ≤ S.T.length) : Calls Tryd.prog 31 #[.pointer (some ⟨bd, 0, none⟩), .int .i64 (rank : Int), .int .i64 (cnt : Int), .bool back] w fun e w' => ∃ g, e = .returned (.slice (some ⟨g, 0, none⟩) cnt cnt) ∧ w'.ownsRow w.heap.size 39 3 (.slice (some ⟨g, 0, none⟩) cnt cnt) cnt (flatV (selE S.T (wkL back S.T.length rank cnt))) ∧ Below w.heap.size w w' := by
  have hlen := h.len
  have HB0 : Hid (Bd w bd S N) := h
  obtain ⟨iE, hiE, hzE0, hzE, hzE2⟩ := info_of infoE
  have HIE : Hid (Tryd.prog.info? 39 = some iE ∧ iE.zero = some (.agg #[.string ⟨#[]⟩, .int .i64 0, vz]) ∧ iE.size = 3 ∧ iE.bytes = 32) := ⟨hiE, hzE0, hzE, hzE2⟩
  clear h hiE hzE0 hzE hzE2
  refine calls_of_wpB (n := 10) Tryd.func31 rfl ?_
  simp only [Tryd.ntmps31, List.size_toArray, List.length_cons, List.length_nil, Nat.reduceAdd, Nat.reduceSub, Array.replicate_succ, Array.replicate_zero, List.push_toArray, List.append_toArray, List.nil_append, List.cons_append]
  refine wpB_then (n := 10) ?_
  gi_wp2
  refine wpB_then (n := 10) ?_
  gi_wp2_with (gi_at_make; refine wpListIn_make_own _ rfl _ _ 35 rfl w.heap.size 39 iE (.agg #[.string ⟨#[]⟩, .int .i64 0, vz]) 3 Tryd.underlying35 HIE.out.1 HIE.out.2.1 HIE.out.2.2.1 .i64 .i64 (cnt : Int) cnt rfl rfl rfl (by rw [HIE.out.2.2.2]; omega) (by unfold maxLen; omega) (Nat.le_refl _) ?_; intro w5 hown5 hgrow5)
  obtain ⟨g, hg⟩ : ∃ g, w.heap.size = g := ⟨_, rfl⟩
  obtain ⟨kl, hkl⟩ : ∃ kl, w5.heap.size = kl := ⟨_, rfl⟩
  obtain ⟨w6, hw6⟩ : ∃ w6, w6 = w5.alloc (.cells #[.slice (some ⟨w.heap.size, 0, none⟩) 0 cnt] 35) := ⟨_, rfl⟩
  rw [← hw6, hkl]
  rw [hg] at hw6 hown5 ⊢
  have HGZ : Hid (w.heap.size = g) := hg
  have HB5 : Hid (Below w.heap.size w w5) := (Below.refl _ w).grown hgrow5 (Nat.le_refl _) (fun k hk => by cases hk)
  have HG5 : Hid _ := rown_form3 hown5
  have hbw : Below w5.heap.size w5 w6 := by rw [hw6]; exact (Below.refl _ _).alloc (Nat.le_refl _) _
  have HB6 : Hid (Below w.heap.size w w6) := bel_to HB5.out hbw (Nat.le_refl _)
  have HG6 : Hid (∃ cur, w6.heap[g]? = some (.cells cur 39) ∧ cur.size = cnt * 3 ∧ cur.toList.take (0 * 3) = []) := by
    obtain ⟨cur, h1, h2, h3⟩ := HG5.out
    exact ⟨cur, keep_row h1 hbw, h2, h3⟩
  have HK6 : Hid (w6.heap[kl]? = some (.cells #[.slice (some ⟨g, 0, none⟩) 0 cnt] 35)) := by rw [hw6, ← hkl]; exact one_alloc w5 _
  have hz : w.heap.size = g ∧ g < w5.heap.size ∧ w5.heap.size = kl ∧ kl < w6.heap.size := by
    obtain ⟨cur, h1, _, _⟩ := HG5.out
    exact ⟨hg, row_lt h1, hkl, row_lt HK6.out⟩
  have HWK : Hid _ := walk_any bd rank cnt back S N w6 (HB0.out.below HB6.out)
  have hlt0 := HB0.out.lts
  obtain ⟨bx, hbx⟩ : ∃ bx, w6.heap.size = bx := ⟨_, rfl⟩
  have HD7 : Hid (g ∉ wblk bx bd S ∧ kl ∉ wblk bx bd S) := by
    refine ⟨fun hm => ?_, fun hm => ?_⟩ <;>
    · unfold wblk at hm
      simp only [List.mem_cons] at hm
      rcases hm with q | q | q | q | q
      · omega
      · omega
      · omega
      · omega
      · have := hlt0 _ q; omega
  clear hown5 hgrow5 hbw hw6
  refine wpB_seq (wpB_then (n := 10) ?_)
  gi_wp2_with fail
  refine ⟨trivial, (callsIn_wide.2 HWK.out).mono ?_⟩
  rintro e w8 ⟨rfl, hwb, hb8⟩
  rw [hbx] at hwb ⊢
  have HD6 : Hid (w.heap.size ≤ g ∧ g < w8.heap.size ∧ w.heap.size ≤ kl ∧ kl < w8.heap.size ∧ g ≠ kl) := by
    have := hb8.size
    refine ⟨by omega, by omega, by omega, by omega, by omega⟩
  have HG8 : Hid (∃ cur, w8.heap[g]? = some (.cells cur 39) ∧ cur.size = cnt * 3 ∧ cur.toList.take (0 * 3) = []) := by
    obtain ⟨cur, h1, h2, h3⟩ := HG6.out
    exact ⟨cur, keep_row h1 hb8, h2, h3⟩
  have HK8 : Hid _ := keep_row HK6.out hb8
  have HB8 : Hid (Below w.heap.size w w8) := bel_to HB6.out hb8 (Nat.le_refl _)
  have HWB : Hid (WBox bd rank cnt bx back S N w8) := hwb
  have HLB : Hid (∀ q ∈ wblk bx bd S, q < w8.heap.size) := hwb.lts7
  clear hwb hb8 hz hg hkl hbx hlt0
  gi_wp2
  refine wpB_block ?_
  have HSQ : Hid _ := walk_seq 9 bd rank cnt bx w8.heap.size back S N [] hN hlen hc hr
  refine WpB_act (fun a0 ha0 => ?_)
  refine wpB_range (n := 10) (α := Nat) (encs := encT S.T) (L := wkL back S.T.length rank cnt) (bad := false) (pch := []) (box := WBox bd rank cnt bx back S N) Tryd.func31 (gf := 85) (lb := #[.pointer (some ⟨bx, 0, none⟩), .pointer (some ⟨bx + 1, 0, none⟩), .pointer (some ⟨bx + 3, 0, none⟩), .pointer (some ⟨bx + 2, 0, none⟩)]) (by rw [ha0]; rfl) (enters_of Tryd.func85 (by kernel_rfl) rfl) HSQ.out (fun _ => rfl)
    (fun pre W => (∃ cur, W.heap[g]? = some (.cells cur 39) ∧ cur.size = cnt * 3 ∧ cur.toList.take (pre.length * 3) = flatV (selE S.T pre)) ∧ W.heap[kl]? = some (.cells #[.slice (some ⟨g, 0, none⟩) pre.length cnt] 35) ∧ WBox bd rank cnt bx back S N W ∧ Below w.heap.size w W)
    (fun cd pre W => False)
    (fun _ => False)
    ?hI ?hIx (fun _ _ _ _ hs _ _ => hs) ?hbox ?h0
    (fun (x : Nat) (a' : Act) (W : World) => a' = { tmps := (a0.tmps.setIfInBounds 18 (ptr ((S.T[x]?).map Tw.b))).setIfInBounds 10 (ptr ((S.T[x]?).map Tw.b)), defers := [] }) ?hAx ?assign ?body ?done ?stop ?pan
  case hI =>
    rintro s A B row ⟨⟨cur, h1, h2, h3⟩, h4, h5, h6⟩ hg hr
    exact ⟨⟨cur, own_row h1 hg hr, h2, h3⟩, own_row h4 hg hr, h5.own HLB.out hg hr, ownFrom_below (β := Unit) (Nat.le_refl _) HB8.out.size () A B row h6 hg hr⟩
  case hIx => rintro cd s A B row h hg hr; exact h
  case hbox =>
    rintro pre W ⟨h1, h2, h3, h4⟩
    exact h3
  case h0 =>
    obtain ⟨cur, h1, h2, h3⟩ := HG8.out
    exact ⟨⟨cur, h1, h2, h3⟩, HK8.out, HWB.out, HB8.out⟩
  case hAx =>
    rintro x a' s A B row h1 hg hr
    exact h1
  case pan => intro D W _ h; rcases h with h | ⟨h, _⟩; exact h.elim; cases h
  case stop => rintro D cd pre W hD hpre h hDr; exact h.elim
  case assign =>
    intro ll pre x W K hpre hI hK
    have HKK : Hid _ := hK
    clear hK hI
    have HA0 : Hid _ := ha0
    rw [ha0]
    obtain ⟨pp, hpp⟩ : ∃ pp, ptr ((S.T[x]?).map Tw.b) = pp := ⟨_, rfl⟩
    simp only [encT, hpp, List.zip_toArray, List.zip_cons_cons, List.zip_nil_right, List.foldl_toArray, List.foldl_cons, List.foldl_nil, List.setIfInBounds_toArray, List.set_cons_zero, List.set_cons_succ]
    clear ha0
    gi_wp2
    refine HKK.out _ _ (Below.refl _ W) ?_
    rw [HA0.out, hpp]; rfl
  case body =>
    rintro ll pre x a' W hll hpre ⟨⟨cur, hG, hGs, hGt⟩, hK, hX, hb⟩ ha'
    have hmem : x ∈ wkL back S.T.length rank cnt := hpre.subset (by simp)
    have hlp : pre.length + 1 ≤ cnt := by
      have := hpre.length_le
      unfold wkL at this
      rw [List.length_map, List.length_range, List.length_append] at this; simpa using this
    have hxl : x < S.T.length := by
      unfold wkL at hmem
      obtain ⟨j, hj, rfl⟩ := List.mem_map.1 hmem
      have := List.mem_range.1 hj
      exact trn_lt (by omega)
    have HVX : Hid (flatV (selE S.T (pre ++ [x])) = flatV (selE S.T pre) ++ [.string S.T[x].e.1, .int .i64 S.T[x].e.2.1, vl S.T[x].e.2.2]) := by
      show _ = _
      rw [selE_snoc pre hxl, flatV_snoc]
    have hbdW : Bd W.drew bd S N := hX.bd.below (Below.refl _ W).drew
    have HTL : Hid _ := tell_any S.T[x].b S.T[x] _ W.drew (hX.bd.sz _ (List.getElem_mem hxl)) (hbdW.sk.tow x hxl)
    rw [List.getElem?_eq_getElem hxl] at ha'
    have ha2 : a' = { tmps := (a0.tmps.setIfInBounds 18 (.pointer (some ⟨S.T[x].b, 0, none⟩))).setIfInBounds 10 (.pointer (some ⟨S.T[x].b, 0, none⟩)), defers := [] } := ha'
    clear ha' hbdW
    generalize S.T[x].b = tb at *
    generalize S.T[x].e = E at *
    obtain ⟨em, es, ev⟩ := E
    simp only at HVX HTL
    have HXX : Hid (WBox bd rank cnt bx back S N W) := hX
    have HB : Hid (Below w.heap.size w W) := hb
    have hKd : W.drew.heap[kl]? = some (.cells #[.slice (some ⟨g, 0, none⟩) pre.length cnt] 35) := hK
    have hGd : W.drew.heap[g]? = some (.cells cur 39) := hG
    obtain ⟨i0, if0⟩ := brow1 hK
    have HC : Hid (cur.size = cnt * 3 ∧ cur.toList.take (pre.length * 3) = flatV (selE S.T pre) ∧ pre.length ≤ cnt ∧ cnt ≤ maxLen ∧ w.heap.size ≤ g ∧ g ≠ kl ∧ pre.length + 1 ≤ cnt) := ⟨hGs, hGt, by omega, by unfold maxLen; omega, HD6.out.1, HD6.out.2.2.2.2, hlp⟩
    have hiE := HIE.out.1
    have hzE := HIE.out.2.2.1
    rw [ha2, ha0]
    simp only [List.setIfInBounds_toArray, List.set_cons_zero, List.set_cons_succ]
    clear ha2 ha0 hX hb hpre hG hGs hGt hK hlp
    gi_wp2_with fail
    refine wpIn_region_any (by kernel_rfl) ?_
    change wpAnyIn _ _ _ _ _ _ _ _ _ W.drew
    refine wpAnyIn_ready (rs := [0, 1]) (by kernel_rfl) (by simp) ?_
    refine AllReadyIn.cons rfl (fun K hK => ?_) (AllReadyIn.cons rfl (fun K hK => ?_) AllReadyIn.nil)
    · go_simp
      refine hK _ _ ?_; clear hK K
      refine wpAnyIn_ready (rs := [1]) (by kernel_rfl) (by simp) ?_
      refine AllReadyIn.cons rfl (fun K hK => ?_) AllReadyIn.nil
      go_simp
      refine hK _ _ ?_; clear hK K
      refine wpAnyIn_ready (rs := [2]) (by kernel_rfl) (by simp) ?_
      refine AllReadyIn.cons rfl (fun K hK => ?_) AllReadyIn.nil
      go_simp
      gi_wp2_with ((refine ⟨trivial, ?_⟩; gi_at_call 35; refine (CallsIn.inRound ll (callsIn_wide.2 HTL.out)).mono ?_; rintro e w5 ⟨rfl, hb5⟩; have hK5 := keep_row hKd hb5; have hG5 := keep_row hGd hb5; have HB5' : Hid (Below W.drew.heap.size W.drew w5) := hb5; have HK5a : Hid ((w5.alloc (.cells #[.string em, .int .i64 es, vl ev] 39)).heap[kl]? = some (.cells #[.slice (some ⟨g, 0, none⟩) pre.length cnt] 35)) := keep_row hK5 ((Below.refl _ w5).alloc (Nat.le_refl _) _); obtain ⟨i0, if0⟩ := brow1 hK5; obtain ⟨i5, if5⟩ := brow1 HK5a.out; clear hb5))
      refine wpAnyIn_ready (rs := [3]) (by kernel_rfl) (by simp) ?_
      refine AllReadyIn.cons rfl (fun K hK => ?_) AllReadyIn.nil
      go_simp
      refine hK _ _ ?_; clear hK K
      refine wpAnyIn_ready (rs := [4]) (by kernel_rfl) (by simp) ?_
      refine AllReadyIn.cons rfl (fun K hK => ?_) AllReadyIn.nil
      rw [if_pos (by rfl)]
      refine opIn_append_fits _ _ _ 35 rfl w.heap.size 39 iE 3 Tryd.underlying35 hiE hzE g pre.length cnt (flatV (selE S.T pre)) rfl (rown_mk3 HC.out.2.2.2.2.1 HC.out.2.2.1 HC.out.2.2.2.1 (keep_row hG5 ((Below.refl _ w5).alloc (Nat.le_refl _) _)) HC.out.1 HC.out.2.1) ⟨w5.heap.size, 0, none⟩ 1 1 [.string em, .int .i64 es, vl ev] rfl rfl (cell_three_new _ _ _ _ _) (by simp [Value.oneCell']) HC.out.2.2.2.2.2.2 ?_
      intro w7 hown7 hgrow7
      refine hK _ _ ?_; clear hK K
      have hK7 : w7.heap[kl]? = some (.cells #[.slice (some ⟨g, 0, none⟩) pre.length cnt] 35) := (hgrow7.block kl (row_lt HK5a.out) (fun x => by injection x with x; exact HC.out.2.2.2.2.2.1 x.symm)).trans HK5a.out
      obtain ⟨i7, if7⟩ := brow1 hK7
      have HGR : Hid _ := hgrow7
      have HOW7 : Hid (w7.ownsRow w.heap.size 39 3 (.slice (some ⟨g, 0, none⟩) (pre.length + 1) cnt) (pre.length + 1) (flatV (selE S.T pre) ++ [.string em, .int .i64 es, vl ev])) := hown7
      clear hgrow7 hown7
      try clear i0 if0
      try clear i5 if5
      refine wpAnyIn_ready (rs := [5]) (by kernel_rfl) (by simp) ?_
      refine AllReadyIn.cons rfl (fun K hK => ?_) AllReadyIn.nil
      go_simp
      refine hK _ _ ?_; clear hK K
      refine wpAnyIn_done (by kernel_rfl) ?_ _
      gi_wp2
      have hd := HD6.out
      have hbwx : Below W.heap.size W w5 := (below_dn (Below.refl _ W) 1).trans HB5'.out
      have hbwa : Below W.heap.size W (w5.alloc (.cells #[.string em, .int .i64 es, vl ev] 39)) := hbwx.alloc hbwx.size _
      refine ⟨((KA.of_below hbwa).trans (KA.grown HGR.out hd.2.1)).trans (KA.setCell _ _ _ hd.2.2.2.1), ?_, ?_, ?_, ?_⟩
      · obtain ⟨cur', q1, q2, q3⟩ := rown_form3 HOW7.out
        refine ⟨cur', (heap_setCell_other _ _ _ _ hd.2.2.2.2).trans q1, q2, ?_⟩
        rw [List.length_append, HVX.out]; exact q3
      · rw [heap_setCell_same _ _ _ _ _ _ hK7, List.length_append]; rfl
      · have hbx7 := (HXX.out.on hbwa).to7 (W' := w7) (fun q hq => HGR.out.block q (((HXX.out.on hbwa).lts7 q hq)) (fun x => by injection x with x; exact HD7.out.1 (by rw [← x]; exact hq)))
        exact hbx7.to7 (fun q hq => heap_setCell_other _ _ _ _ (fun e => HD7.out.2 (by have e2 : q = kl := e; rw [← e2]; exact hq)))
      · exact ((bel_to HB.out hbwa (Nat.le_refl _)).grown HGR.out (Nat.le_trans HB.out.size hbwa.size) (fun k hk => by injection hk with hk; rw [← hk]; exact hd.1)).setCell (p := ⟨kl, 0, none⟩) hd.2.2.1 _
    · go_simp
      refine hK _ _ ?_; clear hK K
      refine wpAnyIn_ready (rs := [0, 2]) (by kernel_rfl) (by simp) ?_
      refine AllReadyIn.cons rfl (fun K hK => ?_) (AllReadyIn.cons rfl (fun K hK => ?_) AllReadyIn.nil)
      · go_simp
        refine hK _ _ ?_; clear hK K
        refine wpAnyIn_ready (rs := [2]) (by kernel_rfl) (by simp) ?_
        refine AllReadyIn.cons rfl (fun K hK => ?_) AllReadyIn.nil
        go_simp
        gi_wp2_with ((refine ⟨trivial, ?_⟩; gi_at_call 35; refine (CallsIn.inRound ll (callsIn_wide.2 HTL.out)).mono ?_; rintro e w5 ⟨rfl, hb5⟩; have hK5 := keep_row hKd hb5; have hG5 := keep_row hGd hb5; have HB5' : Hid (Below W.drew.heap.size W.drew w5) := hb5; have HK5a : Hid ((w5.alloc (.cells #[.string em, .int .i64 es, vl ev] 39)).heap[kl]? = some (.cells #[.slice (some ⟨g, 0, none⟩) pre.length cnt] 35)) := keep_row hK5 ((Below.refl _ w5).alloc (Nat.le_refl _) _); obtain ⟨i0, if0⟩ := brow1 hK5; obtain ⟨i5, if5⟩ := brow1 HK5a.out; clear hb5))
        refine wpAnyIn_ready (rs := [3]) (by kernel_rfl) (by simp) ?_
        refine AllReadyIn.cons rfl (fun K hK => ?_) AllReadyIn.nil
        go_simp
        refine hK _ _ ?_; clear hK K
        refine wpAnyIn_ready (rs := [4]) (by kernel_rfl) (by simp) ?_
        refine AllReadyIn.cons rfl (fun K hK => ?_) AllReadyIn.nil
        rw [if_pos (by rfl)]
        refine opIn_append_fits _ _ _ 35 rfl w.heap.size 39 iE 3 Tryd.underlying35 hiE hzE g pre.length cnt (flatV (selE S.T pre)) rfl (rown_mk3 HC.out.2.2.2.2.1 HC.out.2.2.1 HC.out.2.2.2.1 (keep_row hG5 ((Below.refl _ w5).alloc (Nat.le_refl _) _)) HC.out.1 HC.out.2.1) ⟨w5.heap.size, 0, none⟩ 1 1 [.string em, .int .i64 es, vl ev] rfl rfl (cell_three_new _ _ _ _ _) (by simp [Value.oneCell']) HC.out.2.2.2.2.2.2 ?_
        intro w7 hown7 hgrow7
        refine hK _ _ ?_; clear hK K
        have hK7 : w7.heap[kl]? = some (.cells #[.slice (some ⟨g, 0, none⟩) pre.length cnt] 35) := (hgrow7.block kl (row_lt HK5a.out) (fun x => by injection x with x; exact HC.out.2.2.2.2.2.1 x.symm)).trans HK5a.out
        obtain ⟨i7, if7⟩ := brow1 hK7
        have HGR : Hid _ := hgrow7
        have HOW7 : Hid (w7.ownsRow w.heap.size 39 3 (.slice (some ⟨g, 0, none⟩) (pre.length + 1) cnt) (pre.length + 1) (flatV (selE S.T pre) ++ [.string em, .int .i64 es, vl ev])) := hown7
        clear hgrow7 hown7
        try clear i0 if0
        try clear i5 if5
        refine wpAnyIn_ready (rs := [5]) (by kernel_rfl) (by simp) ?_
        refine AllReadyIn.cons rfl (fun K hK => ?_) AllReadyIn.nil
        go_simp
        refine hK _ _ ?_; clear hK K
        refine wpAnyIn_done (by kernel_rfl) ?_ _
        gi_wp2
        have hd := HD6.out
        have hbwx : Below W.heap.size W w5 := (below_dn (Below.refl _ W) 1).trans HB5'.out
        have hbwa : Below W.heap.size W (w5.alloc (.cells #[.string em, .int .i64 es, vl ev] 39)) := hbwx.alloc hbwx.size _
        refine ⟨((KA.of_below hbwa).trans (KA.grown HGR.out hd.2.1)).trans (KA.setCell _ _ _ hd.2.2.2.1), ?_, ?_, ?_, ?_⟩
        · obtain ⟨cur', q1, q2, q3⟩ := rown_form3 HOW7.out
          refine ⟨cur', (heap_setCell_other _ _ _ _ hd.2.2.2.2).trans q1, q2, ?_⟩
          rw [List.length_append, HVX.out]; exact q3
        · rw [heap_setCell_same _ _ _ _ _ _ hK7, List.length_append]; rfl
        · have hbx7 := (HXX.out.on hbwa).to7 (W' := w7) (fun q hq => HGR.out.block q (((HXX.out.on hbwa).lts7 q hq)) (fun x => by injection x with x; exact HD7.out.1 (by rw [← x]; exact hq)))
          exact hbx7.to7 (fun q hq => heap_setCell_other _ _ _ _ (fun e => HD7.out.2 (by have e2 : q = kl := e; rw [← e2]; exact hq)))
        · exact ((bel_to HB.out hbwa (Nat.le_refl _)).grown HGR.out (Nat.le_trans HB.out.size hbwa.size) (fun k hk => by injection hk with hk; rw [← hk]; exact hd.1)).setCell (p := ⟨kl, 0, none⟩) hd.2.2.1 _
      · go_simp
        gi_wp2_with ((refine ⟨trivial, ?_⟩; gi_at_call 35; refine (CallsIn.inRound ll (callsIn_wide.2 HTL.out)).mono ?_; rintro e w5 ⟨rfl, hb5⟩; have hK5 := keep_row hKd hb5; have hG5 := keep_row hGd hb5; have HB5' : Hid (Below W.drew.heap.size W.drew w5) := hb5; have HK5a : Hid ((w5.alloc (.cells #[.string em, .int .i64 es, vl ev] 39)).heap[kl]? = some (.cells #[.slice (some ⟨g, 0, none⟩) pre.length cnt] 35)) := keep_row hK5 ((Below.refl _ w5).alloc (Nat.le_refl _) _); obtain ⟨i0, if0⟩ := brow1 hK5; obtain ⟨i5, if5⟩ := brow1 HK5a.out; clear hb5))
        refine wpAnyIn_ready (rs := [0, 3]) (by kernel_rfl) (by simp) ?_
        refine AllReadyIn.cons rfl (fun K hK => ?_) (AllReadyIn.cons rfl (fun K hK => ?_) AllReadyIn.nil)
        · go_simp
          refine hK _ _ ?_; clear hK K
          refine wpAnyIn_ready (rs := [3]) (by kernel_rfl) (by simp) ?_
          refine AllReadyIn.cons rfl (fun K hK => ?_) AllReadyIn.nil
          go_simp
          refine hK _ _ ?_; clear hK K
          refine wpAnyIn_ready (rs := [4]) (by kernel_rfl) (by simp) ?_
          refine AllReadyIn.cons rfl (fun K hK => ?_) AllReadyIn.nil
          rw [if_pos (by rfl)]
          refine opIn_append_fits _ _ _ 35 rfl w.heap.size 39 iE 3 Tryd.underlying35 hiE hzE g pre.length cnt (flatV (selE S.T pre)) rfl (rown_mk3 HC.out.2.2.2.2.1 HC.out.2.2.1 HC.out.2.2.2.1 (keep_row hG5 ((Below.refl _ w5).alloc (Nat.le_refl _) _)) HC.out.1 HC.out.2.1) ⟨w5.heap.size, 0, none⟩ 1 1 [.string em, .int .i64 es, vl ev] rfl rfl (cell_three_new _ _ _ _ _) (by simp [Value.oneCell']) HC.out.2.2.2.2.2.2 ?_
          intro w7 hown7 hgrow7
          refine hK _ _ ?_; clear hK K
          have hK7 : w7.heap[kl]? = some (.cells #[.slice (some ⟨g, 0, none⟩) pre.length cnt] 35) := (hgrow7.block kl (row_lt HK5a.out) (fun x => by injection x with x; exact HC.out.2.2.2.2.2.1 x.symm)).trans HK5a.out
          obtain ⟨i7, if7⟩ := brow1 hK7
          have HGR : Hid _ := hgrow7
          have HOW7 : Hid (w7.ownsRow w.heap.size 39 3 (.slice (some ⟨g, 0, none⟩) (pre.length + 1) cnt) (pre.length + 1) (flatV (selE S.T pre) ++ [.string em, .int .i64 es, vl ev])) := hown7
          clear hgrow7 hown7
          try clear i0 if0
          try clear i5 if5
          refine wpAnyIn_ready (rs := [5]) (by kernel_rfl) (by simp) ?_
          refine AllReadyIn.cons rfl (fun K hK => ?_) AllReadyIn.nil
          go_simp
          refine hK _ _ ?_; clear hK K
          refine wpAnyIn_done (by kernel_rfl) ?_ _
          gi_wp2
          have hd := HD6.out
          have hbwx : Below W.heap.size W w5 := (below_dn (Below.refl _ W) 1).trans HB5'.out
          have hbwa : Below W.heap.size W (w5.alloc (.cells #[.string em, .int .i64 es, vl ev] 39)) := hbwx.alloc hbwx.size _
          refine ⟨((KA.of_below hbwa).trans (KA.grown HGR.out hd.2.1)).trans (KA.setCell _ _ _ hd.2.2.2.1), ?_, ?_, ?_, ?_⟩
          · obtain ⟨cur', q1, q2, q3⟩ := rown_form3 HOW7.out
            refine ⟨cur', (heap_setCell_other _ _ _ _ hd.2.2.2.2).trans q1, q2, ?_⟩
            rw [List.length_append, HVX.out]; exact q3
          · rw [heap_setCell_same _ _ _ _ _ _ hK7, List.length_append]; rfl
          · have hbx7 := (HXX.out.on hbwa).to7 (W' := w7) (fun q hq => HGR.out.block q (((HXX.out.on hbwa).lts7 q hq)) (fun x => by injection x with x; exact HD7.out.1 (by rw [← x]; exact hq)))
            exact hbx7.to7 (fun q hq => heap_setCell_other _ _ _ _ (fun e => HD7.out.2 (by have e2 : q = kl := e; rw [← e2]; exact hq)))
          · exact ((bel_to HB.out hbwa (Nat.le_refl _)).grown HGR.out (Nat.le_trans HB.out.size hbwa.size) (fun k hk => by injection hk with hk; rw [← hk]; exact hd.1)).setCell (p := ⟨kl, 0, none⟩) hd.2.2.1 _
        · go_simp
          refine hK _ _ ?_; clear hK K
          refine wpAnyIn_ready (rs := [0]) (by kernel_rfl) (by simp) ?_
          refine AllReadyIn.cons rfl (fun K hK => ?_) AllReadyIn.nil
          go_simp
          refine hK _ _ ?_; clear hK K
          refine wpAnyIn_ready (rs := [4]) (by kernel_rfl) (by simp) ?_
          refine AllReadyIn.cons rfl (fun K hK => ?_) AllReadyIn.nil
          rw [if_pos (by rfl)]
          refine opIn_append_fits _ _ _ 35 rfl w.heap.size 39 iE 3 Tryd.underlying35 hiE hzE g pre.length cnt (flatV (selE S.T pre)) rfl (rown_mk3 HC.out.2.2.2.2.1 HC.out.2.2.1 HC.out.2.2.2.1 (keep_row hG5 ((Below.refl _ w5).alloc (Nat.le_refl _) _)) HC.out.1 HC.out.2.1) ⟨w5.heap.size, 0, none⟩ 1 1 [.string em, .int .i64 es, vl ev] rfl rfl (cell_three_new _ _ _ _ _) (by simp [Value.oneCell']) HC.out.2.2.2.2.2.2 ?_
          intro w7 hown7 hgrow7
          refine hK _ _ ?_; clear hK K
          have hK7 : w7.heap[kl]? = some (.cells #[.slice (some ⟨g, 0, none⟩) pre.length cnt] 35) := (hgrow7.block kl (row_lt HK5a.out) (fun x => by injection x with x; exact HC.out.2.2.2.2.2.1 x.symm)).trans HK5a.out
          obtain ⟨i7, if7⟩ := brow1 hK7
          have HGR : Hid _ := hgrow7
          have HOW7 : Hid (w7.ownsRow w.heap.size 39 3 (.slice (some ⟨g, 0, none⟩) (pre.length + 1) cnt) (pre.length + 1) (flatV (selE S.T pre) ++ [.string em, .int .i64 es, vl ev])) := hown7
          clear hgrow7 hown7
          try clear i0 if0
          try clear i5 if5
          refine wpAnyIn_ready (rs := [5]) (by kernel_rfl) (by simp) ?_
          refine AllReadyIn.cons rfl (fun K hK => ?_) AllReadyIn.nil
          go_simp
          refine hK _ _ ?_; clear hK K
          refine wpAnyIn_done (by kernel_rfl) ?_ _
          gi_wp2
          have hd := HD6.out
          have hbwx : Below W.heap.size W w5 := (below_dn (Below.refl _ W) 1).trans HB5'.out
          have hbwa : Below W.heap.size W (w5.alloc (.cells #[.string em, .int .i64 es, vl ev] 39)) := hbwx.alloc hbwx.size _
          refine ⟨((KA.of_below hbwa).trans (KA.grown HGR.out hd.2.1)).trans (KA.setCell _ _ _ hd.2.2.2.1), ?_, ?_, ?_, ?_⟩
          · obtain ⟨cur', q1, q2, q3⟩ := rown_form3 HOW7.out
            refine ⟨cur', (heap_setCell_other _ _ _ _ hd.2.2.2.2).trans q1, q2, ?_⟩
            rw [List.length_append, HVX.out]; exact q3
          · rw [heap_setCell_same _ _ _ _ _ _ hK7, List.length_append]; rfl
          · have hbx7 := (HXX.out.on hbwa).to7 (W' := w7) (fun q hq => HGR.out.block q (((HXX.out.on hbwa).lts7 q hq)) (fun x => by injection x with x; exact HD7.out.1 (by rw [← x]; exact hq)))
            exact hbx7.to7 (fun q hq => heap_setCell_other _ _ _ _ (fun e => HD7.out.2 (by have e2 : q = kl := e; rw [← e2]; exact hq)))
          · exact ((bel_to HB.out hbwa (Nat.le_refl _)).grown HGR.out (Nat.le_trans HB.out.size hbwa.size) (fun k hk => by injection hk with hk; rw [← hk]; exact hd.1)).setCell (p := ⟨kl, 0, none⟩) hd.2.2.1 _
  case done =>
    rintro D W hD _ ⟨⟨cur, hG, hGs, hGt⟩, hK, hX, hb⟩ hDr
    rw [ha0]
    have hwl : (wkL back S.T.length rank cnt).length = cnt := by unfold wkL; simp
    rw [hwl] at hGt hK
    obtain ⟨i0, if0⟩ := brow1 hK
    have HG : Hid _ := hG
    have HGT : Hid _ := hGt
    have HGS : Hid _ := hGs
    have HDR : Hid _ := hDr
    have HB : Hid (Below w.heap.size w W) := hb
    have HLM : Hid (cnt ≤ maxLen) := by show _ ≤ _; unfold maxLen; omega
    clear ha0 hX hb hDr hK hG hGt hGs hwl
    refine wpB_of (n := 10) ?_
    gi_wp2
    refine ⟨by simp, .inl ⟨_, _, rfl, run_takeDeferred HDR.out, ?_⟩⟩
    have h1 : g ≠ D := by rintro rfl; have := HDR.out; rw [HG.out] at this; cases this
    refine ⟨.slice (some ⟨g, 0, none⟩) cnt cnt, ?res, g, rfl, rown_mk3 (Nat.le_refl _) (Nat.le_refl _) HLM.out (put_keep HG.out h1) HGS.out HGT.out, ?bel⟩
    case bel =>
      have hq : Below w.heap.size w (W.putObj D (.deferred none)) := put_below HB.out (by have := HB8.out.size; omega)
      rw [HGZ.out] at hq; exact hq
    case res => simp [results, Tryd.results31, go_sem]
end Go.Proofs.YtgbplghokciimaaDoor.I
namespace Go.Proofs.YtgbplghokciimaaDoor.I
open Go.RowKit
set_option linter.unusedVariables false
theorem infoInt : (Tryd.prog.info? 3).map (fun i => (i.zero, i.size, i.bytes)) = some (some (.int .i64 0), 1, 8) := by kernel_rfl
set_option maxHeartbeats 800000 in
set_option maxRecDepth 100000 in
theorem sclone_any (g off n cap : Nat) (xs : List Int) (hn : n = xs.length) (hl : n ≤ 1000000) (w : World) (hc : ∀ j (hj : j < xs.length), w.cell? ⟨g, off + j, none⟩ = some (.int .i64 xs[j])) : Calls Tryd.prog 36 #[.slice (some ⟨g, off, none⟩) n cap] w fun e w' => ∃ r, e = .returned r ∧ w'.ownsRow w.heap.size 3 1 r n (xs.map (Value.int .i64)) ∧ Below w.heap.size w w' := by
  subst hn
  have hcmp : ∀ W, (binOp .eql 45 (.slice (some ⟨g, off, none⟩) xs.length cap) (.slice none 0 0)).run Tryd.prog W = .ok (.bool false) W := fun W => by kernel_rfl
  go_enter Tryd.func36, Tryd.ntmps36
  obtain ⟨i0, hi, hz0, hz1, hz2⟩ := info_of infoInt
  have hE : ∃ W1, W1 = w.alloc (.cells #[] 3) := ⟨_, rfl⟩
  obtain ⟨W1, hW1⟩ := hE
  have hb1 : Below w.heap.size w W1 := by rw [hW1]; exact (Below.refl _ _).alloc (Nat.le_refl _) _
  have HO1 : Hid (W1.ownsRow w.heap.size 3 1 (.slice (some ⟨w.heap.size, 0, none⟩) 0 0) 0 []) := ⟨rfl, Or.inr ⟨w.heap.size, 0, #[], rfl, Nat.le_refl _, by rw [hW1]; exact one_alloc _ _, Nat.le_refl _, Nat.zero_le _, rfl, rfl⟩⟩
  have HC1 : Hid (∀ j u, (xs.map (Value.int .i64))[j]? = some u → W1.cell? ((⟨g, off, none⟩ : Addr).add j) = some u) := fun j u hu => by
    rw [List.getElem?_map] at hu
    obtain ⟨x, hx, rfl⟩ := Option.map_eq_some_iff.1 hu
    obtain ⟨hj, hx⟩ := List.getElem?_eq_some_iff.1 hx
    rw [Lib.add_plain]
    exact cell_on (by rw [hc j hj, hx]) hb1
  have HB1 : Hid (Below w.heap.size w W1) := hb1
  clear hc hb1
  go_upto_region 3 with fail
  go_wp2_with (at_builtin; rw [← hW1]; go_must (refine wpList_append_own W1 rfl _ _ 45 rfl w.heap.size 3 i0 (.int .i64 0) 1 8 Tryd.underlying45 hi hz0 hz1 hz2 rfl (by decide) (.slice (some ⟨w.heap.size, 0, none⟩) 0 0) 0 [] rfl HO1.out ⟨g, off, none⟩ xs.length cap (xs.map (Value.int .i64)) rfl (by simp) HC1.out (by intro u hu; obtain ⟨x, _, rfl⟩ := List.mem_map.1 hu; rfl) (by unfold maxLen; omega) (by omega) HB1.out.size ?_))
  intro v3 w3 ho3 hg3 hnil
  rw [← hW1] at hg3
  have HB3 : Hid (Below w.heap.size w w3) := HB1.out.grown hg3 HB1.out.size (fun q hq => (World.ownsRow.lt HO1.out q hq).1)
  obtain ⟨P9, k9, hkf⟩ := own_form ho3
  subst hkf
  have HO3 : Hid (w3.ownsRow w.heap.size 3 1 (.slice P9 xs.length k9) xs.length (xs.map (Value.int .i64))) := ho3
  clear ho3 hg3 hnil hW1
  go_wp2
  go_returns
  exact ⟨_, rfl, HO3.out, HB3.out⟩
end Go.Proofs.YtgbplghokciimaaDoor.I
namespace Go.Proofs.YtgbplghokciimaaDoor.I
open Go.RowKit
set_option linter.unusedVariables false
/-- the ranks that a Slice tells. -/
def slL (back : Bool) (n : Nat) (a b : Int) : List Nat := wkL back n (max a 0).toNat (min b ((n : Int) - 1) + 1 - max a 0).toNat
theorem slL_len (back : Bool) (n : Nat) (a b : Int) : (slL back n a b).length = (min b ((n : Int) - 1) + 1 - max a 0).toNat := by unfold slL wkL; simp
set_option maxHeartbeats 1000000 in
set_option maxRecDepth 100000 in
theorem Slice_any (g : Nat) (S : SkS) (N : Nat) (a b : Int) (back : Bool) (ha : -9223372036854775808 ≤ a ∧ a ≤ 9223372036854775807) (hb : -9223372036854775808 ≤ b ∧ b ≤ 9223372036854775807) (w : World) (h : Bd w g S N) (hN : N ≤ 1000000) : Calls Tryd.prog 12 #[.pointer (some ⟨g, 0, none⟩), .int .i64 a, .int .i64 b, .bool back] w fun e w' => ∃ r, e = .returned r ∧ w'.ownsRow w.heap.size 39 3 r (slL back S.T.length a b).length (flatV (selE S.T (slL back S.T.length a b))) ∧ Below w.heap.size w w' := by
  have HL : Hid _ := Len_any g S N w h
  have HB : Hid (Bd w g S N) := h
  have hlen := h.len
  clear h
  have HSL : Hid ((slL back S.T.length a b).length = (min b ((S.T.length : Int) - 1) + 1 - max a 0).toNat) := slL_len _ _ _ _
  obtain ⟨F, hF⟩ : ∃ F : Nat, max a 0 = (F : Int) := ⟨(max a 0).toNat, by omega⟩
  obtain ⟨M, hM⟩ : ∃ M : Int, min b ((S.T.length : Int) - 1) = M := ⟨_, rfl⟩
  have hF0 : (if a < 0 then (0 : Int) else a) = (F : Int) := by split <;> omega
  have e1 : IntKind.i64.wrap ((S.T.length : Int) - 1) = (S.T.length : Int) - 1 := by rw [IntKind.wrap_i64] <;> omega
  by_cases hgt : M < (F : Int)
  · have HZ : Hid ((slL back S.T.length a b).length = 0 ∧ slL back S.T.length a b = []) := by
      have h0 : (slL back S.T.length a b).length = 0 := by rw [HSL.out, hF, hM]; omega
      exact ⟨h0, List.length_eq_zero_iff.1 h0⟩
    go_enter Tryd.func12, Tryd.ntmps12
    go_wp2_with fail
    refine (show Calls _ _ _ _ _ from HL.out).mono ?_
    rintro e w1 ⟨rfl, rfl⟩
    go_wp2
    all_goals
      go_returns
      refine ⟨_, rfl, ?_, Below.refl _ _⟩
      rw [HZ.out.1, HZ.out.2]
      exact ⟨rfl, Or.inl ⟨rfl, rfl⟩⟩
  · obtain ⟨c, hc⟩ : ∃ c : Nat, M - (F : Int) + 1 = (c : Int) := ⟨(M - (F : Int) + 1).toNat, by omega⟩
    have hc1 : 0 < c := by omega
    have hMn : M ≤ (S.T.length : Int) - 1 := by omega
    have HTK : Hid _ := take_any g F c back S N w HB.out hN (by omega) (by omega)
    have HZ : Hid (slL back S.T.length a b = wkL back S.T.length F c) := by
      show _ = _
      unfold slL
      rw [hF, hM, show ((F : Nat) : Int).toNat = F by omega, show (M + 1 - (F : Int)).toNat = c by omega]
    have HZL : Hid ((slL back S.T.length a b).length = c) := by
      show _ = _
      rw [HSL.out, hF, hM]; omega
    have w1' : IntKind.i64.wrap (M - (F : Int)) = M - (F : Int) := by rw [IntKind.wrap_i64] <;> omega
    have w2' : IntKind.i64.wrap (M - (F : Int) + 1) = (c : Int) := by rw [IntKind.wrap_i64] <;> omega
    go_enter Tryd.func12, Tryd.ntmps12
    go_wp2_with fail
    refine (show Calls _ _ _ _ _ from HL.out).mono ?_
    rintro e w1 ⟨rfl, rfl⟩
    go_wp2_with fail
    refine (show Calls _ _ _ _ _ from HTK.out).mono ?_
    rintro e w2 ⟨gg, rfl, ho, hb2⟩
    have HO : Hid _ := ho
    have HB2 : Hid _ := hb2
    clear ho hb2
    go_wp2
    go_returns
    refine ⟨_, rfl, ?_, HB2.out⟩
    rw [HZL.out, HZ.out]; exact HO.out
end Go.Proofs.YtgbplghokciimaaDoor.I
namespace Go.Proofs.YtgbplghokciimaaDoor.I
open Go.RowKit
set_option linter.unusedVariables false
def talL (S : SkS) : List Int := (List.range S.H).map fun j => (cntT S.T j : Int)
set_option maxHeartbeats 800000 in
set_option maxRecDepth 100000 in
theorem Tall_any (g : Nat) (S : SkS) (N : Nat) (w : World) (h : Bd w g S N) : Calls Tryd.prog 17 #[.pointer (some ⟨g, 0, none⟩)] w fun e w' => ∃ r, e = .returned r ∧ w'.ownsRow w.heap.size 3 1 r S.H ((talL S).map (Value.int .i64)) ∧ Below w.heap.size w w' := by
  have hH := h.h24
  have hl : (talL S).length = S.H := by unfold talL; simp
  have hd : Below w.heap.size w w.drew := (Below.refl _ w).drew
  have h0 := h.below hd
  have hcl := sclone_any g 3 (talL S).length 24 (talL S) rfl (by omega) w.drew (fun j hj => by
    rw [h0.sk.brd.cell]
    have hj2 : j < S.H := by rw [← hl]; exact hj
    have := boardL_at S.seed S.mb S.hb (cntT S.T) S.T.length j (by omega)
    rw [this]
    have e : (talL S)[j]'hj = (cntT S.T j : Int) := by simp only [talL, List.getElem_map, List.getElem_range]
    rw [e])
  rw [hl] at hcl
  have HCL : Hid _ := hcl
  obtain ⟨P, kk, hf⟩ := h.sk.hrow.form
  have c2 : w.cell? ⟨g, 2, none⟩ = some (.pointer (some ⟨S.hb, 0, none⟩)) := by rw [h.sk.brd.cell]; rfl
  have c3 : w.cell? ⟨S.hb, 3, none⟩ = some (.slice P S.H kk) := by rw [h.sk.head.cell]; exact congrArg some hf
  have hh : (S.H : Int) ≤ 24 := by omega
  have hh0 : (0 : Int) ≤ (S.H : Int) := by omega
  have hSA := And.intro c2 c3
  clear h h0 hcl hf hl
  go_enter Tryd.func17, Tryd.ntmps17
  go_upto_region 1 with fail
  go_region_held3 (fun w' : World => w'.cell? ⟨g, 2, none⟩ = some (.pointer (some ⟨S.hb, 0, none⟩)) ∧ w'.cell? ⟨S.hb, 3, none⟩ = some (.slice P S.H kk))
    (first | exact hSA | exact hSB)
    (first | (go_at_call 36; refine (show Calls _ _ _ _ _ from HCL.out).mono ?_; rintro e w2 ⟨r, rfl, ho, hb2⟩; have hSB := And.intro (cell_on hSA.1 (hd.trans hb2)) (cell_on hSA.2 (hd.trans hb2))))
  have HO : Hid _ := ho
  have HB2 : Hid (Below w.heap.size w w2) := hd.trans hb2
  clear ho hb2 hSB
  go_wp2
  go_returns
  exact ⟨_, rfl, HO.out, HB2.out⟩
end Go.Proofs.YtgbplghokciimaaDoor.I
namespace Go.Proofs.YtgbplghokciimaaDoor.I
open Go.RowKit
set_option linter.unusedVariables false
theorem cnt24 (C : Nat → Nat) (h : ∀ j, C j = 0) : (List.range 24).map (fun j => Value.int .i64 (C j : Nat)) = [.int .i64 0, .int .i64 0, .int .i64 0, .int .i64 0, .int .i64 0, .int .i64 0, .int .i64 0, .int .i64 0, .int .i64 0, .int .i64 0, .int .i64 0, .int .i64 0, .int .i64 0, .int .i64 0, .int .i64 0, .int .i64 0, .int .i64 0, .int .i64 0, .int .i64 0, .int .i64 0, .int .i64 0, .int .i64 0, .int .i64 0, .int .i64 0] := by
  have : C = fun _ => 0 := funext h
  subst this; rfl
set_option maxHeartbeats 2000000 in
set_option maxRecDepth 100000 in
theorem New_any (seed : Int) (w : World) : Calls Tryd.prog 9 #[.int .i64 seed] w fun e w' => ∃ g S, e = .returned (.pointer (some ⟨g, 0, none⟩)) ∧ Bd w' g S 0 ∧ S.seed = seed ∧ S.T = [] ∧ (∀ q ∈ bblk g S, w.heap.size ≤ q) ∧ Below w.heap.size w w' := by
  have hmm := @run_makeMap Tryd.prog
  go_enter Tryd.func9, Tryd.ntmps9
  go_wp2
  go_returns
  obtain ⟨W1, hW1⟩ : ∃ W1, W1 = w.alloc (.map #[] 0) := ⟨_, rfl⟩
  obtain ⟨W2, hW2⟩ : ∃ W2, W2 = W1.alloc (.cells #[.string ⟨#[]⟩, .int .i64 0, vz, .slice none 0 0, .pointer none] 63) := ⟨_, rfl⟩
  obtain ⟨W3, hW3⟩ : ∃ W3, W3 = W2.alloc (.cells #[.int .i64 seed, .map (some w.heap.size), .pointer (some ⟨w.heap.size + 1, 0, none⟩), .int .i64 0, .int .i64 0, .int .i64 0, .int .i64 0, .int .i64 0, .int .i64 0, .int .i64 0, .int .i64 0, .int .i64 0, .int .i64 0, .int .i64 0, .int .i64 0, .int .i64 0, .int .i64 0, .int .i64 0, .int .i64 0, .int .i64 0, .int .i64 0, .int .i64 0, .int .i64 0, .int .i64 0, .int .i64 0, .int .i64 0, .int .i64 0, .int .i64 0] 66) := ⟨_, rfl⟩
  rw [← hW1, ← hW2, ← hW3]
  have z1 : W1.heap.size = w.heap.size + 1 := by rw [hW1, World.size_alloc]
  have z2 : W2.heap.size = w.heap.size + 1 + 1 := by rw [hW2, World.size_alloc, z1]
  have b1 : Below w.heap.size w W1 := by rw [hW1]; exact (Below.refl _ _).alloc (Nat.le_refl _) _
  have b2 : Below W1.heap.size W1 W2 := by rw [hW2]; exact (Below.refl _ _).alloc (Nat.le_refl _) _
  have b3 : Below W2.heap.size W2 W3 := by rw [hW3]; exact (Below.refl _ _).alloc (Nat.le_refl _) _
  have m1 : MapIs W1 w.heap.size 0 (fun _ => none) := by rw [hW1]; exact MapIs.made w
  have t2 : Blk W2 (w.heap.size + 1) (headL (.slice none 0 0)) 63 := by
    have := one_alloc W1 (.cells #[.string ⟨#[]⟩, .int .i64 0, vz, .slice none 0 0, .pointer none] 63)
    rw [← hW2, z1] at this; exact this
  have g3 : Blk W3 (w.heap.size + 1 + 1) (boardL seed w.heap.size (w.heap.size + 1) (cntT []) 0) 66 := by
    have := one_alloc W2 (.cells #[.int .i64 seed, .map (some w.heap.size), .pointer (some ⟨w.heap.size + 1, 0, none⟩), .int .i64 0, .int .i64 0, .int .i64 0, .int .i64 0, .int .i64 0, .int .i64 0, .int .i64 0, .int .i64 0, .int .i64 0, .int .i64 0, .int .i64 0, .int .i64 0, .int .i64 0, .int .i64 0, .int .i64 0, .int .i64 0, .int .i64 0, .int .i64 0, .int .i64 0, .int .i64 0, .int .i64 0, .int .i64 0, .int .i64 0, .int .i64 0, .int .i64 0] 66)
    rw [← hW3, z2] at this
    unfold Blk boardL
    rw [cnt24 (cntT []) (fun _ => rfl)]; exact this
  refine ⟨w.heap.size + 1 + 1, ⟨seed, w.heap.size, w.heap.size + 1, .slice none 0 0, 0, []⟩, rfl, ⟨⟨g3, cells_below t2 b3, ⟨rfl, Or.inl ⟨rfl, rfl⟩⟩, fun i hi => by simp at hi, fun i hi => by simp at hi, by simp, by simp [Value.ownBlock]⟩, ?_, ⟨List.Pairwise.nil, List.Pairwise.nil⟩, ⟨fun x hx => by simp at hx, Or.inl rfl⟩, fun t ht => by simp at ht, fun t ht => by simp at ht, Nat.le_refl _⟩, rfl, rfl, ?_, ?_⟩
  · exact (m1.to (b2.block _ m1.lt)).to (b3.block _ (by rw [z2]; omega))
  · intro q hq
    unfold bblk sblk at hq
    simp [Value.ownBlock] at hq
    omega
  · exact bel_to (bel_to b1 b2 (Nat.le_refl _)) b3 (Nat.le_refl _)
end Go.Proofs.YtgbplghokciimaaDoor.I
namespace Go.Proofs.YtgbplghokciimaaDoor.I
open Go.RowKit
set_option linter.unusedVariables false
/-- a board of one's own moves: what lay there before stays. -/
theorem Moved.bel {B : Nat} {w W W' : World} {F F' : List Nat} (h : Moved W W' F F') (hb : Below B w W) (hB : B ≤ w.heap.size) (hF : ∀ q ∈ F, B ≤ q) : Below B w W' ∧ ∀ q ∈ F', B ≤ q := by
  refine ⟨hb.trans ⟨h.os, h.tape, h.output, h.size, fun k hk => h.rest k (by have := hb.size; omega) (fun hm => by have := hF k hm; omega)⟩, fun q hq => ?_⟩
  rcases h.new q hq with e | e
  · exact hF q e
  · have := hb.size; omega
/-- the whole board, told. -/
theorem wkL_all (n : Nat) : slL false n 0 1073741824 = List.range n ∨ 1073741824 < n := by
  rcases Nat.lt_or_ge 1073741824 n with h | h
  · exact Or.inr h
  · left
    unfold slL wkL trn
    have e1 : (max (0 : Int) 0).toNat = 0 := rfl
    have e2 : (min (1073741824 : Int) ((n : Int) - 1) + 1 - max 0 0).toNat = n := by omega
    rw [e1, e2]
    simp
theorem selE_all (T : List Tw) : selE T (List.range T.length) = ens T := by
  unfold selE
  refine List.ext_getElem (by simp) (fun i h1 h2 => ?_)
  rw [List.getElem_map, List.getElem_range]
  have : i < (ens T).length := h2
  rw [List.getElem?_eq_getElem this]; rfl
theorem Slice_all (g : Nat) (S : SkS) (N : Nat) (w : World) (h : Bd w g S N) (hN : N ≤ 1000000) : Calls Tryd.prog 12 #[.pointer (some ⟨g, 0, none⟩), .int .i64 0, .int .i64 1073741824, .bool false] w fun e w' => ∃ r, e = .returned r ∧ w'.ownsRow w.heap.size 39 3 r S.T.length (flatV (ens S.T)) ∧ Below w.heap.size w w' := by
  have h1 := Slice_any g S N 0 1073741824 false (by omega) (by omega) w h hN
  have h2 : slL false S.T.length 0 1073741824 = List.range S.T.length := by
    rcases wkL_all S.T.length with q | q
    · exact q
    · have := h.len; omega
  rw [h2, selE_all, List.length_range] at h1
  exact h1
/-- the last ones of an order, and the one ahead of them. -/
theorem setM_front {L : List En} (h : Brd L) {i : Nat} (hi : i < L.length) : setM (L.drop (i + 1)) L[i].1 L[i].2.1 L[i].2.2 = L.drop i := by
  have hd := List.drop_eq_getElem_cons hi
  have hup := h.up.sublist (List.drop_sublist i L)
  rw [hd] at hup
  have hnd : ((L.drop i).map (·.1)).Nodup := h.nd.sublist (List.Sublist.map _ (List.drop_sublist i L))
  rw [hd, List.map_cons] at hnd
  unfold setM
  rw [dropM_none (List.nodup_cons.1 hnd).1]
  unfold insM plc
  have e : (L.drop (i + 1)).takeWhile (fun y => ahd y (L[i].1, L[i].2.1, L[i].2.2)) = [] := by
    rcases hl : L.drop (i + 1) with _ | ⟨a, l⟩
    · rfl
    · rw [List.takeWhile_cons]
      have h1 := (List.pairwise_cons.1 hup).1 a (by rw [hl]; simp)
      have h2 : ahd a L[i] = false := ahd_asym h1
      have h3 : ahd a (L[i].1, L[i].2.1, L[i].2.2) = false := h2
      rw [h3]; rfl
  rw [e]
  exact hd.symm
theorem hts_of {T : List Tw} {f : En → Nat} (h : ∀ t ∈ T, t.h = f t.e) : hts T = (ens T).map f := by
  unfold hts ens
  rw [List.map_map]
  exact List.map_congr_left h
/-- two boards of one order and one seed have the same towers. -/
theorem tal_same {W W' : World} {g g' N N' : Nat} {S S' : SkS} (h : Bd W g S N) (h' : Bd W' g' S' N') (he : ens S.T = ens S'.T) (hs : S.seed = S'.seed) : talL S = talL S' := by
  have hh : hts S.T = hts S'.T := by
    obtain ⟨f, hf⟩ : ∃ f : Int → ByteArray → Nat, f = hgM := ⟨_, rfl⟩
    have h1 := h.hg
    have h2 := h'.hg
    rw [← hf] at h1 h2
    clear hf
    rw [hts_of (f := fun e => f S.seed e.1) h1, hts_of (f := fun e => f S'.seed e.1) h2, he, hs]
  have hc : cntT S.T = cntT S'.T := cntT_congr hh
  have hH : S.H = S'.H := by
    have key : ∀ {W : World} {g N : Nat} {S : SkS}, Bd W g S N → (∀ x ∈ hts S.T, x ≤ S.H) ∧ (S.H = 0 ∨ S.H ∈ hts S.T) := fun {W g N S} hb => ⟨hb.top.le, by
      rcases hb.top.at_ with q | ⟨t, ht, q⟩
      · exact Or.inl q
      · exact Or.inr (List.mem_map.2 ⟨t, ht, q⟩)⟩
    obtain ⟨a1, a2⟩ := key h
    obtain ⟨b1, b2⟩ := key h'
    rw [← hh] at b1 b2
    rcases a2 with q | q <;> rcases b2 with r | r
    · omega
    · have := a1 _ r; omega
    · have := b1 _ q; omega
    · have := a1 _ r; have := b1 _ q; omega
  unfold talL
  rw [hc, hH]
theorem flatV_get (l : List En) (t : Nat) (h : t < l.length) : (flatV l)[t * 3]? = some (.string l[t].1) ∧ (flatV l)[t * 3 + 1]? = some (.int .i64 l[t].2.1) ∧ (flatV l)[t * 3 + 2]? = some (vl l[t].2.2) := by
  induction l generalizing t with
  | nil => simp at h
  | cons e l ih =>
    cases t with
    | zero => exact ⟨rfl, rfl, rfl⟩
    | succ t =>
      have := ih t (by simpa using h)
      have e3 : flatV (e :: l) = .string e.1 :: .int .i64 e.2.1 :: vl e.2.2 :: flatV l := rfl
      rw [e3, show (t + 1) * 3 = t * 3 + 1 + 1 + 1 by omega]
      simpa using this
/-- entries in a row of one's own. -/
theorem erow_at {w : World} {base n : Nat} {v : Value} {l : List En} (h : w.ownsRow base 39 3 v n (flatV l)) (hn : n = l.length) {i : Nat} (hi : i < l.length) : ∃ g c, v = .slice (some ⟨g, 0, none⟩) n c ∧ w.cell? ⟨g, i * 3, none⟩ = some (.string l[i].1) ∧ w.cell? ⟨g, i * 3 + 1, none⟩ = some (.int .i64 l[i].2.1) ∧ w.cell? ⟨g, i * 3 + 2, none⟩ = some (.int .i64 l[i].2.2) := by
  rcases h.2 with ⟨e, h0⟩ | ⟨g, cap, cur, e, _⟩
  · omega
  · subst e
    obtain ⟨q1, q2, q3⟩ := flatV_get l i hi
    exact ⟨g, cap, rfl, (World.ownsRow.cellAt h _ (by omega)).trans q1, (World.ownsRow.cellAt h _ (by omega)).trans q2, (World.ownsRow.cellAt h _ (by omega)).trans q3⟩
end Go.Proofs.YtgbplghokciimaaDoor.I
namespace Go.Proofs.YtgbplghokciimaaDoor
open Go.RowKit
set_option linter.unusedVariables false
theorem seT : Tryd.prog.underlying 39 = some (.struct (Tryd.prog.fieldsOf 39)) := by kernel_rfl
theorem seH : Tryd.prog.stoodInHeld 39 = false := by kernel_rfl
theorem seG : Tryd.prog.eqGuardType Tryd.prog.depth 39 = false := by kernel_rfl
set_option maxRecDepth 100000 in
theorem neq_same (m : ByteArray) (s v : Int) (W : World) : (binOp .neq 39 (.agg #[.string m, .int .i64 s, .int .i64 v]) (.agg #[.string m, .int .i64 s, .int .i64 v])).run Tryd.prog W = .ok (.bool false) W := by
  rw [run_neq_struct, show (10000 : Nat) = 9999 + 1 from rfl, run_equalIn_agg _ _ _ _ _ seT seH]
  have h3 := Tryd.underlying3
  have h9 := Tryd.underlying9
  simp [Program.fieldsOf, Tryd.underlying39, Op.eqFields, part, go_sem, h3, h9]
end Go.Proofs.YtgbplghokciimaaDoor
namespace Go.Proofs.YtgbplghokciimaaDoor
open Go.RowKit I
set_option linter.unusedVariables false
set_option maxHeartbeats 800000 in
set_option maxRecDepth 100000 in
theorem alike_yes (m : ByteArray) (s v : Int) (w : World) : Calls Tryd.prog 46 #[.agg #[.string m, .int .i64 s, .int .i64 v], .agg #[.string m, .int .i64 s, .int .i64 v]] w fun e w' => e = .returned (.bool true) ∧ Below w.heap.size w w' := by
  go_enter Tryd.func46, Tryd.ntmps46
  go_wp2
  all_goals
    go_returns
    refine ⟨by first | rfl | simp [*], ?_⟩
    repeat (refine Below.alloc ?_ (by simp <;> omega) _)
    exact Below.refl _ _
set_option maxHeartbeats 800000 in
set_option maxRecDepth 100000 in
theorem same_yes (Q : Nat → Prop) (base : Nat) (a b : Value) (l : List En) (hl : l.length ≤ 1000000) (w : World) (ha : w.ownsRow base 39 3 a l.length (flatV l)) (hb : ERow Q w b l) : Calls Tryd.prog 22 #[a, b] w fun e w' => e = .returned (.bool true) ∧ Below w.heap.size w w' := by
  obtain ⟨Pa, ca, rfl⟩ := own_form ha
  obtain ⟨Pb, cb, rfl⟩ := hb.form
  have HA : Hid (w.ownsRow base 39 3 (.slice Pa l.length ca) l.length (flatV l)) := ha
  have HB : Hid (ERow Q w (.slice Pb l.length cb) l) := hb
  obtain ⟨n, hn⟩ : ∃ n, l.length = n := ⟨_, rfl⟩
  rw [hn] at hl ⊢
  have HN : Hid (l.length = n) := hn
  clear ha hb hn
  go_enter Tryd.func22, Tryd.ntmps22
  go_wp2
  go_loopw [5] (fun ci wr => Below w.heap.size w wr ∧ ∃ i : Nat, i ≤ n ∧ ci = .int .i64 (i : Int)) (fun ci _ => n - (intOf ci).toNat)
  case atStart => exact ⟨Below.refl _ _, 0, Nat.zero_le _, rfl⟩
  case round =>
    obtain ⟨hb, i, hi, rfl⟩ := hrel
    have HBW : Hid (Below w.heap.size w wr) := hb
    have hA := own_keep HA.out (fun x _ hx => hb.block x hx)
    have hB := HB.out.on hb
    clear hb
    by_cases hlt : i < n
    · have hil : i < l.length := by have := HN.out; omega
      obtain ⟨ga, c1, hv, p0, p1, p2⟩ := erow_at hA rfl hil
      injection hv with hv1 hv2 hv3
      subst hv1
      obtain ⟨gb, c2, hu, q0, q1, q2⟩ := hB.cells hil
      injection hu with hu1 hu2 hu3
      subst hu1
      obtain ⟨E, hE⟩ : ∃ E, l[i] = E := ⟨_, rfl⟩
      rw [hE] at p0 p1 p2 q0 q1 q2
      obtain ⟨m, s, v⟩ := E
      simp only at p0 p1 p2 q0 q1 q2
      have hi0 : (0 : Int) ≤ (i : Int) := by omega
      have hi1 : (i : Int) < (n : Int) := by omega
      have hiw : IntKind.i64.wrap ((i : Int) + 1) = (i : Int) + 1 := by rw [IntKind.wrap_i64] <;> omega
      have hS := And.intro p0 (And.intro p1 (And.intro p2 (And.intro q0 (And.intro q1 q2))))
      have hd : Below wr.heap.size wr wr.drew := (Below.refl _ wr).drew
      clear hA hB hE hv2 hv3 hu2 hu3
      go_wp2_with fail
      go_region_held3 (fun w' : World => w'.cell? ⟨ga, i * 3, none⟩ = some (.string m) ∧ w'.cell? ⟨ga, i * 3 + 1, none⟩ = some (.int .i64 s) ∧ w'.cell? ⟨ga, i * 3 + 2, none⟩ = some (.int .i64 v) ∧ w'.cell? ⟨gb, i * 3, none⟩ = some (.string m) ∧ w'.cell? ⟨gb, i * 3 + 1, none⟩ = some (.int .i64 s) ∧ w'.cell? ⟨gb, i * 3 + 2, none⟩ = some (.int .i64 v))
        (first | exact hS | exact hS2)
        (first | (go_at_call 46; refine (alike_yes m s v wr.drew).mono ?_; rintro e w1 ⟨rfl, hb1⟩; have hb1' := hd.trans hb1; have hS2 := And.intro (cell_on p0 hb1') (And.intro (cell_on p1 hb1') (And.intro (cell_on p2 hb1') (And.intro (cell_on q0 hb1') (And.intro (cell_on q1 hb1') (cell_on q2 hb1')))))))
      have HB1 : Hid (Below w.heap.size w w1) := HBW.out.trans (hb1'.mono HBW.out.size)
      clear hb1 hb1' hS2 hS p0 p1 p2 q0 q1 q2
      go_wp2
      go_roundw
      case rel => exact ⟨HB1.out, i + 1, by omega, by go_num⟩
      case measure => simp [intOf]; omega
    · have hi1 : ¬ (i : Int) < (n : Int) := by omega
      clear hA hB
      go_wp2
      go_returns
      exact ⟨by first | rfl | simp, HBW.out⟩
end Go.Proofs.YtgbplghokciimaaDoor
