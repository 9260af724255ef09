import Derived.Test.YtgbplghokciimaaDoorSpB
import Derived.Test.YtgbplghokciimaaDoorSkL
import Derived.Test.YtgbplghokciimaaDoorRP
import Derived.Deep.CutRange
namespace Go.Proofs.YtgbplghokciimaaDoor.I
open Go.RowKit Go.Shelf
set_option linter.unusedVariables false
attribute [local go_sem] Oper.semAt_some
set_option maxHeartbeats 800000 in
set_option maxRecDepth 100000 in
theorem memberEnd_eq (a : ByteArray) (f : Int) (o : Bool) (w : World) : Calls Tryd.prog 92 #[.agg #[.string a, .int .i64 f, .bool o]] w fun e w' => e = .returned (.agg #[.string a, .int .i64 f, .bool o]) ∧ w' = (w.alloc (.cells #[.string a, .int .i64 f, .bool o] 30)).alloc (.cells #[.string a, .int .i64 f, .bool o] 156) := by
  go_enter Tryd.func92, Tryd.ntmps92
  go_wp2
  go_returns
  exact ⟨rfl, rfl⟩
/-- the boxes of a walk through a range of members. -/
structure LBox (g bB bK bL bH : Nat) (back : Bool) (lo hi : LBd) (S : SkS) (N : Nat) (W : World) : Prop where
  b0 : Blk W bB [.pointer (some ⟨g, 0, none⟩)] 25
  b1 : Blk W bK [.bool back] 4
  lo : Blk W bL [.string lo.1, .int .i64 lo.2.1, .bool lo.2.2] 156
  hi : Blk W bH [.string hi.1, .int .i64 hi.2.1, .bool hi.2.2] 156
  bd : Bd W g S N
theorem LBox.to {g bB bK bL bH : Nat} {back : Bool} {lo hi : LBd} {S : SkS} {N : Nat} {W W' : World} (h : LBox g bB bK bL bH back lo hi S N W) (e : ∀ q ∈ bB :: bK :: bL :: bH :: bblk g S, W'.heap[q]? = W.heap[q]?) : LBox g bB bK bL bH back lo hi S N W' :=
  ⟨h.b0.to (e _ (by simp)), h.b1.to (e _ (by simp)), h.lo.to (e _ (by simp)), h.hi.to (e _ (by simp)), h.bd.to (fun q hq => e q (by simp [hq]))⟩
theorem LBox.lts {g bB bK bL bH : Nat} {back : Bool} {lo hi : LBd} {S : SkS} {N : Nat} {W : World} (h : LBox g bB bK bL bH back lo hi S N W) : ∀ q ∈ bB :: bK :: bL :: bH :: bblk g S, q < W.heap.size := fun q hq => by
  simp only [List.mem_cons] at hq
  rcases hq with rfl | rfl | rfl | rfl | hq
  · exact h.b0.lt
  · exact h.b1.lt
  · exact h.lo.lt
  · exact h.hi.lt
  · exact h.bd.lts q hq
theorem LBox.on {g bB bK bL bH : Nat} {back : Bool} {lo hi : LBd} {S : SkS} {N : Nat} {W W' : World} (h : LBox g bB bK bL bH back lo hi S N W) (hb : Below W.heap.size W W') : LBox g bB bK bL bH back lo hi S N W' := h.to (fun q hq => hb.block q (h.lts q hq))
theorem LBox.own {g bB bK bL bH B0 : Nat} {back : Bool} {lo hi : LBd} {S : SkS} {N : Nat} {A B : World} {row : Option Nat} (h : LBox g bB bK bL bH back lo hi S N A) (hB : ∀ q ∈ bB :: bK :: bL :: bH :: bblk g S, q < B0) (hg : A.grownBy B row) (hr : ∀ r, row = some r → B0 ≤ r ∧ ∃ o : Obj, A.heap[r]? = some o ∧ o.isCells = false) : LBox g bB bK bL bH back lo hi S N B :=
  h.to (fun q hq => hg.block q (h.lts q hq) (fun e => by have := (hr q e.symm).1; have := hB q hq; omega))
set_option maxHeartbeats 4000000 in
set_option maxRecDepth 100000 in
theorem within_any (g : Nat) (S : SkS) (N : Nat) (lo hi : LBd) (back : Bool) (w : World) (h : Bd w g S N) : Calls Tryd.prog 77 #[.pointer (some ⟨g, 0, none⟩), lxV lo, lxV hi, .bool back] w fun e w' => ∃ bB bK bL bH, e = .returned (.func (.func 93) #[] #[.pointer (some ⟨bB, 0, none⟩), .pointer (some ⟨bK, 0, none⟩), .pointer (some ⟨bL, 0, none⟩), .pointer (some ⟨bH, 0, none⟩)]) ∧ LBox g bB bK bL bH back lo hi S N w' ∧ (w.heap.size ≤ bB ∧ w.heap.size ≤ bK ∧ w.heap.size ≤ bL ∧ w.heap.size ≤ bH) ∧ Below w.heap.size w w' := by
  obtain ⟨l0, l1, l2⟩ := lo
  obtain ⟨h0, h1, h2⟩ := hi
  have HBD : Hid (Bd w g S N) := h
  clear h
  have hmf : ∀ (fn : Fn) (first cap : Array Value) (w : World), (Instr.makeFunc fn first cap).run Tryd.prog w = .ok (.func fn first cap) w := fun _ _ _ _ => rfl
  obtain ⟨W0, hW0⟩ : ∃ W0, W0 = (((w.alloc (.cells #[.pointer (some ⟨g, 0, none⟩)] 25)).alloc (.cells #[.string l0, .int .i64 l1, .bool l2] 30)).alloc (.cells #[.string h0, .int .i64 h1, .bool h2] 30)).alloc (.cells #[.bool back] 4) := ⟨_, rfl⟩
  have HBW : Hid (Below w.heap.size w W0) := by
    rw [hW0]
    repeat (refine Below.alloc ?_ (by simp <;> omega) _)
    exact Below.refl _ _
  have q0 : W0.heap[w.heap.size]? = some (.cells #[.pointer (some ⟨g, 0, none⟩)] 25) := by
    rw [hW0]
    repeat (first | (refine at_newN ?_; simp; done) | refine at_old ?_)
  have q1 : W0.heap[w.heap.size + 1]? = some (.cells #[.string l0, .int .i64 l1, .bool l2] 30) := by
    rw [hW0]
    repeat (first | (refine at_newN ?_; simp; done) | refine at_old ?_)
  have q2 : W0.heap[w.heap.size + 1 + 1]? = some (.cells #[.string h0, .int .i64 h1, .bool h2] 30) := by
    rw [hW0]
    repeat (first | (refine at_newN ?_; simp; done) | refine at_old ?_)
  have q3 : W0.heap[w.heap.size + 1 + 1 + 1]? = some (.cells #[.bool back] 4) := by
    rw [hW0]
    repeat (first | (refine at_newN ?_; simp; done) | refine at_old ?_)
  have HQ0 : Hid (W0.heap[w.heap.size]? = some (.cells #[.pointer (some ⟨g, 0, none⟩)] 25) ∧ W0.heap[w.heap.size + 1 + 1 + 1]? = some (.cells #[.bool back] 4)) := ⟨q0, q3⟩
  go_enter Tryd.func77, Tryd.ntmps77
  go_upto_region 1 with fail
  rw [← hW0]
  clear hW0
  obtain ⟨lb, hlb⟩ : ∃ lb, w.heap.size + 1 = lb := ⟨_, rfl⟩
  rw [hlb] at q1 q2 q3 HQ0 ⊢
  obtain ⟨hb, hhb⟩ : ∃ hb, lb + 1 = hb := ⟨_, rfl⟩
  rw [hhb] at q2 q3 HQ0 ⊢
  obtain ⟨kb, hkb⟩ : ∃ kb, hb + 1 = kb := ⟨_, rfl⟩
  rw [hkb] at q3 HQ0 ⊢
  obtain ⟨bb, hbb⟩ : ∃ bb, w.heap.size = bb := ⟨_, rfl⟩
  rw [hbb] at HQ0 ⊢
  have x0 : W0.cell? ⟨lb, 0, none⟩ = some (.string l0) := by rw [cell_of_row _ _ _ _ _ _ q1]; rfl
  have x1 : W0.cell? ⟨lb, 1, none⟩ = some (.int .i64 l1) := by rw [cell_of_row _ _ _ _ _ _ q1]; rfl
  have x2 : W0.cell? ⟨lb, 2, none⟩ = some (.bool l2) := by rw [cell_of_row _ _ _ _ _ _ q1]; rfl
  have y0 : W0.cell? ⟨hb, 0, none⟩ = some (.string h0) := by rw [cell_of_row _ _ _ _ _ _ q2]; rfl
  have y1 : W0.cell? ⟨hb, 1, none⟩ = some (.int .i64 h1) := by rw [cell_of_row _ _ _ _ _ _ q2]; rfl
  have y2 : W0.cell? ⟨hb, 2, none⟩ = some (.bool h2) := by rw [cell_of_row _ _ _ _ _ _ q2]; rfl
  have hll : lb < W0.heap.size := row_lt q1
  have hhl : hb < W0.heap.size := row_lt q2
  have HZB : Hid (w.heap.size = bb ∧ w.heap.size + 1 = lb ∧ lb + 1 = hb ∧ hb + 1 = kb) := ⟨hbb, hlb, hhb, hkb⟩
  clear q0 q1 q2 q3 hlb hhb hkb hbb
  go_cut [9, 10] from 9 to 14 (fun s8 s9 wx => ∃ B8 B9 : Nat, s8 = .pointer (some ⟨B8, 0, none⟩) ∧ s9 = .pointer (some ⟨B9, 0, none⟩) ∧ wx.heap[B8]? = some (.cells #[.string l0, .int .i64 l1, .bool l2] 156) ∧ wx.heap[B9]? = some (.cells #[.string h0, .int .i64 h1, .bool h2] 156) ∧ W0.heap.size ≤ B8 ∧ W0.heap.size ≤ B9 ∧ Below W0.heap.size W0 wx)
  case first =>
    have hSA := And.intro x0 (And.intro x1 (And.intro x2 (And.intro y0 (And.intro y1 y2))))
    have HKS : Hid (∀ w' : World, Below W0.heap.size W0 w' → w'.cell? ⟨lb, 0, none⟩ = some (.string l0) ∧ w'.cell? ⟨lb, 1, none⟩ = some (.int .i64 l1) ∧ w'.cell? ⟨lb, 2, none⟩ = some (.bool l2) ∧ w'.cell? ⟨hb, 0, none⟩ = some (.string h0) ∧ w'.cell? ⟨hb, 1, none⟩ = some (.int .i64 h1) ∧ w'.cell? ⟨hb, 2, none⟩ = some (.bool h2)) := fun w' hb2' => ⟨cell_on x0 hb2', cell_on x1 hb2', cell_on x2 hb2', cell_on y0 hb2', cell_on y1 hb2', cell_on y2 hb2'⟩
    go_region_held3 (fun w' : World => w'.cell? ⟨lb, 0, none⟩ = some (.string l0) ∧ w'.cell? ⟨lb, 1, none⟩ = some (.int .i64 l1) ∧ w'.cell? ⟨lb, 2, none⟩ = some (.bool l2) ∧ w'.cell? ⟨hb, 0, none⟩ = some (.string h0) ∧ w'.cell? ⟨hb, 1, none⟩ = some (.int .i64 h1) ∧ w'.cell? ⟨hb, 2, none⟩ = some (.bool h2))
      (first | exact hSA | exact HKS.out _ (by repeat (first | exact Below.refl _ _ | refine Below.drew ?_ | refine Below.alloc ?_ (by simp <;> omega) _ | refine Below.setCell ?_ (by simp <;> omega) _)))
      (first | (go_at_call 92; refine (memberEnd_eq _ _ _ _).mono ?_; rintro e w2 ⟨rfl, rfl⟩))
    all_goals
      go_wp2_with fail
      go_meet
      refine ⟨_, _, rfl, rfl, ?_, ?_, by omega, by omega, ?_⟩
      · show (World.alloc _ _).heap[_]? = _
        repeat (first | (refine at_newN ?_; simp; done) | refine at_old ?_)
      · show (World.alloc _ _).heap[_]? = _
        repeat (first | (refine at_newN ?_; simp; done) | refine at_old ?_)
      · repeat (first | exact Below.refl _ _ | refine Below.drew ?_ | refine Below.alloc ?_ (by simp <;> omega) _)
  case rest =>
    obtain ⟨B8, B9, rfl, rfl, hr8, hr9, hz8, hz9, hbc⟩ := hcut
    have HZ89 : Hid (W0.heap.size ≤ B8 ∧ W0.heap.size ≤ B9) := ⟨hz8, hz9⟩
    have HR8 : Hid _ := hr8
    have HR9 : Hid _ := hr9
    have HBC : Hid (Below W0.heap.size W0 wc) := hbc
    clear hz8 hz9 hr8 hr9 hbc x0 x1 x2 y0 y1 y2 hll hhl
    go_wp2
    go_returns
    refine ⟨_, _, _, _, rfl, ⟨keep_row HQ0.out.1 HBC.out, keep_row HQ0.out.2 HBC.out, HR8.out, HR9.out, HBD.out.below (bel_to HBW.out HBC.out (Nat.le_refl _))⟩, ?_, bel_to HBW.out HBC.out (Nat.le_refl _)⟩
    have z1 := HZ89.out
    have z2 := HBW.out.size
    have z3 := HZB.out
    exact ⟨by omega, by omega, by omega, by omega⟩
end Go.Proofs.YtgbplghokciimaaDoor.I
namespace Go.Proofs.YtgbplghokciimaaDoor.I
open Go.RowKit Go.Shelf
set_option linter.unusedVariables false
attribute [local go_sem] Oper.semAt_some
set_option maxHeartbeats 1000000 in
set_option maxRecDepth 100000 in
theorem turn_zero (g : Nat) (S : SkS) (N : Nat) (back : Bool) (w : World) (h : Bd w g S N) (h0 : S.T.length = 0) : Calls Tryd.prog 32 #[.pointer (some ⟨g, 0, none⟩), .int .i64 ((0 : Nat) : Int), .bool back] w fun e w' => e = .returned (.int .i64 (if back then -1 else 0)) ∧ w' = w := by
  have HL : Hid _ := Len_any g S N w h
  rw [h0] at HL
  clear h
  go_enter Tryd.func32, Tryd.ntmps32
  cases back with
  | true =>
    go_wp2_with fail
    refine (show Calls _ _ _ _ _ from HL.out).mono ?_
    rintro e w2 ⟨rfl, rfl⟩
    go_wp2
    go_returns
    exact ⟨by first | rfl | (simp; done), rfl⟩
  | false =>
    go_wp2
    go_returns
    exact ⟨by first | rfl | (simp; done), rfl⟩
set_option maxHeartbeats 1000000 in
set_option maxRecDepth 100000 in
theorem walk_seq0 (p : Obj → Bool) (n : Nat) (g bx B0 : Nat) (back : Bool) (S : SkS) (N : Nat) (hT0 : S.T.length = 0) :
    SeqQ p n Tryd.prog 85 #[.pointer (some ⟨bx, 0, none⟩), .pointer (some ⟨bx + 1, 0, none⟩), .pointer (some ⟨bx + 3, 0, none⟩), .pointer (some ⟨bx + 2, 0, none⟩)] (encT S.T) [] (WBox g 0 0 bx back S N) B0 := by
  intro l J Jx W hBW hJo hbox hJx hY h0
  have hJ : ∀ s A B, J s A → Below A.heap.size A B → J s B := fun s A B hs hg => hJo s A B none hs (grown_of_below hg) (fun r e => by cases e)
  clear hJo hJx
  have hbx := hbox _ _ h0
  have e0 : W.cell? ⟨bx, 0, none⟩ = some (.pointer (some ⟨g, 0, none⟩)) := by rw [hbx.b0.cell]; rfl
  have e1 : W.cell? ⟨bx + 1, 0, none⟩ = some (.int .i64 ((0 : Nat) : Int)) := by rw [hbx.b1.cell]; rfl
  have e3 : W.cell? ⟨bx + 3, 0, none⟩ = some (.bool back) := by rw [hbx.b3.cell]; rfl
  have hd : Below W.heap.size W W.drew := (Below.refl _ W).drew
  have HTU : Hid _ := turn_zero g S N back W.drew (hbx.bd.below hd) hT0
  obtain ⟨r, hr⟩ : ∃ r : Int, (if back then (-1 : Int) else 0) = r := ⟨_, rfl⟩
  have hrb : -1 ≤ r ∧ r ≤ 4398046511104 := by subst hr; cases back <;> simp
  rw [hr] at HTU
  have HTW : Hid _ := tower_any g S (cntT S.T) S.T.length (pAt S.hb S.T) 0 r hrb W.drew (hbx.bd.below hd).sk (by omega) (fun q hq => by omega) hbx.bd.h24 (by omega) hbx.bd.pos
  have HJ0 : Hid _ := h0
  have HJJ : Hid (∀ s A B, J s A → Below A.heap.size A B → J s B) := hJ
  have HBO : Hid _ := hbox
  clear h0 hbx hr hJ hbox hY hrb
  refine callsIn_of_wp Tryd.func85 rfl trivial ?_ rfl
  simp only [Tryd.ntmps85, List.size_toArray, List.length_cons, List.length_nil, Nat.reduceAdd, Nat.reduceSub, Array.replicate_succ, Array.replicate_zero, List.push_toArray, List.append_toArray, List.nil_append, List.cons_append]
  gi_wp2
  refine wpIn_wide.2 ?_
  have hSA := And.intro e0 (And.intro e1 e3)
  go_region_held3 (fun w' : World => w'.cell? ⟨bx, 0, none⟩ = some (.pointer (some ⟨g, 0, none⟩)) ∧ w'.cell? ⟨bx + 1, 0, none⟩ = some (.int .i64 ((0 : Nat) : Int)) ∧ w'.cell? ⟨bx + 3, 0, none⟩ = some (.bool back))
    (first | exact hSA | exact hSB)
    (first | (go_at_call 32; refine (show Calls _ _ _ _ _ from HTU.out).mono ?_; rintro e w1 ⟨rfl, hw1⟩; have hw1' := hw1.symm; subst hw1') | (go_at_call 34; refine (show Calls _ _ _ _ _ from HTW.out).mono ?_; rintro e w2 ⟨o, rfl, ho, hb2⟩; have hSB := And.intro (cell_on hSA.1 (hd.trans hb2)) (And.intro (cell_on hSA.2.1 (hd.trans hb2)) (cell_on hSA.2.2 (hd.trans hb2)))))
  have hJ2 : J [] w2 := HJJ.out _ _ _ HJ0.out (hd.trans hb2)
  have HJ2 : Hid _ := hJ2
  have hx2 := HBO.out _ _ hJ2
  have e2 : w2.cell? ⟨bx + 2, 0, none⟩ = some (.int .i64 ((0 : Nat) : Int)) := by rw [hx2.b2.cell]; rfl
  clear hJ2 hx2 hSA hSB hb2 e0 e1 e3 ho hBW hd
  gi_wp2
  gi_loopw [14] (fun ci wr => ci = .int .i64 0 ∧ wr = w2) (fun _ _ => 0)
  case atStart => exact ⟨rfl, rfl⟩
  case round =>
    obtain ⟨rfl, rfl⟩ := hrel
    gi_wp2
    go_end0
    exact Or.inl ⟨⟨_, rfl⟩, HJ2.out⟩
set_option maxHeartbeats 1000000 in
set_option maxRecDepth 100000 in
theorem walk_seqQ (p : Obj → Bool) (n : Nat) (g rank cnt bx B0 : Nat) (back : Bool) (S : SkS) (N : Nat) (hN : N ≤ 1000000) (hl : S.T.length ≤ N) (hc : rank < S.T.length) (hr : rank + cnt ≤ S.T.length) :
    SeqQ p n Tryd.prog 85 #[.pointer (some ⟨bx, 0, none⟩), .pointer (some ⟨bx + 1, 0, none⟩), .pointer (some ⟨bx + 3, 0, none⟩), .pointer (some ⟨bx + 2, 0, none⟩)] (encT S.T) (wkL back S.T.length rank cnt) (WBox g rank cnt bx back S N) B0 := by
  intro l J Jx W hBW hJo hbox hJx hY h0
  have hJ : ∀ s A B, J s A → Below A.heap.size A B → J s B := fun s A B hs hg => hJo s A B none hs (grown_of_below hg) (fun r e => by cases e)
  clear hJo hJx
  have hbx := hbox _ _ h0
  have e0 : W.cell? ⟨bx, 0, none⟩ = some (.pointer (some ⟨g, 0, none⟩)) := by rw [hbx.b0.cell]; rfl
  have e1 : W.cell? ⟨bx + 1, 0, none⟩ = some (.int .i64 (rank : Int)) := by rw [hbx.b1.cell]; rfl
  have e3 : W.cell? ⟨bx + 3, 0, none⟩ = some (.bool back) := by rw [hbx.b3.cell]; rfl
  have hd : Below W.heap.size W W.drew := (Below.refl _ W).drew
  have HTU : Hid _ := turn_any g S N rank back W.drew (hbx.bd.below hd) hN (fun _ => by omega) (by omega)
  have hrl : trn back S.T.length rank < S.T.length := trn_lt (by omega)
  obtain ⟨r, hrr⟩ : ∃ r, trn back S.T.length rank = r := ⟨_, rfl⟩
  rw [hrr] at HTU hrl
  have hH0 : 0 < S.H := by
    have h1 := hbx.bd.pos S.T[r].h (List.mem_map.2 ⟨_, List.getElem_mem hrl, rfl⟩)
    have h2 := hbx.bd.top.le S.T[r].h (List.mem_map.2 ⟨_, List.getElem_mem hrl, rfl⟩)
    omega
  have HTW : Hid _ := tower_any g S (cntT S.T) S.T.length (pAt S.hb S.T) (r + 1) (r : Int) (by omega) W.drew (hbx.bd.below hd).sk (by omega) (fun q hq => by omega) hbx.bd.h24 (by omega) hbx.bd.pos
  have HPT : Hid (pAt S.hb S.T (r + 1) = some S.T[r].b) := by
    show (S.T[r]?).map Tw.b = _
    rw [List.getElem?_eq_getElem hrl]; rfl
  have HJ0 : Hid _ := h0
  have HRR : Hid _ := hrr
  have HJJ : Hid (∀ s A B, J s A → Below A.heap.size A B → J s B) := hJ
  have HBO : Hid _ := hbox
  have HYY : Hid _ := hY
  clear h0 hbx hrr hJ hbox hY
  refine callsIn_of_wp Tryd.func85 rfl trivial ?_ rfl
  simp only [Tryd.ntmps85, List.size_toArray, List.length_cons, List.length_nil, Nat.reduceAdd, Nat.reduceSub, Array.replicate_succ, Array.replicate_zero, List.push_toArray, List.append_toArray, List.nil_append, List.cons_append]
  gi_wp2
  refine wpIn_wide.2 ?_
  have hSA := And.intro e0 (And.intro e1 e3)
  go_region_held3 (fun w' : World => w'.cell? ⟨bx, 0, none⟩ = some (.pointer (some ⟨g, 0, none⟩)) ∧ w'.cell? ⟨bx + 1, 0, none⟩ = some (.int .i64 (rank : Int)) ∧ w'.cell? ⟨bx + 3, 0, none⟩ = some (.bool back))
    (first | exact hSA | exact hSB)
    (first | (go_at_call 32; refine (show Calls _ _ _ _ _ from HTU.out).mono ?_; rintro e w1 ⟨rfl, hw1⟩; have hw1' := hw1.symm; subst hw1') | (go_at_call 34; refine (show Calls _ _ _ _ _ from HTW.out).mono ?_; rintro e w2 ⟨o, rfl, ho, hb2⟩; have hSB := And.intro (cell_on hSA.1 (hd.trans hb2)) (And.intro (cell_on hSA.2.1 (hd.trans hb2)) (cell_on hSA.2.2 (hd.trans hb2)))))
  have hJ2 : J [] w2 := HJJ.out _ _ _ HJ0.out (hd.trans hb2)
  have HJ2 : Hid _ := hJ2
  have hx2 := HBO.out _ _ hJ2
  have e2 : w2.cell? ⟨bx + 2, 0, none⟩ = some (.int .i64 (cnt : Int)) := by rw [hx2.b2.cell]; rfl
  have hs2 : B0 ≤ w2.heap.size := Nat.le_trans hBW (hd.trans hb2).size
  have HS2 : Hid (B0 ≤ w2.heap.size) := hs2
  have HPT2 : Hid (pAt S.hb S.T (r + 1) = (S.T[trn back S.T.length (rank + 0)]?).map Tw.b) := by
    show (S.T[r]?).map Tw.b = _
    rw [Nat.add_zero, HRR.out]
  clear hJ2 hx2 hs2 hSA hSB hb2 e0 e1 e3 ho hBW hd
  generalize pAt S.hb S.T (r + 1) = o at *
  gi_wp2
  clear e2
  gi_loopw [14, 6] (fun ci ct wr => ∃ j : Nat, ∃ o : Option Nat, j ≤ cnt ∧ ci = .int .i64 (j : Int) ∧ ct = ptr o ∧ (j < cnt → o = (S.T[trn back S.T.length (rank + j)]?).map Tw.b) ∧ J (wkL back S.T.length rank j) wr ∧ B0 ≤ wr.heap.size) (fun ci _ _ => cnt - (intOf ci).toNat)
  case atStart => exact ⟨0, o, by omega, rfl, rfl, fun _ => HPT2.out, HJ2.out, HS2.out⟩
  case round =>
    obtain ⟨j, o1, hj, rfl, rfl, ho1, hJs, hB0⟩ := hrel
    by_cases hlt : j < cnt
    · have hil : trn back S.T.length (rank + j) < S.T.length := trn_lt (by omega)
      obtain ⟨i, hi⟩ : ∃ i, trn back S.T.length (rank + j) = i := ⟨_, rfl⟩
      have ho1 := ho1 hlt
      rw [hi] at ho1 hil
      rw [List.getElem?_eq_getElem hil] at ho1
      have ho1 : o1 = some S.T[i].b := ho1
      subst ho1
      obtain ⟨p1, p2⟩ := wkL_snoc back S.T.length rank cnt j hlt
      rw [hi] at p1 p2
      obtain ⟨fn, tmps, assign, body, hy, hR⟩ := HYY.out _ i wr p2 hJs
      rw [encT_at hil] at hy
      have HP1 : Hid _ := p1
      have HP2 : Hid _ := p2
      have HI : Hid (trn back S.T.length (rank + j) = i) := hi
      have hjw : IntKind.i64.wrap ((j : Int) + 1) = (j : Int) + 1 := by rw [IntKind.wrap_i64] <;> omega
      have hjl : (j : Int) < (cnt : Int) := by omega
      have hSK : Hid True := trivial
      clear p1 p2 hJs hi
      rw [show ptr (some S.T[i].b) = Value.pointer (some ⟨S.T[i].b, 0, none⟩) from rfl]
      have HST : Hid (∀ W3, Bd W3 g S N → W3.cell? ⟨S.T[i].b, 4, none⟩ = some (ptr (pAt S.hb S.T i)) ∧ ∃ c, W3.cell? ⟨S.T[i].b, 3, none⟩ = some (.slice (some ⟨S.T[i].k, 0, none⟩) S.T[i].h c) ∧ 1 ≤ S.T[i].h ∧ W3.cell? ⟨S.T[i].k, 0, none⟩ = some (ptr (pAt S.hb S.T (i + 2)))) := fun W3 h3 => h3.step hil
      generalize S.T[i].b = tb at *
      generalize S.T[i].k = tk at *
      generalize S.T[i].h = th at *
      gi_wp2
      refine ⟨fun h => (by cases h), hR.mono ?_⟩
      rintro e W3 (⟨rfl, hJ3, hkc⟩ | ⟨rfl, hJx3, hkc⟩)
      · have hz3 := hkc.size
        have hx3 := HBO.out _ _ hJ3
        have b3 : W3.cell? ⟨bx + 3, 0, none⟩ = some (.bool back) := by rw [hx3.b3.cell]; rfl
        obtain ⟨q4, c, q3, qh, q0⟩ := HST.out W3 hx3.bd
        have HJ3 : Hid _ := hJ3
        have HZ3 : Hid (B0 ≤ W3.heap.size) := by show _ ≤ _; omega
        have hth : (0 : Int) < (th : Int) := by omega
        clear hJ3 hR hy hkc hx3
        cases back with
        | true =>
          have HNX : Hid (j + 1 < cnt → pAt S.hb S.T i = (S.T[trn true S.T.length (rank + (j + 1))]?).map Tw.b) := fun h => by
            have := HI.out
            unfold trn at this ⊢
            simp only [if_true] at this ⊢
            obtain ⟨i', rfl⟩ : ∃ i', i = i' + 1 := ⟨i - 1, by omega⟩
            show (S.T[i']?).map Tw.b = _
            rw [show S.T.length - 1 - (rank + (j + 1)) = i' by omega]
          generalize pAt S.hb S.T i = oo at *
          clear q3 q0
          gi_wp2
          go_roundw
          case rel => exact ⟨j + 1, oo, by omega, by go_num, rfl, HNX.out, by rw [HP1.out]; exact HJ3.out, HZ3.out⟩
          case measure => simp [intOf]; omega
        | false =>
          have HNX : Hid (j + 1 < cnt → pAt S.hb S.T (i + 2) = (S.T[trn false S.T.length (rank + (j + 1))]?).map Tw.b) := fun h => by
            have := HI.out
            unfold trn at this ⊢
            simp only [Bool.false_eq_true, if_false] at this ⊢
            show (S.T[i + 1]?).map Tw.b = _
            rw [show rank + (j + 1) = i + 1 by omega]
          generalize pAt S.hb S.T (i + 2) = oo at *
          clear q4
          gi_wp2
          go_roundw
          case rel => exact ⟨j + 1, oo, by omega, by go_num, rfl, HNX.out, by rw [HP1.out]; exact HJ3.out, HZ3.out⟩
          case measure => simp [intOf]; omega
      · gi_wp2
        refine bodyPost_ret (results_none rfl _ _ _) rfl ?_
        exact Or.inr ⟨⟨_, rfl⟩, _, HP2.out, hJx3⟩
    · have he : j = cnt := by omega
      subst he
      have hjl : ¬ (j : Int) < (j : Int) := by omega
      clear ho1
      gi_wp2
      go_end0
      exact Or.inl ⟨⟨_, rfl⟩, hJs⟩
def inL (T : List Tw) (lo hi : LBd) (i : Nat) : Bool := match (ens T)[i]? with
  | some e => loL e.1 lo && hiL e.1 hi
  | none => false
def lexL (T : List Tw) (back : Bool) (lo hi : LBd) : List Nat := (wkL back T.length 0 T.length).filter (inL T lo hi)
theorem inL_at {T : List Tw} {lo hi : LBd} {i : Nat} (h : i < T.length) : inL T lo hi i = (loL T[i].e.1 lo && hiL T[i].e.1 hi) := by
  unfold inL
  rw [List.getElem?_eq_getElem (by simpa using h)]
  simp
end Go.Proofs.YtgbplghokciimaaDoor.I
namespace Go.Proofs.YtgbplghokciimaaDoor.I
open Go.RowKit Go.Shelf
set_option linter.unusedVariables false
attribute [local go_sem] Oper.semAt_some
/-- all but rows of entries. -/
def pE : Obj → Bool
  | .cells _ t _ => t != 39
  | _ => true
theorem pE_not : ∀ o : Obj, o.isCells = false → pE o = true := fun o ho => by cases o <;> first | rfl | cases ho
theorem walkQ (n : Nat) (g bx B0 : Nat) (back : Bool) (S : SkS) (N : Nat) (hN : N ≤ 1000000) (hl : S.T.length ≤ N) :
    SeqQ pE n Tryd.prog 85 #[.pointer (some ⟨bx, 0, none⟩), .pointer (some ⟨bx + 1, 0, none⟩), .pointer (some ⟨bx + 3, 0, none⟩), .pointer (some ⟨bx + 2, 0, none⟩)] (encT S.T) (wkL back S.T.length 0 S.T.length) (WBox g 0 S.T.length bx back S N) B0 := by
  rcases Nat.eq_zero_or_pos S.T.length with h | h
  · have := walk_seq0 pE n g bx B0 back S N h
    rw [h]; exact this
  · exact walk_seqQ pE n g 0 S.T.length bx B0 back S N hN hl h (by omega)
set_option maxHeartbeats 4000000 in
set_option maxRecDepth 100000 in
theorem within_seq (n : Nat) (g bB bK bL bH B0 : Nat) (back : Bool) (lo hi : LBd) (S : SkS) (N : Nat) (hN : N ≤ 1000000) (hl : S.T.length ≤ N) :
    SeqQ pE n Tryd.prog 93 #[.pointer (some ⟨bB, 0, none⟩), .pointer (some ⟨bK, 0, none⟩), .pointer (some ⟨bL, 0, none⟩), .pointer (some ⟨bH, 0, none⟩)] (encT S.T) (lexL S.T back lo hi) (LBox g bB bK bL bH back lo hi S N) B0 := by
  intro l J Jx W hBW hJ hbox hJx hY h0
  have hbx := hbox _ _ h0
  have HJ : Hid (OwnFrom W.heap.size J) := hJ
  have HJx : Hid (OwnFrom W.heap.size Jx) := hJx
  have HBO : Hid (∀ s A, J s A → LBox g bB bK bL bH back lo hi S N A) := hbox
  have HY : Hid _ := hY
  have HLX : Hid (LBox g bB bK bL bH back lo hi S N W) := hbx
  have HJ0 : Hid (J [] W) := h0
  have HBB : Hid (B0 ≤ W.heap.size) := hBW
  clear hJ hJx hbox hY h0 hBW hbx
  refine callsIn_wide.2 ?_
  refine calls_of_wpB (n := n + 2) Tryd.func93 rfl ?_
  simp only [Tryd.ntmps93, List.size_toArray, List.length_cons, List.length_nil, Nat.reduceAdd, Nat.reduceSub, Array.replicate_succ, Array.replicate_zero, List.push_toArray, List.append_toArray, List.nil_append, List.cons_append]
  obtain ⟨W1, hW1⟩ : ∃ W1, W1 = W.alloc (.cells #[.func (.yield l) #[] #[]] 117) := ⟨_, rfl⟩
  have hb1 : Below W.heap.size W W1 := by rw [hW1]; exact (Below.refl _ _).alloc (Nat.le_refl _) _
  have hy1 : Blk W1 W.heap.size [.func (.yield l) #[] #[]] 117 := by rw [hW1]; exact one_alloc _ _
  have hx1 := HLX.out.on hb1
  have e0 : W1.cell? ⟨bB, 0, none⟩ = some (.pointer (some ⟨g, 0, none⟩)) := by rw [hx1.b0.cell]; rfl
  have e1 : W1.cell? ⟨bK, 0, none⟩ = some (.bool back) := by rw [hx1.b1.cell]; rfl
  have hd : Below W1.heap.size W1 W1.drew := (Below.refl _ W1).drew
  have HLN : Hid _ := Len_any g S N W1.drew (hx1.bd.below hd)
  have HWK : Hid _ := walk_any g 0 S.T.length back S N W1.drew (hx1.bd.below hd)
  have HB1 : Hid (Below W.heap.size W W1) := hb1
  have HY1 : Hid (Blk W1 W.heap.size [.func (.yield l) #[] #[]] 117) := hy1
  clear hb1 hy1 hx1
  refine wpB_then (n := n + 2) ?_
  gi_wp2
  rw [← hW1]
  clear hW1
  obtain ⟨yb, hyb⟩ : ∃ yb, W.heap.size = yb := ⟨_, rfl⟩
  have HYB : Hid (W.heap.size = yb) := hyb
  rw [hyb] at HY1 ⊢
  clear hyb
  refine wpB_then (n := n + 2) ?_
  refine wpIn_wide.2 ?_
  have hSA := And.intro e0 e1
  go_region_held3 (fun w' : World => w'.cell? ⟨bB, 0, none⟩ = some (.pointer (some ⟨g, 0, none⟩)) ∧ w'.cell? ⟨bK, 0, none⟩ = some (.bool back))
    (first | exact hSA | exact hSB)
    (first | (go_at_call 13; refine (show Calls _ _ _ _ _ from HLN.out).mono ?_; rintro e w1 ⟨rfl, hw1⟩; have hw1' := hw1.symm; subst hw1') | (go_at_call 61; refine (show Calls _ _ _ _ _ from HWK.out).mono ?_; rintro e w8 ⟨rfl, hwb, hb8⟩; have hb8' := hd.trans hb8; have hSB := And.intro (cell_on hSA.1 hb8') (cell_on hSA.2 hb8')))
  have HB8 : Hid (Below W.heap.size W w8) := bel_to HB1.out hb8' (Nat.le_refl _)
  have HY8 : Hid (Blk w8 yb [.func (.yield l) #[] #[]] 117) := cells_below HY1.out hb8'
  obtain ⟨bx, hbx⟩ : ∃ bx, W1.heap.size = bx := ⟨_, rfl⟩
  have hwb2 : WBox g 0 S.T.length bx back S N w8 := by rw [← hbx]; exact hwb
  have HWB : Hid (WBox g 0 S.T.length bx back S N w8) := hwb2
  gi_wp2
  first
  | rw [hbx]
  | rw [show W1.drew.heap.size = bx from hbx]
  have HZ : Hid (W.heap.size = yb ∧ yb < bx ∧ bx + 3 < w8.heap.size) := ⟨HYB.out, by have := HY1.out.lt; omega, hwb2.b3.lt⟩
  have HJ8 : Hid (J [] w8) := HJ.out _ _ _ none HJ0.out (grown_of_below (HB8.out)) (fun r e => by cases e)
  clear hSA hSB hb8 hb8' hwb hwb2 e0 e1 hd hbx
  refine wpB_block ?_
  have HSQ : Hid _ := walkQ (n + 1) g bx w8.heap.size back S N hN hl
  refine WpB_act (fun a0 ha0 => ?_)
  refine wpB_rangeQ pE_not (n := n + 2) (α := Nat) (encs := encT S.T) (L := wkL back S.T.length 0 S.T.length) (box := WBox g 0 S.T.length bx back S N) Tryd.func93 (gf := 85) (lb := #[.pointer (some ⟨bx, 0, none⟩), .pointer (some ⟨bx + 1, 0, none⟩), .pointer (some ⟨bx + 3, 0, none⟩), .pointer (some ⟨bx + 2, 0, none⟩)]) (by rw [ha0]; rfl) (enters_of Tryd.func85 (by kernel_rfl) rfl) HSQ.out (fun _ => rfl)
    (fun pre A => J (pre.filter (inL S.T lo hi)) A ∧ Blk A yb [.func (.yield l) #[] #[]] 117 ∧ Blk A bx [.pointer (some ⟨g, 0, none⟩)] 25 ∧ Blk A (bx + 1) [.int .i64 ((0 : Nat) : Int)] 3 ∧ Blk A (bx + 2) [.int .i64 (S.T.length : Int)] 3 ∧ Blk A (bx + 3) [.bool back] 4)
    (fun cd pre A => cd = .ret ∧ Jx (pre.filter (inL S.T lo hi)) A)
    ?hI ?hIx ?hbox ?h0
    (fun (x : Nat) (a' : Act) (A : World) => a' = { tmps := (a0.tmps.setIfInBounds 13 (ptr ((S.T[x]?).map Tw.b))).setIfInBounds 6 (ptr ((S.T[x]?).map Tw.b)), defers := [] }) ?hAx ?assign ?body ?done ?stop
  case hI =>
    rintro s A B row ⟨h1, h2, h3, h4, h5, h6⟩ hg hr
    exact ⟨HJ.out _ _ _ row h1 hg (fun r e => ⟨by have := (hr r e).1; have := HB8.out.size; omega, (hr r e).2⟩), own_row h2 hg hr, own_row h3 hg hr, own_row h4 hg hr, own_row h5 hg hr, own_row h6 hg hr⟩
  case hIx =>
    rintro cd s A B row ⟨h1, h2⟩ hg hr
    exact ⟨h1, HJx.out _ _ _ row h2 hg (fun r e => ⟨by have := (hr r e).1; have := HB8.out.size; omega, (hr r e).2⟩)⟩
  case hbox =>
    rintro pre A ⟨h1, h2, h3, h4, h5, h6⟩
    exact ⟨h3, h4, h5, h6, (HBO.out _ _ h1).bd⟩
  case h0 => exact ⟨HJ8.out, HY8.out, HWB.out.b0, HWB.out.b1, HWB.out.b2, HWB.out.b3⟩
  case hAx =>
    rintro x a' s A B row h1 hg hr
    exact h1
  case assign =>
    intro ll pre x A K hpre hI hK
    have HKK : Hid _ := hK
    clear hK hI
    have HA0 : Hid _ := ha0
    rw [ha0]
    obtain ⟨pp, hpp⟩ : ∃ pp, ptr ((S.T[x]?).map Tw.b) = pp := ⟨_, rfl⟩
    simp only [encT, hpp, List.zip_toArray, List.zip_cons_cons, List.zip_nil_right, List.foldl_toArray, List.foldl_cons, List.foldl_nil, List.setIfInBounds_toArray, List.set_cons_zero, List.set_cons_succ]
    clear ha0
    gi_wp2
    refine HKK.out _ _ (Below.refl _ A) ?_
    rw [HA0.out, hpp]; rfl
  case body =>
    rintro ll pre x a' A hll hpre ⟨hj, hyb, hk0, hk1, hk2, hk3⟩ ha'
    have hmem : x ∈ wkL back S.T.length 0 S.T.length := hpre.subset (by simp)
    have hxl : x < S.T.length := by
      unfold wkL at hmem
      obtain ⟨j, hj, rfl⟩ := List.mem_map.1 hmem
      have := List.mem_range.1 hj
      exact trn_lt (by omega)
    have hbxA := HBO.out _ _ hj
    obtain ⟨t0, t1⟩ := tow_cells (hbxA.bd.sk.tow x hxl)
    have l0 : A.cell? ⟨bL, 0, none⟩ = some (.string lo.1) := by rw [hbxA.lo.cell]; rfl
    have l1 : A.cell? ⟨bL, 1, none⟩ = some (.int .i64 lo.2.1) := by rw [hbxA.lo.cell]; rfl
    have l2 : A.cell? ⟨bL, 2, none⟩ = some (.bool lo.2.2) := by rw [hbxA.lo.cell]; rfl
    have h0 : A.cell? ⟨bH, 0, none⟩ = some (.string hi.1) := by rw [hbxA.hi.cell]; rfl
    have h1 : A.cell? ⟨bH, 1, none⟩ = some (.int .i64 hi.2.1) := by rw [hbxA.hi.cell]; rfl
    have h2 : A.cell? ⟨bH, 2, none⟩ = some (.bool hi.2.2) := by rw [hbxA.hi.cell]; rfl
    have y0 : A.cell? ⟨yb, 0, none⟩ = some (.func (.yield l) #[] #[]) := by rw [hyb.cell]; rfl
    have HIN : Hid (inL S.T lo hi x = (loL S.T[x].e.1 lo && hiL S.T[x].e.1 hi)) := inL_at hxl
    have HPF : Hid ((pre ++ [x]).filter (inL S.T lo hi) <+: lexL S.T back lo hi) := hpre.filter _
    have HFS : Hid ((pre ++ [x]).filter (inL S.T lo hi) = pre.filter (inL S.T lo hi) ++ (if inL S.T lo hi x = true then [x] else [])) := by
      show _ = _
      rw [List.filter_append]
      by_cases e : inL S.T lo hi x = true <;> simp [e]
    have HEN : Hid (encT S.T x = #[.pointer (some ⟨S.T[x].b, 0, none⟩)]) := encT_at hxl
    have HUN : Hid _ := underL_any lo S.T[x].e.1
    have HOV : Hid _ := overL_any hi S.T[x].e.1
    have HJA : Hid (J (pre.filter (inL S.T lo hi)) A) := hj
    have HKB : Hid (Blk A yb [.func (.yield l) #[] #[]] 117 ∧ Blk A bx [.pointer (some ⟨g, 0, none⟩)] 25 ∧ Blk A (bx + 1) [.int .i64 ((0 : Nat) : Int)] 3 ∧ Blk A (bx + 2) [.int .i64 (S.T.length : Int)] 3 ∧ Blk A (bx + 3) [.bool back] 4) := ⟨hyb, hk0, hk1, hk2, hk3⟩
    rw [List.getElem?_eq_getElem hxl] at ha'
    have ha2 : a' = { tmps := (a0.tmps.setIfInBounds 13 (.pointer (some ⟨S.T[x].b, 0, none⟩))).setIfInBounds 6 (.pointer (some ⟨S.T[x].b, 0, none⟩)), defers := [] } := ha'
    have HKEEP : Hid (∀ A' : World, Below A.heap.size A A' → KP pE w8.heap.size A A' ∧ J (pre.filter (inL S.T lo hi)) A' ∧ Blk A' yb [.func (.yield l) #[] #[]] 117 ∧ Blk A' bx [.pointer (some ⟨g, 0, none⟩)] 25 ∧ Blk A' (bx + 1) [.int .i64 ((0 : Nat) : Int)] 3 ∧ Blk A' (bx + 2) [.int .i64 (S.T.length : Int)] 3 ∧ Blk A' (bx + 3) [.bool back] 4) := fun A' hA => ⟨KP.of_below hA, HJ.out _ _ _ none HJA.out (grown_of_below hA) (fun r e => by cases e), cells_below HKB.out.1 hA, cells_below HKB.out.2.1 hA, cells_below HKB.out.2.2.1 hA, cells_below HKB.out.2.2.2.1 hA, cells_below HKB.out.2.2.2.2 hA⟩
    clear ha' hbxA hj hyb hk0 hk1 hk2 hk3 hmem t1
    generalize S.T[x].b = tb at *
    generalize S.T[x].e.1 = M at *
    rw [ha2, ha0]
    simp only [List.setIfInBounds_toArray, List.set_cons_zero, List.set_cons_succ]
    rw [show n + 2 - 1 - 1 = n from rfl]
    clear ha2 ha0 hpre
    obtain ⟨b1, hb1⟩ : ∃ b1, loL M lo = b1 := ⟨_, rfl⟩
    obtain ⟨b2, hb2⟩ : ∃ b2, hiL M hi = b2 := ⟨_, rfl⟩
    rw [hb1] at HUN HIN
    rw [hb2] at HOV HIN
    obtain ⟨lo0, lo1, lo2⟩ := lo
    obtain ⟨hi0, hi1, hi2⟩ := hi
    simp only at l0 l1 l2 h0 h1 h2
    clear hb1 hb2
    cases b1 with
    | false =>
      gi_wp2_with fail
      refine ⟨trivial, fun h => (by cases h), (CallsIn.inRound ll (callsIn_wide.2 (HUN.out A))).mono ?_⟩
      rintro e A1 ⟨rfl, hA1⟩
      have HA1 : Hid (Below A.heap.size A A1) := hA1
      have HF : Hid ((pre ++ [x]).filter (inL S.T (lo0, lo1, lo2) (hi0, hi1, hi2)) = pre.filter (inL S.T (lo0, lo1, lo2) (hi0, hi1, hi2))) := by show _ = _; rw [HFS.out, HIN.out]; simp
      clear hA1 l0 l1 l2 h0 h1 h2 y0 t0
      gi_wp2
      refine ⟨trivial, ?_⟩
      gi_wp2
      refine ⟨fun _ _ => trivial, ?_⟩
      gi_wp2
      obtain ⟨k1, k2, k3⟩ := HKEEP.out A1 HA1.out
      exact ⟨k1, by rw [HF.out]; exact k2, k3⟩
    | true =>
      gi_wp2_with fail
      refine ⟨trivial, fun h => (by cases h), (CallsIn.inRound ll (callsIn_wide.2 (HUN.out A))).mono ?_⟩
      rintro e A1 ⟨rfl, hA1⟩
      have HA1 : Hid (Below A.heap.size A A1) := hA1
      have h0' := cell_on h0 hA1
      have h1' := cell_on h1 hA1
      have h2' := cell_on h2 hA1
      have y0' := cell_on y0 hA1
      clear hA1 l0 l1 l2 h0 h1 h2 y0 t0
      cases b2 with
      | false =>
        gi_wp2_with fail
        refine ⟨trivial, fun h => (by cases h), (CallsIn.inRound ll (callsIn_wide.2 (HOV.out A1))).mono ?_⟩
        rintro e A2 ⟨rfl, hA2⟩
        have HA2 : Hid (Below A.heap.size A A2) := bel_to HA1.out hA2 (Nat.le_refl _)
        have HF : Hid ((pre ++ [x]).filter (inL S.T (lo0, lo1, lo2) (hi0, hi1, hi2)) = pre.filter (inL S.T (lo0, lo1, lo2) (hi0, hi1, hi2))) := by show _ = _; rw [HFS.out, HIN.out]; simp
        clear hA2 h0' h1' h2' y0'
        gi_wp2
        refine ⟨fun _ _ => trivial, ?_⟩
        gi_wp2
        obtain ⟨k1, k2, k3⟩ := HKEEP.out A2 HA2.out
        exact ⟨k1, by rw [HF.out]; exact k2, k3⟩
      | true =>
        gi_wp2_with fail
        refine ⟨trivial, fun h => (by cases h), (CallsIn.inRound ll (callsIn_wide.2 (HOV.out A1))).mono ?_⟩
        rintro e A2 ⟨rfl, hA2⟩
        have HA2 : Hid (Below A.heap.size A A2) := bel_to HA1.out hA2 (Nat.le_refl _)
        have HF : Hid ((pre ++ [x]).filter (inL S.T (lo0, lo1, lo2) (hi0, hi1, hi2)) = pre.filter (inL S.T (lo0, lo1, lo2) (hi0, hi1, hi2)) ++ [x]) := by show _ = _; rw [HFS.out, HIN.out]; simp
        have y0'' := cell_on y0' hA2
        obtain ⟨k1, k2, k3, k4, k5, k6, k7⟩ := HKEEP.out A2 HA2.out
        have hpf := HPF.out
        rw [HF.out] at hpf
        obtain ⟨fn, tmps, assign, body, hy, hR⟩ := HY.out _ x A2 hpf k2
        rw [HEN.out] at hy
        have HR : Hid _ := hR
        have HK1 : Hid _ := k1
        have HK3 : Hid _ := And.intro k3 (And.intro k4 (And.intro k5 (And.intro k6 k7)))
        clear hA2 h0' h1' h2' y0' k1 k2 k3 k4 k5 k6 k7 hpf hR
        gi_wp2
        refine ⟨fun h => (by cases h), (show RoundIn (Fence.wide.inRound ll) (n - 1) _ _ _ _ _ _ _ _ from HR.out).mono ?_⟩
        rintro e A3 (⟨rfl, hJ3, hka⟩ | ⟨rfl, hJx3, hka⟩)
        · have hka8 : KP pE w8.heap.size A2 A3 := hka.up HB8.out.size
          have HFIN : Hid _ := And.intro (HK1.out.trans hka8) (And.intro hJ3 hka)
          clear hJ3 hka hka8 hy y0''
          gi_wp2
          obtain ⟨q1, q2, q3⟩ := HFIN.out
          have hz := HZ.out
          refine ⟨q1, by rw [HF.out]; exact q2, q3.same _ _ (by omega) HK3.out.1 rfl, q3.same _ _ (by omega) HK3.out.2.1 rfl, q3.same _ _ (by omega) HK3.out.2.2.1 rfl, q3.same _ _ (by omega) HK3.out.2.2.2.1 rfl, q3.same _ _ (by omega) HK3.out.2.2.2.2 rfl⟩
        · have hka8 : KP pE w8.heap.size A2 A3 := hka.up HB8.out.size
          have HFIN : Hid _ := And.intro (HK1.out.trans hka8) hJx3
          clear hJx3 hka hka8 hy y0''
          gi_wp2
          exact ⟨HFIN.out.1, rfl, by rw [HF.out]; exact HFIN.out.2⟩
  case done =>
    rintro D A hD ⟨hj, hyb, hk0, hk1, hk2, hk3⟩ hDr
    rw [ha0]
    have HDR : Hid _ := hDr
    have HJD : Hid _ := HJ.out.putObj (.deferred none) hj (by have := HB8.out.size; omega) hDr rfl
    clear ha0 hyb hk0 hk1 hk2 hk3 hDr
    refine ⟨by simp, .inl ⟨_, _, rfl, run_takeDeferred HDR.out, ?_⟩⟩
    exact ⟨_, results_none rfl _ _ _, .inl ⟨⟨_, rfl⟩, HJD.out⟩⟩
  case stop =>
    rintro D cd pre A hD hpre ⟨rfl, hjx⟩ hDr
    rw [ha0]
    have HDR : Hid _ := hDr
    have HJD : Hid _ := HJx.out.putObj (.deferred none) hjx (by have := HB8.out.size; omega) hDr rfl
    clear ha0 hDr
    refine wpB_of (n := n + 2) ?_
    gi_wp2
    refine ⟨by simp, .inl ⟨_, _, rfl, run_takeDeferred HDR.out, ?_⟩⟩
    exact ⟨_, results_none rfl _ _ _, .inr ⟨⟨_, rfl⟩, _, hpre.filter _, HJD.out⟩⟩
end Go.Proofs.YtgbplghokciimaaDoor.I
