import Derived.Test.YtgbplghokciimaaDoorPB
import Derived.Test.YtgbplghokciimaaDoorSml
import Derived.BigRegion
import Derived.Laws.MakeOwn
import Derived.Test.YtgbplghokciimaaDoorPC
namespace Go.Proofs.YtgbplghokciimaaDoor.I
open Go.RowKit
set_option linter.unusedVariables false
theorem made_lk (n : Nat) : madeCells #[.pointer none, .int .i64 0] (n * 2) = (flat2 (fun _ => (none, 0)) n).toArray := by
  apply Array.ext_getElem?
  intro j
  have e : (flat2 (fun _ => (none, 0)) n).toArray[j]? = (flat2 (fun _ => (none, 0)) n)[j]? := by simp
  rw [e, flat2_at]
  unfold madeCells
  by_cases hj : j < n * 2
  · rw [if_pos hj, Array.getElem?_map]
    have : (Array.range (n * 2))[j]? = some j := by simp [hj]
    rw [this]
    rcases Nat.mod_two_eq_zero_or_one j with h | h
    · simp [h, ptr]
    · simp [h]
  · rw [if_neg hj]
    simp [hj]
theorem row3 {w : World} {g T : Nat} {v0 v1 v2 : Value} (h : w.heap[g]? = some (.cells #[v0, v1, v2] T)) : w.cell? ⟨g, 0, none⟩ = some v0 ∧ w.cell? ⟨g, 1, none⟩ = some v1 ∧ w.cell? ⟨g, 2, none⟩ = some v2 ∧ ∀ j, w.frozen? ⟨g, j, none⟩ = false := by
  refine ⟨?_, ?_, ?_, fun j => frozen_of_row _ _ _ _ _ h⟩ <;> rw [cell_of_row _ _ _ _ _ _ h] <;> rfl
theorem make_lk (n : Nat) (hn : n ≤ 24) (w : World) : (Instr.makeSlice 61 (.int .i64 (n : Int)) (.int .i64 (n : Int))).run Tryd.prog w = .ok (.slice (some ⟨w.heap.size, 0, none⟩) n n) (w.alloc (.cells (flat2 (fun _ => (none, 0)) n).toArray 112)) := by
  obtain ⟨i0, hi, hz0, hz1, hz2⟩ := info_of infoLk
  have h := run_make (P := Tryd.prog) w 61 112 i0 (.agg #[.pointer none, .int .i64 0]) Tryd.underlying61 hi hz0 .i64 .i64 n n (by omega) (Int.le_refl _) (by rw [hz2]; omega) (by omega)
  rw [h, hz1, Int.toNat_natCast]
  show Result.ok _ (w.alloc (.cells (madeCells #[.pointer none, .int .i64 0] (n * 2)) _)) = _
  rw [made_lk]
set_option maxHeartbeats 2000000 in
set_option maxRecDepth 100000 in
theorem newTower_any (m : ByteArray) (s v : Int) (high : Nat) (hh : high ≤ 24) (w : World) : Calls Tryd.prog 26 #[.agg #[.string m, .int .i64 s, vl v], .int .i64 (high : Int)] w fun e w' => ∃ tb tk, e = .returned (.pointer (some ⟨tb, 0, none⟩)) ∧ w.heap.size ≤ tb ∧ w.heap.size ≤ tk ∧ Blk w' tb (towL ⟨tb, tk, high, (m, s, v)⟩ none) 63 ∧ Rw w' (.slice (some ⟨tk, 0, none⟩) high high) high (fun _ => (none, 0)) ∧ Below w.heap.size w w' := by
  have hmk := make_lk high hh
  generalize hZ : (flat2 (fun _ => (none, 0)) high).toArray = Z at hmk
  have HZ : Hid ((flat2 (fun _ => (none, 0)) high).toArray = Z) := hZ
  clear hZ
  go_enter Tryd.func26, Tryd.ntmps26
  go_upto_region 1 with fail
  go_region
  all_goals
    go_wp2
    go_returns
    refine ⟨w.heap.size + 1 + 1, w.heap.size + 1, rfl, by omega, by omega, ?_, ?_, ?_⟩
    · have := one_alloc ((w.alloc (.cells #[.string m, .int .i64 s, vl v] 39)).alloc (.cells Z 112)) (.cells #[.string m, .int .i64 s, vl v, .slice (some ⟨w.heap.size + 1, 0, none⟩) high high, .pointer none] 63)
      rw [World.size_alloc, World.size_alloc] at this
      exact this
    · have h1 := one_alloc (w.alloc (.cells #[.string m, .int .i64 s, vl v] 39)) (.cells Z 112)
      rw [World.size_alloc] at h1
      have h2 := keep_row h1 ((Below.refl _ _).alloc (Nat.le_refl _) (.cells #[.string m, .int .i64 s, vl v, .slice (some ⟨w.heap.size + 1, 0, none⟩) high high, .pointer none] 63)).drew
      refine ⟨by rw [flat2_len], Or.inr ⟨w.heap.size + 1, high, Z, rfl, Nat.zero_le _, h2, Nat.le_refl _, by unfold maxLen; omega, ?_, ?_⟩⟩
      · rw [← HZ.out]; simp [flat2_len]
      · rw [← HZ.out]; exact List.take_of_length_le (by simp [flat2_len])
    · exact ((((Below.refl _ w).alloc (Nat.le_refl _) _).alloc (by simp) _).alloc (by simp; omega) _).drew
set_option maxHeartbeats 2000000 in
set_option maxRecDepth 100000 in
theorem tell_any (b : Nat) (t : Tw) (pv : Option Nat) (w : World) (hs : t.e.1.size ≤ 281474976710656) (h : Blk w b (towL t pv) 63) : Calls Tryd.prog 35 #[.pointer (some ⟨b, 0, none⟩)] w fun e w' => e = .returned (.agg #[.string t.e.1, .int .i64 t.e.2.1, vl t.e.2.2]) ∧ Below w.heap.size w w' := by
  have c0 : w.cell? ⟨b, 0, none⟩ = some (.string t.e.1) := by rw [h.cell]; rfl
  have c1 : w.cell? ⟨b, 1, none⟩ = some (.int .i64 t.e.2.1) := by rw [h.cell]; rfl
  have c2 : w.cell? ⟨b, 2, none⟩ = some (vl t.e.2.2) := by rw [h.cell]; rfl
  have hbl : b < w.heap.size := h.lt
  have HC : Hid _ := clone_any t.e.1 hs
  clear h
  generalize t.e.1 = M at *
  generalize t.e.2.1 = Sc at *
  generalize t.e.2.2 = V at *
  go_enter Tryd.func35, Tryd.ntmps35
  go_wp2_with fail
  refine (show Calls _ _ _ _ _ from HC.out _).mono ?_
  rintro e w2 ⟨rfl, hb2⟩
  have HB2 : Hid (Below w.heap.size w w2) := by
    refine Below.trans ?_ (hb2.mono (by simp; omega))
    exact ((Below.refl _ w).alloc (Nat.le_refl _) _).alloc (by simp) _
  have h1 := one_alloc (w.alloc (.cells #[.string ⟨#[]⟩, .int .i64 0, vz] 39)) (.cells #[.string M, .int .i64 Sc, vl V] 39)
  rw [World.size_alloc] at h1
  obtain ⟨e0, e1, e2, ef⟩ := row3 (keep_row h1 hb2)
  have h2 := keep_row (one_alloc w (.cells #[.string ⟨#[]⟩, .int .i64 0, vz] 39)) ((Below.refl _ _).alloc (Nat.le_refl _) (.cells #[.string M, .int .i64 Sc, vl V] 39))
  obtain ⟨d0, d1, d2, df⟩ := row3 (keep_row h2 hb2)
  have df0 := df 0
  have df1 := df 1
  have df2 := df 2
  have ef0 := ef 0
  have hne : w.heap.size ≠ w.heap.size + 1 := by omega
  have hB : Blk w2 w.heap.size [.string ⟨#[]⟩, .int .i64 0, vz] 39 := keep_row h2 hb2
  clear h1 h2 hb2 c0 c1 c2 ef df
  obtain ⟨W4, hW4⟩ : ∃ W4, W4 = (((w2.setCell ⟨w.heap.size + 1, 0, none⟩ (.string M)).setCell ⟨w.heap.size, 0, none⟩ (.string M)).setCell ⟨w.heap.size, 1, none⟩ (.int .i64 Sc)).setCell ⟨w.heap.size, 2, none⟩ (vl V) := ⟨_, rfl⟩
  have hB4 : Blk W4 w.heap.size [.string M, .int .i64 Sc, vl V] 39 := by
    rw [hW4]
    have h1 := hB.to (W' := w2.setCell ⟨w.heap.size + 1, 0, none⟩ (.string M)) ((only_set w2 _ _ _).other _ hne)
    exact ((h1.set 0 (.string M)).set 1 (.int .i64 Sc)).set 2 (vl V)
  have HB4 : Hid (Below w.heap.size w W4) := by
    rw [hW4]
    exact (((HB2.out.setCell (p := ⟨w.heap.size + 1, 0, none⟩) (by simp) _).setCell (p := ⟨w.heap.size, 0, none⟩) (Nat.le_refl _) _).setCell (p := ⟨w.heap.size, 1, none⟩) (Nat.le_refl _) _).setCell (p := ⟨w.heap.size, 2, none⟩) (Nat.le_refl _) _
  have HBB : Hid (Blk W4 w.heap.size [.string M, .int .i64 Sc, vl V] 39) := hB4
  clear hB hB4
  go_wp2
  rw [← hW4]
  clear hW4 e0 e1 e2 d0 d1 d2 df0 df1 df2 ef0
  obtain ⟨g0, g1, g2, gf⟩ := row3 HBB.out
  clear gf
  exact bodyPost_ret (v := .agg #[.string M, .int .i64 Sc, vl V]) (by simp [results, Tryd.results35, go_sem, g0, g1, g2]) rfl ⟨rfl, HB4.out⟩
end Go.Proofs.YtgbplghokciimaaDoor.I
namespace Go.Proofs.YtgbplghokciimaaDoor.I
open Go.RowKit
set_option linter.unusedVariables false
/-- a board, whole. -/
structure Bd (W : World) (g : Nat) (S : SkS) (N : Nat) : Prop where
  sk : Sk W g S (cntT S.T) S.T.length (lnk S.hb S.T) (pAt S.hb S.T)
  map : MapIs W S.mb N (towOf S.T)
  brd : Brd (ens S.T)
  top : IsTop S.T S.H
  hg : ∀ t ∈ S.T, t.h = hgM S.seed t.e.1
  sz : ∀ t ∈ S.T, t.e.1.size ≤ 281474976710656
  len : S.T.length ≤ N
def bblk (g : Nat) (S : SkS) : List Nat := S.mb :: sblk g S
theorem Bd.pos {W : World} {g : Nat} {S : SkS} {N : Nat} (h : Bd W g S N) : ∀ x ∈ hts S.T, 1 ≤ x := fun x hx => by
  obtain ⟨t, ht, rfl⟩ := List.mem_map.1 hx
  rw [h.hg t ht]; exact (hgM_bd _ _).1
theorem Bd.h24 {W : World} {g : Nat} {S : SkS} {N : Nat} (h : Bd W g S N) : S.H ≤ 24 := by
  rcases h.top.at_ with e | ⟨t, ht, e⟩
  · omega
  · rw [← e, h.hg t ht]; exact (hgM_bd _ _).2
theorem Sk.mem_cells {W : World} {g : Nat} {S : SkS} {C : Nat → Nat} {n : Nat} {c : Nat → Nat → Lk} {pv : Nat → Option Nat} (h : Sk W g S C n c pv) : ∀ q ∈ sblk g S, ∃ cur t, W.heap[q]? = some (.cells cur t (0, 0)) := by
  intro q hq
  unfold sblk at hq
  simp only [List.mem_cons, List.mem_append] at hq
  rcases hq with rfl | rfl | hq | hq | hq
  · exact ⟨_, _, h.brd⟩
  · exact ⟨_, _, h.head⟩
  · obtain ⟨cur, hc⟩ := h.hrow.blk (by simpa using hq)
    exact ⟨_, _, hc⟩
  · obtain ⟨t, ht, rfl⟩ := List.mem_map.1 hq
    obtain ⟨i, hi, rfl⟩ := List.mem_iff_getElem.1 ht
    exact ⟨_, _, h.tow i hi⟩
  · obtain ⟨t, ht, rfl⟩ := List.mem_map.1 hq
    obtain ⟨i, hi, rfl⟩ := List.mem_iff_getElem.1 ht
    obtain ⟨cur, hc⟩ := (h.row i hi).blk rfl
    exact ⟨_, _, hc⟩
theorem MapIs.notc {W : World} {mb n q t : Nat} {cur : Array Value} {f : ByteArray → Option Nat} (h : MapIs W mb n f) (hq : W.heap[q]? = some (.cells cur t (0, 0))) : mb ≠ q := fun e => by
  subst e
  obtain ⟨D, ⟨es, clock, h1, hF⟩, hm⟩ := h
  have := h1.symm.trans hq
  cases this
theorem Bd.mb_out {W : World} {g : Nat} {S : SkS} {N : Nat} (h : Bd W g S N) : S.mb ∉ sblk g S := fun hm => by
  obtain ⟨cur, t, hc⟩ := h.sk.mem_cells _ hm
  exact h.map.notc hc rfl
theorem Bd.lts {W : World} {g : Nat} {S : SkS} {N : Nat} (h : Bd W g S N) : ∀ q ∈ bblk g S, q < W.heap.size := fun q hq => by
  unfold bblk at hq
  rcases List.mem_cons.1 hq with rfl | hq
  · exact h.map.lt
  · exact h.sk.mem_lt q hq
theorem Bd.to {W W' : World} {g : Nat} {S : SkS} {N : Nat} (h : Bd W g S N) (e : ∀ q ∈ bblk g S, W'.heap[q]? = W.heap[q]?) : Bd W' g S N :=
  ⟨h.sk.to (fun q hq => e q (List.mem_cons_of_mem _ hq)), h.map.to (e _ (by simp [bblk])), h.brd, h.top, h.hg, h.sz, h.len⟩
theorem Bd.below {W W' : World} {g : Nat} {S : SkS} {N : Nat} (h : Bd W g S N) (hb : Below W.heap.size W W') : Bd W' g S N := h.to (fun q hq => hb.block q (h.lts q hq))
theorem Bd.keep {W W' : World} {g : Nat} {S : SkS} {N : Nat} (h : Bd W g S N) {F F' : List Nat} (hm : Moved W W' F F') (ha : ∀ q ∈ bblk g S, q ∉ F) : Bd W' g S N := h.to (fun q hq => hm.rest q (h.lts q hq) (ha q hq))
theorem pAt_congr {hb : Nat} {T T' : List Tw} (h : T.map Tw.b = T'.map Tw.b) : pAt hb T = pAt hb T' := by
  funext q
  cases q with
  | zero => rfl
  | succ q =>
    show (T[q]?).map Tw.b = (T'[q]?).map Tw.b
    rw [← List.getElem?_map, ← List.getElem?_map, h]
theorem lnk_congr {hb : Nat} {T T' : List Tw} (h : T.map Tw.b = T'.map Tw.b) (h2 : hts T = hts T') : lnk hb T = lnk hb T' := by
  funext p l
  unfold lnk
  rw [pAt_congr h, h2]
theorem insT_map {α : Type} (f : Tw → α) (T : List Tw) (k : Nat) (t t' : Tw) (h : f t = f t') : (insT T k t).map f = (insT T k t').map f := by
  unfold insT
  rw [List.map_append, List.map_append, List.map_cons, List.map_cons, h]
theorem cntT_congr {T T' : List Tw} (h : hts T = hts T') : cntT T = cntT T' := by
  funext j
  have e : ∀ X : List Tw, cntT X j = (hts X).countP (fun x => decide (x = j + 1)) := fun X => by
    unfold cntT hts
    rw [List.countP_map]; rfl
  rw [e, e, h]
/-- a tower's entry has turned. -/
theorem Sk.setEn {W W' : World} {g : Nat} {S : SkS} {C : Nat → Nat} {n : Nat} {c : Nat → Nat → Lk} {pv : Nat → Option Nat} {T : List Tw} {k : Nat} {t t' : Tw} (hT : S.T = insT T k t) (h : Sk W g S C n c pv) (hk : k ≤ T.length) (eb : t'.b = t.b) (ek : t'.k = t.k) (eh : t'.h = t.h) (ho : Only W W' t.b) (hb : Blk W' t.b (towL t' (pv k)) 63) : Sk W' g (S.setT (insT T k t')) C n c pv := by
  obtain ⟨hl, e⟩ := place_at hT hk
  have hbt := h.tow k hl
  rw [e] at hbt
  have get : ∀ i (hi : i < (insT T k t').length), (i = k ∧ (insT T k t')[i] = t') ∨ (i ≠ k ∧ ∃ hj : i < S.T.length, (insT T k t')[i] = S.T[i]) := fun i hi => by
    have hi2 : i < (insT T k t).length := by rw [insT_len] at hi ⊢; exact hi
    rcases insT_get hk i hi with ⟨h1, h2, e1⟩ | ⟨h1, e1⟩ | ⟨h1, h2, e1⟩
    · refine Or.inr ⟨by omega, by rw [hT]; exact hi2, ?_⟩
      rcases insT_get hk i hi2 with ⟨h3, h4, e2⟩ | ⟨h3, e2⟩ | ⟨h3, h4, e2⟩
      · rw [e1]; simp only [hT]; exact e2.symm
      · omega
      · omega
    · exact Or.inl ⟨h1, e1⟩
    · refine Or.inr ⟨by omega, by rw [hT]; exact hi2, ?_⟩
      rcases insT_get hk i hi2 with ⟨h3, h4, e2⟩ | ⟨h3, e2⟩ | ⟨h3, h4, e2⟩
      · omega
      · omega
      · rw [e1]; simp only [hT]; exact e2.symm
  have hneB : ∀ i (hi : i < S.T.length), i ≠ k → S.T[i].b ≠ t.b := fun i hi hik => by
    have := h.neB hi hl hik
    rwa [e] at this
  refine ⟨h.brd.to (ho.other _ (h.brd.ne hbt (by decide))), h.head.to (ho.other _ (fun q => h.neH hl (by rw [e]; exact q.symm))), h.hrow.to (fun K hK => ho.other _ (h.hrow.ne hK hbt (by decide)).symm), fun i hi => ?_, fun i hi => ?_, ?_, ?_⟩
  · show Blk W' (insT T k t')[i].b (towL (insT T k t')[i] (pv i)) _
    rcases get i hi with ⟨h1, e1⟩ | ⟨h1, h2, e1⟩
    · rw [e1, eb, h1]; exact hb
    · rw [e1]; exact (h.tow i h2).to (ho.other _ (hneB i h2 h1))
  · show Rw W' (.slice (some ⟨(insT T k t')[i].k, 0, none⟩) (insT T k t')[i].h (insT T k t')[i].h) (insT T k t')[i].h (c (i + 1))
    rcases get i hi with ⟨h1, e1⟩ | ⟨h1, h2, e1⟩
    · subst h1
      have hr := h.row i hl
      rw [e] at hr
      rw [e1, ek, eh]
      exact hr.to (fun K hK => ho.other _ (hr.ne hK hbt (by decide)).symm)
    · rw [e1]
      have hr := h.row i h2
      exact hr.to (fun K hK => ho.other _ (hr.ne hK hbt (by decide)).symm)
  · show (S.hb :: (insT T k t').map Tw.b).Nodup
    rw [insT_map Tw.b T k t' t eb, ← hT]; exact h.ndB
  · show (S.hv.ownBlock.toList ++ (insT T k t').map Tw.k).Nodup
    rw [insT_map Tw.k T k t' t ek, ← hT]; exact h.ndK
theorem sblk_setEn {g : Nat} {S : SkS} {T : List Tw} {k : Nat} {t t' : Tw} (hT : S.T = insT T k t) (eb : t'.b = t.b) (ek : t'.k = t.k) : sblk g (S.setT (insT T k t')) = sblk g S := by
  unfold sblk
  show _ :: _ :: (_ ++ ((insT T k t').map Tw.b ++ (insT T k t').map Tw.k)) = _
  rw [insT_map Tw.b T k t' t eb, insT_map Tw.k T k t' t ek, ← hT]
/-- where a member stands among the others. -/
theorem plc_self {T : List Tw} {k : Nat} {t : Tw} (hk : k ≤ T.length) (hb : Brd (ens (insT T k t))) (x : En) (h1 : x.1 = t.e.1) (h2 : x.2.1 = t.e.2.1) : plc (ens T) x = k := by
  have hx : ∀ y : En, ahd y x = ahd y t.e := fun y => by unfold ahd; rw [h1, h2]
  have he := insT_ens T k t
  rw [he] at hb
  obtain ⟨p1, p2, p3⟩ := List.pairwise_append.1 hb.up
  have hl : ((ens T).take k).length = k := by rw [List.length_take, ens_len]; omega
  unfold plc
  have e0 : (ens T).takeWhile (fun y => ahd y x) = (ens T).take k := by
    have es := (List.take_append_drop k (ens T)).symm
    rw [es, List.takeWhile_append_of_pos (fun y hy => by rw [hx]; exact p3 y hy t.e (by simp))]
    rw [List.take_append_drop]
    have : ((ens T).drop k).takeWhile (fun y => ahd y x) = [] := by
      rcases hd : (ens T).drop k with _ | ⟨a, l⟩
      · rfl
      · rw [List.takeWhile_cons]
        have : ahd a x = false := by
          rw [hx]
          refine ahd_asym ?_
          exact (List.pairwise_cons.1 p2).1 a (by rw [hd]; simp)
        rw [this]; rfl
    rw [this, List.append_nil]
  rw [e0, hl]
theorem setM_same {T : List Tw} {k : Nat} {t : Tw} (hk : k ≤ T.length) (hb : Brd (ens (insT T k t))) (v : Int) : setM (ens (insT T k t)) t.e.1 t.e.2.1 v = (ens T).take k ++ (t.e.1, t.e.2.1, v) :: (ens T).drop k := by
  unfold setM
  rw [dropM_ins hb.nd]
  unfold insM
  rw [plc_self hk hb (t.e.1, t.e.2.1, v) rfl rfl]
theorem towOf_put {T : List Tw} {k : Nat} {t : Tw} (hn : ((ens T).map (·.1)).Nodup) (hn' : ((ens (insT T k t)).map (·.1)).Nodup) : updM (towOf T) t.e.1 (some t.b) = towOf (insT T k t) := by
  refine towOf_ext hn hn' (fun m b => ?_)
  have hp := insT_perm0 T k t
  have hno : t.e.1 ∉ (ens T).map (·.1) := by
    have h1 : (((ens (insT T k t)).map (·.1))).Perm (t.e.1 :: (ens T).map (·.1)) := (hp.map Tw.e).map _
    exact (List.nodup_cons.1 (h1.nodup_iff.1 hn')).1
  unfold updM
  by_cases hm : m = t.e.1
  · rw [if_pos hm]
    constructor
    · intro e; cases e; exact ⟨t, hp.mem_iff.2 (by simp), hm.symm, rfl⟩
    · rintro ⟨u, hu, e1, e2⟩
      rcases List.mem_cons.1 (hp.mem_iff.1 hu) with rfl | hu
      · rw [e2]
      · exact absurd (List.mem_map.2 ⟨u.e, List.mem_map.2 ⟨u, hu, rfl⟩, e1.trans hm⟩) hno
  · rw [if_neg hm, towOf_iff hn]
    constructor
    · rintro ⟨u, hu, e1, e2⟩; exact ⟨u, hp.mem_iff.2 (by simp [hu]), e1, e2⟩
    · rintro ⟨u, hu, e1, e2⟩
      rcases List.mem_cons.1 (hp.mem_iff.1 hu) with rfl | hu
      · exact absurd e1.symm hm
      · exact ⟨u, hu, e1, e2⟩
theorem towOf_del {T : List Tw} {k : Nat} {t : Tw} (hn' : ((ens (insT T k t)).map (·.1)).Nodup) : updM (towOf (insT T k t)) t.e.1 none = towOf T := by
  have hp := insT_perm0 T k t
  have h1 : (((ens (insT T k t)).map (·.1))).Perm (t.e.1 :: (ens T).map (·.1)) := (hp.map Tw.e).map _
  have h2 := List.nodup_cons.1 (h1.nodup_iff.1 hn')
  refine towOf_ext hn' h2.2 (fun m b => ?_)
  unfold updM
  by_cases hm : m = t.e.1
  · rw [if_pos hm]
    constructor
    · intro e; cases e
    · rintro ⟨u, hu, e1, e2⟩
      exact absurd (List.mem_map.2 ⟨u.e, List.mem_map.2 ⟨u, hu, rfl⟩, e1.trans hm⟩) h2.1
  · rw [if_neg hm, towOf_iff hn']
    constructor
    · rintro ⟨u, hu, e1, e2⟩
      rcases List.mem_cons.1 (hp.mem_iff.1 hu) with rfl | hu
      · exact absurd e1.symm hm
      · exact ⟨u, hu, e1, e2⟩
    · rintro ⟨u, hu, e1, e2⟩; exact ⟨u, hp.mem_iff.2 (by simp [hu]), e1, e2⟩
theorem towOf_same {T : List Tw} {k : Nat} {t t' : Tw} (hn : ((ens (insT T k t)).map (·.1)).Nodup) (eb : t'.b = t.b) (em : t'.e.1 = t.e.1) : towOf (insT T k t') = towOf (insT T k t) := by
  have e : (ens (insT T k t')).map (·.1) = (ens (insT T k t)).map (·.1) := by
    rw [List.map_map, List.map_map]
    exact insT_map (fun u => u.e.1) T k t' t em
  have hn' : ((ens (insT T k t')).map (·.1)).Nodup := by rw [e]; exact hn
  refine (towOf_ext hn' hn (fun m b => ?_))
  rw [towOf_iff hn']
  have hp := insT_perm0 T k t
  have hp' := insT_perm0 T k t'
  constructor
  · rintro ⟨u, hu, e1, e2⟩
    rcases List.mem_cons.1 (hp'.mem_iff.1 hu) with rfl | hu
    · exact ⟨t, hp.mem_iff.2 (by simp), em.symm.trans e1, eb.symm.trans e2⟩
    · exact ⟨u, hp.mem_iff.2 (by simp [hu]), e1, e2⟩
  · rintro ⟨u, hu, e1, e2⟩
    rcases List.mem_cons.1 (hp.mem_iff.1 hu) with rfl | hu
    · exact ⟨t', hp'.mem_iff.2 (by simp), em.trans e1, eb.trans e2⟩
    · exact ⟨u, hp'.mem_iff.2 (by simp [hu]), e1, e2⟩
end Go.Proofs.YtgbplghokciimaaDoor.I
namespace Go.Proofs.YtgbplghokciimaaDoor.I
open Go.RowKit
set_option linter.unusedVariables false
theorem Moved.wide1 {w w' : World} {F F' : List Nat} (h : Moved w w' F F') (a : Nat) : Moved w w' (a :: F) (a :: F') := by
  refine ⟨h.os, h.tape, h.output, h.size, fun q hq hn => h.rest q hq (fun hx => hn (by simp [hx])), fun q hq => ?_⟩
  simp only [List.mem_cons] at hq ⊢
  rcases hq with q1 | q1
  · exact Or.inl (Or.inl q1)
  · rcases h.new q q1 with q2 | q2
    · exact Or.inl (Or.inr q2)
    · exact Or.inr q2
/-- blocks that are new may be left out ahead. -/
theorem Moved.fresh {w w1 w2 : World} {F F' G : List Nat} (h1 : Below w.heap.size w w1) (h : Moved w1 w2 F F') (hF : ∀ q ∈ F, q ∈ G ∨ w.heap.size ≤ q) : Moved w w2 G F' := by
  refine ⟨h.os.trans h1.os, h.tape.trans h1.tape, h.output.trans h1.output, Nat.le_trans h1.size h.size, fun q hq hn => ?_, fun q hq => ?_⟩
  · refine (h.rest q (Nat.lt_of_lt_of_le hq h1.size) (fun hx => ?_)).trans (h1.block q hq)
    rcases hF q hx with e | e
    · exact hn e
    · omega
  · rcases h.new q hq with e | e
    · exact hF q e
    · exact Or.inr (Nat.le_trans h1.size e)
set_option maxHeartbeats 2000000 in
set_option maxRecDepth 100000 in
theorem Set_new (g : Nat) (S : SkS) (N : Nat) (m : ByteArray) (s v : Int) (w : World) (h : Bd w g S N) (hN : N < 1000000) (hs : m.size ≤ 281474976710656) (hno : towOf S.T m = none) (hT : Tab w) : Calls Tryd.prog 10 #[.pointer (some ⟨g, 0, none⟩), .string m, .int .i64 s, vl v] w fun e w' => e = .returned (.bool true) ∧ ∃ S', Bd w' g S' (N + 1) ∧ S'.seed = S.seed ∧ ens S'.T = setM (ens S.T) m s v ∧ Moved w w' (bblk g S) (bblk g S') := by
  have hlk := h.map.look (m := m) (by unfold maxLen; omega)
  rw [hno] at hlk
  have hlk : (Instr.lookup 59 (.map (some S.mb)) (.string m) true).run Tryd.prog w = .ok (.tuple #[.pointer none, .bool false]) w := hlk
  have c1 : w.cell? ⟨g, 1, none⟩ = some (.map (some S.mb)) := by rw [h.sk.brd.cell]; rfl
  have c0 : w.cell? ⟨g, 0, none⟩ = some (.int .i64 S.seed) := by rw [h.sk.brd.cell]; rfl
  have HCL : Hid _ := clone_any m hs w
  have HB : Hid (Bd w g S N) := h
  have HTB : Hid (Tab w) := hT
  have HNO : Hid _ := hno
  clear h hT hno
  go_enter Tryd.func10, Tryd.ntmps10
  go_wp2_with fail
  refine (show Calls _ _ _ _ _ from HCL.out).mono ?_
  rintro e w1 ⟨rfl, hb1⟩
  have d0 := cell_on c0 hb1
  have HB1 : Hid (Below w.heap.size w w1) := hb1
  have HHS : Hid _ := Hash_any S.seed m hs w1
  have HHG : Hid _ := height_any (hsN S.seed m) (hsN_lt _ _) w1 (HTB.out.on hb1)
  have HNT : Hid _ := newTower_any m s v (hgM S.seed m) (hgM_bd _ _).2 w1
  rw [hsN_is] at HHS
  clear c0 c1 hlk hb1
  go_wp2_with fail
  refine (show Calls _ _ _ _ _ from HHS.out).mono ?_
  rintro e w1' ⟨rfl, he1⟩
  have he1' := he1.symm
  subst he1'
  clear he1
  go_wp2_with fail
  refine (show Calls _ _ _ _ _ from HHG.out).mono ?_
  rintro e w1'' ⟨rfl, he1⟩
  have he1' := he1.symm
  subst he1'
  clear he1
  rw [show hgt (hsN S.seed m) = hgM S.seed m from rfl]
  go_wp2_with fail
  refine (show Calls _ _ _ _ _ from HNT.out).mono ?_
  rintro e w2 ⟨tb, tk, rfl, htb, htk, hblk, hrow, hb2⟩
  have hbd2 := (HB.out.below HB1.out).below hb2
  obtain ⟨w3, hrun, hmp, ho3⟩ := hbd2.map.put (by unfold maxLen; omega) (m := m) (by unfold maxLen; omega) tb
  have hrun : (Instr.mapUpdate 59 (.map (some S.mb)) (.string m) (.pointer (some ⟨tb, 0, none⟩))).run Tryd.prog w2 = .ok () w3 := hrun
  have f1 : w2.cell? ⟨g, 1, none⟩ = some (.map (some S.mb)) := by rw [hbd2.sk.brd.cell]; rfl
  have hlt := hbd2.lts
  have hlt1 := (HB.out.below HB1.out).lts
  have hsk3 := hbd2.sk.to (W' := w3) (fun q hq => ho3.other q (fun e => hbd2.mb_out (by rw [← e]; exact hq)))
  have hmem : ∀ q ∈ sblk g S, q < w1.heap.size := fun q hq => hlt1 q (List.mem_cons_of_mem _ hq)
  have hb3 : w3.heap[tb]? = w2.heap[tb]? := ho3.other _ (fun e => hbd2.map.ne hblk e.symm)
  have hln : Lone w3 g S ⟨tb, tk, hgM S.seed m, (m, s, v)⟩ none (fun _ => (none, 0)) := by
    obtain ⟨cur, hcur⟩ := hrow.blk rfl
    refine ⟨hblk.to hb3, hrow.to (fun K hK => by cases hK; exact ho3.other _ (fun e => hbd2.map.notc hcur e.symm)), fun hm => ?_, fun hm => ?_⟩
    · have : tb ∈ sblk g S := by
        unfold sblk
        simp only [List.mem_cons, List.mem_append] at hm ⊢
        rcases hm with e | e
        · exact Or.inr (Or.inl e)
        · exact Or.inr (Or.inr (Or.inr (Or.inl e)))
      have := hmem _ this
      omega
    · have : tk ∈ sblk g S := by
        unfold sblk
        simp only [List.mem_cons, List.mem_append] at hm ⊢
        rcases hm with e | e
        · exact Or.inr (Or.inr (Or.inl e))
        · exact Or.inr (Or.inr (Or.inr (Or.inr e)))
      have := hmem _ this
      omega
  have HLK : Hid _ := link_any g S ⟨tb, tk, hgM S.seed m, (m, s, v)⟩ none (fun _ => (none, 0)) w3 hsk3 hln hbd2.brd hbd2.top hbd2.h24 (by have := hbd2.len; omega) hbd2.pos (hgM_bd _ _).1 (hgM_bd _ _).2
  have HMP : Hid (MapIs w3 S.mb (N + 1) (updM (towOf S.T) m (some tb))) := hmp
  have HBD2 : Hid _ := hbd2
  have HO3 : Hid _ := ho3
  have HMM : Hid (∀ q ∈ sblk g S, q < w1.heap.size) := hmem
  have HMT : Hid (S.mb ≠ tb ∧ S.mb ≠ tk ∧ w1.heap.size ≤ tb ∧ w1.heap.size ≤ tk) := ⟨hbd2.map.ne hblk, by
    obtain ⟨cur, hcur⟩ := hrow.blk rfl
    exact hbd2.map.notc hcur, htb, htk⟩
  have HB2 : Hid (Below w.heap.size w w2) := bel_to HB1.out hb2 (Nat.le_refl _)
  clear hbd2 hmp ho3 hlt hlt1 hsk3 hmem hb3 hln hblk hrow hb2 htb htk d0
  go_wp2_with fail
  refine (show Calls _ _ _ _ _ from HLK.out).mono ?_
  rintro e w4 ⟨rfl, vv, hsk4, hmv4⟩
  have HSK4 : Hid _ := hsk4
  have HMV4 : Hid _ := hmv4
  clear hsk4 hmv4 f1 hrun
  go_wp2
  go_returns
  have hnm : m ∉ (ens S.T).map (·.1) := towOf_none HNO.out
  have hdr : dropM (ens S.T) m = ens S.T := dropM_none hnm
  have hbr : Brd (ens (insT S.T (plc (ens S.T) (m, s, v)) ⟨tb, tk, hgM S.seed m, (m, s, v)⟩)) := by
    have := insM_brd HB.out.brd (x := (m, s, v)) (fun e he q => hnm (List.mem_map.2 ⟨e, he, q⟩))
    rw [show insM (ens S.T) (m, s, v) = ens (insT S.T (plc (ens S.T) (m, s, v)) ⟨tb, tk, hgM S.seed m, (m, s, v)⟩) from (insT_insM S.T ⟨tb, tk, hgM S.seed m, (m, s, v)⟩).symm] at this
    exact this
  have hpm := insT_perm0 S.T (plc (ens S.T) (m, s, v)) ⟨tb, tk, hgM S.seed m, (m, s, v)⟩
  refine ⟨rfl, (S.setH vv (max S.H (hgM S.seed m))).setT (insT S.T (plc (ens S.T) (m, s, v)) ⟨tb, tk, hgM S.seed m, (m, s, v)⟩), ⟨by rw [show ((S.setH vv (max S.H (hgM S.seed m))).setT (insT S.T (plc (ens S.T) (m, s, v)) ⟨tb, tk, hgM S.seed m, (m, s, v)⟩)).T.length = S.T.length + 1 from insT_len _ _ _]; exact HSK4.out, ?_, hbr, HB.out.top.ins _ _, ?_, ?_, ?_⟩, rfl, ?_, ?_⟩
  · show MapIs w4 S.mb (N + 1) (towOf (insT S.T (plc (ens S.T) (m, s, v)) ⟨tb, tk, hgM S.seed m, (m, s, v)⟩))
    rw [← towOf_put HB.out.brd.nd hbr.nd]
    refine HMP.out.to (HMV4.out.rest _ HMP.out.lt (fun hq => ?_))
    simp only [List.mem_cons] at hq
    rcases hq with e | e | e
    · exact HMT.out.1 e
    · exact HMT.out.2.1 e
    · exact HB.out.mb_out e
  · intro t ht
    rcases List.mem_cons.1 (hpm.mem_iff.1 ht) with rfl | ht
    · rfl
    · exact HB.out.hg t ht
  · intro t ht
    rcases List.mem_cons.1 (hpm.mem_iff.1 ht) with rfl | ht
    · exact hs
    · exact HB.out.sz t ht
  · show (insT S.T _ _).length ≤ N + 1
    rw [insT_len]; have := HB.out.len; omega
  · show ens (insT S.T (plc (ens S.T) (m, s, v)) ⟨tb, tk, hgM S.seed m, (m, s, v)⟩) = _
    unfold setM
    rw [hdr]; exact insT_insM S.T ⟨tb, tk, hgM S.seed m, (m, s, v)⟩
  · have hm3 : Moved w2 w3 (bblk g S) (bblk g S) := Moved.only HO3.out (by simp [bblk])
    have hm4 := HMV4.out.wide1 S.mb
    have hm5 : Moved w2 w4 (S.mb :: tb :: tk :: sblk g S) _ := (Moved.wide hm3 (G := S.mb :: tb :: tk :: sblk g S) (fun q hq => by
      unfold bblk at hq
      simp only [List.mem_cons] at hq ⊢
      rcases hq with e | e
      · exact Or.inl e
      · exact Or.inr (Or.inr (Or.inr e)))).trans hm4
    have hwl := HB1.out.size
    exact Moved.fresh HB2.out hm5 (fun q hq => by
      unfold bblk
      have := HMT.out
      simp only [List.mem_cons] at hq ⊢
      rcases hq with e | e | e | e
      · exact Or.inl (Or.inl e)
      · exact Or.inr (by omega)
      · exact Or.inr (by omega)
      · exact Or.inl (Or.inr e))
end Go.Proofs.YtgbplghokciimaaDoor.I
namespace Go.Proofs.YtgbplghokciimaaDoor.I
open Go.RowKit
set_option linter.unusedVariables false
/-- where a member that is there stands. -/
theorem Bd.find {W : World} {g : Nat} {S : SkS} {N : Nat} (h : Bd W g S N) {m : ByteArray} {b : Nat} (hf : towOf S.T m = some b) : ∃ T k t, S.T = insT T k t ∧ k ≤ T.length ∧ t.b = b ∧ t.e.1 = m ∧ Blk W t.b (towL t (pAt S.hb S.T k)) 63 := by
  obtain ⟨k, hk, hb, hm⟩ := towOf_some hf
  obtain ⟨T, hT, hl, hkl⟩ := split_at hk
  exact ⟨T, k, S.T[k], hT, hkl, hb, hm, h.sk.tow k hk⟩
theorem Bd.looked {W : World} {g : Nat} {S : SkS} {N : Nat} (h : Bd W g S N) (m : ByteArray) (hs : m.size ≤ 281474976710656) {b : Nat} (hf : towOf S.T m = some b) : (Instr.lookup 59 (.map (some S.mb)) (.string m) true).run Tryd.prog W = .ok (.tuple #[.pointer (some ⟨b, 0, none⟩), .bool true]) W := by
  have hlk := h.map.look (m := m) (by unfold maxLen; omega)
  rw [hf] at hlk; exact hlk
theorem Bd.missed {W : World} {g : Nat} {S : SkS} {N : Nat} (h : Bd W g S N) (m : ByteArray) (hs : m.size ≤ 281474976710656) (hf : towOf S.T m = none) : (Instr.lookup 59 (.map (some S.mb)) (.string m) true).run Tryd.prog W = .ok (.tuple #[.pointer none, .bool false]) W := by
  have hlk := h.map.look (m := m) (by unfold maxLen; omega)
  rw [hf] at hlk; exact hlk
/-- an entry's value has turned: the board is as it was but for it. -/
theorem Bd.valued {W W' : World} {g : Nat} {S : SkS} {N : Nat} {T : List Tw} {k : Nat} {t : Tw} (h : Bd W g S N) (hT : S.T = insT T k t) (hk : k ≤ T.length) (v : Int) (e : W' = W.setCell ⟨t.b, 2, none⟩ (vl v)) : Bd W' g (S.setT (insT T k { t with e := (t.e.1, t.e.2.1, v) })) N ∧ Only W W' t.b ∧ ens (insT T k { t with e := (t.e.1, t.e.2.1, v) }) = setM (ens S.T) t.e.1 t.e.2.1 v ∧ bblk g (S.setT (insT T k { t with e := (t.e.1, t.e.2.1, v) })) = bblk g S := by
  obtain ⟨hl, he⟩ := place_at hT hk
  have hbt := h.sk.tow k hl
  rw [he] at hbt
  have ho : Only W W' t.b := by rw [e]; exact only_set _ _ _ _
  have hb' : Blk W' t.b (towL { t with e := (t.e.1, t.e.2.1, v) } (pAt S.hb S.T k)) 63 := by rw [e]; exact hbt.set 2 (vl v)
  have hsk := h.sk.setEn (t' := { t with e := (t.e.1, t.e.2.1, v) }) hT hk rfl rfl rfl ho hb'
  have hbs := insT_map Tw.b T k { t with e := (t.e.1, t.e.2.1, v) } t rfl
  have hhs : hts (insT T k { t with e := (t.e.1, t.e.2.1, v) }) = hts (insT T k t) := insT_map Tw.h T k _ t rfl
  have hmem : S.mb ≠ t.b := h.map.ne hbt
  have hes := setM_same hk (by rw [← hT]; exact h.brd) v
  have hen : ens (insT T k { t with e := (t.e.1, t.e.2.1, v) }) = setM (ens S.T) t.e.1 t.e.2.1 v := by
    rw [hT, hes, insT_ens]
  have hp := insT_perm0 T k t
  have hp' := insT_perm0 T k { t with e := (t.e.1, t.e.2.1, v) }
  refine ⟨⟨?_, ?_, ?_, ?_, ?_, ?_, ?_⟩, ho, hen, ?_⟩
  · show Sk W' g (S.setT (insT T k { t with e := (t.e.1, t.e.2.1, v) })) (cntT (insT T k { t with e := (t.e.1, t.e.2.1, v) })) (insT T k { t with e := (t.e.1, t.e.2.1, v) }).length (lnk S.hb (insT T k { t with e := (t.e.1, t.e.2.1, v) })) (pAt S.hb (insT T k { t with e := (t.e.1, t.e.2.1, v) }))
    rw [lnk_congr hbs hhs, pAt_congr hbs, cntT_congr hhs, insT_len, ← insT_len T k t, ← hT]; exact hsk
  · show MapIs W' S.mb N (towOf (insT T k { t with e := (t.e.1, t.e.2.1, v) }))
    rw [towOf_same (t := t) (t' := { t with e := (t.e.1, t.e.2.1, v) }) (by rw [← hT]; exact h.brd.nd) rfl rfl, ← hT]
    exact h.map.to (ho.other _ hmem)
  · show Brd (ens (insT T k { t with e := (t.e.1, t.e.2.1, v) }))
    rw [hen]; exact setM_brd h.brd _ _ _
  · show IsTop (insT T k { t with e := (t.e.1, t.e.2.1, v) }) S.H
    refine ⟨fun x hx => h.top.le x (by rw [hT, ← hhs]; exact hx), ?_⟩
    rcases h.top.at_ with q | ⟨u, hu, q⟩
    · exact Or.inl q
    · rw [hT] at hu
      rcases List.mem_cons.1 (hp.mem_iff.1 hu) with rfl | hu
      · exact Or.inr ⟨{ u with e := (u.e.1, u.e.2.1, v) }, hp'.mem_iff.2 (by simp), q⟩
      · exact Or.inr ⟨u, hp'.mem_iff.2 (by simp [hu]), q⟩
  · intro u hu
    rcases List.mem_cons.1 (hp'.mem_iff.1 hu) with rfl | hu
    · exact h.hg t (by rw [hT]; exact hp.mem_iff.2 (by simp))
    · exact h.hg u (by rw [hT]; exact hp.mem_iff.2 (by simp [hu]))
  · intro u hu
    rcases List.mem_cons.1 (hp'.mem_iff.1 hu) with rfl | hu
    · exact h.sz t (by rw [hT]; exact hp.mem_iff.2 (by simp))
    · exact h.sz u (by rw [hT]; exact hp.mem_iff.2 (by simp [hu]))
  · show (insT T k _).length ≤ N
    rw [insT_len]; have := h.len; rw [hT, insT_len] at this; exact this
  · unfold bblk
    rw [sblk_setEn (t' := { t with e := (t.e.1, t.e.2.1, v) }) hT rfl rfl]
/-- a tower has gone: what is left is a board. -/
theorem Bd.without {W W' W2 : World} {g : Nat} {S : SkS} {N N' : Nat} {T : List Tw} {k : Nat} {t : Tw} {v : Value} {H : Nat} (h : Bd W g S N) (hT : S.T = insT T k t) (hk : k ≤ T.length) (htop : IsTop T H) (hsk : Sk W2 g ((S.setT T).setH v H) (cntT T) T.length (lnk S.hb T) (pAt S.hb T)) (hmp : MapIs W2 S.mb N' (towOf T)) (hN : T.length ≤ N') : Bd W2 g ((S.setT T).setH v H) N' ∧ ens T = dropM (ens S.T) t.e.1 := by
  have hp := insT_perm0 T k t
  have hen : ens T = dropM (ens S.T) t.e.1 := by rw [hT]; exact (dropM_ins (by rw [← hT]; exact h.brd.nd)).symm
  refine ⟨⟨hsk, hmp, ?_, htop, fun u hu => h.hg u (by rw [hT]; exact hp.mem_iff.2 (List.mem_cons_of_mem _ hu)), fun u hu => h.sz u (by rw [hT]; exact hp.mem_iff.2 (List.mem_cons_of_mem _ hu)), hN⟩, hen⟩
  show Brd (ens T)
  rw [hen]; exact dropM_brd h.brd _
set_option maxHeartbeats 2000000 in
set_option maxRecDepth 100000 in
theorem Drop_yes (g : Nat) (S : SkS) (N : Nat) (m : ByteArray) (b : Nat) (w : World) (h : Bd w g S N) (hN : N ≤ 1000000) (hs : m.size ≤ 281474976710656) (hf : towOf S.T m = some b) : Calls Tryd.prog 11 #[.pointer (some ⟨g, 0, none⟩), .string m] w fun e w' => e = .returned (.bool true) ∧ ∃ S', Bd w' g S' N ∧ S'.seed = S.seed ∧ ens S'.T = dropM (ens S.T) m ∧ Moved w w' (bblk g S) (bblk g S') := by
  have hlk := h.looked m hs hf
  obtain ⟨T, k, t, hT, hk, rfl, rfl, hbt⟩ := h.find hf
  have c1 : w.cell? ⟨g, 1, none⟩ = some (.map (some S.mb)) := by rw [h.sk.brd.cell]; rfl
  have HU : Hid _ := unlink_any g S T k t w hT hk h.sk h.brd h.top h.h24 (by have := h.len; omega) h.pos
  have HB : Hid (Bd w g S N) := h
  have HTT : Hid _ := hT
  obtain ⟨tb, htb⟩ : ∃ tb, t.b = tb := ⟨_, rfl⟩
  have HTB : Hid _ := htb
  rw [htb] at hlk HU
  clear h hT hbt hf htb
  go_enter Tryd.func11, Tryd.ntmps11
  go_wp2_with fail
  refine (show Calls _ _ _ _ _ from HU.out).mono ?_
  rintro e w2 ⟨rfl, v, H', htop, hH', hsk, hlone, hmv⟩
  have hmp : MapIs w2 S.mb N (towOf S.T) := HB.out.map.to (hmv.rest _ HB.out.map.lt HB.out.mb_out)
  obtain ⟨w3, hrun, hmp3, ho3⟩ := hmp.del (m := t.e.1) (by unfold maxLen; omega) 0
  have hlen : T.length ≤ N := by have := HB.out.len; rw [HTT.out, insT_len] at this; omega
  rw [HTT.out, towOf_del (by rw [← HTT.out]; exact HB.out.brd.nd)] at hmp3
  have f1 : w2.cell? ⟨g, 1, none⟩ = some (.map (some S.mb)) := by rw [hsk.brd.cell]; rfl
  have hout : S.mb ∉ sblk g ((S.setT T).setH v H') := fun hm => by
    obtain ⟨cur, q, hc⟩ := hsk.mem_cells _ hm
    exact hmp.notc hc rfl
  obtain ⟨r1, r2⟩ := HB.out.without (W' := w3) HTT.out hk htop (hsk.to (W' := w3) (fun q hq => ho3.other q (fun e => hout (by rw [← e]; exact hq)))) hmp3 hlen
  have HR1 : Hid _ := r1
  have HR2 : Hid (ens T = dropM (ens S.T) t.e.1) := r2
  have HMV : Hid (Moved w w3 (bblk g S) (bblk g ((S.setT T).setH v H'))) := by
    have h1 : Moved w w2 (bblk g S) (bblk g ((S.setT T).setH v H')) := (hmv.less (G := sblk g ((S.setT T).setH v H')) (fun q hq => by simp [hq])).wide1 S.mb
    exact h1.trans (Moved.only ho3 (by simp [bblk]))
  clear hsk hlone hmv hmp hmp3 ho3 hout r1 r2 htop c1 hlk
  go_wp2
  go_returns
  exact ⟨rfl, _, HR1.out, rfl, HR2.out, HMV.out⟩
set_option maxHeartbeats 1000000 in
set_option maxRecDepth 100000 in
theorem Drop_no (g : Nat) (S : SkS) (N : Nat) (m : ByteArray) (w : World) (h : Bd w g S N) (hs : m.size ≤ 281474976710656) (hf : towOf S.T m = none) : Calls Tryd.prog 11 #[.pointer (some ⟨g, 0, none⟩), .string m] w fun e w' => e = .returned (.bool false) ∧ w' = w := by
  have hlk := h.missed m hs hf
  have c1 : w.cell? ⟨g, 1, none⟩ = some (.map (some S.mb)) := by rw [h.sk.brd.cell]; rfl
  clear h hf
  go_enter Tryd.func11, Tryd.ntmps11
  go_wp2
  go_returns
  exact ⟨rfl, rfl⟩
set_option maxHeartbeats 1000000 in
set_option maxRecDepth 100000 in
theorem Len_any (g : Nat) (S : SkS) (N : Nat) (w : World) (h : Bd w g S N) : Calls Tryd.prog 13 #[.pointer (some ⟨g, 0, none⟩)] w fun e w' => e = .returned (.int .i64 (S.T.length : Int)) ∧ w' = w := by
  have c1 : w.cell? ⟨g, 27, none⟩ = some (.int .i64 (S.T.length : Int)) := by rw [h.sk.brd.cell]; rfl
  clear h
  go_enter Tryd.func13, Tryd.ntmps13
  go_wp2
  go_returns
  exact ⟨rfl, rfl⟩
set_option maxHeartbeats 2000000 in
set_option maxRecDepth 100000 in
theorem Set_same (g : Nat) (S : SkS) (N : Nat) (m : ByteArray) (s v : Int) (b : Nat) (w : World) (h : Bd w g S N) (hs : m.size ≤ 281474976710656) (hf : towOf S.T m = some b) (hsc : w.cell? ⟨b, 1, none⟩ = some (.int .i64 s)) : Calls Tryd.prog 10 #[.pointer (some ⟨g, 0, none⟩), .string m, .int .i64 s, vl v] w fun e w' => e = .returned (.bool false) ∧ ∃ S', Bd w' g S' N ∧ S'.seed = S.seed ∧ ens S'.T = setM (ens S.T) m s v ∧ Moved w w' (bblk g S) (bblk g S') := by
  have hlk := h.looked m hs hf
  obtain ⟨T, k, t, hT, hk, rfl, rfl, hbt⟩ := h.find hf
  have c1 : w.cell? ⟨g, 1, none⟩ = some (.map (some S.mb)) := by rw [h.sk.brd.cell]; rfl
  have es : s = t.e.2.1 := by
    have := (tow_cells hbt).2
    rw [hsc] at this
    injection this with this
    injection this
  subst es
  obtain ⟨W1, hW1⟩ : ∃ W1, W1 = w.setCell ⟨t.b, 2, none⟩ (vl v) := ⟨_, rfl⟩
  obtain ⟨q1, q2, q3, q4⟩ := h.valued hT hk v hW1
  have c2 : w.cell? ⟨t.b, 2, none⟩ = some (vl t.e.2.2) := by rw [hbt.cell]; rfl
  have f2 : w.frozen? ⟨t.b, 2, none⟩ = false := hbt.frozen 2
  have d1 : W1.cell? ⟨t.b, 1, none⟩ = some (.int .i64 t.e.2.1) := by
    have := hbt.set 2 (vl v)
    rw [hW1, this.cell]; rfl
  have HQ1 : Hid _ := q1
  have HQ3 : Hid _ := q3
  have HMV : Hid (Moved w W1 (bblk g S) (bblk g (S.setT (insT T k { t with e := (t.e.1, t.e.2.1, v) })))) := by
    rw [q4]
    refine Moved.only q2 (List.mem_cons_of_mem _ ?_)
    obtain ⟨hl, he⟩ := place_at hT hk
    have := mem_tow (g := g) hl
    rwa [he] at this
  obtain ⟨tb, htb⟩ : ∃ tb, t.b = tb := ⟨_, rfl⟩
  rw [htb] at hlk c2 f2 d1 hW1
  obtain ⟨sc, hsc2⟩ : ∃ sc, t.e.2.1 = sc := ⟨_, rfl⟩
  have HSC : Hid _ := hsc2
  rw [hsc2] at d1
  generalize vl t.e.2.2 = ov at c2
  clear h hT hbt hf q1 q2 q3 q4 htb hsc
  rw [hsc2] at HQ1 HQ3 HMV
  rw [hsc2]
  clear hsc2
  go_enter Tryd.func10, Tryd.ntmps10
  go_upto_region 9 with fail
  rw [← hW1]
  clear hW1 c2 f2 hlk c1
  go_wp2
  go_returns
  exact ⟨rfl, _, HQ1.out, rfl, HQ3.out, HMV.out⟩
end Go.Proofs.YtgbplghokciimaaDoor.I
namespace Go.Proofs.YtgbplghokciimaaDoor.I
open Go.RowKit
set_option linter.unusedVariables false
theorem towOf_move {T : List Tw} {k p : Nat} {t t' : Tw} (hn : ((ens (insT T k t)).map (·.1)).Nodup) (hn' : ((ens (insT T p t')).map (·.1)).Nodup) (eb : t'.b = t.b) (em : t'.e.1 = t.e.1) : towOf (insT T k t) = towOf (insT T p t') := by
  refine (towOf_ext hn hn' (fun m b => ?_))
  rw [towOf_iff hn]
  have hp := insT_perm0 T k t
  have hp' := insT_perm0 T p t'
  constructor
  · rintro ⟨u, hu, e1, e2⟩
    rcases List.mem_cons.1 (hp.mem_iff.1 hu) with rfl | hu
    · exact ⟨t', hp'.mem_iff.2 (by simp), em.trans e1, eb.trans e2⟩
    · exact ⟨u, hp'.mem_iff.2 (by simp [hu]), e1, e2⟩
  · rintro ⟨u, hu, e1, e2⟩
    rcases List.mem_cons.1 (hp'.mem_iff.1 hu) with rfl | hu
    · exact ⟨t, hp.mem_iff.2 (by simp), em.symm.trans e1, eb.symm.trans e2⟩
    · exact ⟨u, hp.mem_iff.2 (by simp [hu]), e1, e2⟩
theorem MapIs.mono {W : World} {mb n n' : Nat} {f : ByteArray → Option Nat} (h : MapIs W mb n f) (hn : n ≤ n') : MapIs W mb n' f := by
  obtain ⟨D, ⟨es, clock, hb, hF, hs, hd⟩, hm⟩ := h
  exact ⟨D, ⟨es, clock, hb, hF, Nat.le_trans hs hn, hd⟩, hm⟩
theorem Bd.mono {W : World} {g : Nat} {S : SkS} {N N' : Nat} (h : Bd W g S N) (hn : N ≤ N') : Bd W g S N' := ⟨h.sk, h.map.mono hn, h.brd, h.top, h.hg, h.sz, Nat.le_trans h.len hn⟩
set_option maxHeartbeats 2000000 in
set_option maxRecDepth 100000 in
theorem Set_other (g : Nat) (S : SkS) (N : Nat) (m : ByteArray) (s v s0 : Int) (b : Nat) (w : World) (h : Bd w g S N) (hN : N ≤ 1000000) (hs : m.size ≤ 281474976710656) (hf : towOf S.T m = some b) (hsc : w.cell? ⟨b, 1, none⟩ = some (.int .i64 s0)) (hne : ¬ s0 = s) : Calls Tryd.prog 10 #[.pointer (some ⟨g, 0, none⟩), .string m, .int .i64 s, vl v] w fun e w' => e = .returned (.bool false) ∧ ∃ S', Bd w' g S' N ∧ S'.seed = S.seed ∧ ens S'.T = setM (ens S.T) m s v ∧ Moved w w' (bblk g S) (bblk g S') := by
  have hlk := h.looked m hs hf
  obtain ⟨T, k, t, hT, hk, rfl, rfl, hbt⟩ := h.find hf
  have c1 : w.cell? ⟨g, 1, none⟩ = some (.map (some S.mb)) := by rw [h.sk.brd.cell]; rfl
  have es : s0 = t.e.2.1 := by
    have := (tow_cells hbt).2
    rw [hsc] at this
    injection this with this
    injection this
  subst es
  obtain ⟨W1, hW1⟩ : ∃ W1, W1 = w.setCell ⟨t.b, 2, none⟩ (vl v) := ⟨_, rfl⟩
  obtain ⟨q1, q2, q3, q4⟩ := h.valued hT hk v hW1
  have c2 : w.cell? ⟨t.b, 2, none⟩ = some (vl t.e.2.2) := by rw [hbt.cell]; rfl
  have f2 : w.frozen? ⟨t.b, 2, none⟩ = false := hbt.frozen 2
  have d1 : W1.cell? ⟨t.b, 1, none⟩ = some (.int .i64 t.e.2.1) := by
    have := hbt.set 2 (vl v)
    rw [hW1, this.cell]; rfl
  obtain ⟨t1, ht1⟩ : ∃ t1 : Tw, t1 = { t with e := (t.e.1, t.e.2.1, v) } := ⟨_, rfl⟩
  have eb : t1.b = t.b := by rw [ht1]
  have em : t1.e.1 = t.e.1 := by rw [ht1]
  have eh : t1.h = t.h := by rw [ht1]
  have ev : t1.e.2.2 = v := by rw [ht1]
  rw [← ht1] at q1 q3 q4
  have HU : Hid _ := unlink_any g (S.setT (insT T k t1)) T k t1 W1 rfl hk q1.sk q1.brd q1.top q1.h24 (by have := q1.len; omega) q1.pos
  have HQ1 : Hid (Bd W1 g (S.setT (insT T k t1)) N) := q1
  have HMV : Hid (Moved w W1 (bblk g S) (bblk g (S.setT (insT T k t1)))) := by
    rw [q4]
    refine Moved.only q2 (List.mem_cons_of_mem _ ?_)
    obtain ⟨hl, he⟩ := place_at hT hk
    have := mem_tow (g := g) hl
    rwa [he] at this
  have HDR : Hid (ens T = dropM (ens S.T) t.e.1) := by
    show _ = _
    rw [hT]; exact (dropM_ins (by rw [← hT]; exact h.brd.nd)).symm
  have HSZ : Hid (t.e.1.size ≤ 281474976710656) := hs
  obtain ⟨tb, htb⟩ : ∃ tb, t.b = tb := ⟨_, rfl⟩
  have HT1 : Hid (t1 = { t with e := (t.e.1, t.e.2.1, v) }) := ht1
  rw [eb] at HU
  rw [htb] at hlk c2 f2 d1 hW1 HU
  have HEB : Hid (t1.b = tb) := eb.trans htb
  have HEM : Hid (t1.e.1 = t.e.1) := em
  have HEV : Hid (t1.e.2.2 = v) := ev
  obtain ⟨sc, hsc2⟩ : ∃ sc, t.e.2.1 = sc := ⟨_, rfl⟩
  rw [hsc2] at d1 hne
  generalize vl t.e.2.2 = ov at c2
  clear h hT hbt hf q1 q2 q3 q4 htb hsc ht1 eb em eh ev hsc2
  go_enter Tryd.func10, Tryd.ntmps10
  go_upto_region 9 with fail
  rw [← hW1]
  clear hW1 c2 f2 hlk c1
  go_wp2_with fail
  refine (show Calls _ _ _ _ _ from HU.out).mono ?_
  rintro e w2 ⟨rfl, v2, H2, htop2, hH2, hsk2, ⟨o2, c02, hln2⟩, hmv2⟩
  rw [← HEB.out] at hmv2
  have e1 : w2.cell? ⟨tb, 1, none⟩ = some (.int .i64 t1.e.2.1) := by rw [← HEB.out]; exact (tow_cells hln2.blk).2
  have ef : w2.frozen? ⟨tb, 1, none⟩ = false := by rw [← HEB.out]; exact hln2.blk.frozen 1
  obtain ⟨W3, hW3⟩ : ∃ W3, W3 = w2.setCell ⟨tb, 1, none⟩ (.int .i64 s) := ⟨_, rfl⟩
  obtain ⟨t2, ht2⟩ : ∃ t2 : Tw, t2 = { t1 with e := (t1.e.1, s, t1.e.2.2) } := ⟨_, rfl⟩
  have ho3 : Only w2 W3 t1.b := by rw [hW3, HEB.out]; exact only_set _ _ _ _
  obtain ⟨nb, nk⟩ := hsk2.lone_out hln2
  have hsk3 := hsk2.to (W' := W3) (fun q hq => ho3.other q (fun e => nb (by rw [← e]; exact hq)))
  have hln3 : Lone W3 g (((S.setT (insT T k t1)).setT T).setH v2 H2) t2 o2 c02 := by
    refine ⟨?_, ?_, by rw [ht2]; exact hln2.nb, by rw [ht2]; exact hln2.nk⟩
    · have := hln2.blk.set 1 (.int .i64 s)
      rw [ht2]
      show Blk W3 t1.b _ _
      rw [hW3, ← HEB.out]; exact this
    · rw [ht2]
      exact hln2.row.to (fun K hK => by cases hK; exact ho3.other _ (fun e => hln2.row.ne rfl hln2.blk (by decide) e.symm))
  have hbT : Brd (ens T) := by
    rw [HDR.out]
    have := HQ1.out.brd
    have hx : dropM (ens (insT T k t1)) t1.e.1 = ens T := dropM_ins HQ1.out.brd.nd
    rw [← HDR.out, ← hx]; exact dropM_brd HQ1.out.brd _
  have hposT : ∀ x ∈ hts T, 1 ≤ x := fun x hx => HQ1.out.pos x (((insT_perm0 T k t1).map Tw.h).mem_iff.2 (by rw [List.map_cons]; exact List.mem_cons_of_mem _ hx))
  have hlT : T.length + 1 ≤ N := by have := HQ1.out.len; have e : (insT T k t1).length ≤ N := this; rwa [insT_len] at e
  have hg1 : t1.h = hgM S.seed t1.e.1 := HQ1.out.hg t1 ((insT_perm0 T k t1).mem_iff.2 (by simp))
  have HG1 : Hid (t1.h = hgM S.seed t1.e.1) := hg1
  have h2h : t2.h = t1.h := by rw [ht2]
  have HLK : Hid _ := link_any g (((S.setT (insT T k t1)).setT T).setH v2 H2) t2 o2 c02 W3 hsk3 hln3 hbT htop2 hH2 (show T.length ≤ 1000000 by omega) hposT (by rw [h2h, hg1]; exact (hgM_bd _ _).1) (by rw [h2h, hg1]; exact (hgM_bd _ _).2)
  have e2b : t2.b = tb := by rw [ht2]; exact HEB.out
  rw [e2b] at HLK
  have HT2 : Hid (t2 = { t1 with e := (t1.e.1, s, t1.e.2.2) }) := ht2
  have hmp3 : MapIs W3 S.mb N (towOf (insT T k t1)) := (HQ1.out.map.to (hmv2.rest _ HQ1.out.map.lt HQ1.out.mb_out)).to (ho3.other _ (fun e => by
    have := (HQ1.out.map.to (W' := w2) (hmv2.rest _ HQ1.out.map.lt HQ1.out.mb_out)).ne hln2.blk
    exact this e))
  have HMP3 : Hid (MapIs W3 S.mb N (towOf (insT T k t1))) := hmp3
  have HOUT : Hid (S.mb ∉ t2.b :: t2.k :: sblk g (((S.setT (insT T k t1)).setT T).setH v2 H2)) := fun hm => by
    simp only [List.mem_cons] at hm
    rcases hm with q | q | q
    · exact hmp3.ne hln3.blk q
    · obtain ⟨cur, hcur⟩ := hln3.row.blk rfl
      exact hmp3.notc hcur q
    · obtain ⟨cur, tt, hc⟩ := hsk3.mem_cells _ q
      exact hmp3.notc hc rfl
  have HMV3 : Hid (Moved w W3 (bblk g S) (S.mb :: t1.b :: t1.k :: sblk g (((S.setT (insT T k t1)).setT T).setH v2 H2))) := (HMV.out.trans (hmv2.wide1 S.mb)).trans (Moved.only ho3 (List.mem_cons_of_mem _ List.mem_cons_self))
  have HBT : Hid (Brd (ens T)) := hbT
  have HTP : Hid (IsTop T H2) := htop2
  have h2k : t2.k = t1.k := by rw [ht2]
  have h2b : t2.b = t1.b := by rw [ht2]
  have HK2 : Hid (t2.k = t1.k ∧ t2.b = t1.b ∧ t2.h = t1.h) := ⟨h2k, h2b, h2h⟩
  clear hsk2 hln2 hmv2 hsk3 hln3 hbT hposT hg1 hmp3 ho3 nb nk htop2 ht2 h2h e2b h2k h2b d1
  go_wp2_with fail
  rw [← hW3]
  clear hW3 e1 ef
  refine (show Calls _ _ _ _ _ from HLK.out).mono ?_
  rintro e w4 ⟨rfl, v4, hsk4, hmv4⟩
  have HSK4 : Hid _ := hsk4
  rw [show tb = t2.b from (HK2.out.2.1.trans HEB.out).symm] at hmv4
  have HMV4 : Hid _ := hmv4
  clear hsk4 hmv4
  go_wp2
  go_returns
  have hen : t2.e = (t.e.1, s, v) := by rw [HT2.out]; show (t1.e.1, s, t1.e.2.2) = _; rw [HEM.out, HEV.out]
  have hinM : ens (insT T (plc (ens T) t2.e) t2) = setM (ens S.T) t.e.1 s v := by
    rw [insT_insM, hen]; unfold setM; rw [← HDR.out]
  have hpm := insT_perm0 T (plc (ens T) t2.e) t2
  have hpk := insT_perm0 T k t1
  have hbr : Brd (ens (insT T (plc (ens T) t2.e) t2)) := by
    rw [insT_insM]
    refine insM_brd HBT.out (fun e he q => ?_)
    rw [HDR.out] at he
    exact dropM_no _ _ e he (q.trans (by rw [hen]))
  have h2e1 : t2.e.1 = t1.e.1 := by rw [hen, HEM.out]
  refine ⟨rfl, (((S.setT (insT T k t1)).setT T).setH v2 H2 |>.setH v4 (max H2 t2.h)).setT (insT T (plc (ens T) t2.e) t2), ⟨?_, ?_, hbr, HTP.out.ins _ _, ?_, ?_, ?_⟩, rfl, hinM, ?_⟩
  · show Sk w4 g _ (cntT (insT T (plc (ens T) t2.e) t2)) (insT T (plc (ens T) t2.e) t2).length (lnk S.hb (insT T (plc (ens T) t2.e) t2)) (pAt S.hb (insT T (plc (ens T) t2.e) t2))
    rw [insT_len]; exact HSK4.out
  · show MapIs w4 S.mb N (towOf (insT T (plc (ens T) t2.e) t2))
    rw [← towOf_move (k := k) (t := t1) HQ1.out.brd.nd hbr.nd HK2.out.2.1 h2e1]
    exact HMP3.out.to (HMV4.out.rest _ HMP3.out.lt HOUT.out)
  · intro u hu
    rcases List.mem_cons.1 (hpm.mem_iff.1 hu) with rfl | hu
    · rw [HK2.out.2.2, h2e1]; exact HG1.out
    · exact HQ1.out.hg u (hpk.mem_iff.2 (List.mem_cons_of_mem _ hu))
  · intro u hu
    rcases List.mem_cons.1 (hpm.mem_iff.1 hu) with rfl | hu
    · rw [hen]; exact HSZ.out
    · exact HQ1.out.sz u (hpk.mem_iff.2 (List.mem_cons_of_mem _ hu))
  · show (insT T _ _).length ≤ N
    rw [insT_len]; exact hlT
  · have := HMV4.out.wide1 S.mb
    rw [HK2.out.1, HK2.out.2.1] at this
    exact HMV3.out.trans this
end Go.Proofs.YtgbplghokciimaaDoor.I
namespace Go.Proofs.YtgbplghokciimaaDoor.I
open Go.RowKit
set_option linter.unusedVariables false
/-- a rank counted from the other side, if back. -/
def trn (back : Bool) (n r : Nat) : Nat := if back then n - 1 - r else r
def hasM (L : List En) (m : ByteArray) : Bool := L.any fun e => decide (e.1 = m)
theorem hasM_no {L : List En} {m : ByteArray} (h : m ∉ L.map (·.1)) : hasM L m = false := by
  unfold hasM
  rw [List.any_eq_false]
  intro e he q
  exact h (List.mem_map.2 ⟨e, he, by simpa using q⟩)
theorem hasM_yes {L : List En} {m : ByteArray} (h : m ∈ L.map (·.1)) : hasM L m = true := by
  obtain ⟨e, he, q⟩ := List.mem_map.1 h
  unfold hasM
  exact List.any_eq_true.2 ⟨e, he, by simpa using q⟩
/-- Set, whatever it finds. -/
theorem Set_any (g : Nat) (S : SkS) (N : Nat) (m : ByteArray) (s v : Int) (w : World) (h : Bd w g S N) (hN : N < 1000000) (hs : m.size ≤ 281474976710656) (hT : Tab w) : Calls Tryd.prog 10 #[.pointer (some ⟨g, 0, none⟩), .string m, .int .i64 s, vl v] w fun e w' => e = .returned (.bool (!hasM (ens S.T) m)) ∧ ∃ S', Bd w' g S' (N + 1) ∧ S'.seed = S.seed ∧ ens S'.T = setM (ens S.T) m s v ∧ Moved w w' (bblk g S) (bblk g S') := by
  rcases hf : towOf S.T m with _ | b
  · rw [hasM_no (towOf_none hf)]
    exact Set_new g S N m s v w h hN hs hf hT
  · obtain ⟨k, hk, hb, hm⟩ := towOf_some hf
    have hin : m ∈ (ens S.T).map (·.1) := List.mem_map.2 ⟨S.T[k].e, List.mem_map.2 ⟨S.T[k], List.getElem_mem hk, rfl⟩, hm⟩
    rw [hasM_yes hin]
    have hbt := h.sk.tow k hk
    have c := (tow_cells hbt).2
    rw [hb] at c
    by_cases hsc : S.T[k].e.2.1 = s
    · rw [hsc] at c
      refine (Set_same g S N m s v b w h hs hf c).mono ?_
      rintro e w' ⟨rfl, S', h1, h2, h3, h4⟩
      exact ⟨rfl, S', h1.mono (by omega), h2, h3, h4⟩
    · refine (Set_other g S N m s v _ b w h (by omega) hs hf c hsc).mono ?_
      rintro e w' ⟨rfl, S', h1, h2, h3, h4⟩
      exact ⟨rfl, S', h1.mono (by omega), h2, h3, h4⟩
theorem Drop_any (g : Nat) (S : SkS) (N : Nat) (m : ByteArray) (w : World) (h : Bd w g S N) (hN : N ≤ 1000000) (hs : m.size ≤ 281474976710656) : Calls Tryd.prog 11 #[.pointer (some ⟨g, 0, none⟩), .string m] w fun e w' => e = .returned (.bool (hasM (ens S.T) m)) ∧ ∃ S', Bd w' g S' N ∧ S'.seed = S.seed ∧ ens S'.T = dropM (ens S.T) m ∧ Moved w w' (bblk g S) (bblk g S') := by
  rcases hf : towOf S.T m with _ | b
  · rw [hasM_no (towOf_none hf)]
    refine (Drop_no g S N m w h hs hf).mono ?_
    rintro e w' ⟨rfl, rfl⟩
    exact ⟨rfl, S, h, rfl, (dropM_none (towOf_none hf)).symm, Moved.refl _ _⟩
  · obtain ⟨k, hk, hb, hm⟩ := towOf_some hf
    have hin : m ∈ (ens S.T).map (·.1) := List.mem_map.2 ⟨S.T[k].e, List.mem_map.2 ⟨S.T[k], List.getElem_mem hk, rfl⟩, hm⟩
    rw [hasM_yes hin]
    exact Drop_yes g S N m b w h hN hs hf
abbrev enV (e : En) : Value := .agg #[.string e.1, .int .i64 e.2.1, vl e.2.2]
abbrev enZ : Value := .agg #[.string ⟨#[]⟩, .int .i64 0, vz]
set_option maxHeartbeats 2000000 in
set_option maxRecDepth 100000 in
theorem Get_no (g : Nat) (S : SkS) (N : Nat) (m : ByteArray) (w : World) (h : Bd w g S N) (hs : m.size ≤ 281474976710656) (hf : towOf S.T m = none) : Calls Tryd.prog 44 #[.pointer (some ⟨g, 0, none⟩), .string m] w fun e w' => e = .returned (.tuple #[enZ, .bool false]) ∧ Below w.heap.size w w' := by
  have hb0 : Below w.heap.size w (w.alloc (.cells #[.string ⟨#[]⟩, .int .i64 0, vz] 39)) := (Below.refl _ w).alloc (Nat.le_refl _) _
  have h0 := h.below hb0
  have hlk := h0.missed m hs hf
  have c1 : w.cell? ⟨g, 1, none⟩ = some (.map (some S.mb)) := by rw [h.sk.brd.cell]; rfl
  have hgl : g < w.heap.size := h.sk.brd.lt
  clear h hf h0 hb0
  go_enter Tryd.func44, Tryd.ntmps44
  go_wp2
  go_returns
  exact ⟨rfl, (Below.refl _ w).alloc (Nat.le_refl _) _⟩
set_option maxHeartbeats 2000000 in
set_option maxRecDepth 100000 in
theorem Get_yes (g : Nat) (S : SkS) (N : Nat) (m : ByteArray) (k : Nat) (hk : k < S.T.length) (hm : S.T[k].e.1 = m) (w : World) (h : Bd w g S N) (hs : m.size ≤ 281474976710656) : Calls Tryd.prog 44 #[.pointer (some ⟨g, 0, none⟩), .string m] w fun e w' => e = .returned (.tuple #[enV S.T[k].e, .bool true]) ∧ Below w.heap.size w w' := by
  have hf : towOf S.T m = some S.T[k].b := by rw [← hm]; exact towOf_at h.brd.nd hk
  have hb0 : Below w.heap.size w (w.alloc (.cells #[.string ⟨#[]⟩, .int .i64 0, vz] 39)) := (Below.refl _ w).alloc (Nat.le_refl _) _
  have h0 := h.below hb0
  have hlk := h0.looked m hs hf
  have c1 : w.cell? ⟨g, 1, none⟩ = some (.map (some S.mb)) := by rw [h.sk.brd.cell]; rfl
  have hgl : g < w.heap.size := h.sk.brd.lt
  have HTL : Hid _ := tell_any S.T[k].b S.T[k] _ _ (h.sz _ (List.getElem_mem hk)) (h0.sk.tow k hk)
  clear h hf h0 hb0 hm
  generalize S.T[k].b = tb at *
  generalize S.T[k].e = E at *
  obtain ⟨em, es, ev⟩ := E
  go_enter Tryd.func44, Tryd.ntmps44
  go_wp2_with fail
  refine (show Calls _ _ _ _ _ from HTL.out).mono ?_
  rintro e w2 ⟨rfl, hb2⟩
  have HB2 : Hid (Below w.heap.size w w2) := Below.trans ((Below.refl _ w).alloc (Nat.le_refl _) _) (hb2.mono (by simp))
  have hB := keep_row (one_alloc w (.cells #[.string ⟨#[]⟩, .int .i64 0, vz] 39)) hb2
  have hB : Blk w2 w.heap.size [.string ⟨#[]⟩, .int .i64 0, vz] 39 := hB
  obtain ⟨d0, d1, d2, df⟩ := row3 hB
  have df0 := df 0
  have df1 := df 1
  have df2 := df 2
  obtain ⟨W4, hW4⟩ : ∃ W4, W4 = ((w2.setCell ⟨w.heap.size, 0, none⟩ (.string em)).setCell ⟨w.heap.size, 1, none⟩ (.int .i64 es)).setCell ⟨w.heap.size, 2, none⟩ (vl ev) := ⟨_, rfl⟩
  have HBB : Hid (Blk W4 w.heap.size [.string em, .int .i64 es, vl ev] 39) := by
    show Blk _ _ _ _
    rw [hW4]; exact ((hB.set 0 (.string em)).set 1 (.int .i64 es)).set 2 (vl ev)
  have HB4 : Hid (Below w.heap.size w W4) := by
    rw [hW4]
    exact ((HB2.out.setCell (p := ⟨w.heap.size, 0, none⟩) (Nat.le_refl _) _).setCell (p := ⟨w.heap.size, 1, none⟩) (Nat.le_refl _) _).setCell (p := ⟨w.heap.size, 2, none⟩) (Nat.le_refl _) _
  clear hB hb2 df c1 hlk
  go_wp2
  rw [← hW4]
  clear hW4 d0 d1 d2 df0 df1 df2
  obtain ⟨g0, g1, g2, gf⟩ := row3 HBB.out
  clear gf
  exact bodyPost_ret (v := .tuple #[.agg #[.string em, .int .i64 es, vl ev], .bool true]) (by simp [results, Tryd.results44, go_sem, g0, g1, g2]) rfl ⟨rfl, HB4.out⟩
set_option maxHeartbeats 1000000 in
set_option maxRecDepth 100000 in
theorem turn_any (g : Nat) (S : SkS) (N : Nat) (r : Nat) (back : Bool) (w : World) (h : Bd w g S N) (hN : N ≤ 1000000) (hr : back = true → r < S.T.length) (hr2 : r ≤ 1000000) : Calls Tryd.prog 32 #[.pointer (some ⟨g, 0, none⟩), .int .i64 (r : Int), .bool back] w fun e w' => e = .returned (.int .i64 (trn back S.T.length r : Int)) ∧ w' = w := by
  have HL : Hid _ := Len_any g S N w h
  have hl := h.len
  clear h
  go_enter Tryd.func32, Tryd.ntmps32
  cases back with
  | true =>
    have hlt := hr rfl
    have e1 : IntKind.i64.wrap ((S.T.length : Int) - 1) = (S.T.length : Int) - 1 := by rw [IntKind.wrap_i64] <;> omega
    have e2 : IntKind.i64.wrap ((S.T.length : Int) - 1 - (r : Int)) = (S.T.length : Int) - 1 - (r : Int) := by rw [IntKind.wrap_i64] <;> omega
    go_wp2_with fail
    refine (show Calls _ _ _ _ _ from HL.out).mono ?_
    rintro e w2 ⟨rfl, rfl⟩
    go_wp2
    go_returns
    refine ⟨ret_int ?_, rfl⟩
    unfold trn; simp only [if_true]; omega
  | false =>
    go_wp2
    go_returns
    exact ⟨ret_int (by unfold trn; simp), rfl⟩
set_option maxHeartbeats 1000000 in
set_option maxRecDepth 100000 in
theorem Rank_no (g : Nat) (S : SkS) (N : Nat) (m : ByteArray) (back : Bool) (w : World) (h : Bd w g S N) (hs : m.size ≤ 281474976710656) (hf : towOf S.T m = none) : Calls Tryd.prog 14 #[.pointer (some ⟨g, 0, none⟩), .string m, .bool back] w fun e w' => e = .returned (.tuple #[.int .i64 0, .bool false]) ∧ Below w.heap.size w w' := by
  have hlk := h.missed m hs hf
  have c1 : w.cell? ⟨g, 1, none⟩ = some (.map (some S.mb)) := by rw [h.sk.brd.cell]; rfl
  clear h hf
  go_enter Tryd.func14, Tryd.ntmps14
  go_wp2
  go_returns
  exact ⟨rfl, Below.refl _ _⟩
set_option maxHeartbeats 1000000 in
set_option maxRecDepth 100000 in
theorem Rank_yes (g : Nat) (S : SkS) (N : Nat) (m : ByteArray) (back : Bool) (k : Nat) (hk : k < S.T.length) (hm : S.T[k].e.1 = m) (w : World) (h : Bd w g S N) (hN : N ≤ 1000000) (hs : m.size ≤ 281474976710656) : Calls Tryd.prog 14 #[.pointer (some ⟨g, 0, none⟩), .string m, .bool back] w fun e w' => e = .returned (.tuple #[.int .i64 (trn back S.T.length k : Int), .bool true]) ∧ Below w.heap.size w w' := by
  have hf : towOf S.T m = some S.T[k].b := by rw [← hm]; exact towOf_at h.brd.nd hk
  have hlk := h.looked m hs hf
  have c1 : w.cell? ⟨g, 1, none⟩ = some (.map (some S.mb)) := by rw [h.sk.brd.cell]; rfl
  have hlen := h.len
  have hA : ∀ q (hq : q < S.T.length), ahd S.T[q].e S.T[k].e = decide (q < k) := fun q hq => by
    have := self_dec h.brd (k := k) (q := q) (by rw [ens_len]; exact hk) (by rw [ens_len]; exact hq)
    rw [← this]; simp
  obtain ⟨x0, x1⟩ := tow_cells (h.sk.tow k hk)
  have hH0 : 0 < S.H := by
    have h1 := h.pos S.T[k].h (List.mem_map.2 ⟨_, List.getElem_mem hk, rfl⟩)
    have h2 := h.top.le S.T[k].h (List.mem_map.2 ⟨_, List.getElem_mem hk, rfl⟩)
    omega
  have HA : Hid _ := ahead_any g S (cntT S.T) S.T.length (pAt S.hb S.T) k S.T[k].b S.T[k].e w h.sk (by omega) h.h24 (by omega) x0 x1 hA
  have HB : Hid (Bd w g S N) := h
  clear h hf hm hA x0 x1
  generalize S.T[k].b = tb at *
  go_enter Tryd.func14, Tryd.ntmps14
  go_wp2_with fail
  refine (show Calls _ _ _ _ _ from HA.out).mono ?_
  rintro e w1 ⟨d, rfl, hw, hb1⟩
  have hd := hw.zero HB.out.pos (by omega) hH0
  have HTU : Hid _ := turn_any g S N k back w1 (HB.out.below hb1) hN (fun _ => hk) (by omega)
  have HB1 : Hid (Below w.heap.size w w1) := hb1
  have hidx := idx0 d w1
  rw [hd] at hidx
  simp only at hidx
  generalize (flat2 d 24).toArray = A at *
  have hfl := fld1 (ptr (pAt S.hb S.T k)) (.int .i64 (k : Nat)) w1
  generalize ptr (pAt S.hb S.T k) = pp at *
  clear hd hw hb1 hlk c1
  go_wp2_with fail
  refine (show Calls _ _ _ _ _ from HTU.out).mono ?_
  rintro e w2 ⟨rfl, hq⟩
  have hq2 := hq.symm
  subst hq2
  clear hq hidx hfl
  go_wp2
  go_returns
  exact ⟨rfl, HB1.out⟩
end Go.Proofs.YtgbplghokciimaaDoor.I
namespace Go.Proofs.YtgbplghokciimaaDoor.I
open Go.RowKit
set_option linter.unusedVariables false
theorem trn_lt {back : Bool} {n r : Nat} (h : r < n) : trn back n r < n := by unfold trn; split <;> omega
set_option maxHeartbeats 800000 in
set_option maxRecDepth 100000 in
theorem At_no (g : Nat) (S : SkS) (N : Nat) (i : Int) (back : Bool) (w : World) (h : Bd w g S N) (hi : i < 0 ∨ (S.T.length : Int) ≤ i) : Calls Tryd.prog 15 #[.pointer (some ⟨g, 0, none⟩), .int .i64 i, .bool back] w fun e w' => e = .returned (.tuple #[enZ, .bool false]) ∧ Below w.heap.size w w' := by
  have hb0 : Below w.heap.size w (w.alloc (.cells #[.string ⟨#[]⟩, .int .i64 0, vz] 39)) := (Below.refl _ w).alloc (Nat.le_refl _) _
  have HL : Hid _ := Len_any g S N _ (h.below hb0)
  clear h hb0
  by_cases h0 : i < 0
  · have hd : decide (i < 0) = true := by simpa using h0
    go_enter Tryd.func15, Tryd.ntmps15
    go_wp2
    go_returns
    exact ⟨rfl, (Below.refl _ w).alloc (Nat.le_refl _) _⟩
  · have hd : decide (i < 0) = false := by simpa using h0
    have hge : (S.T.length : Int) ≤ i := by omega
    clear hi
    go_enter Tryd.func15, Tryd.ntmps15
    go_wp2_with fail
    refine (show Calls _ _ _ _ _ from HL.out).mono ?_
    rintro e w1 ⟨rfl, rfl⟩
    go_wp2
    go_returns
    exact ⟨rfl, (Below.refl _ w).alloc (Nat.le_refl _) _⟩
set_option maxHeartbeats 800000 in
set_option maxRecDepth 100000 in
theorem At_yes (g : Nat) (S : SkS) (N : Nat) (i : Nat) (back : Bool) (hi : i < S.T.length) (w : World) (h : Bd w g S N) (hN : N ≤ 1000000) : Calls Tryd.prog 15 #[.pointer (some ⟨g, 0, none⟩), .int .i64 (i : Int), .bool back] w fun e w' => e = .returned (.tuple #[enV (S.T[trn back S.T.length i]'(trn_lt hi)).e, .bool true]) ∧ Below w.heap.size w w' := by
  have hb0 : Below w.heap.size w (w.alloc (.cells #[.string ⟨#[]⟩, .int .i64 0, vz] 39)) := (Below.refl _ w).alloc (Nat.le_refl _) _
  have h0 := h.below hb0
  have hlen := h.len
  have HL : Hid _ := Len_any g S N _ h0
  have HTU : Hid _ := turn_any g S N i back _ h0 hN (fun _ => hi) (by omega)
  have hrl := trn_lt (back := back) hi
  obtain ⟨r, hr⟩ : ∃ r, trn back S.T.length i = r := ⟨_, rfl⟩
  have e0 : S.T[trn back S.T.length i]'(trn_lt hi) = S.T[r]'(by rw [← hr]; exact hrl) := by simp only [hr]
  rw [e0]
  rw [hr] at HTU hrl
  have hH0 : 0 < S.H := by
    have h1 := h.pos S.T[r].h (List.mem_map.2 ⟨_, List.getElem_mem hrl, rfl⟩)
    have h2 := h.top.le S.T[r].h (List.mem_map.2 ⟨_, List.getElem_mem hrl, rfl⟩)
    omega
  have HTW : Hid _ := tower_any g S (cntT S.T) S.T.length (pAt S.hb S.T) (r + 1) (r : Int) (by omega) _ h0.sk (by omega) (fun q hq => by omega) h.h24 (by omega) h.pos
  have hpt : pAt S.hb S.T (r + 1) = some S.T[r].b := by
    show (S.T[r]?).map Tw.b = _
    rw [List.getElem?_eq_getElem hrl]; rfl
  have HPT : Hid _ := hpt
  have HB : Hid (Bd w g S N) := h
  have hz0 : ¬ (i : Int) < 0 := by omega
  have hz1 : ¬ (S.T.length : Int) ≤ (i : Int) := by omega
  have hd : decide ((i : Int) < 0) = false := by simp
  clear h h0 hb0 e0 hpt
  go_enter Tryd.func15, Tryd.ntmps15
  go_wp2_with fail
  refine (show Calls _ _ _ _ _ from HL.out).mono ?_
  rintro e w1 ⟨rfl, rfl⟩
  go_wp2_with fail
  refine (show Calls _ _ _ _ _ from HTU.out).mono ?_
  rintro e w1 ⟨rfl, rfl⟩
  go_wp2_with fail
  refine (show Calls _ _ _ _ _ from HTW.out).mono ?_
  rintro e w1 ⟨o, rfl, ho, hb1⟩
  have ho := ho hH0
  rw [HPT.out] at ho
  subst ho
  have hb1' : Below w.heap.size w w1 := Below.trans ((Below.refl _ w).alloc (Nat.le_refl _) _) (hb1.mono (by simp))
  have HTL : Hid _ := tell_any S.T[r].b S.T[r] _ w1 (HB.out.sz _ (List.getElem_mem hrl)) ((HB.out.below hb1').sk.tow r hrl)
  have HR1 : Hid _ := keep_row (one_alloc w (.cells #[.string ⟨#[]⟩, .int .i64 0, vz] 39)) hb1
  have HB1 : Hid (Below w.heap.size w w1) := hb1'
  clear hb1 hb1'
  generalize S.T[r].b = tb at *
  obtain ⟨E, hE⟩ : ∃ E, S.T[r].e = E := ⟨_, rfl⟩
  rw [hE] at HTL
  have HE : Hid (S.T[r].e = E) := hE
  clear hE
  obtain ⟨em, es, ev⟩ := E
  rw [show ptr (some tb) = Value.pointer (some ⟨tb, 0, none⟩) from rfl]
  go_wp2_with fail
  refine (show Calls _ _ _ _ _ from HTL.out).mono ?_
  rintro e w2 ⟨rfl, hb2⟩
  have HB2 : Hid (Below w.heap.size w w2) := bel_to HB1.out hb2 (Nat.le_refl _)
  have hB : Blk w2 w.heap.size [.string ⟨#[]⟩, .int .i64 0, vz] 39 := keep_row HR1.out hb2
  obtain ⟨d0, d1, d2, df⟩ := row3 hB
  have df0 := df 0
  have df1 := df 1
  have df2 := df 2
  obtain ⟨W4, hW4⟩ : ∃ W4, W4 = ((w2.setCell ⟨w.heap.size, 0, none⟩ (.string em)).setCell ⟨w.heap.size, 1, none⟩ (.int .i64 es)).setCell ⟨w.heap.size, 2, none⟩ (vl ev) := ⟨_, rfl⟩
  have HBB : Hid (Blk W4 w.heap.size [.string em, .int .i64 es, vl ev] 39) := by
    show Blk _ _ _ _
    rw [hW4]; exact ((hB.set 0 (.string em)).set 1 (.int .i64 es)).set 2 (vl ev)
  have HB4 : Hid (Below w.heap.size w W4) := by
    rw [hW4]
    exact ((HB2.out.setCell (p := ⟨w.heap.size, 0, none⟩) (Nat.le_refl _) _).setCell (p := ⟨w.heap.size, 1, none⟩) (Nat.le_refl _) _).setCell (p := ⟨w.heap.size, 2, none⟩) (Nat.le_refl _) _
  clear hB hb2 df
  go_wp2
  rw [← hW4]
  clear hW4 d0 d1 d2 df0 df1 df2
  obtain ⟨g0, g1, g2, gf⟩ := row3 HBB.out
  clear gf
  exact bodyPost_ret (v := .tuple #[.agg #[.string em, .int .i64 es, vl ev], .bool true]) (by simp [results, Tryd.results15, go_sem, g0, g1, g2]) rfl ⟨by rw [HE.out], HB4.out⟩
end Go.Proofs.YtgbplghokciimaaDoor.I
