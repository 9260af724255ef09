import Derived.Test.YtpckadpnedfkkaaDoorGFSet
namespace Go.Proofs.YtpckadpnedfkkaaDoor
open Go.RowKit Gb
set_option linter.unusedVariables false
def sv (st : St) : Array Value := ws st.f ++ #[.bool st.any]
theorem sv_form (st : St) : ∃ x0 x1 x2 x3 : Int, sv st = #[.int .u64 x0, .int .u64 x1, .int .u64 x2, .int .u64 x3, .bool st.any] ∧ ws st.f = #[.int .u64 x0, .int .u64 x1, .int .u64 x2, .int .u64 x3] := ⟨_, _, _, _, rfl, rfl⟩
def stepT (l : List UInt8) : Value := .tuple #[.agg (sv (stepF l).1), .string (strB (stepF l).2)]
theorem Only.set {w w' : World} {g : Nat} (h : Only w w' g) (i : Nat) (v : Value) : Only w (w'.setCell ⟨g, i, none⟩ v) g :=
  h.trans ⟨rfl, rfl, rfl, by simp, fun k hk => heap_setCell_other _ _ _ _ hk⟩
theorem heap_set5 (w : World) (g T : Nat) (a b c d e v0 v1 v2 v3 v4 : Value) (h : w.heap[g]? = some (.cells #[a, b, c, d, e] T)) :
    (((((w.setCell ⟨g, 0, none⟩ v0).setCell ⟨g, 1, none⟩ v1).setCell ⟨g, 2, none⟩ v2).setCell ⟨g, 3, none⟩ v3).setCell ⟨g, 4, none⟩ v4).heap[g]? = some (.cells #[v0, v1, v2, v3, v4] T) ∧ Only w (((((w.setCell ⟨g, 0, none⟩ v0).setCell ⟨g, 1, none⟩ v1).setCell ⟨g, 2, none⟩ v2).setCell ⟨g, 3, none⟩ v3).setCell ⟨g, 4, none⟩ v4) g := by
  refine ⟨?_, (((((Only.refl w g).set _ _).set _ _).set _ _).set _ _).set _ _⟩
  rw [heap_setCell_same _ _ _ _ _ _ (heap_setCell_same _ _ _ _ _ _ (heap_setCell_same _ _ _ _ _ _ (heap_setCell_same _ _ _ _ _ _ (heap_setCell_same _ _ _ _ _ _ h))))]; rfl
theorem row5 {w : World} {g T : Nat} {v0 v1 v2 v3 v4 : Value} (h : w.heap[g]? = some (.cells #[v0, v1, v2, v3, v4] T)) :
    w.cell? ⟨g, 0, none⟩ = some v0 ∧ w.cell? ⟨g, 1, none⟩ = some v1 ∧ w.cell? ⟨g, 2, none⟩ = some v2 ∧ w.cell? ⟨g, 3, none⟩ = some v3 ∧ w.cell? ⟨g, 4, none⟩ = some v4 ∧ ∀ j, w.frozen? ⟨g, j, none⟩ = false := by
  refine ⟨?_, ?_, ?_, ?_, ?_, fun j => frozen_of_row _ _ _ _ _ h⟩ <;> rw [cell_of_row _ _ _ _ _ _ h] <;> rfl
theorem head_is {s : ByteArray} (h0 : 0 < s.size) {n : Nat} {c : UInt8} (e : s[0].toNat = n) (hc : c.toNat = n) : s.data.toList.getD 0 0 = c := by
  rw [getD_at s 0 h0]; exact UInt8.toNat_inj.1 (e.trans hc.symm)
theorem head_not {s : ByteArray} (h0 : 0 < s.size) {n : Nat} {c : UInt8} (e : s[0].toNat = n) (hc : c.toNat ≠ n) : ¬ s.data.toList.getD 0 0 = c := by
  rw [getD_at s 0 h0]; intro x; apply hc; rw [← x]; exact e
theorem turned_zero (w : World) : Calls Tryd.prog 34 #[.agg #[.int .u64 0, .int .u64 0, .int .u64 0, .int .u64 0]] w fun e w' => e = .returned (.agg (ws (fun _ => true))) ∧ Below w.heap.size w w' := by
  have := turned_any w (fun _ => false)
  rw [← Z4_eq] at this
  exact this
theorem one_alloc (w : World) (A : Obj) : (w.alloc A).heap[w.heap.size]? = some A := by
  show (w.heap.push A)[w.heap.size]? = some A
  rw [Array.getElem?_push, if_pos rfl]
theorem below_of_drew {B : Nat} {w w' : World} (h : Below B w.drew w') : Below B w w' := ⟨h.os, h.tape, h.output, h.size, h.block⟩
set_option maxHeartbeats 4000000 in
set_option maxRecDepth 20000 in
theorem firstStep_star (s : ByteArray) (h0 : 0 < s.size) (e0 : s[0].toNat = 42) (hm : s.size ≤ 140737488355328) (w : World) :
    Calls Tryd.prog 28 #[.string s] w fun e w' => e = .returned (stepT s.data.toList) ∧ Below w.heap.size w w' := by
  have HR : Hid (stepT s.data.toList = .tuple #[.agg (sv starSt), .string (s.extract 1 s.size)]) := by
    show _ = _
    unfold stepT stepF
    rw [if_pos (head_is h0 e0 rfl), ← ext_drop]; rfl
  obtain ⟨y0, y1, y2, y3, ey, ewy⟩ := sv_form starSt
  have HEY : Hid _ := ey
  have HTU : Hid (∀ w' : World, _) := fun w' => turned_zero w'
  rw [show (ws fun _ => true) = ws starSt.f from rfl, ewy] at HTU
  have h1 : 1 ≤ s.size := h0
  clear ey ewy
  go_enter Tryd.func28, Tryd.ntmps28
  go_wp2_with fail
  go_region_with ((go_at_call 34; refine (show Calls _ _ _ _ _ from HTU.out _).mono ?_; rintro e w2 ⟨rfl, hb2⟩; obtain ⟨d0, d1, d2, d3, d4, df⟩ := row5 ((hb2.block w.heap.size (by simp)).trans (one_alloc w _)); have HB2 : Hid _ := hb2; clear hb2))
  all_goals
    go_wp2
    obtain ⟨hF, hO⟩ := heap_set5 w2 w.heap.size 63 _ _ _ _ _ (.int .u64 y0) (.int .u64 y1) (.int .u64 y2) (.int .u64 y3) (.bool true) ((HB2.out.block w.heap.size (by simp)).trans (one_alloc w _))
    obtain ⟨k0, k1, k2, k3, k4, kf⟩ := row5 hF
    refine bodyPost_ret (v := .tuple #[.agg #[.int .u64 y0, .int .u64 y1, .int .u64 y2, .int .u64 y3, .bool true], .string (s.extract 1 s.size)]) (by simp [results, Tryd.results28, go_sem, k0, k1, k2, k3, k4]) rfl ⟨?_, ?_⟩
    · rw [HR.out, HEY.out]; rfl
    · exact (Below.alloc (Below.refl _ w) (Nat.le_refl _) _).trans ((below_of_drew (HB2.out.mono (by simp))).trans (hO.below (Nat.le_refl _)))
set_option maxHeartbeats 4000000 in
set_option maxRecDepth 20000 in
theorem firstStep_q (s : ByteArray) (h0 : 0 < s.size) (e0 : s[0].toNat = 63) (hm : s.size ≤ 140737488355328) (w : World) :
    Calls Tryd.prog 28 #[.string s] w fun e w' => e = .returned (stepT s.data.toList) ∧ Below w.heap.size w w' := by
  have HR : Hid (stepT s.data.toList = .tuple #[.agg (sv qSt), .string (s.extract 1 s.size)]) := by
    show _ = _
    unfold stepT stepF
    rw [if_neg (head_not h0 e0 (by decide)), if_pos (head_is h0 e0 rfl), ← ext_drop]; rfl
  obtain ⟨y0, y1, y2, y3, ey, ewy⟩ := sv_form qSt
  have HEY : Hid _ := ey
  have HTU : Hid (∀ w' : World, _) := fun w' => turned_zero w'
  rw [show (ws fun _ => true) = ws qSt.f from rfl, ewy] at HTU
  have h1 : 1 ≤ s.size := h0
  clear ey ewy
  go_enter Tryd.func28, Tryd.ntmps28
  go_wp2_with fail
  go_region_with ((go_at_call 34; refine (show Calls _ _ _ _ _ from HTU.out _).mono ?_; rintro e w2 ⟨rfl, hb2⟩; obtain ⟨d0, d1, d2, d3, d4, df⟩ := row5 ((hb2.block w.heap.size (by simp)).trans (one_alloc w _)); have HB2 : Hid _ := hb2; clear hb2))
  all_goals
    go_wp2
    obtain ⟨hF, hO⟩ := heap_set5 w2 w.heap.size 63 _ _ _ _ _ (.int .u64 y0) (.int .u64 y1) (.int .u64 y2) (.int .u64 y3) (.bool false) ((HB2.out.block w.heap.size (by simp)).trans (one_alloc w _))
    obtain ⟨k0, k1, k2, k3, k4, kf⟩ := row5 hF
    refine bodyPost_ret (v := .tuple #[.agg #[.int .u64 y0, .int .u64 y1, .int .u64 y2, .int .u64 y3, .bool false], .string (s.extract 1 s.size)]) (by simp [results, Tryd.results28, go_sem, k0, k1, k2, k3, k4]) rfl ⟨?_, ?_⟩
    · rw [HR.out, HEY.out]; rfl
    · exact (Below.alloc (Below.refl _ w) (Nat.le_refl _) _).trans ((below_of_drew (HB2.out.mono (by simp))).trans (hO.below (Nat.le_refl _)))
set_option maxHeartbeats 4000000 in
set_option maxRecDepth 20000 in
theorem firstStep_set (s : ByteArray) (h0 : 0 < s.size) (e0 : s[0].toNat = 91) (hm : s.size ≤ 140737488355328) (w : World) :
    Calls Tryd.prog 28 #[.string s] w fun e w' => e = .returned (stepT s.data.toList) ∧ Below w.heap.size w w' := by
  have h1 : 1 ≤ s.size := h0
  obtain ⟨s1, es1⟩ : ∃ s1, s.extract 1 s.size = s1 := ⟨_, rfl⟩
  have hl1 : s1.data.toList = s.data.toList.drop 1 := by rw [← es1, ext_drop]
  have hz1 : s1.size ≤ 140737488355328 := by rw [← es1, ext_size _ _ _ (Nat.le_refl _)]; omega
  obtain ⟨st, est⟩ : ∃ st : St, (⟨false, true, 0, (setF (s.data.toList.drop 1)).1⟩ : St) = st := ⟨_, rfl⟩
  obtain ⟨rr, err⟩ : ∃ rr, strB (setF (s.data.toList.drop 1)).2 = rr := ⟨_, rfl⟩
  have HR : Hid (stepT s.data.toList = .tuple #[.agg (sv st), .string rr]) := by
    show _ = _
    unfold stepT stepF
    rw [if_neg (head_not h0 e0 (by decide)), if_neg (head_not h0 e0 (by decide)), if_pos (head_is h0 e0 rfl), ← est, ← err]
  obtain ⟨y0, y1, y2, y3, ey, ewy⟩ := sv_form st
  have HEY : Hid _ := ey
  have hany : st.any = false := by rw [← est]
  rw [hany] at HEY
  have HFS : Hid (∀ w' : World, Calls Tryd.prog 35 #[.string s1] w' fun e w'' => e = .returned (.tuple #[.agg #[.int .u64 y0, .int .u64 y1, .int .u64 y2, .int .u64 y3], .string rr]) ∧ Below w'.heap.size w' w'') := fun w' => by
    have := firstSet_any s1 hz1 w'
    unfold setT at this
    rw [hl1, err, show (setF (s.data.toList.drop 1)).1 = st.f by rw [← est], ewy] at this
    exact this
  clear ey ewy est err hl1 hany
  go_enter Tryd.func28, Tryd.ntmps28
  go_wp2_with fail
  refine (show Calls _ _ _ _ _ from HFS.out _).mono ?_
  rintro e w2 ⟨rfl, hb2⟩
  have hg2 := (hb2.block w.heap.size (by simp)).trans (one_alloc w _)
  have HG2 : Hid _ := hg2
  have hsz : w.heap.size < w2.heap.size := row_lt hg2
  obtain ⟨d0, d1, d2, d3, d4, df⟩ := row5 hg2
  have HB2 : Hid (Below w.heap.size w w2) := (Below.alloc (Below.refl _ w) (Nat.le_refl _) _).trans (hb2.mono (by simp))
  clear hb2 hg2
  go_wp2
  obtain ⟨hF, hO⟩ := heap_set5 w2 w.heap.size 63 _ _ _ _ _ (.int .u64 y0) (.int .u64 y1) (.int .u64 y2) (.int .u64 y3) (.bool false) HG2.out
  have hlt := row_lt hF
  have hF2 := (heap_alloc_old _ (.cells #[.int .u64 y0, .int .u64 y1, .int .u64 y2, .int .u64 y3] 61) hlt).trans hF
  obtain ⟨k0, k1, k2, k3, k4, kf⟩ := row5 hF2
  refine bodyPost_ret (v := .tuple #[.agg #[.int .u64 y0, .int .u64 y1, .int .u64 y2, .int .u64 y3, .bool false], .string rr]) (by simp [results, Tryd.results28, go_sem, k0, k1, k2, k3, k4]) rfl ⟨?_, ?_⟩
  · rw [HR.out, HEY.out]
  · exact (HB2.out.trans (hO.below (Nat.le_refl _))).alloc (by omega) _
set_option maxHeartbeats 4000000 in
set_option maxRecDepth 20000 in
theorem firstStep_byte (s : ByteArray) (h0 : 0 < s.size) (e1 : ¬ s[0].toNat = 42) (e2 : ¬ s[0].toNat = 63) (e3 : ¬ s[0].toNat = 91) (hm : s.size ≤ 140737488355328) (w : World) :
    Calls Tryd.prog 28 #[.string s] w fun e w' => e = .returned (stepT s.data.toList) ∧ Below w.heap.size w w' := by
  obtain ⟨c, ec⟩ : ∃ c, s[0].toNat = c := ⟨_, rfl⟩
  rw [ec] at e1 e2 e3
  obtain ⟨x, exb⟩ : ∃ x, firstB s.data.toList = x := ⟨_, rfl⟩
  obtain ⟨rr, err⟩ : ∃ rr, dropB s (firstN s.data.toList) = rr := ⟨_, rfl⟩
  have HR : Hid (stepT s.data.toList = .tuple #[.agg (sv (oneSt x)), .string rr]) := by
    show _ = _
    unfold stepT stepF
    rw [if_neg (head_not (c := 42) h0 ec (fun x => e1 x.symm)), if_neg (head_not (c := 63) h0 ec (fun x => e2 x.symm)), if_neg (head_not (c := 91) h0 ec (fun x => e3 x.symm)), exb, ← err]
    congr 3
    rw [drop_full (dropB_list s (firstN s.data.toList))]
  obtain ⟨y0, y1, y2, y3, ey, ewy⟩ := sv_form (oneSt x)
  have HEY : Hid _ := ey
  have HFB : Hid (∀ w' : World, Calls Tryd.prog 24 #[.string s] w' fun e w'' => e = .returned (.tuple #[.int .u8 (x.toNat : Int), .string rr]) ∧ ∃ n, w'' = w'.drewN n) := fun w' => by
    have := firstByte_any s h0 hm w'
    unfold firstT at this
    rw [exb, err] at this
    exact this
  have HAD : Hid (∀ (w' : World) (g : Nat), w'.heap[g]? = some (.cells #[.int .u64 0, .int .u64 0, .int .u64 0, .int .u64 0, .bool false] 63) → Calls Tryd.prog 36 #[.pointer (some ⟨g, 0, none⟩), .int .u8 (x.toNat : Int)] w' fun e w'' => (∃ v, e = .returned v) ∧ w''.heap[g]? = some (.cells #[.int .u64 y0, .int .u64 y1, .int .u64 y2, .int .u64 y3, .bool false] 63) ∧ Only w' w'' g) := fun w' g hg => by
    have := add_any w' g 63 (fun _ => false) #[.bool false] x (by rw [hg, ← Z4_eq]; rfl)
    rw [show (orF (fun _ => false) fun b => b == x) = (oneSt x).f from rfl] at this
    rw [show ws (oneSt x).f ++ #[Value.bool false] = sv (oneSt x) from rfl, ey] at this
    exact this
  clear ey ewy exb err
  have q1 : ((c : Int) == 42) = false := by simp; omega
  have q2 : ((c : Int) == 63) = false := by simp; omega
  have q3 : ((c : Int) == 91) = false := by simp; omega
  go_enter Tryd.func28, Tryd.ntmps28
  go_wp2_with fail
  refine (show Calls _ _ _ _ _ from HFB.out _).mono ?_
  rintro e w2 ⟨rfl, nd, hw2⟩
  have HG1 : Hid (w2.heap[w.heap.size]? = some (.cells #[.int .u64 0, .int .u64 0, .int .u64 0, .int .u64 0, .bool false] 63) ∧ w2.heap[w.heap.size + 1]? = some (.cells #[.int .u64 0, .int .u64 0, .int .u64 0, .int .u64 0, .bool false] 63)) := by rw [hw2]; exact two_allocs w _ _
  have HB2 : Hid (Below w.heap.size w w2) := by rw [hw2]; exact below_dn (by go_grown) nd
  clear hw2
  go_wp2_with fail
  refine (show Calls _ _ _ _ _ from HAD.out _ (w.heap.size + 1) HG1.out.2).mono ?_
  rintro e w3 ⟨⟨v3, rfl⟩, hg3, ho3⟩
  have HO3 : Hid (Only w2 w3 (w.heap.size + 1)) := ho3
  have HG0 : Hid _ := (ho3.other w.heap.size (by omega)).trans HG1.out.1
  obtain ⟨c0, c1, c2, c3, c4, cf⟩ := row5 hg3
  obtain ⟨d0, d1, d2, d3, d4, df⟩ := row5 HG0.out
  clear ho3 hg3
  go_wp2
  obtain ⟨hF, hO⟩ := heap_set5 w3 w.heap.size 63 _ _ _ _ _ (.int .u64 y0) (.int .u64 y1) (.int .u64 y2) (.int .u64 y3) (.bool false) HG0.out
  obtain ⟨k0, k1, k2, k3, k4, kf⟩ := row5 hF
  refine bodyPost_ret (v := .tuple #[.agg #[.int .u64 y0, .int .u64 y1, .int .u64 y2, .int .u64 y3, .bool false], .string rr]) (by simp [results, Tryd.results28, go_sem, k0, k1, k2, k3, k4]) rfl ⟨?_, ?_⟩
  · rw [HR.out, HEY.out]; rfl
  · exact (HB2.out.trans (HO3.out.below (by omega))).trans (hO.below (Nat.le_refl _))
theorem firstStep_any (s : ByteArray) (h0 : 0 < s.size) (hm : s.size ≤ 140737488355328) (w : World) :
    Calls Tryd.prog 28 #[.string s] w fun e w' => e = .returned (stepT s.data.toList) ∧ Below w.heap.size w w' := by
  by_cases e1 : s[0].toNat = 42
  · exact firstStep_star s h0 e1 hm w
  by_cases e2 : s[0].toNat = 63
  · exact firstStep_q s h0 e2 hm w
  by_cases e3 : s[0].toNat = 91
  · exact firstStep_set s h0 e3 hm w
  exact firstStep_byte s h0 e1 e2 e3 hm w
end Go.Proofs.YtpckadpnedfkkaaDoor
