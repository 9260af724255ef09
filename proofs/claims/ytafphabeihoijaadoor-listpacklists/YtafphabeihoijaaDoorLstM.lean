import Derived.Test.YtafphabeihoijaaDoorFormM
import Derived.Test.YtafphabeihoijaaDoorApi3
import Derived.Test.YtafphabeihoijaaDoorOwnL
import Derived.Deep.CutBlock
import Derived.Deep.CutRange
import Derived.Deep.RegionHeld3
namespace Go.Proofs.YtafphabeihoijaaDoor
open Go.RowKit
set_option linter.unusedVariables false
/-- a copy of a row of texts, in a block of its own. -/
theorem twin_own (v : Value) (vs : List ByteArray) (hvl : vs.length * 16 ≤ 140737488351232) (w : World) (hv : SRow w v vs) (hnil : ∀ c, v = .slice none 0 c → c = 0) :
    Calls Tryd.prog 18 #[v] w fun e w' => ∃ v', e = .returned v' ∧ w'.ownsRow w.heap.size 9 1 v' vs.length (vs.map Value.string) ∧ Below w.heap.size w w' := by
  obtain ⟨i0, hi, hz0, hz1, hz2⟩ := info_parts info9
  have HO : Hid (w.ownsRow w.heap.size 9 1 (.slice none 0 0) 0 []) := ⟨rfl, Or.inl ⟨rfl, rfl⟩⟩
  rcases hv.forms hnil with ⟨rfl, rfl⟩ | ⟨ad, c, rfl, hc⟩
  · clear hv hnil hvl
    go_enter Tryd.func18, Tryd.ntmps18
    go_wp2_with (at_builtin; go_must (refine wpList_append_own_none rfl _ _ 22 rfl w.heap.size 9 i0 1 Tryd.underlying22 hi _ _ _ rfl HO.out rfl ?_))
    go_wp2
    go_ret
    exact ⟨_, rfl, HO.out, Below.refl _ _⟩
  · have HC : Hid _ := hc
    have HL : Hid (vs.length * 16 ≤ 140737488351232) := hvl
    clear hv hnil hc hvl
    go_enter Tryd.func18, Tryd.ntmps18
    go_wp2_with (at_builtin; go_must (refine wpList_append_own _ rfl _ _ 22 rfl w.heap.size 9 i0 (.string ⟨#[]⟩) 1 16 Tryd.underlying22 hi hz0 hz1 hz2 rfl (by decide) _ _ _ rfl HO.out ad vs.length c (vs.map Value.string) rfl ?t0 HC.out ?t1 ?t2 ?t3 (Nat.le_refl _) ?_))
    case t0 => simp
    case t1 => intro u hu; obtain ⟨x, _, rfl⟩ := List.mem_map.1 hu; rfl
    case t2 => have := HL.out; unfold maxLen; omega
    case t3 => have := HL.out; omega
    intro v' w1 hown' hgrow hiff
    have HS : Hid (w1.ownsRow w.heap.size 9 1 v' vs.length (vs.map Value.string)) := by
      exact hown'
    have HB : Hid (Below w.heap.size w w1) := (Below.refl _ w).grown hgrow (Nat.le_refl _) (fun k hk => by cases hk)
    clear hown' hgrow hiff
    go_wp2
    go_ret
    exact ⟨_, rfl, HS.out, HB.out⟩
/-- append of a row of texts to a row of its own. -/
theorem wpList_append_srow {w : World} {ops : Array Oper} {rest : List Oper} {o : Oper} {a : Act} {Q : Exit → Act → World → Prop} (hg : o.guard = none) (s x : Operand)
    (hop : o.op = Op.call { callee := Callee.builtin Builtin.append, args := #[s, x], argTypes := #[22, 22] })
    (base : Nat) (v : Value) (n : Nat) (xs : List Value) (hs : a.eval s = v) (hown : w.ownsRow base 9 1 v n xs) (xv : Value) (ys : List ByteArray) (hx : a.eval x = xv) (hy : SRow w xv ys) (hnil : ∀ c, xv = .slice none 0 c → c = 0)
    (hl : (n + ys.length) * 16 ≤ 140737488351232) (hb : base ≤ w.heap.size)
    (h : ∀ v' w', w'.ownsRow base 9 1 v' (n + ys.length) (xs ++ ys.map Value.string) → w.grownBy w' v.ownBlock → wpList Tryd.prog ops Q rest (a.put o.dst v') w') :
    wpList Tryd.prog ops Q (o :: rest) a w := by
  obtain ⟨i0, hi, hz0, hz1, hz2⟩ := info_parts info9
  rcases hy.forms hnil with ⟨rfl, rfl⟩ | ⟨ad, c, rfl, hc⟩
  · refine wpList_append_own_none hg s x 22 hop base 9 i0 1 Tryd.underlying22 hi v n xs hs hown hx ?_
    exact h v w (by simpa using hown) (World.grownBy.refl w _)
  · refine wpList_append_own _ hg s x 22 hop base 9 i0 (.string ⟨#[]⟩) 1 16 Tryd.underlying22 hi hz0 hz1 hz2 rfl (by decide) v n xs hs hown ad ys.length c (ys.map Value.string) hx (by simp) hc ?_ ?_ ?_ hb ?_
    · intro u hu; obtain ⟨y, _, rfl⟩ := List.mem_map.1 hu; rfl
    · unfold maxLen; omega
    · omega
    · intro v' w' h1 h2 h3; exact h v' w' h1 h2
set_option maxHeartbeats 1000000 in
set_option maxRecDepth 100000 in
theorem lsize_any (v : Value) (vs : List ByteArray) (hvl : vs.length ≤ 1048576) (hvm : ∀ x ∈ vs, x.size ≤ 524288) (w : World) (hv : SRow w v vs) (hw : Lay w) :
    Calls Tryd.prog 20 #[v] w fun e w' => e = .returned (.int .i64 ((7 + sumV vs : Nat) : Int)) ∧ Below w.heap.size w w' := by
  have HW : Hid (Lay w) := hw
  have HV : Hid (SRow w v vs) := hv
  have HSZ : Hid (∀ (X : ByteArray), X ∈ vs → ∀ W, Lay W → Calls Tryd.prog 22 #[.string X] W fun e w' => e = .returned (.int .i64 (sizeV X : Nat)) ∧ Below W.heap.size W w') := fun X hX W hW => Size_any X (by have := hvm X hX; omega) W hW
  have HSN : Hid (∀ j (h : j < vs.length), sumV (vs.take (j + 1)) = sumV (vs.take j) + sizeV vs[j]) := sumV_snoc vs
  have HSL : Hid (∀ j, sumV (vs.take j) ≤ 524296 * 1048576) := fun j => by
    have h1 := sumV_le (vs.take j)
    have h2 : (vs.take j).length ≤ 1048576 := by rw [List.length_take]; omega
    exact Nat.le_trans h1 (Nat.mul_le_mul_left _ h2)
  obtain ⟨P, c, rfl⟩ := hv.form
  clear hv hw hvm
  go_enter Tryd.func20, Tryd.ntmps20
  go_wp2
  go_loopw [3, 4] (fun cn ci wr => ∃ i : Nat, i ≤ vs.length ∧ ci = .int .i64 (i : Int) ∧ cn = .int .i64 ((7 + sumV (vs.take i) : Nat) : Int) ∧ Below w.heap.size w wr) (fun _ ci _ => vs.length - (intOf ci).toNat)
  case atStart => exact ⟨0, by omega, rfl, by simp [sumV], Below.refl _ _⟩
  case round =>
    obtain ⟨i, hi, rfl, rfl, hbr⟩ := hrel
    have HBR : Hid (Below w.heap.size w wr) := hbr
    clear hbr
    by_cases hlt : i < vs.length
    · obtain ⟨g, o, hP, hc1⟩ := (HV.out.on HBR.out).cell i hlt
      subst hP
      have hz0 : (0 : Int) ≤ (i : Int) := by omega
      have hz1 : (i : Int) < (vs.length : Int) := by omega
      have hsn := HSN.out i hlt
      have hle := HSL.out (i + 1)
      have HSX := HSZ.out vs[i] (List.getElem_mem hlt)
      generalize vs[i] = X at hc1 hsn HSX
      generalize sizeV X = z at hsn HSX
      generalize sumV (vs.take i) = A at hsn ⊢
      generalize hB : sumV (vs.take (i + 1)) = B at hsn hle
      have HBV : Hid _ := hB
      have HSXH : Hid _ := HSX
      clear HSX hB
      have HLY : Hid (Lay wr) := HW.out.on HBR.out
      go_wp2_with fail
      refine (show Calls _ _ _ _ _ from HSXH.out _ HLY.out).mono ?_
      rintro e w2 ⟨rfl, hb2⟩
      have HB2 : Hid (Below w.heap.size w w2) := bel_to HBR.out hb2 (Nat.le_refl _)
      clear hb2
      go_wp2
      refine ⟨⟨i + 1, hlt, rfl, ?_, HB2.out⟩, by simp [intOf]; omega⟩
      rw [HBV.out]
      refine congrArg (Value.int .i64) ?_
      omega
    · have he : i = vs.length := by omega
      subst he
      have HT : Hid (vs.take vs.length = vs) := List.take_length
      go_wp2
      go_ret
      exact ⟨by simp [HT.out], HBR.out⟩
end Go.Proofs.YtafphabeihoijaaDoor
namespace Go.Proofs.YtafphabeihoijaaDoor
open Go.RowKit
set_option linter.unusedVariables false
theorem row4 {w : World} {g T : Nat} {v0 v1 v2 v3 : Value} (h : w.heap[g]? = some (.cells #[v0, v1, v2, v3] T)) :
    w.cell? ⟨g, 0, none⟩ = some v0 ∧ w.cell? ⟨g, 1, none⟩ = some v1 ∧ w.cell? ⟨g, 2, none⟩ = some v2 ∧ w.cell? ⟨g, 3, none⟩ = some v3 ∧ ∀ j, w.frozen? ⟨g, j, none⟩ = false := by
  refine ⟨?_, ?_, ?_, ?_, fun j => frozen_of_row _ _ _ _ _ h⟩ <;> rw [cell_of_row _ _ _ _ _ _ h] <;> rfl
/-- one step of the script, as it lies. -/
structure OpIs (W : World) (G O j : Nat) (kd I N : Int) (tv : Value) (ts : List ByteArray) : Prop where
  c0 : W.cell? ⟨G, O + j * 4, none⟩ = some (.int .i64 kd)
  c1 : W.cell? ⟨G, O + j * 4 + 1, none⟩ = some (.int .i64 I)
  c2 : W.cell? ⟨G, O + j * 4 + 2, none⟩ = some (.int .i64 N)
  c3 : W.cell? ⟨G, O + j * 4 + 3, none⟩ = some tv
  row : SRow W tv ts
  nil : ∀ c, tv = .slice none 0 c → c = 0
  len : ts.length * 16 ≤ 140737488351232
  each : ∀ x ∈ ts, x.size ≤ 281474976710656
  i64 : -9223372036854775808 ≤ I ∧ I ≤ 9223372036854775807 ∧ -9223372036854775808 ≤ N ∧ N ≤ 9223372036854775807
theorem OpIs.on {W W' : World} {G O j : Nat} {kd I N : Int} {tv : Value} {ts : List ByteArray} (h : OpIs W G O j kd I N tv ts) (hb : Below W.heap.size W W') : OpIs W' G O j kd I N tv ts :=
  ⟨cell_on h.c0 hb, cell_on h.c1 hb, cell_on h.c2 hb, cell_on h.c3 hb, h.row.on hb, h.nil, h.len, h.each, h.i64⟩
/-- the list that is held beside the listpack. -/
def Own (B : Nat) (W : World) (v : Value) (its : List LM.Item) : Prop := W.ownsRow B 9 1 v its.length ((valsOf its).map Value.string)
theorem Own.srow {B : Nat} {W : World} {v : Value} {its : List LM.Item} (h : Own B W v its) : SRow W v (valsOf its) ∧ ∀ c, v = .slice none 0 c → c = 0 := by
  refine ⟨srow_of_own (n := its.length) h (by rw [vals_len]), fun c hc => ?_⟩
  obtain ⟨_, ⟨h1, _⟩ | ⟨g, cap, cur, h1, _⟩⟩ := h
  · exact nil_cap (h1.symm.trans hc)
  · rw [h1] at hc; cases hc
theorem Own.form {B : Nat} {W : World} {v : Value} {its : List LM.Item} (h : Own B W v its) : (v = .slice none 0 0 ∧ its.length = 0) ∨ ∃ g c, v = .slice (some ⟨g, 0, none⟩) its.length c ∧ RowAt W g c ((valsOf its).map Value.string) ∧ its.length ≤ c ∧ B ≤ g ∧ c ≤ maxLen := by
  have h0 := h
  obtain ⟨_, ⟨h1, h2⟩ | ⟨g, cap, cur, h1, hb, hg, q1, q2, q3, q4⟩⟩ := h
  · exact Or.inl ⟨h1, h2⟩
  · subst h1
    exact Or.inr ⟨g, cap, rfl, RowAt.of h0, q1, hb, q2⟩
theorem Own.keep {B : Nat} {W W' : World} {v : Value} {its : List LM.Item} (h : Own B W v its) (hb : Below W.heap.size W W') : Own B W' v its := by
  obtain ⟨h0, ⟨h1, h2⟩ | ⟨g, cap, cur, h1, hb', hg, q⟩⟩ := h
  · exact ⟨h0, Or.inl ⟨h1, h2⟩⟩
  · exact ⟨h0, Or.inr ⟨g, cap, cur, h1, hb', keep_row hg hb, q⟩⟩
/-- what the switch leaves behind. -/
def AfterSw (w0 : World) (lv : Value) (its : List LM.Item) (e q nx : Value) (wc : World) : Prop :=
  (e = .int .i64 0 ∧ ∃ its' QB, q = .string QB ∧ LM.Pk QB.data.toList its' ∧ Own w0.heap.size wc nx its' ∧ Below w0.heap.size w0 wc) ∨
  (∃ E : Int, (E = 1 ∨ E = 2 ∨ E = 6) ∧ e = .int .i64 E ∧ q = .string ⟨#[]⟩ ∧ Own w0.heap.size wc lv its ∧ Below w0.heap.size w0 wc)
theorem pk_sumV {p : ByteArray} {l : List LM.Item} (h : LM.Pk p.data.toList l) : p.size = 7 + sumV (valsOf l) ∧ (∀ x ∈ valsOf l, x.size ≤ 524288) ∧ (valsOf l).length ≤ 1048576 := by
  have hv : ∀ x ∈ valsOf l, x.size ≤ 524288 := fun x hx => by
    obtain ⟨it, hit, rfl⟩ := List.mem_map.1 hx
    rw [strB_size]; exact LM.val_len it (h.wf it hit)
  refine ⟨?_, hv, by rw [vals_len]; exact h.len⟩
  rw [← bsum_items _ hv, vals_its l h.wf, ← list_len, h.eq, LM.build_len]
theorem own_base {B B' : Nat} {W : World} {v : Value} {n : Nat} {xs : List Value} (h : W.ownsRow B 9 1 v n xs) (hB : B' ≤ B) : W.ownsRow B' 9 1 v n xs := by
  obtain ⟨h0, h | ⟨g, cap, cur, h1, hb, q⟩⟩ := h
  · exact ⟨h0, Or.inl h⟩
  · exact ⟨h0, Or.inr ⟨g, cap, cur, h1, Nat.le_trans hB hb, q⟩⟩
theorem vals_app (a b : List LM.Item) : valsOf (a ++ b) = valsOf a ++ valsOf b := by simp [valsOf]
theorem vals_new (its : List LM.Item) (i n : Nat) (vs : List ByteArray) : valsOf (newI its i n vs) = (valsOf its).take i ++ (vs ++ (valsOf its).drop (i + n)) := by
  unfold newI
  rw [vals_app, vals_app, its_vals]
  simp [valsOf, List.map_take, List.map_drop]
theorem new_len (its : List LM.Item) (i n : Nat) (vs : List ByteArray) (h : i + n ≤ its.length) : (newI its i n vs).length = i + (vs.length + (its.length - (i + n))) := by
  unfold newI; simp; omega
theorem pk_new {p : List UInt8} {its : List LM.Item} (hp : LM.Pk p its) {i n : Nat} {vs : List ByteArray} (h : i + n ≤ its.length) (hf : fitI its i n vs) : LM.Pk (LM.build (newI its i n vs)) (newI its i n vs) := by
  obtain ⟨h1, h2, h3⟩ := hf
  refine ⟨fun it hit => ?_, by rw [new_len its i n vs h]; omega, rfl, by rw [LM.build_len]; exact h3⟩
  unfold newI at hit
  rcases List.mem_append.1 hit with h | h
  · exact hp.wf it (List.mem_of_mem_take h)
  · rcases List.mem_append.1 h with h | h
    · obtain ⟨v, hv, rfl⟩ := List.mem_map.1 h
      exact LM.itemOf_wf _ (by rw [list_len]; exact h1 v hv)
    · exact hp.wf it (List.mem_of_mem_drop h)
theorem RowAt.take {W : World} {g c : Nat} {vs : List ByteArray} (h : RowAt W g c (vs.map Value.string)) (k C : Nat) (hk : k ≤ vs.length) : SRow W (.slice (some ⟨g, 0, none⟩) k C) (vs.take k) := by
  refine Or.inr ⟨g, 0, C, by rw [List.length_take, Nat.min_eq_left hk], fun j hj => ?_⟩
  rw [List.length_take] at hj
  rw [Nat.zero_add, h.cell j (.string vs[j]) (by rw [List.getElem?_map, List.getElem?_eq_getElem (by omega)]; rfl), List.getElem_take]
theorem RowAt.drop {W : World} {g c : Nat} {vs : List ByteArray} (h : RowAt W g c (vs.map Value.string)) (k C : Nat) (hk : k ≤ vs.length) : SRow W (.slice (some ⟨g, k, none⟩) (vs.length - k) C) (vs.drop k) := by
  refine Or.inr ⟨g, k, C, by rw [List.length_drop], fun j hj => ?_⟩
  rw [List.length_drop] at hj
  rw [h.cell (k + j) (.string vs[k + j]) (by rw [List.getElem?_map, List.getElem?_eq_getElem (by omega)]; rfl), List.getElem_drop]
theorem fit_del {p : List UInt8} {its : List LM.Item} (hp : LM.Pk p its) {a d : Nat} (h : a + d ≤ its.length) : fitI its a d [] := by
  have h1 := hp.size
  rw [hp.eq, LM.build_len] at h1
  have h2 := hp.len
  refine ⟨by simp, by simp; omega, ?_⟩
  have e : newI its a d [] = its.take a ++ its.drop (a + d) := by unfold newI; simp
  rw [e, LM.bsum_app]
  have h3 : LM.bsum (its.take (a + d)) + LM.bsum (its.drop (a + d)) = LM.bsum its := by rw [← LM.bsum_app, List.take_append_drop]
  have h4 : LM.bsum (its.take a) ≤ LM.bsum (its.take (a + d)) := by
    have := LM.bsum_take_le (its.take (a + d)) a
    rwa [List.take_take, show min a (a + d) = a by omega] at this
  omega
theorem take_set (vs : List ByteArray) (k : Nat) (x : ByteArray) (h : k < vs.length) : vs.take k ++ ([x] ++ vs.drop (k + 1)) = vs.set k x := by
  rw [List.set_eq_take_append_cons_drop, if_pos h]; rfl
theorem own_some {B : Nat} {W : World} {v : Value} {n : Nat} {xs : List Value} (h : W.ownsRow B 9 1 v n xs) (hn : 0 < n) : ∃ g c, v = .slice (some ⟨g, 0, none⟩) n c ∧ RowAt W g c xs ∧ B ≤ g ∧ c ≤ maxLen := by
  have h0 := h
  obtain ⟨_, ⟨h1, h2⟩ | ⟨g, cap, cur, h1, hb, hg, q1, q2, q3, q4⟩⟩ := h
  · omega
  · subst h1; exact ⟨g, cap, rfl, RowAt.of h0, hb, q2⟩
theorem wp_act {P : Program} {c : Code} {Q : Exit → Act → World → Prop} {a : Act} {w : World} (h : ∀ a0, a0 = a → c.wp P Q a0 w) : c.wp P Q a w := h a rfl
theorem srow_zero {W : World} {P : Option Addr} {m c : Nat} {ys : List ByteArray} (hm : m = 0) (hy : ys = []) : SRow W (.slice P m c) ys := by
  subst hm; subst hy; exact Or.inl ⟨rfl, P, c, rfl⟩
theorem RowAt.tail {W : World} {g c : Nat} {vs : List ByteArray} (h : RowAt W g c (vs.map Value.string)) (k m C : Nat) (hk : k ≤ vs.length) (hm : m = vs.length - k) : SRow W (.slice (some ⟨g, k, none⟩) m C) (vs.drop k) := by
  subst hm; exact h.drop k C hk
end Go.Proofs.YtafphabeihoijaaDoor
namespace Go.Proofs.YtafphabeihoijaaDoor
open Go.RowKit
set_option linter.unusedVariables false
theorem eval_same {a : Act} {d : Nat} {v : Value} (h : d < a.tmps.size) : (a.put (some d) v).eval (.tmp d) = v := by
  simp [Act.put, Act.eval, h]
theorem eval_other {a : Act} {d t : Nat} {v : Value} (h : d ≠ t) : (a.put (some d) v).eval (.tmp t) = a.eval (.tmp t) := by
  simp [Act.put, Act.eval, h]
theorem put_size {a : Act} {d : Nat} {v : Value} : (a.put (some d) v).tmps.size = a.tmps.size := by simp [Act.put]
theorem ev_getD {a : Act} {t : Nat} {v : Value} (h : a.eval (.tmp t) = v) : a.tmps.getD t undef = v := h
theorem ev_get? {a : Act} {t : Nat} {v : Value} (h : a.eval (.tmp t) = v) : (a.tmps[t]?).getD undef = v := by
  have := ev_getD h; simpa using this
set_option maxHeartbeats 2000000 in
set_option maxRecDepth 100000 in
theorem set_region {Q : Exit → Act → World → Prop} (a0 : Act) (W3 : World) (P X QB : ByteArray) (I E : Int) (ko tg to_ n TC : Nat) (f3 : a0.eval (.tmp 3) = .string P) (f7 : a0.eval (.tmp 7) = .pointer (some ⟨ko, 0, none⟩)) (tsz : a0.tmps.size = 198)
    (d1 : W3.cell? ⟨ko, 1, none⟩ = some (.int .i64 I)) (d3 : W3.cell? ⟨ko, 3, none⟩ = some (.slice (some ⟨tg, to_, none⟩) n TC)) (hn : (0 : Int) < (n : Int)) (hx0 : W3.cell? ⟨tg, to_, none⟩ = some (.string X))
    (HC : Calls Tryd.prog 17 #[.string P, .int .i64 I, .string X] W3.drew fun e w' => e = .returned (.tuple #[.string QB, .int .i64 E]) ∧ Below W3.drew.heap.size W3.drew w')
    (hQ : ∀ c (a : Act) (d : Nat) v w, Q (.panic c) (a.put (some d) v) w → Q (.panic c) a w)
    (hK : ∀ w4, Below W3.heap.size W3 w4 → Q .normal ((((((((((((((a0.put (some 138) (.string P)).put (some 139) (.pointer (some ⟨ko, 1, none⟩))).put (some 140) (.int .i64 I)).put (some 141) (.pointer (some ⟨ko, 3, none⟩))).put (some 142) (.slice (some ⟨tg, to_, none⟩) n TC)).put (some 143) (.pointer (some ⟨tg, to_, none⟩))).put (some 144) (.string X)).put (some 145) (.tuple #[.string QB, .int .i64 E])).put (some 137) (.tuple #[.string QB, .int .i64 E])).put (some 146) (.string QB)).put (some 147) (.int .i64 E)).put (some 8) (.string QB)).put (some 4) (.int .i64 E))) w4) : (Code.region 24 (#[{ dst := some 138, op := Op.move (Operand.tmp 3), type := 9, pos := "law.go:112", after := #[], guard := none }, { dst := some 139, op := Op.fieldAddr 39 (Operand.tmp 7) 1, type := 0, pos := "law.go:112", after := #[], guard := none }, { dst := some 140, op := Op.load 3 (Operand.tmp 139), type := 3, pos := "law.go:112", after := #[{ on := 1, ground := Ground.data }], guard := none }, { dst := some 141, op := Op.fieldAddr 39 (Operand.tmp 7) 3, type := 0, pos := "law.go:112", after := #[], guard := none }, { dst := some 142, op := Op.load 22 (Operand.tmp 141), type := 22, pos := "law.go:112", after := #[{ on := 3, ground := Ground.data }], guard := none }, { dst := some 143, op := Op.indexAddr 22 (Operand.tmp 142) (Operand.const (Value.int IntKind.i64 0)), type := 0, pos := "law.go:112", after := #[{ on := 4, ground := Ground.data }], guard := none }, { dst := some 144, op := Op.load 9 (Operand.tmp 143), type := 9, pos := "law.go:112", after := #[{ on := 5, ground := Ground.data }], guard := none }, { dst := some 145, op := Op.call { callee := Callee.value (Operand.func 17), args := #[Operand.tmp 138, Operand.tmp 140, Operand.tmp 144], argTypes := #[9, 3, 9] }, type := 27, pos := "law.go:112", after := #[{ on := 0, ground := Ground.data }, { on := 2, ground := Ground.data }, { on := 6, ground := Ground.data }], guard := none }, { dst := some 137, op := Op.move (Operand.tmp 145), type := 27, pos := "law.go:112", after := #[{ on := 7, ground := Ground.data }], guard := none }, { dst := some 146, op := Op.extract (Operand.tmp 137) 0, type := 9, pos := "law.go:112", after := #[{ on := 8, ground := Ground.data }], guard := none }, { dst := some 147, op := Op.extract (Operand.tmp 137) 1, type := 23, pos := "law.go:112", after := #[{ on := 8, ground := Ground.data }, { on := 11, ground := Ground.gcOnly Departure.lateStores }], guard := none }, { dst := some 8, op := Op.assign (Operand.tmp 146), type := 9, pos := "law.go:112", after := #[{ on := 9, ground := Ground.data }, { on := 7, ground := Ground.chain }, { on := 0, ground := Ground.phase }, { on := 1, ground := Ground.phase }, { on := 2, ground := Ground.phase }, { on := 3, ground := Ground.phase }, { on := 4, ground := Ground.phase }, { on := 5, ground := Ground.phase }, { on := 6, ground := Ground.phase }, { on := 7, ground := Ground.phase }, { on := 8, ground := Ground.phase }, { on := 9, ground := Ground.phase }, { on := 10, ground := Ground.textOnly Departure.lateStores }], guard := none }, { dst := some 4, op := Op.assign (Operand.tmp 147), type := 23, pos := "law.go:112", after := #[{ on := 10, ground := Ground.data }, { on := 11, ground := Ground.chain }, { on := 0, ground := Ground.phase }, { on := 1, ground := Ground.phase }, { on := 2, ground := Ground.phase }, { on := 3, ground := Ground.phase }, { on := 4, ground := Ground.phase }, { on := 5, ground := Ground.phase }, { on := 6, ground := Ground.phase }, { on := 7, ground := Ground.phase }, { on := 8, ground := Ground.phase }, { on := 9, ground := Ground.phase }, { on := 10, ground := Ground.phase }, { on := 11, ground := Ground.phase }], guard := none }] : Array Oper) true).wp Tryd.prog Q a0 W3 := by
  have hS0 : (fun w' : World => w'.cell? ⟨ko, 1, none⟩ = some (.int .i64 I) ∧ w'.cell? ⟨ko, 3, none⟩ = some (.slice (some ⟨tg, to_, none⟩) n TC) ∧ w'.cell? ⟨tg, to_, none⟩ = some (.string X)) W3.drew := ⟨d1, d3, hx0⟩
  have HCC : Hid (Calls Tryd.prog 17 #[.string P, .int .i64 I, .string X] W3.drew fun e w' => e = .returned (.tuple #[.string QB, .int .i64 E]) ∧ Below W3.drew.heap.size W3.drew w') := HC
  have HKK : Hid _ := hK
  have HQ : Hid _ := hQ
  clear HC hK hQ d1 d3 hx0
  refine wp_region_held_drew (S := fun w' : World => w'.cell? ⟨ko, 1, none⟩ = some (.int .i64 I) ∧ w'.cell? ⟨ko, 3, none⟩ = some (.slice (some ⟨tg, to_, none⟩) n TC) ∧ w'.cell? ⟨tg, to_, none⟩ = some (.string X)) (by kernel_rfl) hS0 (fun hS => ?_)
  clear hS0
  refine wpAnyH_take (i := 0) (oi := { dst := some 138, op := Op.move (Operand.tmp 3), type := 9, pos := "law.go:112", after := #[], guard := none }) (v := .string P) rfl (by kernel_rfl) (by kernel_rfl) (by kernel_rfl) (fun _ _ _ h => HQ.out _ _ _ _ _ h) (Or.inl ⟨by rfl, fun w hSw => ?y0⟩) hS ?_
  case y0 =>
    obtain ⟨s1, s2, s3⟩ := hSw
    have g3 := ev_getD f3
    have k3 := ev_get? f3
    first | (go_simp; done) | (go_simp; rfl) | (go_simp; intro h; omega)
  show wpAnyH _ _ _ _ _ _ _ (a0.put (some 138) (.string P)) _
  obtain ⟨a1, ha1⟩ : ∃ a, a = a0.put (some 138) (.string P) := ⟨_, rfl⟩
  rw [← ha1]
  have f3 : a1.eval (.tmp 3) = .string P := by rw [ha1]; exact (eval_other (by decide)).trans f3
  have f7 : a1.eval (.tmp 7) = .pointer (some ⟨ko, 0, none⟩) := by rw [ha1]; exact (eval_other (by decide)).trans f7
  have f138 : a1.eval (.tmp 138) = .string P := by rw [ha1]; exact eval_same (by rw [tsz]; decide)
  have tsz : a1.tmps.size = 198 := by rw [ha1, put_size]; exact tsz
  have HA1 : Hid _ := ha1
  clear ha1
  refine wpAnyH_take (i := 1) (oi := { dst := some 139, op := Op.fieldAddr 39 (Operand.tmp 7) 1, type := 0, pos := "law.go:112", after := #[], guard := none }) (v := .pointer (some ⟨ko, 1, none⟩)) rfl (by kernel_rfl) (by kernel_rfl) (by kernel_rfl) (fun _ _ _ h => HQ.out _ _ _ _ _ h) (Or.inl ⟨by rfl, fun w hSw => ?y1⟩) hS ?_
  case y1 =>
    obtain ⟨s1, s2, s3⟩ := hSw
    have g7 := ev_getD f7
    have k7 := ev_get? f7
    first | (go_simp; done) | (go_simp; rfl) | (go_simp; intro h; omega)
  show wpAnyH _ _ _ _ _ _ _ (a1.put (some 139) (.pointer (some ⟨ko, 1, none⟩))) _
  obtain ⟨a2, ha2⟩ : ∃ a, a = a1.put (some 139) (.pointer (some ⟨ko, 1, none⟩)) := ⟨_, rfl⟩
  rw [← ha2]
  have f3 : a2.eval (.tmp 3) = .string P := by rw [ha2]; exact (eval_other (by decide)).trans f3
  have f7 : a2.eval (.tmp 7) = .pointer (some ⟨ko, 0, none⟩) := by rw [ha2]; exact (eval_other (by decide)).trans f7
  have f138 : a2.eval (.tmp 138) = .string P := by rw [ha2]; exact (eval_other (by decide)).trans f138
  have f139 : a2.eval (.tmp 139) = .pointer (some ⟨ko, 1, none⟩) := by rw [ha2]; exact eval_same (by rw [tsz]; decide)
  have tsz : a2.tmps.size = 198 := by rw [ha2, put_size]; exact tsz
  have HA2 : Hid _ := ha2
  clear ha2
  refine wpAnyH_take (i := 2) (oi := { dst := some 140, op := Op.load 3 (Operand.tmp 139), type := 3, pos := "law.go:112", after := #[{ on := 1, ground := Ground.data }], guard := none }) (v := .int .i64 I) rfl (by kernel_rfl) (by kernel_rfl) (by kernel_rfl) (fun _ _ _ h => HQ.out _ _ _ _ _ h) (Or.inl ⟨by rfl, fun w hSw => ?y2⟩) hS ?_
  case y2 =>
    obtain ⟨s1, s2, s3⟩ := hSw
    have g139 := ev_getD f139
    have k139 := ev_get? f139
    first | (go_simp; done) | (go_simp; rfl) | (go_simp; intro h; omega)
  show wpAnyH _ _ _ _ _ _ _ (a2.put (some 140) (.int .i64 I)) _
  obtain ⟨a3, ha3⟩ : ∃ a, a = a2.put (some 140) (.int .i64 I) := ⟨_, rfl⟩
  rw [← ha3]
  have f3 : a3.eval (.tmp 3) = .string P := by rw [ha3]; exact (eval_other (by decide)).trans f3
  have f7 : a3.eval (.tmp 7) = .pointer (some ⟨ko, 0, none⟩) := by rw [ha3]; exact (eval_other (by decide)).trans f7
  have f138 : a3.eval (.tmp 138) = .string P := by rw [ha3]; exact (eval_other (by decide)).trans f138
  have f139 : a3.eval (.tmp 139) = .pointer (some ⟨ko, 1, none⟩) := by rw [ha3]; exact (eval_other (by decide)).trans f139
  have f140 : a3.eval (.tmp 140) = .int .i64 I := by rw [ha3]; exact eval_same (by rw [tsz]; decide)
  have tsz : a3.tmps.size = 198 := by rw [ha3, put_size]; exact tsz
  have HA3 : Hid _ := ha3
  clear ha3
  refine wpAnyH_take (i := 3) (oi := { dst := some 141, op := Op.fieldAddr 39 (Operand.tmp 7) 3, type := 0, pos := "law.go:112", after := #[], guard := none }) (v := .pointer (some ⟨ko, 3, none⟩)) rfl (by kernel_rfl) (by kernel_rfl) (by kernel_rfl) (fun _ _ _ h => HQ.out _ _ _ _ _ h) (Or.inl ⟨by rfl, fun w hSw => ?y3⟩) hS ?_
  case y3 =>
    obtain ⟨s1, s2, s3⟩ := hSw
    have g7 := ev_getD f7
    have k7 := ev_get? f7
    first | (go_simp; done) | (go_simp; rfl) | (go_simp; intro h; omega)
  show wpAnyH _ _ _ _ _ _ _ (a3.put (some 141) (.pointer (some ⟨ko, 3, none⟩))) _
  obtain ⟨a4, ha4⟩ : ∃ a, a = a3.put (some 141) (.pointer (some ⟨ko, 3, none⟩)) := ⟨_, rfl⟩
  rw [← ha4]
  have f3 : a4.eval (.tmp 3) = .string P := by rw [ha4]; exact (eval_other (by decide)).trans f3
  have f7 : a4.eval (.tmp 7) = .pointer (some ⟨ko, 0, none⟩) := by rw [ha4]; exact (eval_other (by decide)).trans f7
  have f138 : a4.eval (.tmp 138) = .string P := by rw [ha4]; exact (eval_other (by decide)).trans f138
  have f139 : a4.eval (.tmp 139) = .pointer (some ⟨ko, 1, none⟩) := by rw [ha4]; exact (eval_other (by decide)).trans f139
  have f140 : a4.eval (.tmp 140) = .int .i64 I := by rw [ha4]; exact (eval_other (by decide)).trans f140
  have f141 : a4.eval (.tmp 141) = .pointer (some ⟨ko, 3, none⟩) := by rw [ha4]; exact eval_same (by rw [tsz]; decide)
  have tsz : a4.tmps.size = 198 := by rw [ha4, put_size]; exact tsz
  have HA4 : Hid _ := ha4
  clear ha4
  refine wpAnyH_take (i := 4) (oi := { dst := some 142, op := Op.load 22 (Operand.tmp 141), type := 22, pos := "law.go:112", after := #[{ on := 3, ground := Ground.data }], guard := none }) (v := .slice (some ⟨tg, to_, none⟩) n TC) rfl (by kernel_rfl) (by kernel_rfl) (by kernel_rfl) (fun _ _ _ h => HQ.out _ _ _ _ _ h) (Or.inl ⟨by rfl, fun w hSw => ?y4⟩) hS ?_
  case y4 =>
    obtain ⟨s1, s2, s3⟩ := hSw
    have g141 := ev_getD f141
    have k141 := ev_get? f141
    first | (go_simp; done) | (go_simp; rfl) | (go_simp; intro h; omega)
  show wpAnyH _ _ _ _ _ _ _ (a4.put (some 142) (.slice (some ⟨tg, to_, none⟩) n TC)) _
  obtain ⟨a5, ha5⟩ : ∃ a, a = a4.put (some 142) (.slice (some ⟨tg, to_, none⟩) n TC) := ⟨_, rfl⟩
  rw [← ha5]
  have f3 : a5.eval (.tmp 3) = .string P := by rw [ha5]; exact (eval_other (by decide)).trans f3
  have f7 : a5.eval (.tmp 7) = .pointer (some ⟨ko, 0, none⟩) := by rw [ha5]; exact (eval_other (by decide)).trans f7
  have f138 : a5.eval (.tmp 138) = .string P := by rw [ha5]; exact (eval_other (by decide)).trans f138
  have f139 : a5.eval (.tmp 139) = .pointer (some ⟨ko, 1, none⟩) := by rw [ha5]; exact (eval_other (by decide)).trans f139
  have f140 : a5.eval (.tmp 140) = .int .i64 I := by rw [ha5]; exact (eval_other (by decide)).trans f140
  have f141 : a5.eval (.tmp 141) = .pointer (some ⟨ko, 3, none⟩) := by rw [ha5]; exact (eval_other (by decide)).trans f141
  have f142 : a5.eval (.tmp 142) = .slice (some ⟨tg, to_, none⟩) n TC := by rw [ha5]; exact eval_same (by rw [tsz]; decide)
  have tsz : a5.tmps.size = 198 := by rw [ha5, put_size]; exact tsz
  have HA5 : Hid _ := ha5
  clear ha5
  refine wpAnyH_take (i := 5) (oi := { dst := some 143, op := Op.indexAddr 22 (Operand.tmp 142) (Operand.const (Value.int IntKind.i64 0)), type := 0, pos := "law.go:112", after := #[{ on := 4, ground := Ground.data }], guard := none }) (v := .pointer (some ⟨tg, to_, none⟩)) rfl (by kernel_rfl) (by kernel_rfl) (by kernel_rfl) (fun _ _ _ h => HQ.out _ _ _ _ _ h) (Or.inl ⟨by rfl, fun w hSw => ?y5⟩) hS ?_
  case y5 =>
    obtain ⟨s1, s2, s3⟩ := hSw
    have g142 := ev_getD f142
    have k142 := ev_get? f142
    first | (go_simp; done) | (go_simp; rfl) | (go_simp; intro h; omega)
  show wpAnyH _ _ _ _ _ _ _ (a5.put (some 143) (.pointer (some ⟨tg, to_, none⟩))) _
  obtain ⟨a6, ha6⟩ : ∃ a, a = a5.put (some 143) (.pointer (some ⟨tg, to_, none⟩)) := ⟨_, rfl⟩
  rw [← ha6]
  have f3 : a6.eval (.tmp 3) = .string P := by rw [ha6]; exact (eval_other (by decide)).trans f3
  have f7 : a6.eval (.tmp 7) = .pointer (some ⟨ko, 0, none⟩) := by rw [ha6]; exact (eval_other (by decide)).trans f7
  have f138 : a6.eval (.tmp 138) = .string P := by rw [ha6]; exact (eval_other (by decide)).trans f138
  have f139 : a6.eval (.tmp 139) = .pointer (some ⟨ko, 1, none⟩) := by rw [ha6]; exact (eval_other (by decide)).trans f139
  have f140 : a6.eval (.tmp 140) = .int .i64 I := by rw [ha6]; exact (eval_other (by decide)).trans f140
  have f141 : a6.eval (.tmp 141) = .pointer (some ⟨ko, 3, none⟩) := by rw [ha6]; exact (eval_other (by decide)).trans f141
  have f142 : a6.eval (.tmp 142) = .slice (some ⟨tg, to_, none⟩) n TC := by rw [ha6]; exact (eval_other (by decide)).trans f142
  have f143 : a6.eval (.tmp 143) = .pointer (some ⟨tg, to_, none⟩) := by rw [ha6]; exact eval_same (by rw [tsz]; decide)
  have tsz : a6.tmps.size = 198 := by rw [ha6, put_size]; exact tsz
  have HA6 : Hid _ := ha6
  clear ha6
  refine wpAnyH_take (i := 6) (oi := { dst := some 144, op := Op.load 9 (Operand.tmp 143), type := 9, pos := "law.go:112", after := #[{ on := 5, ground := Ground.data }], guard := none }) (v := .string X) rfl (by kernel_rfl) (by kernel_rfl) (by kernel_rfl) (fun _ _ _ h => HQ.out _ _ _ _ _ h) (Or.inl ⟨by rfl, fun w hSw => ?y6⟩) hS ?_
  case y6 =>
    obtain ⟨s1, s2, s3⟩ := hSw
    have g143 := ev_getD f143
    have k143 := ev_get? f143
    first | (go_simp; done) | (go_simp; rfl) | (go_simp; intro h; omega)
  show wpAnyH _ _ _ _ _ _ _ (a6.put (some 144) (.string X)) _
  obtain ⟨a7, ha7⟩ : ∃ a, a = a6.put (some 144) (.string X) := ⟨_, rfl⟩
  rw [← ha7]
  have f3 : a7.eval (.tmp 3) = .string P := by rw [ha7]; exact (eval_other (by decide)).trans f3
  have f7 : a7.eval (.tmp 7) = .pointer (some ⟨ko, 0, none⟩) := by rw [ha7]; exact (eval_other (by decide)).trans f7
  have f138 : a7.eval (.tmp 138) = .string P := by rw [ha7]; exact (eval_other (by decide)).trans f138
  have f139 : a7.eval (.tmp 139) = .pointer (some ⟨ko, 1, none⟩) := by rw [ha7]; exact (eval_other (by decide)).trans f139
  have f140 : a7.eval (.tmp 140) = .int .i64 I := by rw [ha7]; exact (eval_other (by decide)).trans f140
  have f141 : a7.eval (.tmp 141) = .pointer (some ⟨ko, 3, none⟩) := by rw [ha7]; exact (eval_other (by decide)).trans f141
  have f142 : a7.eval (.tmp 142) = .slice (some ⟨tg, to_, none⟩) n TC := by rw [ha7]; exact (eval_other (by decide)).trans f142
  have f143 : a7.eval (.tmp 143) = .pointer (some ⟨tg, to_, none⟩) := by rw [ha7]; exact (eval_other (by decide)).trans f143
  have f144 : a7.eval (.tmp 144) = .string X := by rw [ha7]; exact eval_same (by rw [tsz]; decide)
  have tsz : a7.tmps.size = 198 := by rw [ha7, put_size]; exact tsz
  have HA7 : Hid _ := ha7
  clear ha7
  refine wpAnyH_ready (rs := [7]) (by kernel_rfl) (by simp) ?_
  refine AllReadyH.cons (o := { dst := some 145, op := Op.call { callee := Callee.value (Operand.func 17), args := #[Operand.tmp 138, Operand.tmp 140, Operand.tmp 144], argTypes := #[9, 3, 9] }, type := 27, pos := "law.go:112", after := #[{ on := 0, ground := Ground.data }, { on := 2, ground := Ground.data }, { on := 6, ground := Ground.data }], guard := none }) rfl (fun K hK => ?_) AllReadyH.nil
  have g138 := ev_getD f138
  have k138 := ev_get? f138
  have g140 := ev_getD f140
  have k140 := ev_get? f140
  have g144 := ev_getD f144
  have k144 := ev_get? f144
  rw [if_pos (by rfl)]
  go_simp
  refine (show Calls _ _ _ _ _ from HCC.out).mono ?_
  rintro e w4 ⟨rfl, hb4⟩
  have hS4 : (fun w' : World => w'.cell? ⟨ko, 1, none⟩ = some (.int .i64 I) ∧ w'.cell? ⟨ko, 3, none⟩ = some (.slice (some ⟨tg, to_, none⟩) n TC) ∧ w'.cell? ⟨tg, to_, none⟩ = some (.string X)) w4 := ⟨cell_on hS.1 hb4, cell_on hS.2.1 hb4, cell_on hS.2.2 hb4⟩
  show K (a7.put (some 145) (.tuple #[.string QB, .int .i64 E])) w4
  refine hK.out _ _ hS4 (fun hS4 => ?_)
  clear hK K g138 k138 g140 k140 g144 k144
  obtain ⟨a8, ha8⟩ : ∃ a, a = a7.put (some 145) (.tuple #[.string QB, .int .i64 E]) := ⟨_, rfl⟩
  rw [← ha8]
  have f145 : a8.eval (.tmp 145) = .tuple #[.string QB, .int .i64 E] := by rw [ha8]; exact eval_same (by rw [tsz]; decide)
  have tsz : a8.tmps.size = 198 := by rw [ha8, put_size]; exact tsz
  have HA8 : Hid _ := ha8
  clear ha8
  refine wpAnyH_take (i := 8) (oi := { dst := some 137, op := Op.move (Operand.tmp 145), type := 27, pos := "law.go:112", after := #[{ on := 7, ground := Ground.data }], guard := none }) (v := .tuple #[.string QB, .int .i64 E]) rfl (by kernel_rfl) (by kernel_rfl) (by kernel_rfl) (fun _ _ _ h => HQ.out _ _ _ _ _ h) (Or.inl ⟨by rfl, fun w hSw => ?y8⟩) hS4 ?_
  case y8 =>
    have g145 := ev_getD f145
    have k145 := ev_get? f145
    first | (go_simp; done) | (go_simp; rfl)
  show wpAnyH _ _ _ _ _ _ _ (a8.put (some 137) (.tuple #[.string QB, .int .i64 E])) _
  obtain ⟨a9, ha9⟩ : ∃ a, a = a8.put (some 137) (.tuple #[.string QB, .int .i64 E]) := ⟨_, rfl⟩
  rw [← ha9]
  have f145 : a9.eval (.tmp 145) = .tuple #[.string QB, .int .i64 E] := by rw [ha9]; exact (eval_other (by decide)).trans f145
  have f137 : a9.eval (.tmp 137) = .tuple #[.string QB, .int .i64 E] := by rw [ha9]; exact eval_same (by rw [tsz]; decide)
  have tsz : a9.tmps.size = 198 := by rw [ha9, put_size]; exact tsz
  have HA9 : Hid _ := ha9
  clear ha9
  refine wpAnyH_take (i := 9) (oi := { dst := some 146, op := Op.extract (Operand.tmp 137) 0, type := 9, pos := "law.go:112", after := #[{ on := 8, ground := Ground.data }], guard := none }) (v := .string QB) rfl (by kernel_rfl) (by kernel_rfl) (by kernel_rfl) (fun _ _ _ h => HQ.out _ _ _ _ _ h) (Or.inl ⟨by rfl, fun w hSw => ?y9⟩) hS4 ?_
  case y9 =>
    have g137 := ev_getD f137
    have k137 := ev_get? f137
    first | (go_simp; done) | (go_simp; rfl)
  show wpAnyH _ _ _ _ _ _ _ (a9.put (some 146) (.string QB)) _
  obtain ⟨a10, ha10⟩ : ∃ a, a = a9.put (some 146) (.string QB) := ⟨_, rfl⟩
  rw [← ha10]
  have f137 : a10.eval (.tmp 137) = .tuple #[.string QB, .int .i64 E] := by rw [ha10]; exact (eval_other (by decide)).trans f137
  have f146 : a10.eval (.tmp 146) = .string QB := by rw [ha10]; exact eval_same (by rw [tsz]; decide)
  have tsz : a10.tmps.size = 198 := by rw [ha10, put_size]; exact tsz
  have HA10 : Hid _ := ha10
  clear ha10
  refine wpAnyH_take (i := 10) (oi := { dst := some 147, op := Op.extract (Operand.tmp 137) 1, type := 23, pos := "law.go:112", after := #[{ on := 8, ground := Ground.data }, { on := 11, ground := Ground.gcOnly Departure.lateStores }], guard := none }) (v := .int .i64 E) rfl (by kernel_rfl) (by kernel_rfl) (by kernel_rfl) (fun _ _ _ h => HQ.out _ _ _ _ _ h) (Or.inl ⟨by rfl, fun w hSw => ?y10⟩) hS4 ?_
  case y10 =>
    have g137 := ev_getD f137
    have k137 := ev_get? f137
    first | (go_simp; done) | (go_simp; rfl)
  show wpAnyH _ _ _ _ _ _ _ (a10.put (some 147) (.int .i64 E)) _
  obtain ⟨a11, ha11⟩ : ∃ a, a = a10.put (some 147) (.int .i64 E) := ⟨_, rfl⟩
  rw [← ha11]
  have f137 : a11.eval (.tmp 137) = .tuple #[.string QB, .int .i64 E] := by rw [ha11]; exact (eval_other (by decide)).trans f137
  have f146 : a11.eval (.tmp 146) = .string QB := by rw [ha11]; exact (eval_other (by decide)).trans f146
  have f147 : a11.eval (.tmp 147) = .int .i64 E := by rw [ha11]; exact eval_same (by rw [tsz]; decide)
  have tsz : a11.tmps.size = 198 := by rw [ha11, put_size]; exact tsz
  have HA11 : Hid _ := ha11
  clear ha11
  refine wpAnyH_take (i := 11) (oi := { dst := some 8, op := Op.assign (Operand.tmp 146), type := 9, pos := "law.go:112", after := #[{ on := 9, ground := Ground.data }, { on := 7, ground := Ground.chain }, { on := 0, ground := Ground.phase }, { on := 1, ground := Ground.phase }, { on := 2, ground := Ground.phase }, { on := 3, ground := Ground.phase }, { on := 4, ground := Ground.phase }, { on := 5, ground := Ground.phase }, { on := 6, ground := Ground.phase }, { on := 7, ground := Ground.phase }, { on := 8, ground := Ground.phase }, { on := 9, ground := Ground.phase }, { on := 10, ground := Ground.textOnly Departure.lateStores }], guard := none }) (v := .string QB) rfl (by kernel_rfl) (by kernel_rfl) (by kernel_rfl) (fun _ _ _ h => HQ.out _ _ _ _ _ h) (Or.inl ⟨by rfl, fun w hSw => ?y11⟩) hS4 ?_
  case y11 =>
    have g146 := ev_getD f146
    have k146 := ev_get? f146
    first | (go_simp; done) | (go_simp; rfl)
  show wpAnyH _ _ _ _ _ _ _ (a11.put (some 8) (.string QB)) _
  obtain ⟨a12, ha12⟩ : ∃ a, a = a11.put (some 8) (.string QB) := ⟨_, rfl⟩
  rw [← ha12]
  have f146 : a12.eval (.tmp 146) = .string QB := by rw [ha12]; exact (eval_other (by decide)).trans f146
  have f147 : a12.eval (.tmp 147) = .int .i64 E := by rw [ha12]; exact (eval_other (by decide)).trans f147
  have f8 : a12.eval (.tmp 8) = .string QB := by rw [ha12]; exact eval_same (by rw [tsz]; decide)
  have tsz : a12.tmps.size = 198 := by rw [ha12, put_size]; exact tsz
  have HA12 : Hid _ := ha12
  clear ha12
  refine wpAnyH_take (i := 12) (oi := { dst := some 4, op := Op.assign (Operand.tmp 147), type := 23, pos := "law.go:112", after := #[{ on := 10, ground := Ground.data }, { on := 11, ground := Ground.chain }, { on := 0, ground := Ground.phase }, { on := 1, ground := Ground.phase }, { on := 2, ground := Ground.phase }, { on := 3, ground := Ground.phase }, { on := 4, ground := Ground.phase }, { on := 5, ground := Ground.phase }, { on := 6, ground := Ground.phase }, { on := 7, ground := Ground.phase }, { on := 8, ground := Ground.phase }, { on := 9, ground := Ground.phase }, { on := 10, ground := Ground.phase }, { on := 11, ground := Ground.phase }], guard := none }) (v := .int .i64 E) rfl (by kernel_rfl) (by kernel_rfl) (by kernel_rfl) (fun _ _ _ h => HQ.out _ _ _ _ _ h) (Or.inl ⟨by rfl, fun w hSw => ?y12⟩) hS4 ?_
  case y12 =>
    have g147 := ev_getD f147
    have k147 := ev_get? f147
    first | (go_simp; done) | (go_simp; rfl)
  show wpAnyH _ _ _ _ _ _ _ (a12.put (some 4) (.int .i64 E)) _
  obtain ⟨a13, ha13⟩ : ∃ a, a = a12.put (some 4) (.int .i64 E) := ⟨_, rfl⟩
  rw [← ha13]
  have f147 : a13.eval (.tmp 147) = .int .i64 E := by rw [ha13]; exact (eval_other (by decide)).trans f147
  have f4 : a13.eval (.tmp 4) = .int .i64 E := by rw [ha13]; exact eval_same (by rw [tsz]; decide)
  have tsz : a13.tmps.size = 198 := by rw [ha13, put_size]; exact tsz
  have HA13 : Hid _ := ha13
  clear ha13
  refine wpAnyH_done (by kernel_rfl) ?_ _
  rw [HA13.out, HA12.out, HA11.out, HA10.out, HA9.out, HA8.out, HA7.out, HA6.out, HA5.out, HA4.out, HA3.out, HA2.out, HA1.out]
  exact HKK.out w4 ((below_dn (Below.refl _ W3) 1).trans hb4)
end Go.Proofs.YtafphabeihoijaaDoor
