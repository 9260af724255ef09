import Derived.Test.YtgbplghokciimaaDoorSkH
namespace Go.Proofs.YtgbplghokciimaaDoor
open Go.RowKit
set_option linter.unusedVariables false
/-- a board that is being written: its entries in a row of its own, other blocks beside it. -/
structure OutSt (w : World) (B : Nat) (seed : Int) (ob : Nat) (fx : List (Nat × Obj)) (co : Value) (L : List En) (wr : World) : Prop where
  out : wr.heap[ob]? = some (.cells #[.int .i64 seed, co] 51)
  own : wr.ownsRow B 92 3 co L.length (flat3 L)
  fix : ∀ q ∈ fx, wr.heap[q.1]? = some q.2 ∧ q.1 < B ∧ q.1 ≠ ob
  bel : Below w.heap.size w wr
  ob1 : w.heap.size ≤ ob
  ob2 : ob < B
  size : B ≤ wr.heap.size
  base : w.heap.size ≤ B
theorem OutSt.on {w : World} {B : Nat} {seed : Int} {ob : Nat} {fx : List (Nat × Obj)} {co : Value} {L : List En} {wr W : World} (h : OutSt w B seed ob fx co L wr) (hb : Below wr.heap.size wr W) : OutSt w B seed ob fx co L W :=
  ⟨keep_row h.out hb, own_keep h.own (fun q _ hq => hb.block q hq), fun q hq => ⟨keep_row (h.fix q hq).1 hb, (h.fix q hq).2⟩, h.bel.trans (hb.mono h.bel.size), h.ob1, h.ob2, Nat.le_trans h.size hb.size, h.base⟩
theorem OutSt.put {w : World} {B : Nat} {seed : Int} {ob : Nat} {fx : List (Nat × Obj)} {co : Value} {L L' : List En} {A w3 : World} {v3 : Value} {n : Nat} (h : OutSt w B seed ob fx co L A) (hg : A.grownBy w3 co.ownBlock) (ho : w3.ownsRow B 92 3 v3 n (flat3 L')) (hn : n = L'.length) : OutSt w B seed ob fx v3 L' (w3.setCell ⟨ob, 1, none⟩ v3) := by
  subst hn
  have hon := Only.set (Only.refl w3 ob) 1 v3
  have hge := own_ge h.own
  have hB3 : Below w.heap.size w w3 := h.bel.grown hg h.bel.size (fun q hq => by have := hge q hq; have := h.base; omega)
  refine ⟨heap_setCell_same _ _ _ _ _ _ (grown_row h.out hg hge h.ob2), own_keep ho (fun q hq _ => hon.other q (by have := h.ob2; omega)), fun q hq => ⟨?_, (h.fix q hq).2⟩, hB3.trans (hon.below h.ob1), h.ob1, h.ob2, ?_, h.base⟩
  · obtain ⟨h1, h2, h3⟩ := h.fix q hq
    exact (hon.other q.1 h3).trans (grown_row h1 hg hge h2)
  · rw [hon.size]; exact Nat.le_trans h.size hg.size
theorem OutSt.fx3 {w : World} {B : Nat} {seed : Int} {ob : Nat} {a b c : Nat} {A B' C : Obj} {co : Value} {L : List En} {wr : World} (h : OutSt w B seed ob [(a, A), (b, B'), (c, C)] co L wr) : (wr.heap[a]? = some A ∧ a < B ∧ a ≠ ob) ∧ (wr.heap[b]? = some B' ∧ b < B ∧ b ≠ ob) ∧ (wr.heap[c]? = some C ∧ c < B ∧ c ≠ ob) :=
  ⟨h.fix (a, A) (by simp), h.fix (b, B') (by simp), h.fix (c, C) (by simp)⟩
theorem OutSt.fin {w w1 : World} {B : Nat} {seed : Int} {ob : Nat} {fx : List (Nat × Obj)} {co : Value} {L : List En} {wr : World} (h : OutSt w1 B seed ob fx co L wr) {rb : Nat} {v0 v1 : Value} (hr : wr.heap[rb]? = some (.cells #[v0, v1] 51)) (hrB : rb < B) (hw : Below w.heap.size w w1) (hrw : w.heap.size ≤ rb) : ((wr.setCell ⟨rb, 0, none⟩ (.int .i64 seed)).setCell ⟨rb, 1, none⟩ co).cell? ⟨rb, 0, none⟩ = some (.int .i64 seed) ∧ ((wr.setCell ⟨rb, 0, none⟩ (.int .i64 seed)).setCell ⟨rb, 1, none⟩ co).cell? ⟨rb, 1, none⟩ = some co ∧ ERow (fun q => w.heap.size ≤ q) ((wr.setCell ⟨rb, 0, none⟩ (.int .i64 seed)).setCell ⟨rb, 1, none⟩ co) co L ∧ Below w.heap.size w ((wr.setCell ⟨rb, 0, none⟩ (.int .i64 seed)).setCell ⟨rb, 1, none⟩ co) := by
  have hon : Only wr ((wr.setCell ⟨rb, 0, none⟩ (.int .i64 seed)).setCell ⟨rb, 1, none⟩ co) rb := ((Only.refl wr rb).set 0 _).set 1 _
  have hr4 : ((wr.setCell ⟨rb, 0, none⟩ (.int .i64 seed)).setCell ⟨rb, 1, none⟩ co).heap[rb]? = some (.cells #[.int .i64 seed, co] 51) := by
    rw [heap_setCell_same _ _ _ _ _ _ (heap_setCell_same _ _ _ _ _ _ hr)]
    rfl
  obtain ⟨s0, s1, _⟩ := cells2 hr4
  refine ⟨s0, s1, ERow.own_of (own_keep h.own (fun q hq _ => hon.other q (by omega))) rfl (fun q hq => ?_), (bel_to hw (h.bel) (Nat.le_refl _)).trans (hon.below hrw)⟩
  have := h.base
  have := hw.size
  omega
theorem cells3 {w : World} {g T : Nat} {v0 v1 v2 : Value} (h : w.heap[g]? = some (.cells #[v0, v1, v2] T)) :
    w.cell? ⟨g, 0, none⟩ = some v0 ∧ w.cell? ⟨g, 1, none⟩ = some v1 ∧ w.cell? ⟨g, 2, none⟩ = some v2 ∧ ∀ j, w.frozen? ⟨g, j, none⟩ = false := by
  refine ⟨?_, ?_, ?_, fun j => frozen_of_row _ _ _ _ _ h⟩ <;> rw [cell_of_row _ _ _ _ _ _ h] <;> rfl
set_option maxHeartbeats 4000000 in
set_option maxRecDepth 100000 in
theorem rSet_any (Q : Nat → Prop) (seed : Int) (v : Value) (l : List En) (hl : l.length ≤ 1000000) (hbr : Brd l) (m : ByteArray) (s x : Int) (w : World) (h : ERow Q w v l) : Calls Tryd.prog 42 #[bval seed v, .string m, .int .i64 s, .int .i64 x] w fun e w' => ∃ r, e = .returned (.tuple #[bval seed r, .bool (!decide ((dropM l m).length < l.length))]) ∧ ERow (fun q => w.heap.size ≤ q) w' r (setM l m s x) ∧ Below w.heap.size w w' := by
  obtain ⟨P, c, rfl⟩ := h.form
  obtain ⟨W0, hW0⟩ : ∃ W0, W0 = (w.alloc (.cells #[.int .i64 seed, .slice P l.length c] 51)).alloc (.cells #[.int .i64 0, .slice none 0 0] 51) := ⟨_, rfl⟩
  have hbW : Below w.heap.size w W0 := by
    rw [hW0]
    repeat (refine Below.alloc ?_ (by simp <;> omega) _)
    exact Below.refl _ _
  have hq0 : W0.heap[w.heap.size]? = some (.cells #[.int .i64 seed, .slice P l.length c] 51) := by rw [hW0, heap_alloc_old _ _ (by simp)]; exact heap_alloc_new _ _
  have hq1 : W0.heap[w.heap.size + 1]? = some (.cells #[.int .i64 0, .slice none 0 0] 51) := by
    rw [hW0]
    have := heap_alloc_new (w.alloc (.cells #[.int .i64 seed, .slice P l.length c] 51)) (.cells #[.int .i64 0, .slice none 0 0] 51)
    simpa using this
  have HQ0 : Hid _ := And.intro hq0 (And.intro hq1 hbW)
  have HD : Hid _ := rDrop_any Q seed (.slice P l.length c) l hl m W0 (h.on hbW)
  have HBR : Hid (Brd (dropM l m)) := dropM_brd hbr m
  have HNO : Hid (∀ e ∈ dropM l m, e.1 ≠ (m, s, x).1) := dropM_no l m
  have HSM : Hid (setM l m s x = insM (dropM l m) (m, s, x)) := rfl
  have HRL : Hid ((dropM l m).length ≤ 1000000) := by
    have : (dropM l m).length ≤ l.length := List.length_filter_le _ _
    show _ ≤ _
    omega
  clear h hq0 hq1 hbW hbr
  generalize setM l m s x = SM at *
  obtain ⟨was, hwas⟩ : ∃ was, decide ((dropM l m).length < l.length) = was := ⟨_, rfl⟩
  rw [hwas] at HD ⊢
  clear hwas
  obtain ⟨R, hR⟩ : ∃ R, dropM l m = R := ⟨_, rfl⟩
  rw [hR] at HD HBR HNO HSM HRL
  clear hR
  go_enter Tryd.func42, Tryd.ntmps42
  go_wp2_with fail
  rw [← hW0]
  clear hW0
  refine (show Calls _ _ _ _ _ from HD.out).mono ?_
  rintro e w1 ⟨r1, rfl, he1, hb1⟩
  obtain ⟨P1, c1, rfl⟩ := he1.form
  obtain ⟨bb, hbb⟩ : ∃ bb, w.heap.size = bb := ⟨_, rfl⟩
  have HE1 : Hid (ERow (fun q => W0.heap.size ≤ q) w1 (.slice P1 R.length c1) R) := he1
  have HR0 : Hid (w1.heap[bb]? = some (.cells #[.int .i64 seed, .slice P l.length c] 51) ∧ w1.heap[bb + 1]? = some (.cells #[.int .i64 0, .slice none 0 0] 51) ∧ Below w.heap.size w w1) := by
    rw [← hbb]
    exact ⟨keep_row HQ0.out.1 hb1, keep_row HQ0.out.2.1 hb1, bel_to HQ0.out.2.2 hb1 (Nat.le_refl _)⟩
  have HBS : Hid (w.heap.size = bb ∧ bb + 1 < w1.heap.size ∧ bb + 2 ≤ W0.heap.size) := ⟨hbb, row_lt HR0.out.2.1, by have := row_lt HQ0.out.2.1; omega⟩
  clear he1 hb1 HD
  obtain ⟨W4, hW4⟩ : ∃ W4, W4 = ((w1.alloc (.cells #[.int .i64 seed, .slice P1 R.length c1] 51)).alloc (.cells #[.string m, .int .i64 s, .int .i64 x] 92)).alloc (.cells #[.int .i64 seed, .slice none 0 0] 51) := ⟨_, rfl⟩
  obtain ⟨q0, q1, q2, q3, q4⟩ := alloc3 w1 (.cells #[.int .i64 seed, .slice P1 R.length c1] 51) (.cells #[.string m, .int .i64 s, .int .i64 x] 92) (.cells #[.int .i64 seed, .slice none 0 0] 51)
  rw [← hW4] at q0 q1 q2 q3 q4
  obtain ⟨bc0, bc1, bcf⟩ := cells2 HR0.out.1
  have hbl : bb < w1.heap.size := by have := HBS.out; omega
  rw [hbb]
  obtain ⟨rb, hrb⟩ : ∃ rb, bb + 1 = rb := ⟨_, rfl⟩
  rw [hrb] at HR0 ⊢
  have HS4 : Hid (OutSt w1 W4.heap.size seed (w1.heap.size + 1 + 1) [(rb, .cells #[.int .i64 0, .slice none 0 0] 51), (w1.heap.size, .cells #[.int .i64 seed, .slice P1 R.length c1] 51), (w1.heap.size + 1, .cells #[.string m, .int .i64 s, .int .i64 x] 92)] (.slice none 0 0) [] W4) := by
    have hl1 := HBS.out
    refine ⟨q2, ⟨rfl, Or.inl ⟨rfl, rfl⟩⟩, ?_, q4, by omega, by omega, Nat.le_refl _, by omega⟩
    intro q hq
    simp only [List.mem_cons, List.not_mem_nil, or_false] at hq
    rcases hq with rfl | rfl | rfl
    · exact ⟨keep_row HR0.out.2.1 q4, by simp only; omega, by simp only; omega⟩
    · exact ⟨q0, by simp only; omega, by simp only; omega⟩
    · exact ⟨q1, by simp only; omega, by simp only; omega⟩
  have HRB : Hid (bb + 1 = rb) := hrb
  clear q0 q1 q2 q3 q4 hbb hrb
  go_wp2
  rw [← hW4]
  clear hW4 bc0 bc1 bcf
  obtain ⟨rs, hrs⟩ : ∃ rs, w1.heap.size = rs := ⟨_, rfl⟩
  have HRS : Hid (w1.heap.size = rs) := hrs
  rw [hrs] at HS4 ⊢
  obtain ⟨xb, hxb⟩ : ∃ xb, rs + 1 = xb := ⟨_, rfl⟩
  obtain ⟨ob, hob⟩ : ∃ ob, xb + 1 = ob := ⟨_, rfl⟩
  rw [hxb, hob] at HS4 ⊢
  have HZ : Hid (w1.heap.size = rs ∧ rs + 1 = xb ∧ xb + 1 = ob ∧ ob < W4.heap.size) := ⟨hrs, hxb, hob, by have := row_lt HS4.out.out; omega⟩
  clear hrs hxb hob hbl
  obtain ⟨k, hk⟩ : ∃ k, plc R (m, s, x) = k := ⟨_, rfl⟩
  have HK : Hid (plc R (m, s, x) = k) := hk
  have HKL : Hid (k ≤ R.length) := by rw [← hk]; exact plc_le R _
  clear hk
  go_loopw [14, 15] (fun cd ci wr => ∃ i : Nat, i ≤ R.length ∧ ci = .int .i64 (i : Int) ∧ cd = .bool (decide (k < i)) ∧ ∃ co, OutSt w1 W4.heap.size seed ob [(rb, .cells #[.int .i64 0, .slice none 0 0] 51), (rs, .cells #[.int .i64 seed, .slice P1 R.length c1] 51), (xb, .cells #[.string m, .int .i64 s, .int .i64 x] 92)] co (insP R (m, s, x) k i) wr) (fun _ ci _ => R.length - (intOf ci).toNat)
  case atStart => exact ⟨0, Nat.zero_le _, rfl, by simp, _, HS4.out⟩
  case round =>
    obtain ⟨i, hi, rfl, rfl, co, hst⟩ := hrel
    obtain ⟨P8, k8, hkf⟩ := own_form hst.own
    subst hkf
    have HST : Hid (OutSt w1 W4.heap.size seed ob [(rb, .cells #[.int .i64 0, .slice none 0 0] 51), (rs, .cells #[.int .i64 seed, .slice P1 R.length c1] 51), (xb, .cells #[.string m, .int .i64 s, .int .i64 x] 92)] _ (insP R (m, s, x) k i) wr) := hst
    obtain ⟨t, ht⟩ : ∃ t, (insP R (m, s, x) k i).length = t := ⟨_, rfl⟩
    rw [ht] at HST hst
    have HT : Hid ((insP R (m, s, x) k i).length = t) := ht
    have htb : t ≤ 1000001 := by
      have := insP_len (x := (m, s, x)) (k := k) hi
      have := HRL.out
      omega
    have HTB : Hid (t ≤ 1000001) := htb
    obtain ⟨o0, o1, of⟩ := cells2 hst.out
    obtain ⟨s0, s1, sf⟩ := cells2 hst.fx3.2.1.1
    obtain ⟨x0, x1, x2, xf⟩ := cells3 hst.fx3.2.2.1
    obtain ⟨r0, r1, rf⟩ := cells2 hst.fx3.1.1
    clear hst ht htb
    by_cases hlt : i < R.length
    · obtain ⟨g, c', hf, p1, p2, p3⟩ := (HE1.out.on HST.out.bel).cells hlt
      obtain ⟨rfl, _, rfl⟩ : P1 = some ⟨g, 0, none⟩ ∧ True ∧ c1 = c' := by injection hf with h1 h2 h3; exact ⟨h1, trivial, h3⟩
      have HAH : Hid (ahd (m, s, x) R[i] = decide (k ≤ i)) := by
        have := plc_first (x := (m, s, x)) HBR.out HNO.out hlt
        rw [HK.out] at this; exact this
      have HGO : Hid (i ≠ k → insP R (m, s, x) k (i + 1) = insP R (m, s, x) k i ++ [R[i]]) := fun h => insP_go hlt h
      have HAT : Hid (i = k → insP R (m, s, x) k (i + 1) = insP R (m, s, x) k i ++ [(m, s, x)] ++ [R[i]]) := fun h => by subst h; exact insP_at hlt
      have hz3 : (0 : Int) ≤ (i : Int) := by omega
      have hz4 : (i : Int) < (R.length : Int) := by omega
      have hiw : IntKind.i64.wrap ((i : Int) + 1) = (i : Int) + 1 := by rw [IntKind.wrap_i64] <;> (have := HRL.out; omega)
      clear hf
      obtain ⟨Y, hY⟩ : ∃ Y, R[i] = Y := ⟨_, rfl⟩
      rw [hY] at p1 p2 p3 HAH HGO HAT
      have HYE : Hid (R[i] = Y) := hY
      clear hY
      have hd : Below wr.heap.size wr wr.drew := (Below.refl _ wr).drew
      have HRA : Hid _ := rahead_any (m, s, x) Y wr.drew
      rw [HAH.out] at HRA
      rcases Nat.lt_trichotomy i k with hik | hik | hik
      · have hdk : decide (k < i) = false := by simp; omega
        have hdl : decide (k ≤ i) = false := by simp; omega
        rw [hdl] at HRA
        rw [hdk]
        have HNX : Hid (insP R (m, s, x) k (i + 1) = insP R (m, s, x) k i ++ [Y]) := HGO.out (by omega)
        clear hdk hdl
        have hS := And.intro x0 (And.intro x1 (And.intro x2 (And.intro s1 (And.intro p1 (And.intro p2 p3)))))
        go_upto_region 8 with fail
        go_region_held3 (fun w' : World => w'.cell? ⟨xb, 0, none⟩ = some (.string m) ∧ w'.cell? ⟨xb, 1, none⟩ = some (.int .i64 s) ∧ w'.cell? ⟨xb, 2, none⟩ = some (.int .i64 x) ∧ w'.cell? ⟨rs, 1, none⟩ = some (.slice (some ⟨g, 0, none⟩) R.length c1) ∧ w'.cell? ⟨g, i * 3, none⟩ = some (.string Y.1) ∧ w'.cell? ⟨g, i * 3 + 1, none⟩ = some (.int .i64 Y.2.1) ∧ w'.cell? ⟨g, i * 3 + 2, none⟩ = some (.int .i64 Y.2.2))
          (first | exact hS | exact hS2)
          (first | (go_at_call 73; refine (show Calls _ _ _ _ _ from HRA.out).mono ?_; rintro e w2 ⟨rfl, hb2⟩; have hb2' := hd.trans hb2; have hS2 := And.intro (cell_on x0 hb2') (And.intro (cell_on x1 hb2') (And.intro (cell_on x2 hb2') (And.intro (cell_on s1 hb2') (And.intro (cell_on p1 hb2') (And.intro (cell_on p2 hb2') (cell_on p3 hb2'))))))))
        have HSA : Hid _ := HST.out.on hb2'
        obtain ⟨p1', p2', p3'⟩ := And.intro (cell_on p1 hb2') (And.intro (cell_on p2 hb2') (cell_on p3 hb2'))
        clear hS hS2 hb2 p1 p2 p3 o0 o1 of s0 s1 sf x0 x1 x2 xf r0 r1 rf hb2'
        go_upto_region 11 with fail
        obtain ⟨o0, o1, of⟩ := cells2 HSA.out.out
        obtain ⟨s0, s1, sf⟩ := cells2 HSA.out.fx3.2.1.1
        have HBA : Hid (Below w2.heap.size w2 (w2.alloc (.cells #[.string Y.1, .int .i64 Y.2.1, .int .i64 Y.2.2] 92)).drew) := ((Below.refl _ _).alloc (Nat.le_refl _) _).drew
        have HNW : Hid ((w2.alloc (.cells #[.string Y.1, .int .i64 Y.2.1, .int .i64 Y.2.2] 92)).drew.heap[w2.heap.size]? = some (.cells #[.string Y.1, .int .i64 Y.2.1, .int .i64 Y.2.2] 92)) := one_alloc _ _
        have HSB : Hid _ := HSA.out.on HBA.out
        have hol : ob < w2.heap.size := row_lt HSA.out.out
        have hrl : rs < w2.heap.size := row_lt HSA.out.fx3.2.1.1
        go_region_law (refine step_append_en rfl (.tmp 54) (.tmp 60) rfl W4.heap.size _ (t) (insP R (m, s, x) k i) HT.out.symm rfl (HT.out ▸ HSB.out.own) w2.heap.size Y rfl HNW.out (by have := HTB.out; omega) HSB.out.size ?_; intro v5 w5 ho5 hg5; obtain ⟨P10, k10, hkf⟩ := own_form ho5; subst hkf; have hr5 := grown_row HSB.out.out hg5 (own_ge HSB.out.own) HSB.out.ob2; obtain ⟨z0, z1, zf⟩ := cells2 hr5)
        all_goals
          have HP5 : Hid (OutSt w1 W4.heap.size seed ob [(rb, .cells #[.int .i64 0, .slice none 0 0] 51), (rs, .cells #[.int .i64 seed, .slice (some ⟨g, 0, none⟩) R.length c1] 51), (xb, .cells #[.string m, .int .i64 s, .int .i64 x] 92)] (.slice P10 (t + 1) k10) ((insP R (m, s, x) k i) ++ [Y]) (w5.setCell ⟨ob, 1, none⟩ (.slice P10 (t + 1) k10))) := HSB.out.put (n := t + 1) hg5 ho5 (by rw [List.length_append, HT.out]; rfl)
          clear hg5 ho5 hr5 z0 z1 zf o0 o1 of s0 s1 sf p1' p2' p3' hol hrl
          go_wp2
          go_roundw
          case rel => exact ⟨i + 1, hlt, by simp, by simp; omega, _, by rw [HNX.out]; exact HP5.out⟩
          case measure => simp [intOf]; omega
      · have HIK : Hid (i = k) := hik
        have hdk : decide (k < i) = false := by simp; omega
        have hdl : decide (k ≤ i) = true := by simp; omega
        rw [hdl] at HRA
        rw [hdk]
        have HNX : Hid (insP R (m, s, x) k (i + 1) = insP R (m, s, x) k i ++ [(m, s, x)] ++ [Y]) := HAT.out hik
        clear hdk hdl hik
        have hS := And.intro x0 (And.intro x1 (And.intro x2 (And.intro s1 (And.intro p1 (And.intro p2 p3)))))
        go_upto_region 8 with fail
        go_region_held3 (fun w' : World => w'.cell? ⟨xb, 0, none⟩ = some (.string m) ∧ w'.cell? ⟨xb, 1, none⟩ = some (.int .i64 s) ∧ w'.cell? ⟨xb, 2, none⟩ = some (.int .i64 x) ∧ w'.cell? ⟨rs, 1, none⟩ = some (.slice (some ⟨g, 0, none⟩) R.length c1) ∧ w'.cell? ⟨g, i * 3, none⟩ = some (.string Y.1) ∧ w'.cell? ⟨g, i * 3 + 1, none⟩ = some (.int .i64 Y.2.1) ∧ w'.cell? ⟨g, i * 3 + 2, none⟩ = some (.int .i64 Y.2.2))
          (first | exact hS | exact hS2)
          (first | (go_at_call 73; refine (show Calls _ _ _ _ _ from HRA.out).mono ?_; rintro e w2 ⟨rfl, hb2⟩; have hb2' := hd.trans hb2; have hS2 := And.intro (cell_on x0 hb2') (And.intro (cell_on x1 hb2') (And.intro (cell_on x2 hb2') (And.intro (cell_on s1 hb2') (And.intro (cell_on p1 hb2') (And.intro (cell_on p2 hb2') (cell_on p3 hb2'))))))))
        have HSA : Hid _ := HST.out.on hb2'
        obtain ⟨p1', p2', p3'⟩ := And.intro (cell_on p1 hb2') (And.intro (cell_on p2 hb2') (cell_on p3 hb2'))
        clear hS hS2 hb2 p1 p2 p3 o0 o1 of s0 s1 sf x0 x1 x2 xf r0 r1 rf hb2'
        obtain ⟨o0, o1, of⟩ := cells2 HSA.out.out
        obtain ⟨x0, x1, x2, xf⟩ := cells3 HSA.out.fx3.2.2.1
        obtain ⟨W2, hW2⟩ : ∃ W2, W2 = w2.alloc (.cells #[.string m, .int .i64 s, .int .i64 x] 92) := ⟨_, rfl⟩
        have hb2 : Below w2.heap.size w2 W2 := by rw [hW2]; exact (Below.refl _ _).alloc (Nat.le_refl _) _
        have HX1 : Hid (ERow (fun _ => True) W2 (.slice (some ⟨w2.heap.size, 0, none⟩) 1 1) [((m, s, x) : En)]) := ERow.one (by rw [hW2]; exact one_alloc _ _)
        have HS2 : Hid _ := HSA.out.on hb2
        have q1 := cell_on p1' hb2
        have q2 := cell_on p2' hb2
        have q3 := cell_on p3' hb2
        clear hb2
        go_upto_region 9 with fail
        go_wp2_with (at_builtin; rw [← hW2]; go_must (refine wpList_append_ens rfl _ _ rfl W4.heap.size _ _ t HT.out.symm rfl (HT.out ▸ HS2.out.own) (fun _ => True) _ [((m, s, x) : En)] rfl HX1.out (t + 1) (by rw [HT.out]; rfl) (by rw [HT.out]; have := HTB.out; simp; omega) HS2.out.size ?_))
        intro v3 w3 ho3 hg3
        rw [← hW2] at hg3
        obtain ⟨P9, k9, hkf⟩ := own_form ho3
        subst hkf
        have hr3 := grown_row HS2.out.out hg3 (own_ge HS2.out.own) HS2.out.ob2
        have HP : Hid (OutSt w1 W4.heap.size seed ob [(rb, .cells #[.int .i64 0, .slice none 0 0] 51), (rs, .cells #[.int .i64 seed, .slice (some ⟨g, 0, none⟩) R.length c1] 51), (xb, .cells #[.string m, .int .i64 s, .int .i64 x] 92)] (.slice P9 (t + 1) k9) (insP R (m, s, x) k i ++ [(m, s, x)]) (w3.setCell ⟨ob, 1, none⟩ (.slice P9 (t + 1) k9))) := HS2.out.put (n := t + 1) hg3 ho3 (by simp [HT.out])
        have HT9 : Hid ((insP R (m, s, x) k i ++ [(m, s, x)]).length = t + 1) := by show _ = _; rw [List.length_append, HT.out]; rfl
        obtain ⟨z0, z1, zf⟩ := cells2 hr3
        clear hW2 ho3 hg3 hr3 o0 o1 of x0 x1 x2 xf q1 q2 q3 p1' p2' p3'
        go_upto_region 11 with fail
        obtain ⟨wq, hwq⟩ : ∃ wq, wq = w3.setCell ⟨ob, 1, none⟩ (.slice P9 (t + 1) k9) := ⟨_, rfl⟩
        rw [← hwq] at HP ⊢
        clear hwq z0 z1 zf
        obtain ⟨g', c', hf, p1', p2', p3'⟩ := (HE1.out.on HP.out.bel).cells hlt
        obtain ⟨rfl, rfl⟩ : g = g' ∧ c1 = c' := by injection hf with h1 h2 h3; injection h1 with h1; injection h1 with h1; exact ⟨h1, h3⟩
        rw [HYE.out] at p1' p2' p3'
        clear hf
        obtain ⟨o0, o1, of⟩ := cells2 HP.out.out
        obtain ⟨s0, s1, sf⟩ := cells2 HP.out.fx3.2.1.1
        have HBA : Hid (Below wq.heap.size wq (wq.alloc (.cells #[.string Y.1, .int .i64 Y.2.1, .int .i64 Y.2.2] 92)).drew) := ((Below.refl _ _).alloc (Nat.le_refl _) _).drew
        have HNW : Hid ((wq.alloc (.cells #[.string Y.1, .int .i64 Y.2.1, .int .i64 Y.2.2] 92)).drew.heap[wq.heap.size]? = some (.cells #[.string Y.1, .int .i64 Y.2.1, .int .i64 Y.2.2] 92)) := one_alloc _ _
        have HSB : Hid _ := HP.out.on HBA.out
        have hol : ob < wq.heap.size := row_lt HP.out.out
        have hrl : rs < wq.heap.size := row_lt HP.out.fx3.2.1.1
        go_region_law (refine step_append_en rfl (.tmp 54) (.tmp 60) rfl W4.heap.size _ ((t + 1)) (insP R (m, s, x) k i ++ [(m, s, x)]) HT9.out.symm rfl (HT9.out ▸ HSB.out.own) wq.heap.size Y rfl HNW.out (by have := HTB.out; omega) HSB.out.size ?_; intro v5 w5 ho5 hg5; obtain ⟨P10, k10, hkf⟩ := own_form ho5; subst hkf; have hr5 := grown_row HSB.out.out hg5 (own_ge HSB.out.own) HSB.out.ob2; obtain ⟨z0, z1, zf⟩ := cells2 hr5)
        all_goals
          have HP5 : Hid (OutSt w1 W4.heap.size seed ob [(rb, .cells #[.int .i64 0, .slice none 0 0] 51), (rs, .cells #[.int .i64 seed, .slice (some ⟨g, 0, none⟩) R.length c1] 51), (xb, .cells #[.string m, .int .i64 s, .int .i64 x] 92)] (.slice P10 ((t + 1) + 1) k10) ((insP R (m, s, x) k i ++ [(m, s, x)]) ++ [Y]) (w5.setCell ⟨ob, 1, none⟩ (.slice P10 ((t + 1) + 1) k10))) := HSB.out.put (n := (t + 1) + 1) hg5 ho5 (by rw [List.length_append, HT9.out]; rfl)
          clear hg5 ho5 hr5 z0 z1 zf o0 o1 of s0 s1 sf p1' p2' p3' hol hrl
          go_wp2
          go_roundw
          case rel => exact ⟨i + 1, hlt, by simp, by have := HIK.out; simp; omega, _, by rw [HNX.out]; exact HP5.out⟩
          case measure => simp [intOf]; omega
      · have hdk : decide (k < i) = true := by simp; omega
        rw [hdk]
        have HNX : Hid (insP R (m, s, x) k (i + 1) = insP R (m, s, x) k i ++ [Y]) := HGO.out (by omega)
        clear hdk
        have hS := And.intro x0 (And.intro x1 (And.intro x2 (And.intro s1 (And.intro p1 (And.intro p2 p3)))))
        go_upto_region 8 with fail
        go_quiet (fail)
        go_upto_region 11 with fail
        generalize hwd : World.drewN wr _ = wd
        have HSA : Hid (OutSt w1 W4.heap.size seed ob [(rb, .cells #[.int .i64 0, .slice none 0 0] 51), (rs, .cells #[.int .i64 seed, .slice (some ⟨g, 0, none⟩) R.length c1] 51), (xb, .cells #[.string m, .int .i64 s, .int .i64 x] 92)] (.slice P8 t k8) (insP R (m, s, x) k i) wd) := by rw [← hwd]; exact HST.out.on (below_dn (Below.refl _ _) _)
        obtain ⟨p1', p2', p3'⟩ : wd.cell? ⟨g, i * 3, none⟩ = some (.string Y.1) ∧ wd.cell? ⟨g, i * 3 + 1, none⟩ = some (.int .i64 Y.2.1) ∧ wd.cell? ⟨g, i * 3 + 2, none⟩ = some (.int .i64 Y.2.2) := by rw [← hwd]; exact ⟨p1, p2, p3⟩
        clear hwd hS hd p1 p2 p3 o0 o1 of s0 s1 sf x0 x1 x2 xf r0 r1 rf
        obtain ⟨o0, o1, of⟩ := cells2 HSA.out.out
        obtain ⟨s0, s1, sf⟩ := cells2 HSA.out.fx3.2.1.1
        have HBA : Hid (Below wd.heap.size wd (wd.alloc (.cells #[.string Y.1, .int .i64 Y.2.1, .int .i64 Y.2.2] 92)).drew) := ((Below.refl _ _).alloc (Nat.le_refl _) _).drew
        have HNW : Hid ((wd.alloc (.cells #[.string Y.1, .int .i64 Y.2.1, .int .i64 Y.2.2] 92)).drew.heap[wd.heap.size]? = some (.cells #[.string Y.1, .int .i64 Y.2.1, .int .i64 Y.2.2] 92)) := one_alloc _ _
        have HSB : Hid _ := HSA.out.on HBA.out
        have hol : ob < wd.heap.size := row_lt HSA.out.out
        have hrl : rs < wd.heap.size := row_lt HSA.out.fx3.2.1.1
        go_region_law (refine step_append_en rfl (.tmp 54) (.tmp 60) rfl W4.heap.size _ (t) (insP R (m, s, x) k i) HT.out.symm rfl (HT.out ▸ HSB.out.own) wd.heap.size Y rfl HNW.out (by have := HTB.out; omega) HSB.out.size ?_; intro v5 w5 ho5 hg5; obtain ⟨P10, k10, hkf⟩ := own_form ho5; subst hkf; have hr5 := grown_row HSB.out.out hg5 (own_ge HSB.out.own) HSB.out.ob2; obtain ⟨z0, z1, zf⟩ := cells2 hr5)
        all_goals
          have HP5 : Hid (OutSt w1 W4.heap.size seed ob [(rb, .cells #[.int .i64 0, .slice none 0 0] 51), (rs, .cells #[.int .i64 seed, .slice (some ⟨g, 0, none⟩) R.length c1] 51), (xb, .cells #[.string m, .int .i64 s, .int .i64 x] 92)] (.slice P10 (t + 1) k10) ((insP R (m, s, x) k i) ++ [Y]) (w5.setCell ⟨ob, 1, none⟩ (.slice P10 (t + 1) k10))) := HSB.out.put (n := t + 1) hg5 ho5 (by rw [List.length_append, HT.out]; rfl)
          clear hg5 ho5 hr5 z0 z1 zf o0 o1 of s0 s1 sf p1' p2' p3' hol hrl
          go_wp2
          go_roundw
          case rel => exact ⟨i + 1, hlt, by simp, by simp; omega, _, by rw [HNX.out]; exact HP5.out⟩
          case measure => simp [intOf]; omega
    · have hie : i = R.length := by omega
      have HIE : Hid (i = R.length) := hie
      have hz4 : ¬ (i : Int) < (R.length : Int) := by omega
      have HEND : Hid _ := insP_end (x := (m, s, x)) HBR.out HNO.out
      rw [HK.out] at HEND
      clear hie
      by_cases hki : k < i
      · have hdk : decide (k < i) = true := by simpa using hki
        rw [hdk]
        have HF : Hid (insP R (m, s, x) k i = SM) := by
          show _ = _
          rw [HSM.out, HIE.out]; exact HEND.out.1 (by have := HIE.out; omega)
        clear hdk
        go_wp2
        have hfin := HST.out.fin (w := w) HST.out.fx3.1.1 HST.out.fx3.1.2.1 HR0.out.2.2 (by have := HBS.out; have := HRB.out; omega)
        obtain ⟨W5, hW5⟩ : ∃ W5, W5 = (wr.setCell ⟨rb, 0, none⟩ (.int .i64 seed)).setCell ⟨rb, 1, none⟩ (.slice P8 t k8) := ⟨_, rfl⟩
        rw [← hW5] at hfin ⊢
        clear hW5
        obtain ⟨g0, g1, he5, hb5⟩ := hfin
        rw [HF.out] at he5
        exact bodyPost_ret (v := .tuple #[bval seed (.slice P8 t k8), .bool (!was)]) (by simp [results, Tryd.results42, go_sem, g0, g1]) rfl ⟨_, rfl, he5, hb5⟩
      · have hdk : decide (k < i) = false := by simpa using hki
        rw [hdk]
        have HF : Hid (insP R (m, s, x) k i ++ [(m, s, x)] = SM) := by
          show _ = _
          rw [HSM.out, HIE.out]; exact HEND.out.2 (by have := HIE.out; omega)
        clear hdk
        obtain ⟨W2, hW2⟩ : ∃ W2, W2 = wr.alloc (.cells #[.string m, .int .i64 s, .int .i64 x] 92) := ⟨_, rfl⟩
        have hb2 : Below wr.heap.size wr W2 := by rw [hW2]; exact (Below.refl _ _).alloc (Nat.le_refl _) _
        have HX1 : Hid (ERow (fun _ => True) W2 (.slice (some ⟨wr.heap.size, 0, none⟩) 1 1) [((m, s, x) : En)]) := ERow.one (by rw [hW2]; exact one_alloc _ _)
        have HS2 : Hid _ := HST.out.on hb2
        clear hb2
        go_upto_region 13 with fail
        go_wp2_with (at_builtin; rw [← hW2]; go_must (refine wpList_append_ens rfl _ _ rfl W4.heap.size _ _ t HT.out.symm rfl (HT.out ▸ HS2.out.own) (fun _ => True) _ [((m, s, x) : En)] rfl HX1.out (t + 1) (by rw [HT.out]; rfl) (by rw [HT.out]; have := HTB.out; simp; omega) HS2.out.size ?_))
        intro v3 w3 ho3 hg3
        rw [← hW2] at hg3
        obtain ⟨P9, k9, hkf⟩ := own_form ho3
        subst hkf
        have hr3 := grown_row HS2.out.out hg3 (own_ge HS2.out.own) HS2.out.ob2
        have HP : Hid (OutSt w1 W4.heap.size seed ob [(rb, .cells #[.int .i64 0, .slice none 0 0] 51), (rs, .cells #[.int .i64 seed, .slice P1 R.length c1] 51), (xb, .cells #[.string m, .int .i64 s, .int .i64 x] 92)] (.slice P9 (t + 1) k9) (insP R (m, s, x) k i ++ [(m, s, x)]) (w3.setCell ⟨ob, 1, none⟩ (.slice P9 (t + 1) k9))) := HS2.out.put (n := t + 1) hg3 ho3 (by simp [HT.out])
        obtain ⟨z0, z1, zf⟩ := cells2 hr3
        clear hW2 ho3 hg3 hr3 o0 o1 of s0 s1 sf x0 x1 x2 xf r0 r1 rf
        go_upto_region 14 with fail
        obtain ⟨wq, hwq⟩ : ∃ wq, wq = w3.setCell ⟨ob, 1, none⟩ (.slice P9 (t + 1) k9) := ⟨_, rfl⟩
        rw [← hwq] at HP ⊢
        clear hwq z0 z1 zf
        obtain ⟨o0, o1, of⟩ := cells2 HP.out.out
        obtain ⟨r0, r1, rf⟩ := cells2 HP.out.fx3.1.1
        have hne1 : rb ≠ ob := by have := HP.out.fx3.1.2.2; exact this
        have hne2 : ob ≠ rb := fun e => hne1 e.symm
        go_wp2
        have hfin := HP.out.fin (w := w) HP.out.fx3.1.1 HP.out.fx3.1.2.1 HR0.out.2.2 (by have := HBS.out; have := HRB.out; omega)
        obtain ⟨W5, hW5⟩ : ∃ W5, W5 = (wq.setCell ⟨rb, 0, none⟩ (.int .i64 seed)).setCell ⟨rb, 1, none⟩ (.slice P9 (t + 1) k9) := ⟨_, rfl⟩
        rw [← hW5] at hfin ⊢
        clear hW5
        obtain ⟨g0, g1, he5, hb5⟩ := hfin
        rw [HF.out] at he5
        exact bodyPost_ret (v := .tuple #[bval seed (.slice P9 (t + 1) k9), .bool (!was)]) (by simp [results, Tryd.results42, go_sem, g0, g1]) rfl ⟨_, rfl, he5, hb5⟩
end Go.Proofs.YtgbplghokciimaaDoor
