import Derived.Test.YtdemodhjlbkbeabRW
import Derived.Test.YtdemodhjlbkbeabRL
namespace Go.Proofs.Ytdemodhjlbkbeab
open Go.RowKit
set_option linter.unusedVariables false
theorem Rel.ok {D : DS} {R : RD} (h : Rel D R) (hD : DInv D) (hc : cnt D.T1 + cnt D.T2 ≤ 4398046511000) : ROk R := by
  refine ⟨by rw [h.s1]; exact hD.sz1, by rw [h.s2]; exact hD.sz2, by rw [← h.c1, ← h.c2]; omega, fun e he => hD.keys e (List.mem_append_left _ (h.p1.mem_iff.2 he)), fun e he => hD.keys e (List.mem_append_right _ (h.p2.mem_iff.2 he))⟩
theorem step_rel (Q : Nat → Prop) (v : Value) (D : DS) (R : RD) (hD : DInv D) (hr : Rel D R) (hc : cnt D.T1 + cnt D.T2 ≤ 4398046511000) (w : World) (hQ : ∀ q, w.heap.size ≤ q → Q q) (h : RV Q w v R) : Calls Try.prog 22 #[v] w fun e w' => ∃ v', e = .returned v' ∧ ∃ R', RV Q w' v' R' ∧ Rel (stepD D) R' ∧ Below w.heap.size w w' := by
  by_cases hm : D.T2 = []
  · have hs : R.s2 = 0 := by rw [hr.s2, hm]; rfl
    refine (step_still Q v R hs w h).mono ?_
    rintro e w' ⟨v', rfl, h1, h2⟩
    have := hr.step hD
    unfold rstep at this
    rw [if_pos hs] at this
    exact ⟨v', rfl, R, h1, this, h2⟩
  · have hs : 0 < R.s2 := hr.mv.2 hm
    refine (step_go Q v R hs (hr.ok hD hc) _ (hr.next hD hm) w hQ h).mono ?_
    rintro e w' ⟨v', rfl, h1, h2⟩
    have := hr.step hD
    unfold rstep at this
    rw [if_neg (by omega)] at this
    exact ⟨v', rfl, _, h1, this, h2⟩
abbrev Qx (Q : Nat → Prop) (w : World) : Nat → Prop := fun q => Q q ∧ q ≠ w.heap.size ∧ q ≠ w.heap.size + 1
/-- the document's dict in a variable, its answer's place beside it. -/
structure At6 (Q : Nat → Prop) (w W : World) (R : RD) (U1 : Option Addr) (d1 : Nat) (U2 : Option Addr) (d2 : Nat) : Prop where
  row : W.heap[w.heap.size]? = some (.cells #[.int .i64 R.seed, .int .i64 (R.s1 : Int), .slice U1 R.l1.length d1, .int .i64 (R.s2 : Int), .slice U2 R.l2.length d2, .int .i64 (R.ix : Int)] 29)
  zero : W.heap[w.heap.size + 1]? = some (.cells #[.int .i64 0, .int .i64 0, .slice none 0 0, .int .i64 0, .slice none 0 0, .int .i64 0] 29)
  i1 : IRow (Qx Q w) W (.slice U1 R.l1.length d1) R.l1
  i2 : IRow (Qx Q w) W (.slice U2 R.l2.length d2) R.l2
  below : Below w.heap.size w W
  size : w.heap.size + 2 ≤ W.heap.size
theorem At6.start {Q : Nat → Prop} {w : World} {R : RD} {U1 U2 : Option Addr} {d1 d2 : Nat} (h1 : IRow Q w (.slice U1 R.l1.length d1) R.l1) (h2 : IRow Q w (.slice U2 R.l2.length d2) R.l2) : At6 Q w ((w.alloc (.cells #[.int .i64 R.seed, .int .i64 (R.s1 : Int), .slice U1 R.l1.length d1, .int .i64 (R.s2 : Int), .slice U2 R.l2.length d2, .int .i64 (R.ix : Int)] 29)).alloc (.cells #[.int .i64 0, .int .i64 0, .slice none 0 0, .int .i64 0, .slice none 0 0, .int .i64 0] 29)) R U1 d1 U2 d2 := by
  have hb : Below w.heap.size w ((w.alloc (.cells #[.int .i64 R.seed, .int .i64 (R.s1 : Int), .slice U1 R.l1.length d1, .int .i64 (R.s2 : Int), .slice U2 R.l2.length d2, .int .i64 (R.ix : Int)] 29)).alloc (.cells #[.int .i64 0, .int .i64 0, .slice none 0 0, .int .i64 0, .slice none 0 0, .int .i64 0] 29)) := by
    repeat (refine Below.alloc ?_ (by simp <;> omega) _)
    exact Below.refl _ _
  refine ⟨keep_row (one_alloc w _) ((Below.refl _ _).alloc (Nat.le_refl _) _), ?_, h1.fresh.on hb, h2.fresh.on hb, hb, by simp⟩
  have := one_alloc (w.alloc (.cells #[.int .i64 R.seed, .int .i64 (R.s1 : Int), .slice U1 R.l1.length d1, .int .i64 (R.s2 : Int), .slice U2 R.l2.length d2, .int .i64 (R.ix : Int)] 29)) (.cells #[.int .i64 0, .int .i64 0, .slice none 0 0, .int .i64 0, .slice none 0 0, .int .i64 0] 29)
  simpa using this
theorem At6.on {Q : Nat → Prop} {w W W' : World} {R : RD} {U1 U2 : Option Addr} {d1 d2 : Nat} (h : At6 Q w W R U1 d1 U2 d2) (hb : Below W.heap.size W W') : At6 Q w W' R U1 d1 U2 d2 :=
  ⟨keep_row h.row hb, keep_row h.zero hb, h.i1.on hb, h.i2.on hb, h.below.trans (hb.mono h.below.size), Nat.le_trans h.size hb.size⟩
theorem At6.rv {Q : Nat → Prop} {w W : World} {R : RD} {U1 U2 : Option Addr} {d1 d2 : Nat} (h : At6 Q w W R U1 d1 U2 d2) : RV (Qx Q w) W (.agg #[.int .i64 R.seed, .int .i64 (R.s1 : Int), .slice U1 R.l1.length d1, .int .i64 (R.s2 : Int), .slice U2 R.l2.length d2, .int .i64 (R.ix : Int)]) R := ⟨_, _, rfl, h.i1, h.i2⟩
theorem At6.up {Q : Nat → Prop} {w W : World} {R : RD} {U1 U2 : Option Addr} {d1 d2 : Nat} (h : At6 Q w W R U1 d1 U2 d2) (hQ : ∀ q, w.heap.size ≤ q → Q q) : ∀ q, W.heap.size ≤ q → Qx Q w q := fun q hq => by
  have := h.size
  exact ⟨hQ q (by omega), by omega, by omega⟩
theorem At6.store {Q : Nat → Prop} {w W : World} {R R' : RD} {U1 U2 U1' U2' : Option Addr} {d1 d2 d1' d2' : Nat} (h : At6 Q w W R U1 d1 U2 d2) (h1 : IRow (Qx Q w) W (.slice U1' R'.l1.length d1') R'.l1) (h2 : IRow (Qx Q w) W (.slice U2' R'.l2.length d2') R'.l2) :
    At6 Q w (st6 W w.heap.size (.int .i64 R'.seed) (.int .i64 (R'.s1 : Int)) (.slice U1' R'.l1.length d1') (.int .i64 (R'.s2 : Int)) (.slice U2' R'.l2.length d2') (.int .i64 (R'.ix : Int))) R' U1' d1' U2' d2' := by
  have ho := st6_only W w.heap.size (.int .i64 R'.seed) (.int .i64 (R'.s1 : Int)) (.slice U1' R'.l1.length d1') (.int .i64 (R'.s2 : Int)) (.slice U2' R'.l2.length d2') (.int .i64 (R'.ix : Int))
  exact ⟨st6_row h.row _ _ _ _ _ _, (ho.other _ (by omega)).trans h.zero, h1.kept (fun q hq => hq.2.1) ho, h2.kept (fun q hq => hq.2.1) ho, h.below.trans (ho.below (Nat.le_refl _)), by rw [ho.size]; exact h.size⟩
theorem At6.put1 {Q : Nat → Prop} {w W : World} {R : RD} {U1 U2 U : Option Addr} {d1 d2 d n : Nat} {l : List Ent} (h : At6 Q w W R U1 d1 U2 d2) (hn : n = l.length) (h1 : IRow (Qx Q w) W (.slice U n d) l) : At6 Q w (W.setCell ⟨w.heap.size, 2, none⟩ (.slice U n d)) ⟨R.seed, R.s1, l, R.s2, R.l2, R.ix⟩ U d U2 d2 := by
  subst hn
  have ho : Only W (W.setCell ⟨w.heap.size, 2, none⟩ (.slice U l.length d)) w.heap.size := (Only.refl _ _).set _ _
  exact ⟨heap_setCell_same _ _ 2 _ _ _ h.row, (ho.other _ (by omega)).trans h.zero, h1.kept (fun q hq => hq.2.1) ho, h.i2.kept (fun q hq => hq.2.1) ho, h.below.trans (ho.below (Nat.le_refl _)), by rw [ho.size]; exact h.size⟩
theorem At6.put2 {Q : Nat → Prop} {w W : World} {R : RD} {U1 U2 U : Option Addr} {d1 d2 d n : Nat} {l : List Ent} (h : At6 Q w W R U1 d1 U2 d2) (hn : n = l.length) (h1 : IRow (Qx Q w) W (.slice U n d) l) : At6 Q w (W.setCell ⟨w.heap.size, 4, none⟩ (.slice U n d)) ⟨R.seed, R.s1, R.l1, R.s2, l, R.ix⟩ U1 d1 U d := by
  subst hn
  have ho : Only W (W.setCell ⟨w.heap.size, 4, none⟩ (.slice U l.length d)) w.heap.size := (Only.refl _ _).set _ _
  exact ⟨heap_setCell_same _ _ 4 _ _ _ h.row, (ho.other _ (by omega)).trans h.zero, h.i1.kept (fun q hq => hq.2.1) ho, h1.kept (fun q hq => hq.2.1) ho, h.below.trans (ho.below (Nat.le_refl _)), by rw [ho.size]; exact h.size⟩
theorem At6.putS {Q : Nat → Prop} {w W : World} {R : RD} {U1 U2 : Option Addr} {d1 d2 : Nat} (h : At6 Q w W R U1 d1 U2 d2) : At6 Q w (W.setCell ⟨w.heap.size, 1, none⟩ (.int .i64 4)) ⟨R.seed, 4, R.l1, R.s2, R.l2, R.ix⟩ U1 d1 U2 d2 := by
  have ho : Only W (W.setCell ⟨w.heap.size, 1, none⟩ (.int .i64 4)) w.heap.size := (Only.refl _ _).set _ _
  exact ⟨heap_setCell_same _ _ 1 _ _ _ h.row, (ho.other _ (by omega)).trans h.zero, h.i1.kept (fun q hq => hq.2.1) ho, h.i2.kept (fun q hq => hq.2.1) ho, h.below.trans (ho.below (Nat.le_refl _)), by rw [ho.size]; exact h.size⟩
/-- the answer laid. -/
theorem At6.fin {Q : Nat → Prop} {w W : World} {R : RD} {U1 U2 : Option Addr} {d1 d2 : Nat} (h : At6 Q w W R U1 d1 U2 d2) : ∃ W', W' = st6 W (w.heap.size + 1) (.int .i64 R.seed) (.int .i64 (R.s1 : Int)) (.slice U1 R.l1.length d1) (.int .i64 (R.s2 : Int)) (.slice U2 R.l2.length d2) (.int .i64 (R.ix : Int)) ∧ W'.heap[w.heap.size + 1]? = some (.cells #[.int .i64 R.seed, .int .i64 (R.s1 : Int), .slice U1 R.l1.length d1, .int .i64 (R.s2 : Int), .slice U2 R.l2.length d2, .int .i64 (R.ix : Int)] 29) ∧ RV Q W' (dval R.seed R.s1 (.slice U1 R.l1.length d1) R.s2 (.slice U2 R.l2.length d2) R.ix) R ∧ Below w.heap.size w W' := by
  obtain ⟨W', e, h1, h2, h3⟩ := fin6 (Q := Q) h.zero (h.i1.imp (fun q hq => ⟨hq.1, hq.2.2⟩)) (h.i2.imp (fun q hq => ⟨hq.1, hq.2.2⟩))
  exact ⟨W', e, h1, h2, h.below.trans (h3.below (by omega))⟩
set_option maxHeartbeats 2000000 in
set_option maxRecDepth 100000 in
theorem Step_rel (Q : Nat → Prop) (v : Value) (D : DS) (R : RD) (hD : DInv D) (hr : Rel D R) (hc : cnt D.T1 + cnt D.T2 ≤ 4398046511000) (n : Int) (hn : -9223372036854775808 ≤ n ∧ n ≤ 9223372036854775807) (w : World) (hQ : ∀ q, w.heap.size ≤ q → Q q) (h : RV Q w v R) : Calls Try.prog 12 #[v, .int .i64 n] w fun e w' => ∃ v', e = .returned v' ∧ ∃ R', RV Q w' v' R' ∧ Rel (stepN n.toNat D) R' ∧ Below w.heap.size w w' := by
  obtain ⟨v1, v2, rfl, h1, h2⟩ := h
  obtain ⟨P1, c1, rfl⟩ := h1.form
  obtain ⟨P2, c2, rfl⟩ := h2.form
  have HA : Hid _ := At6.start h1 h2
  have HD : Hid (DInv D) := hD
  have HR : Hid (Rel D R) := hr
  have HQ : Hid (∀ q, w.heap.size ≤ q → Q q) := hQ
  clear h1 h2 hD hr hQ
  go_enter Try.func12, Try.ntmps12
  go_wp2
  go_loopw [5] (fun ci wr => ∃ (i : Nat) (S : DS) (T : RD) (U1 : Option Addr) (d1 : Nat) (U2 : Option Addr) (d2 : Nat), (i : Int) ≤ max n 0 ∧ ci = .int .i64 (i : Int) ∧ DInv S ∧ Rel S T ∧ S.all.Perm D.all ∧ stepN (n.toNat - i) S = stepN n.toNat D ∧ At6 Q w wr T U1 d1 U2 d2) (fun ci _ => n.toNat - (intOf ci).toNat)
  case atStart => exact ⟨0, D, R, P1, c1, P2, c2, by omega, rfl, HD.out, HR.out, List.Perm.refl _, rfl, HA.out⟩
  case round =>
    obtain ⟨i, S, T, U1, d1, U2, d2, hi, rfl, hS, hrS, hpS, heS, hA⟩ := hrel
    have HS : Hid (DInv S) := hS
    have HRS : Hid (Rel S T) := hrS
    have HPS : Hid (S.all.Perm D.all) := hpS
    have HES : Hid _ := heS
    have HAT : Hid (At6 Q w wr T U1 d1 U2 d2) := hA
    obtain ⟨a0, a1, a2, a3, a4, a5, af⟩ := row6 hA.row
    have HMV : Hid (∀ W : World, _) := fun W => moving_any T.seed T.s1 (.slice U1 T.l1.length d1) T.s2 (.slice U2 T.l2.length d2) T.ix W
    have hcS := cnt_perm hpS
    have HST : Hid (∀ W, Below wr.heap.size wr W → _) := fun W hW => step_rel (Qx Q w) _ S T hS hrS (by omega) W (fun q hq => hA.up HQ.out q (Nat.le_trans hW.size hq)) ((hA.on hW).rv)
    have HFI : Hid (∀ W, Below wr.heap.size wr W → _) := fun W hW => (hA.on hW).fin
    clear hS hrS hpS heS
    have HDONE : Hid (T.s2 = 0 ∨ ¬ (i : Int) < n → Rel (stepN n.toNat D) T) := fun hq => by
      rw [← HES.out]
      rcases hq with hq | hq
      · rw [stepN_still (List.length_eq_zero_iff.1 (by rw [← HRS.out.s2]; exact hq))]; exact HRS.out
      · rw [show n.toNat - i = 0 by omega]; exact HRS.out
    by_cases hlt : (i : Int) < n
    · go_wp2_with fail
      refine (show Calls _ _ _ _ _ from HMV.out _).mono ?_
      rintro e w1 ⟨rfl, hb1⟩
      have hA1 := hA.on hb1
      clear a0 a1 a2 a3 a4 a5 af
      obtain ⟨a0, a1, a2, a3, a4, a5, af⟩ := row6 hA1.row
      obtain ⟨z0, z1, z2, z3, z4, z5, zf⟩ := row6 hA1.zero
      have HB1 : Hid _ := hb1
      have HA1 : Hid (At6 Q w w1 T U1 d1 U2 d2) := hA1
      clear hA hA1 hb1
      by_cases hm : T.s2 = 0
      · have hmd : decide (0 < T.s2) = false := by simp [hm]
        rw [hmd]
        have HRD : Hid _ := HDONE.out (Or.inl hm)
        clear hm
        go_wp2
        obtain ⟨W', hW', hrw, hrv, hbw⟩ := HA1.out.fin
        change bodyPost _ _ _ _ _ (st6 w1 _ _ _ _ _ _ _)
        rw [← hW']
        have HRV : Hid _ := hrv
        have HBW : Hid _ := hbw
        obtain ⟨e0, e1, e2, e3, e4, e5, ef⟩ := row6 hrw
        clear hW' hrw hrv hbw
        refine bodyPost_ret (v := dval T.seed T.s1 (.slice U1 T.l1.length d1) T.s2 (.slice U2 T.l2.length d2) T.ix) (by simp [results, Try.results12, go_sem, e0, e1, e2, e3, e4, e5]) rfl ?_
        exact ⟨_, rfl, T, HRV.out, HRD.out, HBW.out⟩
      · have hmd : decide (0 < T.s2) = true := by simp; omega
        rw [hmd]
        have hiw : IntKind.i64.wrap ((i : Int) + 1) = (i : Int) + 1 := by rw [IntKind.wrap_i64] <;> omega
        go_wp2_with fail
        refine (show Calls _ _ _ _ _ from HST.out _ HB1.out).mono ?_
        rintro e w2 ⟨v', rfl, T', hv', hrT, hb2⟩
        have hA2 := HA1.out.on hb2
        obtain ⟨u1, u2, rfl, r1, r2⟩ := hv'
        obtain ⟨E1, f1, rfl⟩ := r1.form
        obtain ⟨E2, f2, rfl⟩ := r2.form
        clear a0 a1 a2 a3 a4 a5 af z0 z1 z2 z3 z4 z5 zf
        obtain ⟨a0, a1, a2, a3, a4, a5, af⟩ := row6 hA2.row
        have HA3 : Hid _ := hA2.store r1 r2
        have HRT : Hid (Rel (stepD S) T') := hrT
        have HE2 : Hid (stepN (n.toNat - (i + 1)) (stepD S) = stepN n.toNat D) := by
          show _ = _
          rw [← HES.out, show n.toNat - i = (n.toNat - (i + 1)) + 1 by omega]; rfl
        clear hA2 r1 r2 hrT hb2
        go_wp2
        go_roundw
        case rel => exact ⟨i + 1, stepD S, T', E1, f1, E2, f2, by omega, by simp, (stepD_ok HS.out).1, HRT.out, (stepD_ok HS.out).2.1.trans HPS.out, HE2.out, HA3.out⟩
        case measure => simp [intOf]; omega
    · have HRD : Hid _ := HDONE.out (Or.inr hlt)
      obtain ⟨z0, z1, z2, z3, z4, z5, zf⟩ := row6 hA.zero
      clear hA
      go_wp2
      obtain ⟨W', hW', hrw, hrv, hbw⟩ := HAT.out.fin
      change bodyPost _ _ _ _ _ (st6 wr _ _ _ _ _ _ _)
      rw [← hW']
      have HRV : Hid _ := hrv
      have HBW : Hid _ := hbw
      obtain ⟨e0, e1, e2, e3, e4, e5, ef⟩ := row6 hrw
      clear hW' hrw hrv hbw
      refine bodyPost_ret (v := dval T.seed T.s1 (.slice U1 T.l1.length d1) T.s2 (.slice U2 T.l2.length d2) T.ix) (by simp [results, Try.results12, go_sem, e0, e1, e2, e3, e4, e5]) rfl ?_
      exact ⟨_, rfl, T, HRV.out, HRD.out, HBW.out⟩
set_option maxHeartbeats 2000000 in
set_option maxRecDepth 100000 in
theorem Get_rel (Q : Nat → Prop) (v : Value) (R : RD) (hR : ROk R) (k : ByteArray) (w : World) (h : RV Q w v R) : Calls Try.prog 18 #[v, .string k] w fun e w' => ((∃ x, e = .returned (.tuple #[.int .i64 x, .bool true]) ∧ (k, x) ∈ R.l1 ++ R.l2) ∨ (e = .returned (.tuple #[.int .i64 0, .bool false]) ∧ k ∉ (R.l1 ++ R.l2).map (·.1))) ∧ Below w.heap.size w w' := by
  obtain ⟨v1, v2, rfl, h1, h2⟩ := h
  obtain ⟨P1, c1, rfl⟩ := h1.form
  obtain ⟨P2, c2, rfl⟩ := h2.form
  have HI1 : Hid (IRow Q w _ R.l1) := h1
  have HI2 : Hid (IRow Q w _ R.l2) := h2
  have HR : Hid (ROk R) := hR
  clear h1 h2 hR
  have hl1 : R.l1.length ≤ 4398046511104 := by have := HR.out.n; omega
  have hl2 : R.l2.length ≤ 4398046511104 := by have := HR.out.n; omega
  obtain ⟨W0, hW0⟩ : ∃ W0, W0 = w.alloc (.cells #[.int .i64 R.seed, .int .i64 (R.s1 : Int), .slice P1 R.l1.length c1, .int .i64 (R.s2 : Int), .slice P2 R.l2.length c2, .int .i64 (R.ix : Int)] 29) := ⟨_, rfl⟩
  have hb0 : Below w.heap.size w W0 := by rw [hW0]; exact (Below.refl _ _).alloc (Nat.le_refl _) _
  have hrow : W0.heap[w.heap.size]? = some (.cells #[.int .i64 R.seed, .int .i64 (R.s1 : Int), .slice P1 R.l1.length c1, .int .i64 (R.s2 : Int), .slice P2 R.l2.length c2, .int .i64 (R.ix : Int)] 29) := by rw [hW0]; exact one_alloc _ _
  have HROW : Hid _ := hrow
  have HB0 : Hid _ := hb0
  have HA1 : Hid _ := at_any Q R.s1 _ R.l1 hl1 k W0 (HI1.out.on hb0)
  clear hb0 hrow
  go_enter Try.func18, Try.ntmps18
  go_wp2_with fail
  rw [← hW0]
  clear hW0
  refine (show Calls _ _ _ _ _ from HA1.out).mono ?_
  rintro e w1 ⟨hb1, hcase⟩
  have HB1 : Hid (Below w.heap.size w w1) := HB0.out.trans (hb1.mono HB0.out.size)
  obtain ⟨a0, a1, a2, a3, a4, a5, af⟩ := row6 (keep_row HROW.out hb1)
  have HROW1 : Hid _ := keep_row HROW.out hb1
  have HA2 : Hid _ := at_any Q R.s2 _ R.l2 hl2 k w1 (HI2.out.on HB1.out)
  clear hb1
  rcases hcase with ⟨rfl, hno⟩ | ⟨j, hj, rfl, hjk⟩
  · have HNO : Hid _ := hno
    clear hno
    go_wp2_with fail
    refine (show Calls _ _ _ _ _ from HA2.out).mono ?_
    rintro e w2 ⟨hb2, hcase⟩
    have HB2 : Hid (Below w.heap.size w w2) := HB1.out.trans (hb2.mono HB1.out.size)
    clear a0 a1 a2 a3 a4 a5 af
    obtain ⟨a0, a1, a2, a3, a4, a5, af⟩ := row6 (keep_row HROW1.out hb2)
    clear hb2
    rcases hcase with ⟨rfl, hno⟩ | ⟨j, hj, rfl, hjk⟩
    · have HNO2 : Hid _ := hno
      clear hno
      go_wp2
      go_returns
      exact ⟨Or.inr ⟨rfl, by rw [List.map_append, List.mem_append, not_or]; exact ⟨HNO.out, HNO2.out⟩⟩, HB2.out⟩
    · obtain ⟨g, c', hf, q1, q2⟩ := (HI2.out.on HB2.out).cells hj
      obtain ⟨rfl, _, rfl⟩ : P2 = some ⟨g, 0, none⟩ ∧ True ∧ c2 = c' := by injection hf with h1 h2 h3; exact ⟨h1, trivial, h3⟩
      have HMEM : Hid ((k, R.l2[j].2) ∈ R.l1 ++ R.l2) := List.mem_append_right _ (by rw [← hjk]; exact List.getElem_mem hj)
      have hz3 : (0 : Int) ≤ (j : Int) := by omega
      have hz4 : (j : Int) < (R.l2.length : Int) := by omega
      clear hf hjk
      generalize R.l2[j].2 = X at *
      go_wp2
      go_returns
      exact ⟨Or.inl ⟨X, rfl, HMEM.out⟩, HB2.out⟩
  · obtain ⟨g, c', hf, q1, q2⟩ := (HI1.out.on HB1.out).cells hj
    obtain ⟨rfl, _, rfl⟩ : P1 = some ⟨g, 0, none⟩ ∧ True ∧ c1 = c' := by injection hf with h1 h2 h3; exact ⟨h1, trivial, h3⟩
    have HMEM : Hid ((k, R.l1[j].2) ∈ R.l1 ++ R.l2) := List.mem_append_left _ (by rw [← hjk]; exact List.getElem_mem hj)
    have hz3 : (0 : Int) ≤ (j : Int) := by omega
    have hz4 : (j : Int) < (R.l1.length : Int) := by omega
    clear hf hjk
    generalize R.l1[j].2 = X at *
    go_wp2
    go_returns
    exact ⟨Or.inl ⟨X, rfl, HMEM.out⟩, HB1.out⟩
end Go.Proofs.Ytdemodhjlbkbeab
