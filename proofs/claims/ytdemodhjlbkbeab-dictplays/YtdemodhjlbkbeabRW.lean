import Derived.Test.YtdemodhjlbkbeabRV
import Derived.Deep.CutRange
import Derived.Deep.RegionWith
namespace Go.Proofs.Ytdemodhjlbkbeab
open Go.RowKit
set_option linter.unusedVariables false
theorem IRow.imp {Q Q' : Nat → Prop} {w : World} {v : Value} {l : List Ent} (h : IRow Q w v l) (hq : ∀ q, Q q → Q' q) : IRow Q' w v l := by
  rcases h with h | ⟨g, cap, e, h1, h2⟩
  · exact Or.inl h
  · exact Or.inr ⟨g, cap, e, hq g h1, h2⟩
theorem IRow.kept {Q : Nat → Prop} {b : Nat} {w w' : World} {v : Value} {l : List Ent} (h : IRow Q w v l) (hq : ∀ q, Q q → q ≠ b) (ho : Only w w' b) : IRow Q w' v l := (h.imp (fun q hx => (⟨hx, hq q hx⟩ : Q q ∧ q ≠ b))).only ho
theorem IRow.own_of {Q : Nat → Prop} {w : World} {base n : Nat} {v : Value} {l : List Ent} (h : w.ownsRow base 63 2 v n (flat l)) (hn : n = l.length) (hQ : ∀ q, base ≤ q → Q q) : IRow Q w v l := by
  subst hn; exact IRow.of_own h hQ
theorem IRow.fresh {Q : Nat → Prop} {w : World} {v : Value} {l : List Ent} (h : IRow Q w v l) : IRow (fun q => Q q ∧ q ≠ w.heap.size ∧ q ≠ w.heap.size + 1) w v l := by
  rcases h with h | ⟨g, cap, e, h1, h2, h3, h4⟩
  · exact Or.inl h
  · exact Or.inr ⟨g, cap, e, ⟨h1, by omega, by omega⟩, h2, h3, h4⟩
/-- bounds of the document's dict. -/
structure ROk (R : RD) : Prop where
  s1 : R.s1 ≤ 4398046511104
  s2 : R.s2 ≤ 4398046511104
  n : R.l1.length + R.l2.length ≤ 4398046511100
  k1 : ∀ e ∈ R.l1, e.1.size ≤ 281474976710656
  k2 : ∀ e ∈ R.l2, e.1.size ≤ 281474976710656
abbrev drow (R : RD) (v1 v2 : Value) : Array Value := #[.int .i64 R.seed, .int .i64 (R.s1 : Int), v1, .int .i64 (R.s2 : Int), v2, .int .i64 (R.ix : Int)]
set_option maxHeartbeats 1000000 in
set_option maxRecDepth 100000 in
theorem step_still (Q : Nat → Prop) (v : Value) (R : RD) (hs : R.s2 = 0) (w : World) (h : RV Q w v R) : Calls Try.prog 22 #[v] w fun e w' => ∃ v', e = .returned v' ∧ RV Q w' v' R ∧ Below w.heap.size w w' := by
  obtain ⟨v1, v2, rfl, h1, h2⟩ := h
  obtain ⟨P1, c1, rfl⟩ := h1.form
  obtain ⟨P2, c2, rfl⟩ := h2.form
  rw [hs]
  have HRV : Hid (∀ W, Below w.heap.size w W → RV Q W (dval R.seed R.s1 (.slice P1 R.l1.length c1) 0 (.slice P2 R.l2.length c2) R.ix) R) := fun W hb => ⟨_, _, by rw [hs], h1.on hb, h2.on hb⟩
  clear h1 h2
  go_enter Try.func22, Try.ntmps22
  go_wp2
  go_returns
  refine ⟨_, rfl, HRV.out _ ?_, ?_⟩ <;>
  · repeat (refine Below.alloc ?_ (by simp <;> omega) _)
    exact Below.refl _ _
set_option maxHeartbeats 4000000 in
set_option maxRecDepth 100000 in
theorem step_go (Q : Nat → Prop) (v : Value) (R : RD) (hs : 0 < R.s2) (hR : ROk R) (b0 : Nat) (hN : NextIs R b0) (w : World) (hQ : ∀ q, w.heap.size ≤ q → Q q) (h : RV Q w v R) : Calls Try.prog 22 #[v] w fun e w' => ∃ v', e = .returned v' ∧ RV Q w' v' (rover (rstepB R b0)) ∧ Below w.heap.size w w' := by
  obtain ⟨v1, v2, rfl, h1, h2⟩ := h
  obtain ⟨P1, c1, rfl⟩ := h1.form
  obtain ⟨P2, c2, rfl⟩ := h2.form
  have HI1 : Hid (IRow Q w _ R.l1) := h1
  have HI2 : Hid (IRow Q w _ R.l2) := h2
  have HN : Hid (NextIs R b0) := hN
  have HR : Hid (ROk R) := hR
  have HQ : Hid (∀ q, w.heap.size ≤ q → Q q) := hQ
  have hs1 := hR.s1
  have hbs := hN.lt
  have hl1 : R.l1.length ≤ 4398046511100 := by have := hR.n; omega
  clear h1 h2 hN hR hQ
  have hs' : decide (0 < R.s2) = true := by simpa using hs
  have HMV : Hid (∀ W : World, _) := fun W => moving_any R.seed R.s1 (.slice P1 R.l1.length c1) R.s2 (.slice P2 R.l2.length c2) R.ix W
  rw [hs'] at HMV
  clear hs'
  go_enter Try.func22, Try.ntmps22
  go_wp2_with fail
  refine (show Calls _ _ _ _ _ from HMV.out _).mono ?_
  rintro e W0 ⟨rfl, hbm⟩
  have HB0 : Hid (Below w.heap.size w W0) := by
    refine Below.trans ?_ (hbm.mono (by simp <;> omega))
    repeat (refine Below.alloc ?_ (by simp <;> omega) _)
    exact Below.refl _ _
  have HS0 : Hid (w.heap.size + 2 ≤ W0.heap.size) := by have := hbm.size; simp at this; exact this
  have HA0 : Hid (W0.heap[w.heap.size]? = some (.cells #[.int .i64 R.seed, .int .i64 (R.s1 : Int), .slice P1 R.l1.length c1, .int .i64 (R.s2 : Int), .slice P2 R.l2.length c2, .int .i64 (R.ix : Int)] 29)) := keep_row (keep_row (one_alloc w _) ((Below.refl _ _).alloc (Nat.le_refl _) _)) hbm
  have HZ0 : Hid (W0.heap[w.heap.size + 1]? = some (.cells #[.int .i64 0, .int .i64 0, .slice none 0 0, .int .i64 0, .slice none 0 0, .int .i64 0] 29)) := by
    have := keep_row (one_alloc (w.alloc (.cells #[.int .i64 R.seed, .int .i64 (R.s1 : Int), .slice P1 R.l1.length c1, .int .i64 (R.s2 : Int), .slice P2 R.l2.length c2, .int .i64 (R.ix : Int)] 29)) (.cells #[.int .i64 0, .int .i64 0, .slice none 0 0, .int .i64 0, .slice none 0 0, .int .i64 0] 29)) hbm
    show _ = _
    simpa using this
  clear hbm
  obtain ⟨z0, z1, z2, z3, z4, z5, zf⟩ := row6 HA0.out
  go_wp2
  clear z0 z1 z2 z3 z4 z5 zf
  go_loopw [3] (fun cb wr => ∃ b : Nat, R.ix ≤ b ∧ b ≤ b0 ∧ cb = .int .i64 (b : Int) ∧ Below W0.heap.size W0 wr) (fun cb _ => b0 - (intOf cb).toNat)
  case atStart => exact ⟨R.ix, Nat.le_refl _, HN.out.ge, rfl, Below.refl _ _⟩
  case round =>
    obtain ⟨b, hb1, hb2, rfl, hbw⟩ := hrel
    obtain ⟨w1, hw1⟩ : ∃ w1, w1 = wr := ⟨_, rfl⟩
    subst hw1
    have HBW : Hid (Below W0.heap.size W0 w1) := hbw
    have HBX : Hid (Below w.heap.size w w1) := HB0.out.trans (hbw.mono (by have := HS0.out; omega))
    have HAR : Hid _ := keep_row HA0.out hbw
    have HSR : Hid (w.heap.size + 2 ≤ w1.heap.size) := Nat.le_trans HS0.out hbw.size
    obtain ⟨a0, a1, a2, a3, a4, a5, af⟩ := row6 HAR.out
    have hz1 : (b : Int) < (R.s1 : Int) := by omega
    have HO0 : Hid (w1.ownsRow w1.heap.size 63 2 (.slice none 0 0) 0 (flat [])) := ⟨rfl, Or.inl ⟨rfl, rfl⟩⟩
    clear hbw
    go_wp2
    clear a0 a1 a2 a3 a4 a5 af
    go_loopw [5, 4] (fun ci sv wi => ∃ i N : Nat, i ≤ R.l1.length ∧ ci = .int .i64 (i : Int) ∧ N = ((R.l1.take i).filter (fun e => !(inBk R.seed R.s1 b e))).length ∧ N ≤ i ∧ wi.ownsRow w1.heap.size 63 2 sv N (flat ((R.l1.take i).filter (fun e => !(inBk R.seed R.s1 b e)))) ∧ Below w1.heap.size w1 wi) (fun ci _ _ => R.l1.length - (intOf ci).toNat)
    case atStart => exact ⟨0, 0, Nat.zero_le _, rfl, rfl, Nat.le_refl _, HO0.out, Below.refl _ _⟩
    case round =>
      obtain ⟨i, N, hi, rfl, hN, hNi, hos, hbi⟩ := hrel
      have HN' : Hid _ := hN
      have HOS : Hid (wr.ownsRow w1.heap.size 63 2 _ N (flat ((R.l1.take i).filter (fun e => !(inBk R.seed R.s1 b e))))) := hos
      have HBI : Hid (Below w1.heap.size w1 wr) := hbi
      obtain ⟨P8, k8, hkf⟩ := own_form hos
      subst hkf
      have HAI : Hid _ := keep_row HAR.out hbi
      obtain ⟨a0, a1, a2, a3, a4, a5, af⟩ := row6 HAI.out
      have HBXI : Hid (Below w.heap.size w wr) := HBX.out.trans (hbi.mono HBX.out.size)
      have hIr := HI1.out.on HBXI.out
      clear hN hos hbi
      by_cases hlt : i < R.l1.length
      · obtain ⟨g, c', hf, hc1, hc2⟩ := hIr.cells hlt
        obtain ⟨rfl, _, rfl⟩ : P1 = some ⟨g, 0, none⟩ ∧ True ∧ c1 = c' := by injection hf with h1 h2 h3; exact ⟨h1, trivial, h3⟩
        have hz3 : (0 : Int) ≤ (i : Int) := by omega
        have hz4 : (i : Int) < (R.l1.length : Int) := by omega
        have hkk := HR.out.k1 R.l1[i] (List.getElem_mem hlt)
        have HBK : Hid (∀ W : World, _) := fun W => bucket_ref R.seed R.s1 (.slice (some ⟨g, 0, none⟩) R.l1.length c1) R.s2 (.slice P2 R.l2.length c2) R.ix R.l1[i].1 hkk R.s1 (by omega) hs1 W
        have HTK : Hid ((R.l1.take (i + 1)).filter (fun e => !(inBk R.seed R.s1 b e)) = (R.l1.take i).filter (fun e => !(inBk R.seed R.s1 b e)) ++ (if hN R.seed R.l1[i].1 % R.s1 = b then [] else [R.l1[i]])) := by
          show _ = _
          rw [List.take_succ_eq_append_getElem hlt, List.filter_append]
          congr 1
          unfold inBk
          by_cases hq : hN R.seed R.l1[i].1 % R.s1 = b
          · simp [hq]
          · simp [hq]
        clear hf hIr
        obtain ⟨X, hX⟩ : ∃ X, R.l1[i] = X := ⟨_, rfl⟩
        obtain ⟨xk, xv⟩ := X
        rw [hX] at HBK HTK hkk hc1 hc2
        simp only at HBK HTK hkk hc1 hc2
        clear hX
        have hmlt := Nat.mod_lt (hN R.seed xk) (show 0 < R.s1 by omega)
        obtain ⟨m, hm⟩ : ∃ m, hN R.seed xk % R.s1 = m := ⟨_, rfl⟩
        rw [hm] at HBK HTK hmlt
        clear hm
        go_upto_region 10 with fail
        go_cut [41] from 28 to 41 (fun sx wx => sx = .bool ((m : Int) != (b : Int)) ∧ Below wr.heap.size wr wx)
        case first =>
          go_region_with (go_at_call 47; refine (show Calls _ _ _ _ _ from HBK.out _).mono ?_; rintro e w3 ⟨rfl, hb3⟩)
          all_goals
            go_wp2_with fail
            go_meet
            exact ⟨rfl, (Below.refl _ wr).drew.trans hb3⟩
        case rest =>
          obtain ⟨rfl, hbc⟩ := hcut
          have HBC : Hid (Below w1.heap.size w1 wc) := HBI.out.trans (hbc.mono HBI.out.size)
          have HOC : Hid (wc.ownsRow w1.heap.size 63 2 (.slice P8 N k8) N (flat ((R.l1.take i).filter (fun e => !(inBk R.seed R.s1 b e))))) := own_keep HOS.out (fun q _ hq => hbc.block q hq)
          have d1 := cell_on hc1 hbc
          have d2 := cell_on hc2 hbc
          have HAC : Hid _ := keep_row HAI.out hbc
          clear hc1 hc2 hbc a0 a1 a2 a3 a4 a5 af
          obtain ⟨a0, a1, a2, a3, a4, a5, af⟩ := row6 HAC.out
          have hiw : IntKind.i64.wrap ((i : Int) + 1) = (i : Int) + 1 := by rw [IntKind.wrap_i64] <;> omega
          by_cases hmb : m = b
          · have hne : ((m : Int) != (b : Int)) = false := by subst hmb; simp
            have HT2 : Hid ((R.l1.take (i + 1)).filter (fun e => !(inBk R.seed R.s1 b e)) = (R.l1.take i).filter (fun e => !(inBk R.seed R.s1 b e))) := by show _ = _; rw [HTK.out, if_pos hmb, List.append_nil]
            clear hmb
            go_wp2
            go_roundw
            case rel => exact ⟨i + 1, N, hlt, by simp, by rw [HT2.out]; exact HN'.out, by omega, by rw [HT2.out]; exact HOC.out, HBC.out⟩
            case measure => simp [intOf]; omega
          · have hne : ((m : Int) != (b : Int)) = true := by simp; omega
            have HT2 : Hid ((R.l1.take (i + 1)).filter (fun e => !(inBk R.seed R.s1 b e)) = (R.l1.take i).filter (fun e => !(inBk R.seed R.s1 b e)) ++ [(xk, xv)]) := by show _ = _; rw [HTK.out, if_neg hmb]
            clear hmb
            obtain ⟨W2, hW2⟩ : ∃ W2, W2 = wc.alloc (.cells #[.string xk, .int .i64 xv] 63) := ⟨_, rfl⟩
            have hb2' : Below wc.heap.size wc W2 := by rw [hW2]; exact (Below.refl _ _).alloc (Nat.le_refl _) _
            have hx2 : W2.heap[wc.heap.size]? = some (.cells #[.string xk, .int .i64 xv] 63) := by rw [hW2]; exact one_alloc _ _
            have HI3 : Hid (IRow (fun _ => True) W2 (.slice (some ⟨wc.heap.size, 0, none⟩) 1 1) [(xk, xv)]) := Or.inr ⟨wc.heap.size, 1, rfl, trivial, Nat.le_refl _, row_lt hx2, fun j u hu => by rw [cell_of_row _ _ _ _ _ _ hx2]; simpa [flat] using hu⟩
            have HO2 : Hid (W2.ownsRow w1.heap.size 63 2 (.slice P8 N k8) N (flat ((R.l1.take i).filter (fun e => !(inBk R.seed R.s1 b e))))) := own_keep HOC.out (fun q _ hq => hb2'.block q hq)
            have HB2 : Hid (Below w1.heap.size w1 W2) := HBC.out.trans (hb2'.mono HBC.out.size)
            clear hb2' hx2
            go_upto_region 11 with fail
            go_wp2_with (at_builtin; rw [← hW2]; go_must (refine wpList_append_items rfl _ _ rfl w1.heap.size _ _ N HN'.out rfl HO2.out (fun _ => True) _ [(xk, xv)] rfl HI3.out (N + 1) ?q1 ?q2 HB2.out.size ?_))
            case q1 => rw [← HN'.out]; rfl
            case q2 => rw [← HN'.out]; simp; omega
            intro v3 w3 ho3 hg3
            rw [← hW2] at hg3
            have HB3 : Hid (Below w1.heap.size w1 w3) := HB2.out.grown hg3 HB2.out.size (fun q hq => (World.ownsRow.lt HO2.out q hq).1)
            obtain ⟨P9, k9, hkf⟩ := own_form ho3
            subst hkf
            have HO3 : Hid (w3.ownsRow w1.heap.size 63 2 (.slice P9 (N + 1) k9) (N + 1) (flat ((R.l1.take (i + 1)).filter (fun e => !(inBk R.seed R.s1 b e))))) := by
              show World.ownsRow _ _ _ _ _ _ _
              rw [HT2.out]; exact ho3
            have HN3 : Hid (N + 1 = ((R.l1.take (i + 1)).filter (fun e => !(inBk R.seed R.s1 b e))).length) := by
              show _ = _
              rw [HT2.out, List.length_append, ← HN'.out]; rfl
            clear ho3 hg3 hW2
            go_wp2
            go_roundw
            case rel => exact ⟨i + 1, N + 1, hlt, by simp, HN3.out, by omega, HO3.out, HB3.out⟩
            case measure => simp [intOf]; omega
      · have hie : i = R.l1.length := by omega
        have HOF : Hid (wr.ownsRow w1.heap.size 63 2 (.slice P8 N k8) N (flat (R.l1.filter (fun e => !(inBk R.seed R.s1 b e))))) := by
          have q := HOS.out
          rw [hie, List.take_length] at q; exact q
        have HNF : Hid (N = (R.l1.filter (fun e => !(inBk R.seed R.s1 b e))).length) := by
          have q := HN'.out
          rw [hie, List.take_length] at q; exact q
        have hz4 : ¬ (i : Int) < (R.l1.length : Int) := by omega
        clear HOS HN' hIr
        by_cases hbb : b = b0
        · subst hbb
          have hNl : ((N : Int) == (R.l1.length : Int)) = false := by
            have hne : N ≠ R.l1.length := fun e => by
              rw [HNF.out] at e
              have q := List.length_filter_eq_length_iff.1 e
              exact HN.out.hit (List.filter_eq_nil_iff.2 (fun x hx => by have := q x hx; simpa using this))
            simp; omega
          have HST : Hid (IRow (fun q => Q q ∧ q ≠ w.heap.size ∧ q ≠ w.heap.size + 1) wr (.slice P8 N k8) (R.l1.filter (fun e => !(inBk R.seed R.s1 b e)))) := IRow.own_of HOF.out HNF.out (fun q hq => by have := HSR.out; exact ⟨HQ.out q (by omega), by omega, by omega⟩)
          have HZR : Hid _ := keep_row (keep_row HZ0.out HBW.out) HBI.out
          have HI2F : Hid _ := HI2.out.fresh
          have HSI : Hid (w.heap.size + 2 ≤ wr.heap.size) := Nat.le_trans HSR.out HBI.out.size
          obtain ⟨w2, hw2⟩ : ∃ w2, w2 = wr := ⟨_, rfl⟩
          subst hw2
          go_wp2
          clear a0 a1 a2 a3 a4 a5 af
          go_loopw [6] (fun ci wr => ∃ (j M : Nat) (U2 : Option Addr) (d2 : Nat), j ≤ R.l1.length ∧ ci = .int .i64 (j : Int) ∧ M = (R.l2 ++ (R.l1.take j).filter (inBk R.seed R.s1 b)).length ∧ wr.heap[w.heap.size]? = some (.cells #[.int .i64 R.seed, .int .i64 (R.s1 : Int), .slice P1 R.l1.length c1, .int .i64 (R.s2 : Int), .slice U2 M d2, .int .i64 (R.ix : Int)] 29) ∧ IRow (fun q => Q q ∧ q ≠ w.heap.size ∧ q ≠ w.heap.size + 1) wr (.slice U2 M d2) (R.l2 ++ (R.l1.take j).filter (inBk R.seed R.s1 b)) ∧ wr.heap[w.heap.size + 1]? = some (.cells #[.int .i64 0, .int .i64 0, .slice none 0 0, .int .i64 0, .slice none 0 0, .int .i64 0] 29) ∧ IRow (fun q => Q q ∧ q ≠ w.heap.size ∧ q ≠ w.heap.size + 1) wr (.slice P8 N k8) (R.l1.filter (fun e => !(inBk R.seed R.s1 b e))) ∧ Below w.heap.size w wr ∧ w.heap.size + 2 ≤ wr.heap.size) (fun ci _ => R.l1.length - (intOf ci).toNat)
          case atStart =>
            exact ⟨0, R.l2.length, P2, c2, Nat.zero_le _, rfl, by simp, HAI.out, by simpa using IRow.on HI2F.out HBXI.out, HZR.out, HST.out, HBXI.out, HSI.out⟩
          case round =>
            obtain ⟨j, M, U2, d2, hj, rfl, hM, hrow, hi2, hzr, hst, hbj, hsj⟩ := hrel
            have HM : Hid _ := hM
            have HROW : Hid _ := hrow
            have HIJ : Hid (IRow (fun q => Q q ∧ q ≠ w.heap.size ∧ q ≠ w.heap.size + 1) wr (.slice U2 M d2) (R.l2 ++ (R.l1.take j).filter (inBk R.seed R.s1 b))) := hi2
            have HZJ : Hid _ := hzr
            have HSTJ : Hid (IRow (fun q => Q q ∧ q ≠ w.heap.size ∧ q ≠ w.heap.size + 1) wr (.slice P8 N k8) (R.l1.filter (fun e => !(inBk R.seed R.s1 b e)))) := hst
            have HBJ : Hid (Below w.heap.size w wr) := hbj
            have HSJ : Hid (w.heap.size + 2 ≤ wr.heap.size) := hsj
            obtain ⟨a0, a1, a2, a3, a4, a5, af⟩ := row6 hrow
            have hIr := HI1.out.on hbj
            have hMb : M ≤ 4398046511104 := by
              rw [hM, List.length_append]
              have q1 := HR.out.n
              have q2 : ((R.l1.take j).filter (inBk R.seed R.s1 b)).length ≤ R.l1.length := Nat.le_trans (List.length_filter_le _ _) (by rw [List.length_take]; omega)
              omega
            clear hM hrow hi2 hzr hst hbj hsj
            by_cases hlt : j < R.l1.length
            · obtain ⟨g, c', hf, hc1, hc2⟩ := hIr.cells hlt
              obtain ⟨rfl, _, rfl⟩ : P1 = some ⟨g, 0, none⟩ ∧ True ∧ c1 = c' := by injection hf with h1 h2 h3; exact ⟨h1, trivial, h3⟩
              have hz3 : (0 : Int) ≤ (j : Int) := by omega
              have hz4 : (j : Int) < (R.l1.length : Int) := by omega
              have hkk := HR.out.k1 R.l1[j] (List.getElem_mem hlt)
              have HBK : Hid (∀ W : World, _) := fun W => bucket_ref R.seed R.s1 (.slice (some ⟨g, 0, none⟩) R.l1.length c1) R.s2 (.slice U2 M d2) R.ix R.l1[j].1 hkk R.s1 (by omega) hs1 W
              have HTK : Hid ((R.l1.take (j + 1)).filter (inBk R.seed R.s1 b) = (R.l1.take j).filter (inBk R.seed R.s1 b) ++ (if hN R.seed R.l1[j].1 % R.s1 = b then [R.l1[j]] else [])) := by
                show _ = _
                rw [List.take_succ_eq_append_getElem hlt, List.filter_append]
                congr 1
                by_cases hq : hN R.seed R.l1[j].1 % R.s1 = b
                · simp [inBk, hq]
                · simp [inBk, hq]
              clear hf hIr
              obtain ⟨X, hX⟩ : ∃ X, R.l1[j] = X := ⟨_, rfl⟩
              obtain ⟨xk, xv⟩ := X
              rw [hX] at HBK HTK hkk hc1 hc2
              simp only at HBK HTK hkk hc1 hc2
              clear hX
              have hmlt := Nat.mod_lt (hN R.seed xk) (show 0 < R.s1 by omega)
              obtain ⟨m, hm⟩ : ∃ m, hN R.seed xk % R.s1 = m := ⟨_, rfl⟩
              rw [hm] at HBK HTK hmlt
              clear hm
              go_upto_region 16 with fail
              go_cut [79] from 66 to 79 (fun sx wx => sx = .bool ((m : Int) == (b : Int)) ∧ Below wr.heap.size wr wx)
              case first =>
                go_region_with (go_at_call 47; refine (show Calls _ _ _ _ _ from HBK.out _).mono ?_; rintro e w3 ⟨rfl, hb3⟩)
                all_goals
                  go_wp2_with fail
                  go_meet
                  exact ⟨rfl, (Below.refl _ wr).drew.trans hb3⟩
              case rest =>
                obtain ⟨rfl, hbc⟩ := hcut
                have HBC : Hid (Below w.heap.size w wc) := HBJ.out.trans (hbc.mono HBJ.out.size)
                have HSC : Hid (w.heap.size + 2 ≤ wc.heap.size) := Nat.le_trans HSJ.out hbc.size
                have HIC : Hid _ := HIJ.out.on hbc
                have HSTC : Hid _ := HSTJ.out.on hbc
                have HZC : Hid _ := keep_row HZJ.out hbc
                have HRC : Hid _ := keep_row HROW.out hbc
                have d1 := cell_on hc1 hbc
                have d2' := cell_on hc2 hbc
                clear hc1 hc2 hbc a0 a1 a2 a3 a4 a5 af
                obtain ⟨a0, a1, a2, a3, a4, a5, af⟩ := row6 HRC.out
                have hiw : IntKind.i64.wrap ((j : Int) + 1) = (j : Int) + 1 := by rw [IntKind.wrap_i64] <;> omega
                by_cases hmb : m = b
                · have hne : ((m : Int) == (b : Int)) = true := by subst hmb; simp
                  have HT2 : Hid (R.l2 ++ (R.l1.take (j + 1)).filter (inBk R.seed R.s1 b) = (R.l2 ++ (R.l1.take j).filter (inBk R.seed R.s1 b)) ++ [(xk, xv)]) := by show _ = _; rw [HTK.out, if_pos hmb, List.append_assoc]
                  clear hmb
                  have HWT := with_any _ _ _ (by rw [← HM.out]; exact hMb) xk xv wc.drew (IRow.on HIC.out (Below.refl _ wc).drew)
                  rw [List.length_append, ← HM.out] at HWT
                  have HWTH : Hid _ := HWT
                  clear HWT
                  go_upto_region 17 with fail
                  have HM3 : Hid (M + 1 = (R.l2 ++ (R.l1.take (j + 1)).filter (inBk R.seed R.s1 b)).length) := by show _ = _; rw [HT2.out, List.length_append, ← HM.out]; rfl
                  go_region_with (go_at_call 26; refine (show Calls _ _ _ _ _ from HWTH.out).mono ?_; rintro e w3 ⟨v3, rfl, ho3, hb3⟩; obtain ⟨P9, k9, hkf⟩ := own_form ho3; subst hkf; obtain ⟨f0, f1, f2, f3, f4, f5, ff⟩ := row6 (keep_row HRC.out ((Below.refl _ wc).drew.trans hb3)))
                  all_goals
                    have hb4 : Below wc.heap.size wc w3 := (Below.refl _ wc).drew.trans hb3
                    have HB4 : Hid _ := hb4
                    have HO3 : Hid _ := ho3
                    clear hb4 ho3 hb3 a0 a1 a2 a3 a4 a5 af d1 d2' f0 f1 f2 f3 f4 f5 ff
                    go_wp2
                    go_roundw
                    case rel =>
                      have hb4 := HB4.out
                      have ho3 := HO3.out
                      have hon : Only w3 (w3.setCell ⟨w.heap.size, 4, none⟩ (.slice P9 (M + 1) k9)) w.heap.size := (Only.refl _ _).set _ _
                      have hq : ∀ q, (Q q ∧ q ≠ w.heap.size ∧ q ≠ w.heap.size + 1) → q ≠ w.heap.size := fun q h => h.2.1
                      refine ⟨j + 1, M + 1, P9, k9, hlt, by simp, HM3.out, ?_, ?_, ?_, ?_, ?_, ?_⟩
                      · exact heap_setCell_same w3 _ 4 _ _ _ (keep_row HRC.out hb4)
                      · rw [HT2.out]
                        refine IRow.kept (IRow.own_of ho3 (by rw [List.length_append, ← HM.out]) (fun q hq => ?_)) hq hon
                        have h1 := HSC.out
                        have h2 : wc.heap.size ≤ q := hq
                        exact ⟨HQ.out q (by omega), by omega, by omega⟩
                      · exact (hon.other _ (by omega)).trans (keep_row HZC.out hb4)
                      · exact IRow.kept (IRow.on HSTC.out hb4) hq hon
                      · exact (HBC.out.trans (hb4.mono HBC.out.size)).trans (hon.below (Nat.le_refl _))
                      · rw [hon.size]; exact Nat.le_trans HSC.out hb4.size
                    case measure => simp [intOf]; omega
                · have hne : ((m : Int) == (b : Int)) = false := by simp; omega
                  have HT2 : Hid (R.l2 ++ (R.l1.take (j + 1)).filter (inBk R.seed R.s1 b) = R.l2 ++ (R.l1.take j).filter (inBk R.seed R.s1 b)) := by show _ = _; rw [HTK.out, if_neg hmb, List.append_nil]
                  clear hmb
                  go_wp2
                  go_roundw
                  case rel => exact ⟨j + 1, M, U2, d2, hlt, by simp, by rw [HT2.out]; exact HM.out, HRC.out, by rw [HT2.out]; exact HIC.out, HZC.out, HSTC.out, HBC.out, HSC.out⟩
                  case measure => simp [intOf]; omega
            · have hje : j = R.l1.length := by omega
              have hz4 : ¬ (j : Int) < (R.l1.length : Int) := by omega
              have HIF : Hid (IRow (fun q => Q q ∧ q ≠ w.heap.size ∧ q ≠ w.heap.size + 1) wr (.slice U2 M d2) (R.l2 ++ R.l1.filter (inBk R.seed R.s1 b))) := by
                have q := HIJ.out
                rw [hje, List.take_length] at q; exact q
              have hbw' : IntKind.i64.wrap ((b : Int) + 1) = (b : Int) + 1 := by rw [IntKind.wrap_i64] <;> omega
              clear hIr
              go_upto_region 20 with fail
              obtain ⟨W7, hW7⟩ : ∃ W7, W7 = (wr.setCell ⟨w.heap.size, 2, none⟩ (.slice P8 N k8)).setCell ⟨w.heap.size, 5, none⟩ (.int .i64 ((b : Int) + 1)) := ⟨_, rfl⟩
              rw [← hW7]
              have hon : Only wr W7 w.heap.size := by rw [hW7]; exact ((Only.refl _ _).set _ _).set _ _
              have hr7 : W7.heap[w.heap.size]? = some (.cells #[.int .i64 R.seed, .int .i64 (R.s1 : Int), .slice P8 N k8, .int .i64 (R.s2 : Int), .slice U2 M d2, .int .i64 ((b : Int) + 1)] 29) := by
                rw [hW7]
                exact heap_setCell_same _ _ 5 _ _ _ (heap_setCell_same _ _ 2 _ _ _ HROW.out)
              have HZ7 : Hid (W7.heap[w.heap.size + 1]? = some (.cells #[.int .i64 0, .int .i64 0, .slice none 0 0, .int .i64 0, .slice none 0 0, .int .i64 0] 29)) := (hon.other _ (by omega)).trans HZJ.out
              have HB7 : Hid (Below w.heap.size w W7) := HBJ.out.trans (hon.below (Nat.le_refl _))
              have HS7 : Hid (w.heap.size + 2 ≤ W7.heap.size) := by show _ ≤ _; rw [hon.size]; exact HSJ.out
              have HRV7 : Hid (RV (fun q => Q q ∧ q ≠ w.heap.size ∧ q ≠ w.heap.size + 1) W7 (.agg #[.int .i64 R.seed, .int .i64 (R.s1 : Int), .slice P8 N k8, .int .i64 (R.s2 : Int), .slice U2 M d2, .int .i64 ((b : Int) + 1)]) (rstepB R b)) :=
                ⟨.slice P8 N k8, .slice U2 M d2, rfl, IRow.kept HSTJ.out (fun q h => h.2.1) hon, IRow.kept HIF.out (fun q h => h.2.1) hon⟩
              have HOV : Hid _ := Over_any _ _ _ W7 HRV7.out
              clear a0 a1 a2 a3 a4 a5 af hW7 hon
              obtain ⟨a0, a1, a2, a3, a4, a5, af⟩ := row6 hr7
              clear hr7
              go_wp2_with fail
              refine (show Calls _ _ _ _ _ from HOV.out).mono ?_
              rintro e w8 ⟨v', rfl, hv, hb8⟩
              obtain ⟨u1, u2, rfl, r1, r2⟩ := id hv
              obtain ⟨U1, e1', rfl⟩ := r1.form
              obtain ⟨U3, e2', rfl⟩ := r2.form
              have HV1 : Hid _ := IRow.imp r1 (Q' := fun q => Q q ∧ q ≠ w.heap.size + 1) (fun q h => ⟨h.1, h.2.2⟩)
              have HV2 : Hid _ := IRow.imp r2 (Q' := fun q => Q q ∧ q ≠ w.heap.size + 1) (fun q h => ⟨h.1, h.2.2⟩)
              have hr2 := keep_row HZ7.out hb8
              have HR8 : Hid _ := hr2
              have HB8 : Hid (Below w.heap.size w w8) := HB7.out.trans (hb8.mono HB7.out.size)
              clear a0 a1 a2 a3 a4 a5 af
              obtain ⟨e0, e1, e2, e3, e4, e5, ef⟩ := row6 hr2
              clear hv r1 r2 hr2 hb8
              obtain ⟨R', hR'⟩ : ∃ R', rover (rstepB R b) = R' := ⟨_, rfl⟩
              have HE : Hid _ := hR'
              rw [hR'] at HV1 HV2
              rw [hR']
              clear hR'
              go_wp2
              obtain ⟨W, hW, hrw, hrv, how⟩ := fin6 HR8.out HV1.out HV2.out
              change bodyPost _ _ _ _ _ (st6 w8 _ _ _ _ _ _ _)
              rw [← hW]
              have HRV2 : Hid _ := hrv
              have HOW : Hid _ := how
              obtain ⟨e0, e1, e2, e3, e4, e5, ef⟩ := row6 hrw
              clear hW hrw hrv how
              refine bodyPost_ret (v := dval R'.seed R'.s1 (.slice U1 R'.l1.length e1') R'.s2 (.slice U3 R'.l2.length e2') R'.ix) (by simp [results, Try.results22, go_sem, e0, e1, e2, e3, e4, e5]) rfl ?_
              exact ⟨_, rfl, HE.out ▸ HRV2.out, HB8.out.trans (HOW.out.below (by omega))⟩
        · have hNe : N = R.l1.length := by
            have q := HN.out.low b hb1 (by omega)
            rw [HNF.out]
            have : R.l1.filter (fun e => !(inBk R.seed R.s1 b e)) = R.l1 := List.filter_eq_self.2 (fun e he => by
              have := List.filter_eq_nil_iff.1 q e he
              simpa using this)
            rw [this]
          have hNe2 : ((N : Int) == (R.l1.length : Int)) = true := by rw [hNe]; simp
          have hbw' : IntKind.i64.wrap ((b : Int) + 1) = (b : Int) + 1 := by rw [IntKind.wrap_i64] <;> omega
          have HBZ : Hid (Below W0.heap.size W0 wr) := HBW.out.trans (HBI.out.mono HBW.out.size)
          clear hNe
          go_wp2
          go_roundw
          case rel => exact ⟨b + 1, by omega, by omega, by simp, HBZ.out⟩
          case measure => simp [intOf]; omega
end Go.Proofs.Ytdemodhjlbkbeab
