import Derived.Test.YtdemodhjlbkbeabRY
import Derived.Test.YtdemodhjlbkbeabRW
import Derived.Test.YtdemodhjlbkbeabRX
import Derived.Deep.RegionLaw
import Derived.Deep.RegionHeld3
namespace Go.Proofs.Ytdemodhjlbkbeab
open Go.RowKit
set_option linter.unusedVariables false
set_option maxHeartbeats 2000000 in
set_option maxRecDepth 100000 in
theorem Keys_ref (Q : Nat → Prop) (v : Value) (R : RD) (hR : ROk R) (w : World) (h : RV Q w v R) : Calls Try.prog 46 #[v] w fun e w' => ∃ r, e = .returned r ∧ ∃ S, w'.ownsRow w.heap.size 9 1 r (R.l1 ++ R.l2).length (strV S) ∧ S.Perm ((R.l1 ++ R.l2).map (·.1)) ∧ SortedB S ∧ Below w.heap.size w w' := by
  obtain ⟨v1, v2, rfl, h1, h2⟩ := h
  obtain ⟨P1, c1, rfl⟩ := h1.form
  obtain ⟨P2, c2, rfl⟩ := h2.form
  have HI1 : Hid (IRow Q w _ R.l1) := h1
  have HI2 : Hid (IRow Q w _ R.l2) := h2
  have hn := hR.n
  obtain ⟨W0, hW0⟩ : ∃ W0, W0 = w.alloc (.cells #[.int .i64 R.seed, .int .i64 (R.s1 : Int), .slice P1 R.l1.length c1, .int .i64 (R.s2 : Int), .slice P2 R.l2.length c2, .int .i64 (R.ix : Int)] 29) := ⟨_, rfl⟩
  have hb0 : Below w.heap.size w W0 := by rw [hW0]; exact (Below.refl _ _).alloc (Nat.le_refl _) _
  have hrow : W0.heap[w.heap.size]? = some (.cells #[.int .i64 R.seed, .int .i64 (R.s1 : Int), .slice P1 R.l1.length c1, .int .i64 (R.s2 : Int), .slice P2 R.l2.length c2, .int .i64 (R.ix : Int)] 29) := by rw [hW0]; exact one_alloc _ _
  have HROW : Hid _ := hrow
  have HB0 : Hid _ := hb0
  have HI1W : Hid (IRow Q W0 _ R.l1) := h1.on hb0
  have HO : Hid (W0.ownsRow W0.heap.size 63 2 (.slice none 0 0) 0 (flat [])) := ⟨rfl, Or.inl ⟨rfl, rfl⟩⟩
  clear h1 h2 hR hb0
  obtain ⟨a0, a1, a2, a3, a4, a5, af⟩ := row6 hrow
  clear hrow
  go_enter Try.func46, Try.ntmps46
  go_upto_region 2 with fail
  rw [← hW0]
  clear hW0
  go_wp2_with (at_builtin; go_must (refine wpList_append_items rfl _ _ rfl W0.heap.size _ [] 0 rfl rfl HO.out Q _ R.l1 rfl HI1W.out R.l1.length (by simp) ?p1 (Nat.le_refl _) ?_))
  case p1 => simp; omega
  intro v1 w1 ho1 hg1
  have hb1 : Below W0.heap.size W0 w1 := (Below.refl _ _).grown hg1 (Nat.le_refl _) (fun q hq => by cases hq)
  have HB1 : Hid (Below w.heap.size w w1) := HB0.out.trans (hb1.mono HB0.out.size)
  have HB1' : Hid (Below W0.heap.size W0 w1) := hb1
  obtain ⟨P8, k8, hkf⟩ := own_form ho1
  subst hkf
  have HO1 : Hid (w1.ownsRow W0.heap.size 63 2 (.slice P8 R.l1.length k8) R.l1.length (flat R.l1)) := ho1
  have HI2W : Hid (IRow Q w1 _ R.l2) := HI2.out.on HB1.out
  clear a0 a1 a2 a3 a4 a5 af
  obtain ⟨a0, a1, a2, a3, a4, a5, af⟩ := row6 (keep_row HROW.out hb1)
  clear ho1 hg1 hb1
  go_upto_region 3 with fail
  go_wp2_with (at_builtin; go_must (refine wpList_append_items rfl _ _ rfl W0.heap.size _ R.l1 R.l1.length rfl rfl HO1.out Q _ R.l2 rfl HI2W.out (R.l1.length + R.l2.length) rfl ?p2 HB1'.out.size ?_))
  case p2 => omega
  intro v3 w3 ho3 hg3
  have HB3 : Hid (Below w.heap.size w w3) := HB1.out.grown hg3 HB1.out.size (fun q hq => Nat.le_trans HB0.out.size (World.ownsRow.lt HO1.out q hq).1)
  have HI3 : IRow (fun _ => True) w3 v3 (R.l1 ++ R.l2) := IRow.own_of ho3 (by rw [List.length_append]) (fun _ _ => trivial)
  obtain ⟨P9, k9, hkf⟩ := own_form ho3
  subst hkf
  have HRS' := rising_any _ _ _ (by rw [List.length_append]; omega) w3 HI3
  rw [List.length_append] at HRS'
  have HRS : Hid _ := HRS'
  clear ho3 hg3 HI3 HRS' a0 a1 a2 a3 a4 a5 af
  go_wp2_with fail
  refine (show Calls _ _ _ _ _ from HRS.out).mono ?_
  rintro e w5 ⟨r, rfl, S, ho5, hp5, hs5, hb5⟩
  have HB5 : Hid (Below w.heap.size w w5) := HB3.out.trans (hb5.mono HB3.out.size)
  have HO5 : Hid (w5.ownsRow w.heap.size 9 1 r (R.l1.length + R.l2.length) (strV S)) := own_lower ho5 HB3.out.size
  have HP5 : Hid _ := hp5
  have HS5 : Hid _ := hs5
  clear ho5 hp5 hs5 hb5
  obtain ⟨P10, k10, hkf⟩ := own_form HO5.out
  subst hkf
  go_wp2
  go_returns
  exact ⟨_, rfl, S, by rw [List.length_append]; exact HO5.out, HP5.out, HS5.out, HB5.out⟩
set_option maxHeartbeats 4000000 in
set_option maxRecDepth 100000 in
theorem in_ref (Q : Nat → Prop) (seed : Int) (s1 : Nat) (P1 : Option Addr) (n1 c1 : Nat) (s2 : Nat) (P2 : Option Addr) (n2 c2 : Nat) (ix : Nat) (s : Nat) (hs0 : 0 < s) (hs : s ≤ 4398046511104) (v : Value) (l : List Ent) (hl : l.length ≤ 4398046511000) (hky : ∀ e ∈ l, e.1.size ≤ 281474976710656) (b : Nat) (hb : b < s) (w : World) (h : IRow Q w v l) :
    Calls Try.prog 59 #[dval seed s1 (.slice P1 n1 c1) s2 (.slice P2 n2 c2) ix, .agg #[.int .i64 (s : Int), v], .int .i64 (b : Int)] w fun e w' => ∃ r, e = .returned r ∧ ∃ S, w'.ownsRow w.heap.size 9 1 r (l.filter (inBk seed s b)).length (strV S) ∧ S.Perm ((l.filter (inBk seed s b)).map (·.1)) ∧ SortedB S ∧ Below w.heap.size w w' := by
  obtain ⟨P, c, rfl⟩ := h.form
  have HI : Hid (IRow Q w _ l) := h
  have HKY : Hid _ := hky
  obtain ⟨W0, hW0⟩ : ∃ W0, W0 = (w.alloc (.cells #[.int .i64 seed, .int .i64 (s1 : Int), .slice P1 n1 c1, .int .i64 (s2 : Int), .slice P2 n2 c2, .int .i64 (ix : Int)] 29)).alloc (.cells #[.int .i64 (s : Int), .slice P l.length c] 27) := ⟨_, rfl⟩
  have hb0 : Below w.heap.size w W0 := by
    rw [hW0]
    repeat (refine Below.alloc ?_ (by simp <;> omega) _)
    exact Below.refl _ _
  have HB0 : Hid _ := hb0
  have HA0 : Hid (W0.heap[w.heap.size]? = some (.cells #[.int .i64 seed, .int .i64 (s1 : Int), .slice P1 n1 c1, .int .i64 (s2 : Int), .slice P2 n2 c2, .int .i64 (ix : Int)] 29)) := by
    show _ = _
    rw [hW0]; exact keep_row (one_alloc w _) ((Below.refl _ _).alloc (Nat.le_refl _) _)
  have HT0 : Hid (W0.heap[w.heap.size + 1]? = some (.cells #[.int .i64 (s : Int), .slice P l.length c] 27)) := by
    show _ = _
    rw [hW0]
    have := one_alloc (w.alloc (.cells #[.int .i64 seed, .int .i64 (s1 : Int), .slice P1 n1 c1, .int .i64 (s2 : Int), .slice P2 n2 c2, .int .i64 (ix : Int)] 29)) (.cells #[.int .i64 (s : Int), .slice P l.length c] 27)
    simpa using this
  have HO : Hid (W0.ownsRow W0.heap.size 63 2 (.slice none 0 0) 0 (flat [])) := ⟨rfl, Or.inl ⟨rfl, rfl⟩⟩
  clear h hb0 hky
  go_enter Try.func59, Try.ntmps59
  go_wp2
  rw [← hW0]
  clear hW0
  go_loopw [8, 7] (fun ci sv wi => ∃ i N : Nat, i ≤ l.length ∧ ci = .int .i64 (i : Int) ∧ N = ((l.take i).filter (inBk seed s b)).length ∧ N ≤ i ∧ wi.ownsRow W0.heap.size 63 2 sv N (flat ((l.take i).filter (inBk seed s b))) ∧ Below W0.heap.size W0 wi) (fun ci _ _ => l.length - (intOf ci).toNat)
  case atStart => exact ⟨0, 0, Nat.zero_le _, rfl, rfl, Nat.le_refl _, HO.out, Below.refl _ _⟩
  case round =>
    obtain ⟨i, N, hi, rfl, hN, hNi, hos, hbi⟩ := hrel
    have HN' : Hid _ := hN
    have HOS : Hid (wr.ownsRow W0.heap.size 63 2 _ N (flat ((l.take i).filter (inBk seed s b)))) := hos
    have HBI : Hid (Below W0.heap.size W0 wr) := hbi
    obtain ⟨P8, k8, hkf⟩ := own_form hos
    subst hkf
    have HAI : Hid _ := keep_row HA0.out hbi
    have HTI : Hid _ := keep_row HT0.out hbi
    obtain ⟨a0, a1, a2, a3, a4, a5, af⟩ := row6 HAI.out
    obtain ⟨t0, t1, tf⟩ := row2 HTI.out
    have HBXI : Hid (Below w.heap.size w wr) := HB0.out.trans (hbi.mono HB0.out.size)
    have hIr := HI.out.on HBXI.out
    clear hN hos hbi
    by_cases hlt : i < l.length
    · obtain ⟨g, c', hf, hc1, hc2⟩ := hIr.cells hlt
      obtain ⟨rfl, _, rfl⟩ : P = some ⟨g, 0, none⟩ ∧ True ∧ c = c' := by injection hf with h1 h2 h3; exact ⟨h1, trivial, h3⟩
      have hz3 : (0 : Int) ≤ (i : Int) := by omega
      have hz4 : (i : Int) < (l.length : Int) := by omega
      have hkk := HKY.out l[i] (List.getElem_mem hlt)
      have HBK : Hid (∀ W : World, _) := fun W => bucket_ref seed s1 (.slice P1 n1 c1) s2 (.slice P2 n2 c2) ix l[i].1 hkk s hs0 hs W
      have HTK : Hid ((l.take (i + 1)).filter (inBk seed s b) = (l.take i).filter (inBk seed s b) ++ (if hN seed l[i].1 % s = b then [l[i]] else [])) := by
        show _ = _
        rw [List.take_succ_eq_append_getElem hlt, List.filter_append]
        congr 1
        by_cases hq : hN seed l[i].1 % s = b
        · simp [inBk, hq]
        · simp [inBk, hq]
      clear hf hIr
      obtain ⟨X, hX⟩ : ∃ X, l[i] = X := ⟨_, rfl⟩
      obtain ⟨xk, xv⟩ := X
      rw [hX] at HBK HTK hkk hc1 hc2
      simp only at HBK HTK hkk hc1 hc2
      clear hX
      have hmlt := Nat.mod_lt (hN seed xk) hs0
      obtain ⟨m, hm⟩ : ∃ m, hN seed xk % s = m := ⟨_, rfl⟩
      rw [hm] at HBK HTK hmlt
      clear hm
      go_upto_region 5 with fail
      go_cut [27] from 16 to 27 (fun sx wx => sx = .bool ((m : Int) == (b : Int)) ∧ Below wr.heap.size wr wx)
      case first =>
        go_region_with (go_at_call 47; refine (show Calls _ _ _ _ _ from HBK.out _).mono ?_; rintro e w3 ⟨rfl, hb3⟩)
        all_goals
          go_wp2_with fail
          go_meet
          exact ⟨rfl, (Below.refl _ wr).drew.trans hb3⟩
      case rest =>
        obtain ⟨rfl, hbc⟩ := hcut
        have HBC : Hid (Below W0.heap.size W0 wc) := HBI.out.trans (hbc.mono HBI.out.size)
        have HOC : Hid (wc.ownsRow W0.heap.size 63 2 (.slice P8 N k8) N (flat ((l.take i).filter (inBk seed s b)))) := own_keep HOS.out (fun q _ hq => hbc.block q hq)
        have d1 := cell_on hc1 hbc
        have d2 := cell_on hc2 hbc
        have HTC : Hid _ := keep_row HTI.out hbc
        clear hc1 hc2 hbc a0 a1 a2 a3 a4 a5 af t0 t1 tf
        obtain ⟨t0, t1, tf⟩ := row2 HTC.out
        have hiw : IntKind.i64.wrap ((i : Int) + 1) = (i : Int) + 1 := by rw [IntKind.wrap_i64] <;> omega
        by_cases hmb : m = b
        · have hne : ((m : Int) == (b : Int)) = true := by subst hmb; simp
          have HT2 : Hid ((l.take (i + 1)).filter (inBk seed s b) = (l.take i).filter (inBk seed s b) ++ [(xk, xv)]) := by show _ = _; rw [HTK.out, if_pos hmb]
          clear hmb
          obtain ⟨W2, hW2⟩ : ∃ W2, W2 = wc.alloc (.cells #[.string xk, .int .i64 xv] 63) := ⟨_, rfl⟩
          have hb2' : Below wc.heap.size wc W2 := by rw [hW2]; exact (Below.refl _ _).alloc (Nat.le_refl _) _
          have hx2 : W2.heap[wc.heap.size]? = some (.cells #[.string xk, .int .i64 xv] 63) := by rw [hW2]; exact one_alloc _ _
          have HI3 : Hid (IRow (fun _ => True) W2 (.slice (some ⟨wc.heap.size, 0, none⟩) 1 1) [(xk, xv)]) := Or.inr ⟨wc.heap.size, 1, rfl, trivial, Nat.le_refl _, row_lt hx2, fun j u hu => by rw [cell_of_row _ _ _ _ _ _ hx2]; simpa [flat] using hu⟩
          have HO2 : Hid (W2.ownsRow W0.heap.size 63 2 (.slice P8 N k8) N (flat ((l.take i).filter (inBk seed s b)))) := own_keep HOC.out (fun q _ hq => hb2'.block q hq)
          have HB2 : Hid (Below W0.heap.size W0 W2) := HBC.out.trans (hb2'.mono HBC.out.size)
          clear hb2' hx2
          go_upto_region 6 with fail
          go_wp2_with (at_builtin; rw [← hW2]; go_must (refine wpList_append_items rfl _ _ rfl W0.heap.size _ _ N HN'.out rfl HO2.out (fun _ => True) _ [(xk, xv)] rfl HI3.out (N + 1) ?q1 ?q2 HB2.out.size ?_))
          case q1 => rw [← HN'.out]; rfl
          case q2 => rw [← HN'.out]; simp; omega
          intro v3 w3 ho3 hg3
          rw [← hW2] at hg3
          have HB3 : Hid (Below W0.heap.size W0 w3) := HB2.out.grown hg3 HB2.out.size (fun q hq => (World.ownsRow.lt HO2.out q hq).1)
          obtain ⟨P9, k9, hkf⟩ := own_form ho3
          subst hkf
          have HO3 : Hid (w3.ownsRow W0.heap.size 63 2 (.slice P9 (N + 1) k9) (N + 1) (flat ((l.take (i + 1)).filter (inBk seed s b)))) := by
            show World.ownsRow _ _ _ _ _ _ _
            rw [HT2.out]; exact ho3
          have HN3 : Hid (N + 1 = ((l.take (i + 1)).filter (inBk seed s b)).length) := by
            show _ = _
            rw [HT2.out, List.length_append, ← HN'.out]; rfl
          clear ho3 hg3 hW2
          go_wp2
          go_roundw
          case rel => exact ⟨i + 1, N + 1, hlt, by simp, HN3.out, by omega, HO3.out, HB3.out⟩
          case measure => simp [intOf]; omega
        · have hne : ((m : Int) == (b : Int)) = false := by simp; omega
          have HT2 : Hid ((l.take (i + 1)).filter (inBk seed s b) = (l.take i).filter (inBk seed s b)) := by show _ = _; rw [HTK.out, if_neg hmb, List.append_nil]
          clear hmb
          go_wp2
          go_roundw
          case rel => exact ⟨i + 1, N, hlt, by simp, by rw [HT2.out]; exact HN'.out, by omega, by rw [HT2.out]; exact HOC.out, HBC.out⟩
          case measure => simp [intOf]; omega
    · have hie : i = l.length := by omega
      have hz4 : ¬ (i : Int) < (l.length : Int) := by omega
      have HOF : wr.ownsRow W0.heap.size 63 2 (.slice P8 N k8) N (flat (l.filter (inBk seed s b))) := by
        have q := HOS.out
        rw [hie, List.take_length] at q; exact q
      have hNF : N = (l.filter (inBk seed s b)).length := by
        have q := HN'.out
        rw [hie, List.take_length] at q; exact q
      have HNF : Hid _ := hNF
      have HRS' := rising_any _ _ _ (by rw [← hNF]; omega) wr (IRow.own_of (Q := fun _ => True) HOF hNF (fun _ _ => trivial))
      rw [← hNF] at HRS'
      have HRS : Hid _ := HRS'
      clear hIr HOF hNF HRS'
      go_wp2_with fail
      refine (show Calls _ _ _ _ _ from HRS.out).mono ?_
      rintro e w5 ⟨r, rfl, S, ho5, hp5, hs5, hb5⟩
      have HB5 : Hid (Below w.heap.size w w5) := HBXI.out.trans (hb5.mono HBXI.out.size)
      have HO5 : Hid (w5.ownsRow w.heap.size 9 1 r N (strV S)) := own_lower ho5 HBXI.out.size
      have HP5 : Hid _ := hp5
      have HS5 : Hid _ := hs5
      clear ho5 hp5 hs5 hb5
      obtain ⟨P10, k10, hkf⟩ := own_form HO5.out
      subst hkf
      go_wp2
      go_returns
      exact ⟨_, rfl, S, by rw [← HNF.out]; exact HO5.out, HP5.out, HS5.out, HB5.out⟩
end Go.Proofs.Ytdemodhjlbkbeab
namespace Go.Proofs.Ytdemodhjlbkbeab
open Go.RowKit
set_option linter.unusedVariables false
/-- 'append(out, l...)' of two rows of texts. -/
theorem wpList_append_keys {w : World} {ops : Array Oper} {rest : List Oper} {o : Oper} {a : Act} {Q : Exit → Act → World → Prop} (hg : o.guard = none) (s x : Operand)
    (hop : o.op = Op.call { callee := Callee.builtin Builtin.append, args := #[s, x], argTypes := #[41, 41] })
    (base base' : Nat) (v : Value) (n : Nat) (xs : List Value) (hs : a.eval s = v) (hown : w.ownsRow base 9 1 v n xs) (r : Value) (m : Nat) (M : List Ent) (hx : a.eval x = r) (hr : w.ownsRow base' 9 1 r m (keyV M))
    (hl : n + m ≤ 8796093022208) (hb : base ≤ w.heap.size)
    (h : ∀ v' w', w'.ownsRow base 9 1 v' (n + m) (xs ++ keyV M) → w.grownBy w' v.ownBlock → wpList Try.prog ops Q rest (a.put o.dst v') w') :
    wpList Try.prog ops Q (o :: rest) a w := by
  obtain ⟨i0, hi, hz0, hz1, hz2⟩ := info_parts info9
  have hlen := hr.1
  rcases hr.2 with ⟨rfl, h0⟩ | ⟨g, cap, cur, rfl, hbg, hgr, q⟩
  · subst h0
    refine wpList_append_own_none hg s x 41 hop base 9 i0 1 Try.underlying41 hi v n xs hs hown hx ?_
    have hM : keyV M = [] := List.length_eq_zero_iff.1 (by simpa using hlen)
    exact h v w (by rw [hM, List.append_nil]; exact hown) ⟨rfl, rfl, rfl, Nat.le_refl _, fun k _ _ => rfl⟩
  · refine wpList_append_own_at w hg s x 41 hop base 9 i0 (.string ⟨#[]⟩) 1 16 Try.underlying41 hi hz0 hz1 hz2 rfl (by decide) v n xs hs hown ⟨g, 0, none⟩ m cap (keyV M) hx hlen ?_ ?_ (by unfold maxLen; omega) (by omega) hb ?_
    · intro j u hj
      exact World.ownsRow.cells hr (g := g) rfl j u hj
    · intro u hu
      unfold keyV at hu
      obtain ⟨e, _, rfl⟩ := List.mem_map.1 hu
      rfl
    · intro v' w' ho hgw hnil hat
      exact h v' w' ho hgw
/-- the same in a region that draws. -/
theorem step_append_keys {w : World} {ops : Array Oper} {o : Oper} {a : Act} {K : Act → World → Prop} {Q : Exit → Act → World → Prop} {E : Prop} (hg : o.guard = none) (s x : Operand)
    (hop : o.op = Op.call { callee := Callee.builtin Builtin.append, args := #[s, x], argTypes := #[41, 41] })
    (base base' : Nat) (v : Value) (n : Nat) (xs : List Value) (hs : a.eval s = v) (hown : w.ownsRow base 9 1 v n xs) (r : Value) (m : Nat) (M : List Ent) (hx : a.eval x = r) (hr : w.ownsRow base' 9 1 r m (keyV M))
    (hl : n + m ≤ 8796093022208) (hb : base ≤ w.heap.size)
    (h : ∀ v' w', w'.ownsRow base 9 1 v' (n + m) (xs ++ keyV M) → w.grownBy w' v.ownBlock → K (a.put o.dst v') w') :
    if Region.wanted o (yielded ops a.tmps) = true then Oper.wp Try.prog o a w K Q else E := by
  have hw : Region.wanted o (yielded ops a.tmps) = true := by simp [Region.wanted, hg]
  rw [if_pos hw]
  obtain ⟨i0, hi, hz0, hz1, hz2⟩ := info_parts info9
  have hlen := hr.1
  rcases hr.2 with ⟨rfl, h0⟩ | ⟨g, cap, cur, rfl, hbg, hgr, q⟩
  · subst h0
    have hM : keyV M = [] := List.length_eq_zero_iff.1 (by simpa using hlen)
    have hrun := run_append_owned_none (P := Try.prog) (w := w) base 41 o.type 9 i0 1 Try.underlying41 hi v n xs hown
    unfold Oper.wp
    simp [execOp, hop, resolve, invoke, builtin, hs, hx, hrun, Result.andThen]
    exact h v w (by rw [hM, List.append_nil]; exact hown) ⟨rfl, rfl, rfl, Nat.le_refl _, fun k _ _ => rfl⟩
  · refine wp_append_own w s x 41 hop base 9 i0 (.string ⟨#[]⟩) 1 16 Try.underlying41 hi hz0 hz1 hz2 rfl (by decide) v n xs hs hown ⟨g, 0, none⟩ m cap (keyV M) hx hlen ?_ ?_ (by unfold maxLen; omega) (by omega) hb ?_
    · intro j u hj
      exact World.ownsRow.cells hr (g := g) rfl j u hj
    · intro u hu
      unfold keyV at hu
      obtain ⟨e, _, rfl⟩ := List.mem_map.1 hu
      rfl
    · intro v' w' ho hgw hnil
      exact h v' w' ho hgw
/-- a bucket told. -/
theorem in_tab (Q : Nat → Prop) (seed : Int) (s1 : Nat) (P1 : Option Addr) (n1 c1 : Nat) (s2 : Nat) (P2 : Option Addr) (n2 c2 : Nat) (ix : Nat) (T : List (List Ent)) (hw : TWf seed T) (j : Nat) (hj : j ≤ 42) (hT : T.length = 2 ^ j) (l : List Ent) (hp : T.flatten.Perm l) (hl : l.length ≤ 4398046511000) (hky : ∀ e ∈ l, e.1.size ≤ 281474976710656) (v : Value) (c : Nat) (w : World) (h : IRow Q w v l) :
    Calls Try.prog 59 #[dval seed s1 (.slice P1 n1 c1) s2 (.slice P2 n2 c2) ix, .agg #[.int .i64 (T.length : Int), v], .int .i64 ((c % T.length : Nat) : Int)] w fun e w' => ∃ r, e = .returned r ∧ w'.ownsRow w.heap.size 9 1 r (bk T j c).length (keyV (bk T j c)) ∧ Below w.heap.size w w' := by
  have h0 : 0 < T.length := by rw [hT]; exact Nat.two_pow_pos j
  have hle : T.length ≤ 2 ^ 42 := by rw [hT]; exact Nat.pow_le_pow_right (by omega) hj
  have hlt := Nat.mod_lt c h0
  refine (in_ref Q seed s1 P1 n1 c1 s2 P2 n2 c2 ix T.length h0 (by omega) v l hl hky (c % T.length) hlt w h).mono ?_
  rintro e w' ⟨r, rfl, S, h1, h2, h3, h4⟩
  have hf : (l.filter (inBk seed T.length (c % T.length))).Perm (bk T j c) := by
    have := (hp.filter (inBk seed T.length (c % T.length))).symm
    rw [(wf_filter hw _).1] at this
    unfold bk
    rw [← hT]; exact this
  have hr : Rising (bk T j c) := by
    unfold bk
    rw [← hT, List.getElem?_eq_getElem hlt, Option.getD_some]
    exact hw.rise _ hlt
  have hS : S = (bk T j c).map (·.1) := sorted_one (h2.trans (hf.map _)) h3 hr.sorted
  refine ⟨r, rfl, ?_, h4⟩
  rw [keyV_str, ← hS, ← hf.length_eq]; exact h1
set_option maxHeartbeats 4000000 in
set_option maxRecDepth 100000 in
theorem visit_ref0 (Q : Nat → Prop) (v : Value) (D : DS) (R : RD) (hD : DInv D) (hr : Rel D R) (hm2 : D.T2 = []) (hne : D.T1 ≠ []) (hcc : cnt D.T1 + cnt D.T2 ≤ 4398046511000) (c : Nat) (hcb : c ≤ 9223372036854775807) (w : World) (h : RV Q w v R) :
    Calls Try.prog 41 #[v, .int .i64 (c : Int)] w fun e w' => ∃ r, e = .returned (.tuple #[r, .int .i64 ((nextC (aD D) c : Nat) : Int)]) ∧ w'.ownsRow w.heap.size 9 1 r (visL D c).length (keyV (visL D c)) ∧ Below w.heap.size w w' := by
  obtain ⟨v1, v2, rfl, h1, h2⟩ := h
  obtain ⟨P1, c1, rfl⟩ := h1.form
  obtain ⟨P2, c2, rfl⟩ := h2.form
  have hs := shape hD hne
  have ha2 := hs.a2
  have ha42 := hs.a42
  have e : smD D = D.T1 := by unfold smD; rw [if_pos (Or.inl hm2)]
  have hsl := hs.sl
  rw [e] at hsl
  have hok := hr.ok hD hcc
  have hs2 : R.s2 = 0 := by rw [hr.s2, hm2]; rfl
  have hl1 : R.l1.length ≤ 4398046511000 := by rw [← hr.c1]; omega
  have HIN : Hid (∀ W : World, Below w.heap.size w W → _) := fun W hW => in_tab Q R.seed R.s1 P1 R.l1.length c1 R.s2 P2 R.l2.length c2 R.ix D.T1 (by rw [hr.seed]; exact hD.wf1) (aD D) ha42 hsl R.l1 hr.p1 hl1 hok.k1 _ c W (h1.on hW)
  have HNX : Hid (∀ W : World, _) := fun W => rnext_any c (aD D) hcb (by omega) ha42 W
  rw [← hsl, ← hr.s1] at HNX
  rw [← hr.s1] at HIN
  have hp0 := Nat.two_pow_pos (aD D)
  have hpos : 0 < R.s1 := by rw [hr.s1, hsl]; exact hp0
  have hmod : Int.tmod (c : Int) (R.s1 : Int) = ((c % R.s1 : Nat) : Int) := by rw [Int.tmod_eq_emod_of_nonneg (by omega)]; norm_cast
  have hmlt := Nat.mod_lt c hpos
  have hsb := hok.s1
  have hne0 : ((R.s1 : Int) == 0) = false := by simp; omega
  have HVL : Hid (visL D c = bk D.T1 (aD D) c) := by show _ = _; unfold visL; rw [if_pos hm2]
  have HMV : Hid (∀ W : World, _) := fun W => moving_any R.seed R.s1 (.slice P1 R.l1.length c1) R.s2 (.slice P2 R.l2.length c2) R.ix W
  have hsd : decide (0 < R.s2) = false := by simp [hs2]
  rw [hsd] at HMV
  rw [HVL.out]
  clear h1 h2 hs e hsl hok hr hm2 hne hD HVL hs2 hsd
  have hne1 : ¬ (R.s1 : Int) = 0 := by omega
  have hne2 : ¬ R.s1 = 0 := by omega
  generalize c % R.s1 = m at *
  have hwm : IntKind.i64.wrap ((m : Nat) : Int) = ((m : Nat) : Int) := by rw [IntKind.wrap_i64] <;> omega
  generalize nextC (aD D) c = NC at *
  generalize bk D.T1 (aD D) c = BK at *
  go_enter Try.func41, Try.ntmps41
  go_wp2_with fail
  refine (show Calls _ _ _ _ _ from HMV.out _).mono ?_
  rintro e w1 ⟨rfl, hb1⟩
  have HB1 : Hid (Below w.heap.size w w1) := by
    refine Below.trans ?_ (hb1.mono (by simp <;> omega))
    exact (Below.refl _ _).alloc (Nat.le_refl _) _
  obtain ⟨a0, a1, a2, a3, a4, a5, af⟩ := row6 (keep_row (one_alloc w _) hb1)
  have HIW : Hid _ := HIN.out w1.drew (HB1.out.trans ((Below.refl _ w1).drew.mono HB1.out.size))
  have HR1 : Hid _ := keep_row (one_alloc w _) hb1
  clear hb1 HIN
  have hSA := And.intro a0 (And.intro a1 (And.intro a2 (And.intro a3 (And.intro a4 a5))))
  go_upto_region 2 with fail
  go_region_held3 (fun w' => w'.cell? ⟨w.heap.size, 0, none⟩ = some (.int .i64 R.seed) ∧ w'.cell? ⟨w.heap.size, 1, none⟩ = some (.int .i64 (R.s1 : Int)) ∧ w'.cell? ⟨w.heap.size, 2, none⟩ = some (.slice P1 R.l1.length c1) ∧ w'.cell? ⟨w.heap.size, 3, none⟩ = some (.int .i64 (R.s2 : Int)) ∧ w'.cell? ⟨w.heap.size, 4, none⟩ = some (.slice P2 R.l2.length c2) ∧ w'.cell? ⟨w.heap.size, 5, none⟩ = some (.int .i64 (R.ix : Int)))
    (first | exact hSA | exact hSB)
    (first | (go_at_call 59; refine (show Calls _ _ _ _ _ from HIW.out).mono ?_; rintro e w3 ⟨r3, rfl, ho3, hb3⟩; obtain ⟨b0, b1, b2, b3, b4, b5, bf⟩ := row6 (keep_row HR1.out ((Below.refl _ w1).drew.trans hb3)); have hSB := And.intro b0 (And.intro b1 (And.intro b2 (And.intro b3 (And.intro b4 b5))))) | (go_at_call 60; refine (show Calls _ _ _ _ _ from HNX.out _).mono ?_; rintro e w4 ⟨rfl, hw4⟩; have hw5 := hw4.symm; subst hw5))
  all_goals
    have HO3 : Hid (w3.ownsRow w.heap.size 9 1 r3 BK.length (keyV BK)) := own_lower ho3 HB1.out.size
    have HB3 : Hid (Below w.heap.size w w3) := HB1.out.trans (((Below.refl _ w1).drew.trans hb3).mono HB1.out.size)
    obtain ⟨P9, k9, hkf⟩ := own_form ho3
    subst hkf
    clear ho3 hb3
    go_wp2
    go_returns
    exact ⟨_, rfl, HO3.out, HB3.out⟩
end Go.Proofs.Ytdemodhjlbkbeab
